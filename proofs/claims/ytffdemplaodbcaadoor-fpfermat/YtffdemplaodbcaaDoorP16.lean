/- A part of the proof: F5, F6, F7. -/
import Derived.Test.YtffdemplaodbcaaDoorP15
import Derived.Deep.Quiet
import Derived.Deep.QuietTactic
set_option linter.all false
namespace Go.Proofs.YtffdemplaodbcaaDoor
open Go Go.Proofs Go.RowKit Go.Rad

/-- A slice whose n cells hold these numbers. -/
inductive IL (w : World) (v : Value) (xs : List Int) : Prop
  | mk (a : Option Addr) (b o n c : Nat) (hv : v = .slice a n c) (hn : xs.length = n) (ha : 0 < n → a = some ⟨b, o, none⟩) (hc : ∀ i, i < n → w.cell? ⟨b, o + i, none⟩ = some (.int .i64 (xs.getD i 0))) (hm : n ≤ 17592186044416)
theorem IL.below {w w' : World} {v : Value} {xs : List Int} (h : IL w v xs) (hb : Below w.heap.size w w') : IL w' v xs := by
  obtain ⟨a, b, o, n, c, hv, hn, ha, hc, hm⟩ := h
  exact ⟨a, b, o, n, c, hv, hn, ha, fun i hi => (hb.cell (p := ⟨b, o + i, none⟩) (block_lt (hc i hi))).trans (hc i hi), hm⟩
theorem IL.nil (w : World) (a : Option Addr) (c : Nat) : IL w (.slice a 0 c) [] := ⟨a, 0, 0, 0, c, rfl, rfl, fun h => by omega, fun i hi => by omega, by decide⟩

/-- A number that is none of those modulo p. -/
def badN (p x : Int) : Prop := x < 0 ∨ p ≤ x
instance (p x : Int) : Decidable (badN p x) := by unfold badN; infer_instance
def badAt (p : Int) : List Int → Nat → Option Nat
  | [], _ => none
  | x :: xs, k => if badN p x then some k else badAt p xs (k + 1)
theorem badAt_some {p : Int} : ∀ (xs : List Int) (s k : Nat), k < xs.length → (∀ j, j < k → ¬ badN p (xs.getD j 0)) → badN p (xs.getD k 0) → badAt p xs s = some (s + k)
  | [], s, k, h, _, _ => by simp at h
  | x :: xs, s, 0, _, _, h => by
    have h1 : badN p x := h
    unfold badAt; rw [if_pos h1]; rfl
  | x :: xs, s, k + 1, h, h1, h2 => by
    have h3 : ¬ badN p x := h1 0 (by omega)
    unfold badAt; rw [if_neg h3]
    rw [badAt_some xs (s + 1) k (by simpa using h) (fun j hj => h1 (j + 1) (by omega)) h2]
    congr 1; omega
theorem badAt_none {p : Int} : ∀ (xs : List Int) (s : Nat), (∀ j, j < xs.length → ¬ badN p (xs.getD j 0)) → badAt p xs s = none
  | [], _, _ => rfl
  | x :: xs, s, h => by
    have h3 : ¬ badN p x := h 0 (by simp)
    unfold badAt; rw [if_neg h3]
    exact badAt_none xs (s + 1) fun j hj => h (j + 1) (by simpa using hj)
theorem badAt_inv {p : Int} : ∀ (xs : List Int) (s : Nat), badAt p xs s = none → ∀ j, j < xs.length → ¬ badN p (xs.getD j 0)
  | [], _, _, j, hj => by simp at hj
  | x :: xs, s, h, j, hj => by
    unfold badAt at h
    split at h
    · cases h
    · rename_i h1
      cases j with
      | zero => exact h1
      | succ j => exact badAt_inv xs (s + 1) h j (by simpa using hj)
open Classical in
/-- The fault of a list, and where. -/
noncomputable def ckP (p : Int) (xs : List Int) : Int × Int :=
  if PrI p then
    if 65 < xs.length then (9, 0)
    else match badAt p xs 0 with
      | some k => (7, (k : Int))
      | none => if 0 < xs.length ∧ xs.getD (xs.length - 1) 0 = 0 then (3, (xs.length : Int) - 1) else (0, 0)
  else (6, 0)
noncomputable def ckC (p : Int) (xs : List Int) : Int := (ckP p xs).1
noncomputable def ckA (p : Int) (xs : List Int) : Int := (ckP p xs).2
/-- A polynomial modulo a prime. -/
structure IsF (p : Int) (xs : List Int) : Prop where
  pr : PrI p
  len : xs.length ≤ 65
  ok : ∀ j, j < xs.length → 0 ≤ xs.getD j 0 ∧ xs.getD j 0 < p
  last : 0 < xs.length → xs.getD (xs.length - 1) 0 ≠ 0
theorem ck_pr {p : Int} {xs : List Int} (h : ¬ PrI p) : ckC p xs = 6 ∧ ckA p xs = 0 := by unfold ckC ckA ckP; rw [if_neg h]; exact ⟨rfl, rfl⟩
theorem ck_len {p : Int} {xs : List Int} (h : PrI p) (hl : 65 < xs.length) : ckC p xs = 9 ∧ ckA p xs = 0 := by unfold ckC ckA ckP; rw [if_pos h, if_pos hl]; exact ⟨rfl, rfl⟩
theorem ck_bad {p : Int} {xs : List Int} (h : PrI p) (hl : ¬ 65 < xs.length) {k : Nat} (hk : k < xs.length) (h1 : ∀ j, j < k → ¬ badN p (xs.getD j 0)) (h2 : badN p (xs.getD k 0)) : ckC p xs = 7 ∧ ckA p xs = k := by
  unfold ckC ckA ckP; rw [if_pos h, if_neg hl, badAt_some xs 0 k hk h1 h2, Nat.zero_add]; exact ⟨rfl, rfl⟩
theorem ck_last {p : Int} {xs : List Int} (h : PrI p) (hl : ¬ 65 < xs.length) (h1 : ∀ j, j < xs.length → ¬ badN p (xs.getD j 0)) (h2 : 0 < xs.length ∧ xs.getD (xs.length - 1) 0 = 0) : ckC p xs = 3 ∧ ckA p xs = (xs.length : Int) - 1 := by
  unfold ckC ckA ckP; rw [if_pos h, if_neg hl, badAt_none xs 0 h1]; simp only []; rw [if_pos h2]; exact ⟨rfl, rfl⟩
theorem ck_ok {p : Int} {xs : List Int} (h : PrI p) (hl : ¬ 65 < xs.length) (h1 : ∀ j, j < xs.length → ¬ badN p (xs.getD j 0)) (h2 : ¬ (0 < xs.length ∧ xs.getD (xs.length - 1) 0 = 0)) : ckC p xs = 0 ∧ ckA p xs = 0 := by
  unfold ckC ckA ckP; rw [if_pos h, if_neg hl, badAt_none xs 0 h1]; simp only []; rw [if_neg h2]; exact ⟨rfl, rfl⟩
theorem ck_isF {p : Int} {xs : List Int} (h : ckC p xs = 0) : IsF p xs := by
  unfold ckC ckP at h
  split at h
  · rename_i h1
    split at h
    · cases h
    · rename_i h2
      cases hb : badAt p xs 0 with
      | some k => rw [hb] at h; cases h
      | none =>
        rw [hb] at h
        simp only [] at h
        split at h
        · cases h
        · rename_i h3
          refine ⟨h1, by omega, fun j hj => ?_, fun h4 h5 => h3 ⟨h4, h5⟩⟩
          have := badAt_inv xs 0 hb j hj
          unfold badN at this
          omega
  · cases h
theorem IsF.ck {p : Int} {xs : List Int} (h : IsF p xs) : ckC p xs = 0 ∧ ckA p xs = 0 :=
  ck_ok h.pr (by have := h.len; omega) (fun j hj => by have := h.ok j hj; unfold badN; omega) (fun h1 => h.last h1.1 h1.2)
abbrev Flt (c a : Int) : Value := .agg #[.int .i64 c, .int .i64 a]
set_option maxRecDepth 10000 in
set_option maxHeartbeats 1000000 in
theorem check_any (w : World) (v : Value) (xs : List Int) (p : Int) (hv : IL w v xs) (ht : TabB w) :
    Calls Tryd.prog 13 #[v, .int .i64 p] w fun e w' => e = .returned (Flt (ckC p xs) (ckA p xs)) ∧ Below w.heap.size w w' := by
  obtain ⟨a, b, o, n, c, rfl, hn, ha, hc, hm⟩ := hv
  have HT : Hid (TabB w) := ht
  clear ht
  go_enter Tryd.func13, Tryd.ntmps13
  go_wp2_with (go_at_call 37; fail)
  have CP := isPrime_any (w.alloc (Obj.cells #[.int .i64 0, .int .i64 0] 24)) p (HT.out.below (bel1 _ _))
  refine CP.mono ?_
  rintro e w1 ⟨r, rfl, hr, hb1⟩
  have hB1 : Below w.heap.size w w1 := (bel1 w _).trans (hb1.mono (by simp))
  have hF := (FB.mk0 w (.int .i64 0) (.int .i64 0) 24).below hb1
  have HB1 : Hid (Below w.heap.size w w1) := hB1
  have HC : Hid (∀ i, i < n → w1.cell? ⟨b, o + i, none⟩ = some (.int .i64 (xs.getD i 0))) := fun i hi => (hB1.cell (p := ⟨b, o + i, none⟩) (block_lt (hc i hi))).trans (hc i hi)
  have HR : Hid (r = true ↔ PrI p) := hr
  obtain ⟨b4, hb4⟩ : ∃ x, x = w.heap.size := ⟨_, rfl⟩
  rw [← hb4] at hF ⊢
  have HG : Hid (w.heap.size ≤ b4) := by show _ ≤ _; omega
  have FIN : Hid (∀ (wn : World) (u0 u1 : Value) (c a : Int), FB wn b4 u0 u1 → Below w.heap.size w wn → Below w.heap.size w ((wn.setCell ⟨b4, 0, none⟩ (.int .i64 c)).setCell ⟨b4, 1, none⟩ (.int .i64 a))) := fun wn u0 u1 c a _ hB => below_set2 hB HG.out _ _
  clear CP hc hb1 hB1 hb4 hr
  obtain ⟨l4, c0, c1, f0, f1⟩ := id hF
  cases r with
  | false =>
    have K : Hid (ckC p xs = 6 ∧ ckA p xs = 0) := ck_pr (xs := xs) (fun h => absurd (HR.out.2 h) (by simp))
    have E : Hid (Below w.heap.size w ((w1.setCell ⟨b4, 0, none⟩ (.int .i64 6)).setCell ⟨b4, 1, none⟩ (.int .i64 0))) := FIN.out w1 _ _ 6 0 hF HB1.out
    clear hF
    go_wp2
    refine bodyPost_ret (v := Flt 6 0) (by simp [results, go_sem, loadVar, World.cell?_setCell_same, World.cell?_setCell_other, *]; try rfl) rfl ?_
    exact ⟨by rw [K.out.1, K.out.2], E.out⟩
  | true =>
    have HP : Hid (PrI p) := HR.out.1 rfl
    by_cases hl : 65 < n
    · have K : Hid (ckC p xs = 9 ∧ ckA p xs = 0) := ck_len HP.out (by omega)
      have E : Hid (Below w.heap.size w ((w1.setCell ⟨b4, 0, none⟩ (.int .i64 9)).setCell ⟨b4, 1, none⟩ (.int .i64 0))) := FIN.out w1 _ _ 9 0 hF HB1.out
      clear hF
      go_wp2
      refine bodyPost_ret (v := Flt 9 0) (by simp [results, go_sem, loadVar, World.cell?_setCell_same, World.cell?_setCell_other, *]; try rfl) rfl ?_
      exact ⟨by rw [K.out.1, K.out.2], E.out⟩
    · have hl' : n ≤ 65 := by omega
      have HL : Hid (¬ 65 < xs.length) := by show ¬ _; omega
      have HF : Hid (FB w1 b4 (.int .i64 0) (.int .i64 0)) := hF
      clear hF
      go_wp2
      go_loopw [18] (fun i wr => ∃ k : Nat, k ≤ n ∧ i = .int .i64 k ∧ (∀ j, j < k → ¬ badN p (xs.getD j 0)) ∧ wr = w1) (fun i _ => n - (Lib.intOf i).toNat)
      case atStart => exact ⟨0, by omega, rfl, fun j hj => by omega, rfl⟩
      case round =>
        obtain ⟨k, hk, rfl, hno, rfl⟩ := hrel
        have HNO : Hid (∀ j, j < k → ¬ badN p (xs.getD j 0)) := hno
        clear hno
        by_cases hkn : k < n
        · have hki : (k : Int) < (n : Int) := by omega
          obtain rfl := ha (by omega)
          obtain ⟨x, hx⟩ : ∃ x, xs.getD k 0 = x := ⟨_, rfl⟩
          have hcell := HC.out k hkn
          rw [hx] at hcell
          have HX : Hid (xs.getD k 0 = x) := hx
          clear hx
          have hF := HF.out
          by_cases hb1 : x < 0
          · have K : Hid (ckC p xs = 7 ∧ ckA p xs = k) := ck_bad HP.out HL.out (by omega) HNO.out (by rw [HX.out]; exact .inl hb1)
            have E : Hid (Below w.heap.size w ((wr.setCell ⟨b4, 0, none⟩ (.int .i64 7)).setCell ⟨b4, 1, none⟩ (.int .i64 k))) := FIN.out wr _ _ 7 k hF HB1.out
            clear hF
            go_wp2
            refine bodyPost_ret (v := Flt 7 k) (by simp [results, go_sem, loadVar, World.cell?_setCell_same, World.cell?_setCell_other, *]; try rfl) rfl ?_
            exact ⟨by rw [K.out.1, K.out.2], E.out⟩
          · by_cases hb2 : p ≤ x
            · have K : Hid (ckC p xs = 7 ∧ ckA p xs = k) := ck_bad HP.out HL.out (by omega) HNO.out (by rw [HX.out]; exact .inr hb2)
              have E : Hid (Below w.heap.size w ((wr.setCell ⟨b4, 0, none⟩ (.int .i64 7)).setCell ⟨b4, 1, none⟩ (.int .i64 k))) := FIN.out wr _ _ 7 k hF HB1.out
              clear hF
              go_wp2
              refine bodyPost_ret (v := Flt 7 k) (by simp [results, go_sem, loadVar, World.cell?_setCell_same, World.cell?_setCell_other, *]; try rfl) rfl ?_
              exact ⟨by rw [K.out.1, K.out.2], E.out⟩
            · have HNB : Hid (¬ badN p x) := by show ¬ _; unfold badN; omega
              clear hF
              go_wp2
              go_roundw
              case rel =>
                refine ⟨k + 1, by omega, by first | rfl | trivial, fun j hj => ?_, by first | rfl | trivial⟩
                rcases Nat.lt_or_ge j k with h | h
                · exact HNO.out j h
                · obtain rfl : j = k := by omega
                  rw [HX.out]; exact HNB.out
              case measure => simp only [Lib.intOf]; omega
        · obtain rfl : k = n := by omega
          have hki : ¬ (k : Int) < (k : Int) := by omega
          have hF := HF.out
          have HNN : Hid (∀ j, j < xs.length → ¬ badN p (xs.getD j 0)) := fun j hj => HNO.out j (by omega)
          by_cases h0 : k = 0
          · have K : Hid (ckC p xs = 0 ∧ ckA p xs = 0) := ck_ok HP.out HL.out HNN.out (fun h => by omega)
            subst h0
            have E : Hid (Below w.heap.size w ((wr.setCell ⟨b4, 0, none⟩ (.int .i64 0)).setCell ⟨b4, 1, none⟩ (.int .i64 0))) := FIN.out wr _ _ 0 0 hF HB1.out
            clear hF
            go_wp2
            refine bodyPost_ret (v := Flt 0 0) (by simp [results, go_sem, loadVar, World.cell?_setCell_same, World.cell?_setCell_other, *]; try rfl) rfl ?_
            exact ⟨by rw [K.out.1, K.out.2], E.out⟩
          · obtain ⟨x, hx⟩ : ∃ x, xs.getD (k - 1) 0 = x := ⟨_, rfl⟩
            obtain rfl := ha (by omega)
            have hcell := HC.out (k - 1) (by omega)
            rw [hx] at hcell
            have hk1 : 1 ≤ k := by omega
            have HX : Hid (xs.getD (xs.length - 1) 0 = x) := by rw [hn]; exact hx
            clear hx
            by_cases hx0 : x = 0
            · have K : Hid (ckC p xs = 3 ∧ ckA p xs = (k : Int) - 1) := by
                have := ck_last HP.out HL.out HNN.out ⟨by omega, by rw [HX.out]; exact hx0⟩
                rw [hn] at this
                exact this
              have hxb : (x == 0) = true := by simpa using hx0
              clear hx0
              have E : Hid (Below w.heap.size w ((wr.setCell ⟨b4, 0, none⟩ (.int .i64 3)).setCell ⟨b4, 1, none⟩ (.int .i64 ((k : Int) - 1)))) := FIN.out wr _ _ 3 ((k : Int) - 1) hF HB1.out
              clear hF
              go_wp2
              refine bodyPost_ret (v := Flt 3 ((k : Int) - 1)) (by simp [results, go_sem, loadVar, World.cell?_setCell_same, World.cell?_setCell_other, *]; try rfl) rfl ?_
              exact ⟨by rw [K.out.1, K.out.2], E.out⟩
            · have K : Hid (ckC p xs = 0 ∧ ckA p xs = 0) := ck_ok HP.out HL.out HNN.out (fun h => hx0 (by rw [← HX.out]; exact h.2))
              have hxb : (x == 0) = false := by simpa using hx0
              clear hx0
              have E : Hid (Below w.heap.size w ((wr.setCell ⟨b4, 0, none⟩ (.int .i64 0)).setCell ⟨b4, 1, none⟩ (.int .i64 0))) := FIN.out wr _ _ 0 0 hF HB1.out
              clear hF
              go_wp2
              refine bodyPost_ret (v := Flt 0 0) (by simp [results, go_sem, loadVar, World.cell?_setCell_same, World.cell?_setCell_other, *]; try rfl) rfl ?_
              exact ⟨by rw [K.out.1, K.out.2], E.out⟩
end Go.Proofs.YtffdemplaodbcaaDoor
namespace Go.Proofs.YtffdemplaodbcaaDoor
open Go Go.Proofs Go.RowKit Go.Rad

set_option maxRecDepth 10000 in
set_option maxHeartbeats 1000000 in
theorem checkMod_any (w : World) (v : Value) (xs : List Int) (p : Int) (hv : IL w v xs) :
    Calls Tryd.prog 8 #[v, .int .i64 p] w fun e w' => e = .returned (Flt (ckC p xs) (ckA p xs)) ∧ Below w.heap.size w w' := by
  obtain ⟨a, b, o, n, c, rfl, hn, ha, hc, hm⟩ := hv
  go_enter Tryd.func8, Tryd.ntmps8
  by_cases hbig : 1073741824 < p
  · have K : Hid (ckC p xs = 6 ∧ ckA p xs = 0) := ck_pr (xs := xs) (fun h => by obtain ⟨N, h1, h2, h3⟩ := h; omega)
    go_upto_region 1 with fail
    refine wp_world (fun w1 => Below w.heap.size w w1 ∧ FB w1 w.heap.size (.int .i64 0) (.int .i64 0)) (fb1 w _ _ _) ?_
    rintro w1 ⟨hB1, hF⟩
    have HB1 : Hid (Below w.heap.size w w1) := hB1
    obtain ⟨b4, hb4⟩ : ∃ x, x = w.heap.size := ⟨_, rfl⟩
    rw [← hb4] at hF ⊢
    have HG : Hid (w.heap.size ≤ b4) := by show _ ≤ _; omega
    have HF : Hid (FB w1 b4 (.int .i64 0) (.int .i64 0)) := hF
    have FIN : Hid (∀ (wn : World) (u0 u1 : Value) (c a : Int), FB wn b4 u0 u1 → Below w.heap.size w wn → Below w.heap.size w ((wn.setCell ⟨b4, 0, none⟩ (.int .i64 c)).setCell ⟨b4, 1, none⟩ (.int .i64 a))) := fun wn u0 u1 c a _ hB => below_set2 hB HG.out _ _
    clear hc hB1 hb4 hF
    have CF := fun w => rfault_any w 6 0
    go_wp2_with (go_at_call 29; fail)
    refine (CF _).mono ?_
    rintro e wf ⟨rfl, hbf⟩
    have hFf := HF.out.below hbf
    have E : Hid (Below w.heap.size w ((wf.setCell ⟨b4, 0, none⟩ (.int .i64 6)).setCell ⟨b4, 1, none⟩ (.int .i64 0))) := FIN.out wf _ _ 6 0 hFf (HB1.out.trans (hbf.mono HB1.out.size))
    obtain ⟨l4, c0, c1, f0, f1⟩ := hFf
    clear CF hbf
    go_wp2
    refine bodyPost_ret (v := Flt 6 0) (by simp [results, go_sem, loadVar, World.cell?_setCell_same, World.cell?_setCell_other, *]; try rfl) rfl ?_
    exact ⟨by rw [K.out.1, K.out.2], E.out⟩
  have CP := fun w => refPrime_any w p (by omega)
  go_wp2_with (go_at_call 28; fail)
  refine (CP _).mono ?_
  rintro e w1 ⟨r, rfl, hr, hb1⟩
  have hB1 : Below w.heap.size w w1 := (bel1 w _).trans (hb1.mono (by simp))
  have hF := (FB.mk0 w (.int .i64 0) (.int .i64 0) 24).below hb1
  have HB1 : Hid (Below w.heap.size w w1) := hB1
  have HC : Hid (∀ i, i < n → w1.cell? ⟨b, o + i, none⟩ = some (.int .i64 (xs.getD i 0))) := fun i hi => (hB1.cell (p := ⟨b, o + i, none⟩) (block_lt (hc i hi))).trans (hc i hi)
  have HR : Hid (r = true ↔ PrI p) := hr
  obtain ⟨b4, hb4⟩ : ∃ x, x = w.heap.size := ⟨_, rfl⟩
  rw [← hb4] at hF ⊢
  have HG : Hid (w.heap.size ≤ b4) := by show _ ≤ _; omega
  have FIN : Hid (∀ (wn : World) (u0 u1 : Value) (c a : Int), FB wn b4 u0 u1 → Below w.heap.size w wn → Below w.heap.size w ((wn.setCell ⟨b4, 0, none⟩ (.int .i64 c)).setCell ⟨b4, 1, none⟩ (.int .i64 a))) := fun wn u0 u1 c a _ hB => below_set2 hB HG.out _ _
  have HF : Hid (FB w1 b4 (.int .i64 0) (.int .i64 0)) := hF
  clear CP hc hb1 hB1 hb4 hr hF
  cases r with
  | false =>
    have K : Hid (ckC p xs = 6 ∧ ckA p xs = 0) := ck_pr (xs := xs) (fun h => absurd (HR.out.2 h) (by simp))
    have CF := fun w => rfault_any w 6 0
    go_wp2_with (go_at_call 29; fail)
    refine (CF _).mono ?_
    rintro e wf ⟨rfl, hbf⟩
    have hFf := HF.out.below hbf
    have E : Hid (Below w.heap.size w ((wf.setCell ⟨b4, 0, none⟩ (.int .i64 6)).setCell ⟨b4, 1, none⟩ (.int .i64 0))) := FIN.out wf _ _ 6 0 hFf (HB1.out.trans (hbf.mono HB1.out.size))
    obtain ⟨l4, c0, c1, f0, f1⟩ := hFf
    clear CF hbf
    go_wp2
    refine bodyPost_ret (v := Flt 6 0) (by simp [results, go_sem, loadVar, World.cell?_setCell_same, World.cell?_setCell_other, *]; try rfl) rfl ?_
    exact ⟨by rw [K.out.1, K.out.2], E.out⟩
  | true =>
    have HP : Hid (PrI p) := HR.out.1 rfl
    by_cases hl : 65 < n
    · have K : Hid (ckC p xs = 9 ∧ ckA p xs = 0) := ck_len HP.out (by omega)
      have CF := fun w => rfault_any w 9 0
      go_wp2_with (go_at_call 29; fail)
      refine (CF _).mono ?_
      rintro e wf ⟨rfl, hbf⟩
      have hFf := HF.out.below hbf
      have E : Hid (Below w.heap.size w ((wf.setCell ⟨b4, 0, none⟩ (.int .i64 9)).setCell ⟨b4, 1, none⟩ (.int .i64 0))) := FIN.out wf _ _ 9 0 hFf (HB1.out.trans (hbf.mono HB1.out.size))
      obtain ⟨l4, c0, c1, f0, f1⟩ := hFf
      clear CF hbf
      go_wp2
      refine bodyPost_ret (v := Flt 9 0) (by simp [results, go_sem, loadVar, World.cell?_setCell_same, World.cell?_setCell_other, *]; try rfl) rfl ?_
      exact ⟨by rw [K.out.1, K.out.2], E.out⟩
    · have hl' : n ≤ 65 := by omega
      have HL : Hid (¬ 65 < xs.length) := by show ¬ _; omega
      go_wp2
      go_loopw [5] (fun i wr => ∃ k : Nat, k ≤ n ∧ i = .int .i64 k ∧ (∀ j, j < k → ¬ badN p (xs.getD j 0)) ∧ wr = w1) (fun i _ => n - (Lib.intOf i).toNat)
      case atStart => exact ⟨0, by omega, rfl, fun j hj => by omega, rfl⟩
      case round =>
        obtain ⟨k, hk, rfl, hno, rfl⟩ := hrel
        have HNO : Hid (∀ j, j < k → ¬ badN p (xs.getD j 0)) := hno
        clear hno
        by_cases hkn : k < n
        · have hki : (k : Int) < (n : Int) := by omega
          obtain rfl := ha (by omega)
          obtain ⟨x, hx⟩ : ∃ x, xs.getD k 0 = x := ⟨_, rfl⟩
          have hcell := HC.out k hkn
          rw [hx] at hcell
          have HX : Hid (xs.getD k 0 = x) := hx
          clear hx
          by_cases hb1 : x < 0
          · have K : Hid (ckC p xs = 7 ∧ ckA p xs = k) := ck_bad HP.out HL.out (by omega) HNO.out (by rw [HX.out]; exact .inl hb1)
            have CF := fun w => rfault_any w 7 k
            go_wp2_with (go_at_call 29; fail)
            refine (CF _).mono ?_
            rintro e wf ⟨rfl, hbf⟩
            have hFf := HF.out.below hbf
            have E : Hid (Below w.heap.size w ((wf.setCell ⟨b4, 0, none⟩ (.int .i64 7)).setCell ⟨b4, 1, none⟩ (.int .i64 k))) := FIN.out wf _ _ 7 k hFf (HB1.out.trans (hbf.mono HB1.out.size))
            obtain ⟨l4, c0, c1, f0, f1⟩ := hFf
            clear CF hbf
            go_wp2
            refine bodyPost_ret (v := Flt 7 k) (by simp [results, go_sem, loadVar, World.cell?_setCell_same, World.cell?_setCell_other, *]; try rfl) rfl ?_
            exact ⟨by rw [K.out.1, K.out.2], E.out⟩
          · by_cases hb2 : p ≤ x
            · have K : Hid (ckC p xs = 7 ∧ ckA p xs = k) := ck_bad HP.out HL.out (by omega) HNO.out (by rw [HX.out]; exact .inr hb2)
              have CF := fun w => rfault_any w 7 k
              go_wp2_with (go_at_call 29; fail)
              refine (CF _).mono ?_
              rintro e wf ⟨rfl, hbf⟩
              have hFf := HF.out.below hbf
              have E : Hid (Below w.heap.size w ((wf.setCell ⟨b4, 0, none⟩ (.int .i64 7)).setCell ⟨b4, 1, none⟩ (.int .i64 k))) := FIN.out wf _ _ 7 k hFf (HB1.out.trans (hbf.mono HB1.out.size))
              obtain ⟨l4, c0, c1, f0, f1⟩ := hFf
              clear CF hbf
              go_wp2
              refine bodyPost_ret (v := Flt 7 k) (by simp [results, go_sem, loadVar, World.cell?_setCell_same, World.cell?_setCell_other, *]; try rfl) rfl ?_
              exact ⟨by rw [K.out.1, K.out.2], E.out⟩
            · have HNB : Hid (¬ badN p x) := by show ¬ _; unfold badN; omega
              go_wp2
              go_roundw
              case rel =>
                refine ⟨k + 1, by omega, by first | rfl | trivial, fun j hj => ?_, by first | rfl | trivial⟩
                rcases Nat.lt_or_ge j k with h | h
                · exact HNO.out j h
                · obtain rfl : j = k := by omega
                  rw [HX.out]; exact HNB.out
              case measure => simp only [Lib.intOf]; omega
        · obtain rfl : k = n := by omega
          have hki : ¬ (k : Int) < (k : Int) := by omega
          have HNN : Hid (∀ j, j < xs.length → ¬ badN p (xs.getD j 0)) := fun j hj => HNO.out j (by omega)
          by_cases h0 : k = 0
          · have K : Hid (ckC p xs = 0 ∧ ckA p xs = 0) := ck_ok HP.out HL.out HNN.out (fun h => by omega)
            subst h0
            have E : Hid (Below w.heap.size w ((wr.setCell ⟨b4, 0, none⟩ (.int .i64 0)).setCell ⟨b4, 1, none⟩ (.int .i64 0))) := FIN.out wr _ _ 0 0 HF.out HB1.out
            obtain ⟨l4, c0, c1, f0, f1⟩ := HF.out
            go_wp2
            refine bodyPost_ret (v := Flt 0 0) (by simp [results, go_sem, loadVar, World.cell?_setCell_same, World.cell?_setCell_other, *]; try rfl) rfl ?_
            exact ⟨by rw [K.out.1, K.out.2], E.out⟩
          · obtain ⟨x, hx⟩ : ∃ x, xs.getD (k - 1) 0 = x := ⟨_, rfl⟩
            obtain rfl := ha (by omega)
            have hcell := HC.out (k - 1) (by omega)
            rw [hx] at hcell
            have hk1 : 1 ≤ k := by omega
            have hk0 : 0 < k := by omega
            have HX : Hid (xs.getD (xs.length - 1) 0 = x) := by rw [hn]; exact hx
            clear hx
            by_cases hx0 : x = 0
            · have K : Hid (ckC p xs = 3 ∧ ckA p xs = (k : Int) - 1) := by
                have := ck_last HP.out HL.out HNN.out ⟨by omega, by rw [HX.out]; exact hx0⟩
                rw [hn] at this
                exact this
              have hxb : (x == 0) = true := by simpa using hx0
              clear hx0
              have CF := fun w => rfault_any w 3 ((k : Int) - 1)
              go_wp2_with (go_at_call 29; fail)
              refine (CF _).mono ?_
              rintro e wf ⟨rfl, hbf⟩
              have hFf := HF.out.below hbf
              have E : Hid (Below w.heap.size w ((wf.setCell ⟨b4, 0, none⟩ (.int .i64 3)).setCell ⟨b4, 1, none⟩ (.int .i64 ((k : Int) - 1)))) := FIN.out wf _ _ 3 ((k : Int) - 1) hFf (HB1.out.trans (hbf.mono HB1.out.size))
              obtain ⟨l4, c0, c1, f0, f1⟩ := hFf
              clear CF hbf
              go_wp2
              refine bodyPost_ret (v := Flt 3 ((k : Int) - 1)) (by simp [results, go_sem, loadVar, World.cell?_setCell_same, World.cell?_setCell_other, *]; try rfl) rfl ?_
              exact ⟨by rw [K.out.1, K.out.2], E.out⟩
            · have K : Hid (ckC p xs = 0 ∧ ckA p xs = 0) := ck_ok HP.out HL.out HNN.out (fun h => hx0 (by rw [← HX.out]; exact h.2))
              have hxb : (x == 0) = false := by simpa using hx0
              clear hx0
              have E : Hid (Below w.heap.size w ((wr.setCell ⟨b4, 0, none⟩ (.int .i64 0)).setCell ⟨b4, 1, none⟩ (.int .i64 0))) := FIN.out wr _ _ 0 0 HF.out HB1.out
              obtain ⟨l4, c0, c1, f0, f1⟩ := HF.out
              go_wp2
              refine bodyPost_ret (v := Flt 0 0) (by simp [results, go_sem, loadVar, World.cell?_setCell_same, World.cell?_setCell_other, *]; try rfl) rfl ?_
              exact ⟨by rw [K.out.1, K.out.2], E.out⟩
end Go.Proofs.YtffdemplaodbcaaDoor
namespace Go.Proofs.YtffdemplaodbcaaDoor
open Go Go.Proofs Go.RowKit Go.Rad

/-- n cells from o on in block b hold what f says. -/
def AR (w : World) (b o n : Nat) (f : Nat → Int) : Prop := ∀ i, i < n → w.cell? ⟨b, o + i, none⟩ = some (.int .i64 (f i))
theorem AR.lt {w : World} {b o n : Nat} {f : Nat → Int} (h : AR w b o n f) (hn : 0 < n) : b < w.heap.size := block_lt (h 0 hn)
theorem AR.below {w w' : World} {b o n : Nat} {f : Nat → Int} (h : AR w b o n f) (hb : Below w.heap.size w w') : AR w' b o n f := fun i hi => (hb.cell (p := ⟨b, o + i, none⟩) (block_lt (h i hi))).trans (h i hi)
theorem AR.chg {w w' : World} {b o n c lo hi : Nat} {f : Nat → Int} (h : AR w b o n f) (hc : Chg w w' c lo hi) (hap : 0 < n → b ≠ c ∨ o + n ≤ lo ∨ hi ≤ o) : AR w' b o n f :=
  fun i hi => (hc.cellAt (block_lt (h i hi)) (by have := hap (by omega); omega)).trans (h i hi)
theorem AR.sub {w : World} {b o n : Nat} {f : Nat → Int} (h : AR w b o n f) {d m : Nat} (hm : d + m ≤ n) : AR w b (o + d) m (fun i => f (d + i)) := fun i hi => by
  have := h (d + i) (by omega)
  rwa [← Nat.add_assoc] at this
theorem chg_of_below {w w' : World} (hb : Below w.heap.size w w') {b : Nat} (h : b < w.heap.size) (lo hi : Nat) : Chg w w' b lo hi :=
  ⟨hb.os, hb.tape, hb.output, hb.size, fun k hk _ => hb.block k hk, fun i _ => World.cell?_of_block (hb.block b h), fun i => World.frozen?_of_block (hb.block b h)⟩
theorem chg_drewN {a w : World} {b lo hi : Nat} (h : Chg a w b lo hi) (n : Nat) : Chg a (w.drewN n) b lo hi := ⟨h.os, h.tape, h.output, h.size, h.block, h.cell, h.froz⟩
/-- A sum that is not below q loses q. -/
def gq (q s : Int) : Int := if s < q then s else s - q
theorem i64_and_all (x : Int) (h0 : 0 ≤ x) (h : x < 9223372036854775808) : bits .and .i64 x (-1) = x := by
  have h1 : (BitVec.ofInt 64 (-1 : Int)).toNat = 2 ^ 64 - 1 := by decide
  have h2 : ((BitVec.ofInt 64 x).toNat : Int) = x % 18446744073709551616 := by rw [BitVec.toNat_ofInt]; omega
  have h3 : (BitVec.ofInt 64 x).toNat < 2 ^ 64 := BitVec.isLt _
  show IntKind.i64.wrap ((BitVec.ofInt 64 x &&& BitVec.ofInt 64 (-1)).toNat : Int) = _
  rw [BitVec.toNat_and, h1, Nat.and_two_pow_sub_one_eq_mod, Nat.mod_eq_of_lt h3, h2, IntKind.wrap_i64]
  omega
theorem i64_and_none (x : Int) : bits .and .i64 x 0 = 0 := by
  have h1 : (BitVec.ofInt 64 (0 : Int)).toNat = 0 := by decide
  show IntKind.i64.wrap ((BitVec.ofInt 64 x &&& BitVec.ofInt 64 0).toNat : Int) = _
  rw [BitVec.toNat_and, h1, Nat.and_zero, IntKind.wrap_i64]
  rfl
set_option maxRecDepth 10000 in
set_option maxHeartbeats 1000000 in
theorem gather_any (w : World) (p q c : Int) (a1 a2 : Option Addr) (b o n1 c1 b2 o2 n2 c2 : Nat) (f g : Nat → Int) (hs : 0 < n2 → a1 = some ⟨b, o, none⟩) (hs2 : 0 < n2 → a2 = some ⟨b2, o2, none⟩)
    (hn : n2 ≤ n1) (hc1 : n1 ≤ c1) (hb : b < w.heap.size) (hF : AR w b o n2 f) (hfz : Free w b o n2) (hG : AR w b2 o2 n2 g) (hne : 0 < n2 → b ≠ b2) (hq : 0 < q ∧ q < 4611686018427387904) (hm : n2 ≤ 17592186044416)
    (hf : ∀ i, i < n2 → 0 ≤ f i ∧ f i < q) (hg : ∀ i, i < n2 → 0 ≤ c * g i ∧ c * g i < q) :
    Calls Tryd.prog 57 #[FV p q, .slice a1 n1 c1, .slice a2 n2 c2, .int .i64 c] w fun e w' => e = .returned (.tuple #[]) ∧ Chg w w' b o (o + n2) ∧ AR w' b o n2 (fun i => gq q (f i + c * g i)) := by
  go_enter Tryd.func57, Tryd.ntmps57
  by_cases h0 : n2 = 0
  · subst h0
    have HC : Hid (Chg w (w.alloc (Obj.cells #[.int .i64 p, .int .i64 q] 53)) b o (o + 0)) := chg_of_below (bel1 _ _) hb _ _
    clear hF hG hfz hf hg hs hs2 hne
    go_wp2
    go_loopw [17] (fun i wr => i = .int .i64 0 ∧ wr = w.alloc (Obj.cells #[.int .i64 p, .int .i64 q] 53)) (fun i _ => 0)
    case atStart => exact ⟨rfl, rfl⟩
    case round =>
      obtain ⟨rfl, rfl⟩ := hrel
      go_wp2
      go_end0
      exact ⟨rfl, HC.out, fun i hi => by omega⟩
  · obtain rfl := hs (by omega)
    obtain rfl := hs2 (by omega)
    have HF : Hid (AR w b o n2 f) := hF
    have HG : Hid (AR w b2 o2 n2 g) := hG
    have HZ : Hid (Free w b o n2) := hfz
    have HNE : Hid (b ≠ b2) := hne (by omega)
    have HB : Hid (b < w.heap.size) := hb
    have HFB : Hid (∀ i, i < n2 → 0 ≤ f i ∧ f i < q) := hf
    have HGB : Hid (∀ i, i < n2 → 0 ≤ c * g i ∧ c * g i < q) := hg
    clear hF hG hfz hne hb hf hg hs hs2
    go_wp2
    refine wp_world (fun w1 => Chg w w1 b o o ∧ w.heap.size < w1.heap.size ∧ w1.cell? ⟨w.heap.size, 0, none⟩ = some (.int .i64 p) ∧ w1.cell? ⟨w.heap.size, 1, none⟩ = some (.int .i64 q)) ⟨chg_of_below (bel1 _ _) HB.out _ _, by simp, by simp [go_sem], by simp [go_sem]⟩ ?_
    rintro w1 ⟨hC1, hl1, c0, c1'⟩
    obtain ⟨b4, hb4⟩ : ∃ x, x = w.heap.size := ⟨_, rfl⟩
    rw [← hb4] at c0 c1' hl1 ⊢
    have HB4 : Hid (b ≠ b4) := by have := HB.out; show _ ≠ _; omega
    have HC1 : Hid (Chg w w1 b o o) := hC1
    clear hC1 hb4
    go_loopw [17] (fun i wr => ∃ k : Nat, k ≤ n2 ∧ i = .int .i64 k ∧ Chg w wr b o (o + k) ∧ AR wr b o k (fun i => gq q (f i + c * g i)) ∧ b4 < wr.heap.size ∧ wr.cell? ⟨b4, 0, none⟩ = some (.int .i64 p) ∧ wr.cell? ⟨b4, 1, none⟩ = some (.int .i64 q)) (fun i _ => n2 - (Lib.intOf i).toNat)
    case atStart => exact ⟨0, by omega, rfl, HC1.out.mono (by omega) (by omega), fun i hi => by omega, hl1, c0, c1'⟩
    case round =>
      obtain ⟨k, hk, rfl, hC, hA, hl, d0, d1⟩ := hrel
      have HC : Hid (Chg w wr b o (o + k)) := hC
      have HA : Hid (AR wr b o k (fun i => gq q (f i + c * g i))) := hA
      clear hC hA c0 c1' hl1
      by_cases hkn : k < n2
      · have hki : (k : Int) < (n2 : Int) := by omega
        have ck : wr.cell? ⟨b, o + k, none⟩ = some (.int .i64 (f k)) := (HC.out.cell _ (by omega)).trans (HF.out k hkn)
        have gk : wr.cell? ⟨b2, o2 + k, none⟩ = some (.int .i64 (g k)) := (HC.out.cellAt (HG.out.lt (by omega)) (.inl HNE.out.symm)).trans (HG.out k hkn)
        have zk : wr.frozen? ⟨b, o + k, none⟩ = false := (HC.out.froz _).trans (HZ.out k hkn)
        obtain ⟨r1, r2⟩ := HFB.out k hkn
        obtain ⟨r3, r4⟩ := HGB.out k hkn
        obtain ⟨fk, hfk⟩ : ∃ x, f k = x := ⟨_, rfl⟩
        obtain ⟨m, hmk⟩ : ∃ x, c * g k = x := ⟨_, rfl⟩
        obtain ⟨gk', hgk⟩ : ∃ x, g k = x := ⟨_, rfl⟩
        rw [hfk] at ck r1 r2
        rw [hmk] at r3 r4
        rw [hgk] at gk hmk
        have HFK : Hid (f k = fk ∧ g k = gk') := ⟨hfk, hgk⟩
        have hmw : wrap64 (c * gk') = m := by rw [hmk]; exact wrap_in r3 (by omega)
        have HMK : Hid (c * gk' = m) := hmk
        clear hfk hgk hmk
        have hb1 := i64_and_all q (by omega) (by omega)
        have hb2 := i64_and_none q
        have HGQ : Hid (gq q (f k + c * g k) = if fk + m < q then fk + m else fk + m - q) := by
          show gq _ _ = _
          rw [HFK.out.1, HFK.out.2, HMK.out]; rfl
        have HV : Hid (wrap64 (wrap64 (wrap64 (fk + m) - q) + bits .and .i64 q (wrap64 (wrap64 (fk + m) - q) / 9223372036854775808)) = gq q (f k + c * g k)) := by
          show _ = _
          rw [HGQ.out, wrap_in (x := fk + m) (by omega) (by omega)]
          have e1 : wrap64 (fk + m - q) = fk + m - q := by unfold wrap64; omega
          rw [e1]
          split
          · rw [show (fk + m - q) / 9223372036854775808 = -1 by omega, hb1]; unfold wrap64; omega
          · rw [show (fk + m - q) / 9223372036854775808 = 0 by omega, hb2]; unfold wrap64; omega
        clear hb1 hb2
        go_wp2
        go_quiet (fail)
        go_wp2
        rw [HV.out]
        refine ⟨⟨k + 1, by omega, by congr 1, ((chg_drewN HC.out nq).mono (by omega) (by omega)).set (by omega) (by omega) _, ?_, by simpa using hl, ?_, ?_⟩, by simp only [Lib.intOf]; omega⟩
        · intro i hi
          rcases Nat.lt_or_ge i k with h | h
          · rw [cell_other (.inr (by omega))]
            exact HA.out i h
          · obtain rfl : i = k := by omega
            exact cell_same (u := .int .i64 fk) ck
        · rw [cell_other (.inl HB4.out.symm)]; exact d0
        · rw [cell_other (.inl HB4.out.symm)]; exact d1
      · obtain rfl : k = n2 := by omega
        have hki : ¬ (k : Int) < (k : Int) := by omega
        go_wp2
        go_end0
        exact ⟨rfl, HC.out, HA.out⟩
end Go.Proofs.YtffdemplaodbcaaDoor
