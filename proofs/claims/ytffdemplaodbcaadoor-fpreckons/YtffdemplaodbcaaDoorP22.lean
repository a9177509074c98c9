/- A part of the proof: PH, PI, QA, PJ. -/
import Derived.Test.YtffdemplaodbcaaDoorP21
set_option linter.all false
namespace Go.Proofs.YtffdemplaodbcaaDoor
open Go Go.Proofs Go.RowKit Go.Rad

theorem sr_lst {w : World} {aa : Option Addr} {b o m c B : Nat} {r : Nat → Int} (ha : 0 < m → aa = some ⟨b, o, none⟩) (hc : m ≤ c) (hB : B ≤ b) (hl : b < w.heap.size) (hA : AR w b o m r) (hz : Free w b o m) : SR w B (.slice aa m c) (lst r m) := by
  by_cases h0 : m = 0
  · subst h0; exact .nil aa c rfl rfl
  · obtain rfl := ha (by omega)
    refine .row b o c (by rw [lst_length]) (by rw [lst_length]; omega) (by rw [lst_length]; omega) hB hl (fun i hi => ?_) (fun i hi => ?_)
    · rw [lst_length] at hi
      show _ = some (Value.int _ ((lst r m).getD i 0))
      rw [lst_getD, hA i hi]; unfold cut; rw [if_pos hi]
    · rw [lst_length] at hi
      exact hz i hi
/-- Quotient and rest. -/
structure Dvd (p : Int) (m x Q z : List Int) : Prop where
  len : Q.length = x.length - (m.length - 1)
  bd : ∀ j, 0 ≤ Q.getD j 0 ∧ Q.getD j 0 < p
  rl : z.length < m.length
  rb : ∀ j, 0 ≤ z.getD j 0 ∧ z.getD j 0 < p
  rt : 0 < z.length → z.getD (z.length - 1) 0 ≠ 0
  eq : ∀ j, row x j % p = (row z j + act Q (row m) j) % p
theorem DivPost.sr {w w' : World} {p : Int} {a : Option Addr} {b o c1 n B : Nat} {x : List Int} {y : Nat → Int} {e : Ending} (hp : 0 < p) (h0 : 0 < x.length) (h : DivPost w p a b o x.length c1 n (fun j => x.getD j 0) y e w') (ha : a = some ⟨b, o, none⟩) (hB : B ≤ b) (hl : b < w.heap.size) (hBw : B ≤ w.heap.size) (hc : x.length ≤ c1) (hz : Free w b o x.length) :
    ∃ u1 u2 Q z, e = .returned (.tuple #[u1, u2]) ∧ SR w' B u1 Q ∧ SR w' B u2 z ∧ Below B w w' ∧ Dvd p (lst y (n + 1)) x Q z := by
  have hxx : ∀ j, row x j = cut (fun j => x.getD j 0) x.length j := fun j => (cut_getD x j).symm
  cases h with
  | short m he h1 hm hC hA hzz hlst =>
    obtain ⟨r, re⟩ : ∃ r : Nat → Int, ∀ j, r j = x.getD j 0 % p := ⟨_, fun _ => rfl⟩
    have hg : ∀ j, (lst r m).getD j 0 = cut r m j := fun j => lst_getD r m j
    refine ⟨_, _, [], lst r m, he, .nil none 0 rfl rfl, sr_lst (fun _ => ha) (by omega) hB (Nat.lt_of_lt_of_le hl hC.size) (fun i hi => by rw [re]; exact hA i (by omega)) (fun i hi => (hC.froz _).trans (hz i (by omega))), hC.below hB hBw, ?_, fun j => ?_, by rw [lst_length, lst_length]; omega, fun j => ?_, fun h => ?_, fun j => ?_⟩
    · rw [lst_length]; show 0 = _; omega
    · rw [getD_of_ge [] j (Nat.zero_le _)]; omega
    · rw [hg]; unfold cut
      by_cases hj : j < m
      · rw [if_pos hj, re]; exact ⟨Int.emod_nonneg _ (by omega), Int.emod_lt_of_pos _ hp⟩
      · rw [if_neg hj]; omega
    · rw [lst_length] at h ⊢
      rw [hg]; unfold cut
      rw [if_pos (by omega), re]; exact hlst h
    · show _ = (row (lst r m) j + 0) % p
      rw [Int.add_zero, row_lst, row_getD]; unfold cut
      by_cases hj : j < m
      · rw [if_pos hj, re, Int.emod_emod]
      · rw [if_neg hj]
        by_cases hj2 : j < x.length
        · rw [hzz j (by omega) hj2]; simp
        · rw [getD_of_ge x j (by omega)]
  | long m h he h1 hm hC hA hb hzz hlst hh =>
    have hg : ∀ j, (lst h m).getD j 0 = cut h m j := fun j => lst_getD h m j
    obtain ⟨s, se⟩ : ∃ s : Nat → Int, ∀ t, s t = h (t + n) := ⟨_, fun _ => rfl⟩
    have hsf : (fun t => h (t + n)) = s := funext fun t => (se t).symm
    refine ⟨_, _, lst s (x.length - n), lst h m, he, sr_lst (b := b) (o := o + n) (fun _ => rfl) (by omega) hB (Nat.lt_of_lt_of_le hl hC.size) (fun i hi => ?_) (fun i hi => ?_), sr_lst (fun _ => rfl) (by omega) hB (Nat.lt_of_lt_of_le hl hC.size) (fun i hi => hA i (by omega)) (fun i hi => (hC.froz _).trans (hz i (by omega))), hC.below hB hBw, ?_, fun j => ?_, by rw [lst_length, lst_length]; omega, fun j => ?_, fun h => ?_, fun j => ?_⟩
    · have := hA (n + i) (by omega)
      rw [← Nat.add_assoc] at this
      rw [se, Nat.add_comm i n]; exact this
    · have := hz (n + i) (by omega)
      rw [← Nat.add_assoc] at this
      exact (hC.froz _).trans this
    · rw [lst_length, lst_length]; omega
    · rw [lst_getD]; unfold cut
      by_cases hj : j < x.length - n
      · rw [if_pos hj, se]; exact hb _ (by omega)
      · rw [if_neg hj]; omega
    · rw [hg]; unfold cut
      by_cases hj : j < m
      · rw [if_pos hj]; exact hb j (by omega)
      · rw [if_neg hj]; omega
    · rw [lst_length] at h ⊢
      rw [hg]; unfold cut
      rw [if_pos (by omega)]; exact hlst h
    · rw [row_lst, act_row_lst, row_getD]
      by_cases hj : j < x.length
      · have := hh j hj
        rw [hsf] at this
        rw [this]; unfold cut
        by_cases hj2 : j < m
        · rw [if_pos hj2, if_pos (by omega)]
        · rw [if_neg hj2]
          by_cases hj3 : j < n
          · rw [if_pos hj3, hzz j (by omega) hj3]
          · rw [if_neg hj3]
      · rw [getD_of_ge x j (by omega), cvp_zero _ _ _ _ _ (by omega)]; unfold cut
        rw [if_neg (by omega)]; rfl
theorem divide_sr (w : World) (p q : Int) (B : Nat) (v : Value) (x : List Int) (b2 o2 n c2 : Nat) (y : Nat → Int) (hv : SR w B v x) (hB : B ≤ w.heap.size) (hM : MD w p b2 o2 n c2 y) (hb2 : b2 < B) (hq : q = p * p) (hp : 1 < p ∧ p < 2147483648)
    (hx : ∀ j, 0 ≤ x.getD j 0 ∧ x.getD j 0 < q) (hl : x.length ≤ 2097152) :
    Calls Tryd.prog 34 #[FV p q, v, .slice (some ⟨b2, o2, none⟩) (n + 1 : Nat) c2] w fun e w' => ∃ u1 u2 Q z, e = .returned (.tuple #[u1, u2]) ∧ SR w' B u1 Q ∧ SR w' B u2 z ∧ Below B w w' ∧ Dvd p (lst y (n + 1)) x Q z := by
  cases hv with
  | nil a c hv hx =>
    subst hv
    subst hx
    refine (divide_zero w p q a c b2 o2 n c2 hM.small).mono ?_
    rintro e w' ⟨he, hb⟩
    refine ⟨_, _, [], [], he, .nil none 0 rfl rfl, .nil a c rfl rfl, hb.mono hB, by simp, fun j => ?_, by rw [lst_length]; exact Nat.succ_pos _, fun j => ?_, fun h => by simp at h, fun j => by show _ = (_ + 0) % p; rw [Int.add_zero]⟩
    · rw [getD_of_ge [] j (Nat.zero_le _)]; omega
    · rw [getD_of_ge [] j (Nat.zero_le _)]; omega
  | row b o c hv h0 hc hb hbl hA hz =>
    subst hv
    refine (divide_any w p q _ b o x.length c b2 o2 n c2 (fun j => x.getD j 0) y (fun _ => rfl) hc hbl hA hz hM.row (by omega) hq hp hM.cap hl hM.small (fun i _ => hx i) hM.bd hM.g hM.ne).mono ?_
    intro e w' h
    exact h.sr (by omega) h0 rfl hb hbl hB hc hz
end Go.Proofs.YtffdemplaodbcaaDoor
namespace Go.Proofs.YtffdemplaodbcaaDoor
open Go Go.Proofs Go.RowKit Go.Rad

/-- The fault of a division. -/
noncomputable def dvC (p : Int) (xs ys : List Int) : Int := if ckBC p xs ys = 0 then (if ys.length = 0 then 4 else 0) else ckBC p xs ys
inductive DvPost (w : World) (p : Int) (xs ys : List Int) (e : Ending) (w' : World) : Prop
  | mk (u1 u2 : Value) (he : e = .returned (.tuple #[u1, u2, Flt (dvC p xs ys) (powA p xs ys)])) (hb : Below w.heap.size w w') (hf : dvC p xs ys ≠ 0 → u1 = .slice none 0 0 ∧ u2 = .slice none 0 0)
      (ho : dvC p xs ys = 0 → ∃ Q z, SR w' w.heap.size u1 Q ∧ SR w' w.heap.size u2 z ∧ Dvd p ys xs Q z)
theorem DvPost.fail {w w' : World} {p : Int} {xs ys : List Int} {c a : Int} (h0 : c ≠ 0) (h1 : dvC p xs ys = c) (h2 : powA p xs ys = a) (hb : Below w.heap.size w w') : DvPost w p xs ys (.returned (.tuple #[.slice none 0 0, .slice none 0 0, Flt c a])) w' :=
  .mk _ _ (by rw [h1, h2]) hb (fun _ => ⟨rfl, rfl⟩) (fun h => absurd (h1.symm.trans h) h0)
set_option maxRecDepth 10000 in
set_option maxHeartbeats 1000000 in
theorem rDiv_any (w : World) (v1 v2 : Value) (xs ms : List Int) (p : Int) (h1 : IL w v1 xs) (h2 : IL w v2 ms) (ht : TabB w) (hcap : ∀ a k c, v2 = .slice a k c → k ≤ c) :
    Calls Tryd.prog 10 #[v1, v2, .int .i64 p] w fun e w' => DvPost w p xs ms e w' := by
  have CB := fun wx (hb : Below w.heap.size w wx) => checkBoth_any wx v1 v2 xs ms p (h1.below hb) (h2.below hb) (ht.below hb)
  obtain ⟨cB, hcB⟩ : ∃ c, ckBC p xs ms = c := ⟨_, rfl⟩
  obtain ⟨aB, haB⟩ : ∃ c, ckBA p xs ms = c := ⟨_, rfl⟩
  have HC : Hid (ckBC p xs ms = cB ∧ ckBA p xs ms = aB) := ⟨hcB, haB⟩
  simp only [hcB, haB] at CB
  have H1 : Hid (IL w v1 xs) := h1
  have H2 : Hid (IL w v2 ms) := h2
  clear h1 ht hcB haB
  obtain ⟨a2, b2, o2, k2, c2, rfl, hk2, ha2, hcc, hm2⟩ := h2
  have hkc : k2 ≤ c2 := hcap _ _ _ rfl
  have HCC : Hid (∀ i, i < k2 → w.cell? ⟨b2, o2 + i, none⟩ = some (.int .i64 (ms.getD i 0))) := hcc
  clear hcap hcc
  go_enter Tryd.func10, Tryd.ntmps10
  go_wp2_with (go_at_call 30; fail)
  refine (CB _ (bel1 _ _)).mono ?_
  rintro e w1 ⟨rfl, hb1⟩
  have hB1 : Below w.heap.size w w1 := (bel1 w _).trans (hb1.mono (by simp))
  have hF := (FB.mk0 w (.int .i64 0) (.int .i64 0) 24).below hb1
  have HB1 : Hid (Below w.heap.size w w1) := hB1
  obtain ⟨b4, hb4⟩ : ∃ x, x = w.heap.size := ⟨_, rfl⟩
  rw [← hb4] at hF ⊢
  have HG : Hid (w.heap.size ≤ b4) := by show _ ≤ _; omega
  clear hb1 hB1 hb4 CB
  by_cases h0 : cB = 0
  · subst h0
    obtain ⟨fx, fm⟩ := ckBC_zero HC.out.1
    have HFX : Hid (IsF p xs) := fx
    have HFM : Hid (IsF p ms) := fm
    clear fx fm
    by_cases hk0 : k2 = 0
    · have HK : Hid (dvC p xs ms = 4 ∧ powA p xs ms = 0) := by
        unfold dvC powA
        rw [if_pos HC.out.1, if_pos HC.out.1, if_pos (by omega)]
        exact ⟨rfl, rfl⟩
      have HR : Hid (∀ X, Below w.heap.size w (((w1.setCell ⟨b4, 0, none⟩ (.int .i64 4)).setCell ⟨b4, 1, none⟩ (.int .i64 0)).alloc X)) := fun X => (below_set2 HB1.out HG.out _ _).alloc (by have := HB1.out.size; simp; omega) X
      subst hk0
      obtain ⟨l4, d0, d1, f0, f1⟩ := hF
      go_wp2
      refine bodyPost_ret (v := .tuple #[.slice none 0 0, .slice none 0 0, Flt 4 0]) (by simp [results, go_sem, loadVar, World.cell?_setCell_same, World.cell?_setCell_other, *]; try rfl) rfl ?_
      exact .fail (by decide) HK.out.1 HK.out.2 (HR.out _)
    · obtain ⟨m, rfl⟩ : ∃ m, k2 = m + 1 := ⟨k2 - 1, by omega⟩
      obtain rfl := ha2 (by omega)
      have HK : Hid (dvC p xs ms = 0 ∧ powA p xs ms = 0) := by
        unfold dvC powA
        rw [if_pos HC.out.1, if_pos HC.out.1, if_neg (by omega)]
        exact ⟨rfl, rfl⟩
      have hpp : 1 < p ∧ p < 2147483648 := by
        obtain ⟨P, h1, h2, h3⟩ := HFX.out.pr
        have := h2.1
        omega
      have hb2 : b2 < w.heap.size := block_lt (HCC.out 0 (by omega))
      have HB2 : Hid (b2 < w.heap.size) := hb2
      have HM : Hid (MD w p b2 o2 m c2 (fun j => ms.getD j 0)) :=
        ⟨fun i hi => HCC.out i (by omega), hkc, fun i _ => HFM.out.all i, HFM.out.pr.gcd (HFM.out.all m).1 (by have := HFM.out.last (by omega); rw [hk2] at this; exact this) (HFM.out.all m).2, by have := HFM.out.last (by omega); rw [hk2] at this; exact this, by have := HFM.out.len; omega⟩
      have HMS : Hid (lst (fun j => ms.getD j 0) (m + 1) = ms) := by
        have := lst_self ms
        rw [hk2] at this
        exact this
      clear hb2
      have hsm : ((m : Int) + 1 == 0) = false := by simpa using (show ¬ (m : Int) + 1 = 0 by omega)
      go_wp2_with (go_at_call 31; fail)
      refine (fieldOf_any _ p (p * p) (by omega) hpp.2 rfl).mono ?_
      rintro e w2 ⟨rfl, hb2⟩
      have hF2 := (hF.alloc (Obj.cells #[Value.int IntKind.i64 0, Value.int IntKind.i64 aB] 24)).below hb2
      have HB2w : Hid (Below w.heap.size w w2) := (HB1.out.alloc HB1.out.size (Obj.cells #[Value.int IntKind.i64 0, Value.int IntKind.i64 aB] 24)).trans (hb2.mono (by have := HB1.out.size; simp; omega))
      clear hb2 hF
      go_wp2_with (go_at_call 35; fail)
      refine (clone_sr w2 v1 xs (H1.out.vw.below HB2w.out) (by have := HFX.out.len; omega)).mono ?_
      rintro e w3 ⟨u3, rfl, hS3, hb3⟩
      have HS3 : Hid (SR w3 w2.heap.size u3 xs) := hS3
      have HB3 : Hid (Below w2.heap.size w2 w3) := hb3
      have HB3w : Hid (Below w.heap.size w w3) := HB2w.out.trans (hb3.mono HB2w.out.size)
      have hpq : p ≤ p * p := by
        have h9 := Int.mul_le_mul_of_nonneg_left (show 1 ≤ p by omega) (show 0 ≤ p by omega)
        rw [Int.mul_one] at h9
        exact h9
      have CD := divide_sr w3 p (p * p) w2.heap.size u3 xs b2 o2 m c2 (fun j => ms.getD j 0) HS3.out hb3.size (HM.out.below HB3w.out) (Nat.lt_of_lt_of_le HB2.out HB2w.out.size) rfl hpp (fun j => ⟨(HFX.out.all j).1, by have := (HFX.out.all j).2; omega⟩) (by have := HFX.out.len; omega)
      rw [HMS.out] at CD
      have hF3 := hF2.below hb3
      have hlt2 := hF2.lt
      clear hS3 hb3 hF2 hpq
      go_wp2_with (go_at_call 34; fail)
      refine CD.mono ?_
      rintro e w4 ⟨u1, u2, Q, z, rfl, hS1, hS2, hb4, hD⟩
      have hF4 := hF3.step hb4 hlt2
      have HS1 : Hid (SR w4 w2.heap.size u1 Q) := hS1
      have HS2 : Hid (SR w4 w2.heap.size u2 z) := hS2
      have HD : Hid (Dvd p ms xs Q z) := hD
      have HB4w : Hid (Below w.heap.size w w4) := HB3w.out.trans (hb4.mono HB2w.out.size)
      have HQL : Hid (Q.length ≤ 1048576 ∧ z.length ≤ 1048576) := by
        have h1 := hD.len
        have h2 := hD.rl
        have h3 := HFX.out.len
        have h4 := HFM.out.len
        show _ ∧ _
        omega
      clear hS1 hS2 hb4 hD hF3 hlt2 CD
      go_wp2_with (go_at_call 35; fail)
      refine (clone_sr w4 u1 Q HS1.out.view HQL.out.1).mono ?_
      rintro e w5 ⟨u5, rfl, hS5, hb5⟩
      have hF5 := hF4.below hb5
      have HS5 : Hid (SR w5 w4.heap.size u5 Q) := hS5
      have HS25 : Hid (SR w5 w2.heap.size u2 z) := HS2.out.below hb5
      have HB5w : Hid (Below w.heap.size w w5) := HB4w.out.trans (hb5.mono HB4w.out.size)
      have HL5 : Hid (b4 < w4.heap.size ∧ w4.heap.size ≤ w5.heap.size) := ⟨hF4.lt, hb5.size⟩
      clear hS5 hb5 hF4
      go_wp2_with (go_at_call 35; fail)
      refine (clone_sr w5 u2 z HS25.out.view HQL.out.2).mono ?_
      rintro e w6 ⟨u6, rfl, hS6, hb6⟩
      have hF6 := hF5.below hb6
      have HP : Hid (DvPost w p xs ms (.returned (.tuple #[u5, u6, Flt 0 0])) ((w6.setCell ⟨b4, 0, none⟩ (.int .i64 0)).setCell ⟨b4, 1, none⟩ (.int .i64 0))) := by
        have h1 := HB4w.out.size
        have h2 := HL5.out
        exact .mk u5 u6 (by rw [HK.out.1, HK.out.2]) (below_set2 (HB5w.out.trans (hb6.mono HB5w.out.size)) HG.out _ _) (fun h => absurd HK.out.1 h)
          (fun _ => ⟨Q, z, ((HS5.out.below hb6).set2 h2.1 _ _).mono h1, (hS6.set2 (by omega) _ _).mono (by omega), HD.out⟩)
      clear hS6 hb6 hF5
      obtain ⟨l4, d0, d1, f0, f1⟩ := hF6
      go_wp2
      refine bodyPost_ret (v := .tuple #[u5, u6, Flt 0 0]) (by simp [results, go_sem, loadVar, World.cell?_setCell_same, World.cell?_setCell_other, *]; try rfl) rfl ?_
      exact HP.out
  · have h0b : (cB != 0) = true := by simpa using h0
    have HR : Hid (∀ X, Below w.heap.size w (((w1.setCell ⟨b4, 0, none⟩ (.int .i64 cB)).setCell ⟨b4, 1, none⟩ (.int .i64 aB)).alloc X)) := fun X => (below_set2 HB1.out HG.out _ _).alloc (by have := HB1.out.size; simp; omega) X
    have HN : Hid (¬ cB = 0) := h0
    have HK : Hid (dvC p xs ms = cB ∧ powA p xs ms = aB) := by
      unfold dvC powA
      rw [HC.out.1, HC.out.2, if_neg h0, if_neg h0]
      exact ⟨rfl, rfl⟩
    obtain ⟨l4, d0, d1, f0, f1⟩ := hF
    go_wp2
    go_region
    all_goals
      go_wp2
      refine bodyPost_ret (v := .tuple #[.slice none 0 0, .slice none 0 0, Flt cB aB]) (by simp [results, go_sem, loadVar, World.cell?_setCell_same, World.cell?_setCell_other, *]; try rfl) rfl ?_
      exact .fail HN.out HK.out.1 HK.out.2 (by first | exact HR.out _ | exact (HR.out _).drew)
end Go.Proofs.YtffdemplaodbcaaDoor
namespace Go.Proofs.YtffdemplaodbcaaDoor
open Go Go.Proofs Go.RowKit Go.Rad

/-- A polynomial modulo p that is written as it should be. -/
structure IsP (p : Int) (x : List Int) : Prop where
  bd : ∀ j, 0 ≤ x.getD j 0 ∧ x.getD j 0 < p
  top : 0 < x.length → x.getD (x.length - 1) 0 ≠ 0
theorem Nrm.isP {p : Int} {t : Nat → Int} {z : List Int} (hp : 0 < p) (h : Nrm p t z) : IsP p z :=
  ⟨fun j => by rw [← row_getD, h.eq]; exact ⟨Int.emod_nonneg _ (by omega), Int.emod_lt_of_pos _ hp⟩, h.top⟩
theorem Nrm.len {p : Int} {t : Nat → Int} {z : List Int} {n : Nat} (h : Nrm p t z) (ht : ∀ j, n ≤ j → t j % p = 0) : z.length ≤ n := by
  rcases Nat.lt_or_ge n z.length with h1 | h1
  · exfalso
    have h2 := h.top (by omega)
    rw [← row_getD, h.eq, ht _ (by omega)] at h2
    exact h2 rfl
  · exact h1
/-- z is x over its last coefficient; 0 of 0. -/
inductive IsMon (p : Int) (x z : List Int) : Prop
  | nil (hx : x = []) (hz : z = [])
  | mk (r : Int) (h0 : 0 < x.length) (hr : 0 < r) (hr2 : r < p) (h1 : r * x.getD (x.length - 1) 0 % p = 1) (hz : Nrm p (fun j => r * row x j) z)
inductive MonPost (w : World) (p : Int) (x : List Int) (e : Ending) (w' : World) : Prop
  | mk (u : Value) (z : List Int) (he : e = .returned u) (hS : SR w' w.heap.size u z) (hb : Below w.heap.size w w') (hm : IsMon p x z)
/-- What monic's sums are. -/
inductive MonS (w : World) (p q : Int) (x : List Int) (b4 bn n : Nat) (wx : World) : Prop
  | mk (r : Int) (h : Nat → Int) (hr0 : 0 < r) (hr1 : r < p) (hrk : ∃ k, x.getD (x.length - 1) 0 * r = 1 + k * p) (hS : SR wx w.heap.size (.slice (some ⟨bn, 0, none⟩) n n) (lst h n)) (hB : Below w.heap.size w wx)
      (hh : ∀ i, 0 ≤ h i ∧ h i < q ∧ h i % p = r * x.getD i 0 % p) (e0 : wx.cell? ⟨b4, 0, none⟩ = some (.int .i64 p)) (e1 : wx.cell? ⟨b4, 1, none⟩ = some (.int .i64 q))
set_option maxRecDepth 10000 in
set_option maxHeartbeats 2000000 in
theorem monic_any (w : World) (p q : Int) (v : Value) (x : List Int) (hv : VW w v x) (hq : q = p * p) (hp : 1 < p ∧ p < 2147483648) (hx : ∀ j, 0 ≤ x.getD j 0 ∧ x.getD j 0 < p)
    (hg : 0 < x.length → Int.gcd (x.getD (x.length - 1) 0) p = 1) (ht : 0 < x.length → x.getD (x.length - 1) 0 ≠ 0) (hl : x.length ≤ 1048576) :
    Calls Tryd.prog 45 #[FV p q, v] w fun e w' => MonPost w p x e w' := by
  obtain ⟨a, b, o, c, rfl, ha, hA⟩ := hv
  obtain ⟨n, hn⟩ : ∃ n, x.length = n := ⟨_, rfl⟩
  rw [hn] at ha hA hl hg ht ⊢
  have HN : Hid (x.length = n) := hn
  have HA : Hid (AR w b o n (fun j => x.getD j 0)) := hA
  have HX : Hid (∀ j, 0 ≤ x.getD j 0 ∧ x.getD j 0 < p) := hx
  have HQ : Hid (q = p * p) := hq
  have hqq := sq_lt (by omega : (0 : Int) ≤ p) hp.2 (by omega) hp.2
  rw [← hq] at hqq
  have hpq : p ≤ q := by
    have h9 := Int.mul_le_mul_of_nonneg_left (show 1 ≤ p by omega) (show 0 ≤ p by omega)
    rw [Int.mul_one, ← hq] at h9
    exact h9
  clear hn hA hx hq
  have hz0 : n = 0 ∨ 0 < n := by omega
  go_enter Tryd.func45, Tryd.ntmps45
  go_upto_region 2 with (at_make; refine wpList_makeI rfl _ _ rfl _ n rfl rfl (by first | rfl | omega) (by omega) ?_; intro w3 ho3 hb3)
  have hB3 : Below w.heap.size w w3 := (bel1 w _).trans (hb3.mono (by simp))
  have c0 : w3.cell? ⟨w.heap.size, 0, none⟩ = some (.int .i64 p) := (hb3.cell (p := ⟨w.heap.size, 0, none⟩) (by simp)).trans (by simp [go_sem])
  have c1' : w3.cell? ⟨w.heap.size, 1, none⟩ = some (.int .i64 q) := (hb3.cell (p := ⟨w.heap.size, 1, none⟩) (by simp)).trans (by simp [go_sem])
  have hl3 : w.heap.size < w3.heap.size := by have := hb3.size; simp at this; omega
  have ho : OA w3 w.heap.size (w.heap.size + 1) n (fun _ => 0) := by
    have h9 := ho3.mono (C := w.heap.size) (by simp)
    simpa using h9
  obtain ⟨bn, hbn⟩ : ∃ x, x = w.heap.size + 1 := ⟨_, rfl⟩
  obtain ⟨b4, hb4⟩ : ∃ x, x = w.heap.size := ⟨_, rfl⟩
  rw [← hbn] at ho ⊢
  rw [← hb4] at c0 c1' hl3 ⊢
  have HBN : Hid (bn = w.heap.size + 1 ∧ b4 = w.heap.size) := ⟨hbn, hb4⟩
  have HB3 : Hid (Below w.heap.size w w3) := hB3
  have HO : Hid (OA w3 w.heap.size bn n (fun _ => 0)) := ho
  clear ho3 hb3 hB3 hbn hb4 ho
  by_cases h0 : n = 0
  · subst h0
    have hx0 : x = [] := List.length_eq_zero_iff.1 HN.out
    have h00 : ¬ (0 : Int) < 0 := by omega
    go_wp2_with (go_at_call 32; fail)
    refine (settled_zero w3 p q _ 0).mono ?_
    rintro e w4 ⟨rfl, hb4⟩
    have R : Hid (MonPost w p x (.returned (.slice (some ⟨bn, 0, none⟩) 0 0)) w4) := .mk _ [] rfl (.nil _ 0 rfl rfl) (HB3.out.trans (hb4.mono HB3.out.size)) (.nil hx0 rfl)
    clear hb4
    go_wp2
    refine bodyPost_ret (v := .slice (some ⟨bn, 0, none⟩) 0 0) (by simp [results, go_sem, loadVar]) rfl ?_
    exact R.out
  · have hn0 : 0 < n := by omega
    obtain rfl := ha hn0
    obtain ⟨m, hm⟩ : ∃ m, n = m + 1 := ⟨n - 1, by omega⟩
    have HM : Hid (n = m + 1) := hm
    have hb : b < w.heap.size := HA.out.lt hn0
    have HBB : Hid (bn ≠ b) := by have := HBN.out.1; show _ ≠ _; omega
    have hm1 : (n : Int) - 1 = (m : Int) := by omega
    have hmn : (m : Int) < (n : Int) := by omega
    have hmn' : m < n := by omega
    obtain ⟨d, hd⟩ : ∃ d, x.getD m 0 = d := ⟨_, rfl⟩
    have hdb := HX.out m
    have hd0 := ht hn0
    have hdg := hg hn0
    rw [hm, Nat.add_sub_cancel, hd] at hd0 hdg
    rw [hd] at hdb
    have cm : w3.cell? ⟨b, o + m, none⟩ = some (.int .i64 d) := by rw [← hd]; exact (HA.out.below HB3.out) m hmn'
    have HD : Hid (x.getD m 0 = d) := hd
    have CI := fun wx => inverse_any wx p q d hp.2 (by omega) hdb.2 hdg
    clear hd hg ht hdg hm hz0 ha
    have hm0 : (0 : Int) < (n : Int) := by omega
    have hwm : wrap64 (m : Int) = (m : Int) := wrap_in (by omega) (by omega)
    have hwk : IntKind.i64.wrap (m : Int) = (m : Int) := by rw [IntKind.wrap_i64]; unfold wrap64 at hwm; omega
    clear hwm
    have CG := fun (wx : World) (hbx : Below w3.heap.size w3 wx) (r : Int) (hr0 : 0 < r) (hr1 : r < p) => gather_any wx p q r (some ⟨bn, 0, none⟩) (some ⟨b, o, none⟩) bn 0 n n b o n c (fun _ => 0) (fun j => x.getD j 0) (fun _ => rfl) (fun _ => rfl)
      (Nat.le_refl _) (Nat.le_refl _) (Nat.lt_of_lt_of_le HO.out.lt hbx.size) (HO.out.c.below hbx) (fun i hi => (hbx.frozen (p := ⟨bn, 0 + i, none⟩) HO.out.lt).trans (HO.out.z i hi)) ((HA.out.below HB3.out).below hbx) (fun _ => HBB.out) ⟨by omega, hqq.2⟩ (by omega)
      (fun i _ => by show (0 : Int) ≤ 0 ∧ (0 : Int) < q; omega) (fun i _ => by
        have h3 := HX.out i
        have h4 := mul_lt_sq (p := p) (by omega : 0 ≤ r) hr1 h3.1 h3.2
        rw [← HQ.out] at h4
        exact h4)
    go_upto_if 11 with fail
    go_cut [] from 12 to 23 (fun wx => MonS w p q x b4 bn n wx)
    case first =>
      go_wp2_with fail
      go_region_with (first
        | (go_at_call 58
           refine (CI _).mono ?_
           rintro e w5 ⟨r, rfl, hr0, hr1, hrk, hb5⟩
           have HB5 : Hid (Below w3.heap.size w3 w5) := (bel_drew w3).trans hb5
           have HR : Hid (∃ k, d * r = 1 + k * p) := hrk
           have f0 : w5.cell? ⟨b4, 0, none⟩ = some (.int .i64 p) := (HB5.out.cell (p := ⟨b4, 0, none⟩) hl3).trans c0
           have f1 : w5.cell? ⟨b4, 1, none⟩ = some (.int .i64 q) := (HB5.out.cell (p := ⟨b4, 1, none⟩) hl3).trans c1'
           clear hb5 hrk)
        | (go_at_call 57
           refine (CG w5 HB5.out r hr0 hr1).mono ?_
           rintro e w6 ⟨rfl, hC6, hA6⟩
           have HC6 : Hid (Chg w5 w6 bn 0 (0 + n)) := hC6
           have HA6 : Hid (AR w6 bn 0 n fun i => gq q (0 + r * x.getD i 0)) := hA6
           have hl5 : b4 < w5.heap.size := Nat.lt_of_lt_of_le hl3 HB5.out.size
           have hne4 : b4 ≠ bn := by have := HBN.out; omega
           have e0 : w6.cell? ⟨b4, 0, none⟩ = some (.int .i64 p) := (hC6.cellAt hl5 (.inl hne4)).trans f0
           have e1 : w6.cell? ⟨b4, 1, none⟩ = some (.int .i64 q) := (hC6.cellAt hl5 (.inl hne4)).trans f1
           obtain ⟨h, he⟩ : ∃ h : Nat → Int, ∀ i, h i = gq q (0 + r * x.getD i 0) := ⟨_, fun _ => rfl⟩
           have HE : Hid (∀ i, h i = gq q (0 + r * x.getD i 0)) := he
           have hB6 : Below w.heap.size w w6 := (HB3.out.trans (HB5.out.mono HB3.out.size)).trans (HC6.out.below HO.out.base (Nat.le_trans HB3.out.size HB5.out.size))
           have HB6 : Hid (Below w.heap.size w w6) := hB6
           have S6 : SR w6 w.heap.size (.slice (some ⟨bn, 0, none⟩) n n) (lst h n) := sr_lst (fun _ => rfl) (Nat.le_refl _) HO.out.base (Nat.lt_of_lt_of_le HO.out.lt (Nat.le_trans HB5.out.size HC6.out.size)) (fun i hi => by rw [HE.out]; exact HA6.out i hi)
             (fun i hi => by
               rw [HC6.out.froz]
               exact (HB5.out.frozen (p := ⟨bn, 0 + i, none⟩) HO.out.lt).trans (HO.out.z i hi))
           have HM6 : Hid (∀ i, 0 ≤ gq q (0 + r * x.getD i 0) ∧ gq q (0 + r * x.getD i 0) < q ∧ gq q (0 + r * x.getD i 0) % p = r * x.getD i 0 % p) := fun i => by
             have h3 := HX.out i
             have h4 := mul_lt_sq (p := p) (by omega : 0 ≤ r) hr1 h3.1 h3.2
             rw [← HQ.out] at h4
             have h5 := gq_ok (p := p) (s := 0 + r * x.getD i 0) HQ.out (by omega) (by omega) (by omega)
             rw [Int.zero_add] at h5 ⊢
             exact h5
           have HP : Hid (MonS w p q x b4 bn n w6) := .mk r h hr0 hr1 (by rw [HN.out, HM.out, Nat.add_sub_cancel, HD.out]; exact HR.out) S6 hB6 (fun i => by rw [HE.out]; exact HM6.out i) e0 e1
           clear hC6 hA6 f0 f1 hne4 hl5 he S6 hB6 HE HM6 HB6))
      all_goals
        go_wp2_with fail
        go_meet
        case rel => exact HP.out
    case rest =>
    obtain ⟨r, h, hr0, hr1, hrk, hS6, hB6, hh, e0, e1⟩ := hcut
    have HB6 : Hid (Below w.heap.size w wc) := hB6
    have HHH : Hid (∀ i, 0 ≤ h i ∧ h i < q ∧ h i % p = r * x.getD i 0 % p) := hh
    have HR : Hid (r * x.getD (x.length - 1) 0 % p = 1) := by
      obtain ⟨k, hk⟩ := hrk
      show _ = _
      rw [Int.mul_comm, hk, Int.add_mul_emod_self_right]
      exact Int.emod_eq_of_lt (by omega) (by omega)
    have CS := settled_sr wc p q w.heap.size _ _ hS6 hB6.size ⟨by omega, hp.2⟩ (fun j => by
      rw [lst_getD]; unfold cut
      split
      · have := HHH.out j; omega
      · omega) (by rw [lst_length]; omega)
    clear hrk hS6 hB6 hh c0 c1' cm
    go_wp2_with (go_at_call 32; fail)
    refine CS.mono ?_
    rintro e w7 ⟨u, z, rfl, hS7, hb7, hN7⟩
    have R : Hid (MonPost w p x (.returned u) w7) := by
      refine .mk u z rfl hS7 (HB6.out.trans hb7) (.mk r (by rw [HN.out]; exact hn0) hr0 hr1 HR.out ⟨fun j => ?_, hN7.top⟩)
      rw [hN7.eq, row_lst]; unfold cut
      by_cases hj : j < n
      · rw [if_pos hj, (HHH.out j).2.2, row_getD]
      · rw [if_neg hj, row_getD, getD_of_ge x j (by rw [HN.out]; omega), Int.mul_zero]
    clear hS7 hb7 hN7 CS
    go_wp2
    refine bodyPost_ret (v := u) (by simp [results, go_sem, loadVar]) rfl ?_
    exact R.out
end Go.Proofs.YtffdemplaodbcaaDoor
namespace Go.Proofs.YtffdemplaodbcaaDoor
open Go Go.Proofs Go.RowKit Go.Rad

set_option maxRecDepth 10000 in
set_option maxHeartbeats 1000000 in
theorem mat_any (w : World) (v : Value) (xs : List Int) (k : Int) (h : VW w v xs) (hl : xs.length ≤ 1048576) :
    Calls Tryd.prog 38 #[v, .int .i64 k] w fun e w' => e = .returned (.int .i64 (if k < 0 then 0 else xs.getD k.toNat 0)) ∧ Below w.heap.size w w' := by
  obtain ⟨a, b, o, c, rfl, ha, hA⟩ := h
  obtain ⟨n, hn⟩ : ∃ n, xs.length = n := ⟨_, rfl⟩
  rw [hn] at ha hA hl ⊢
  have HN : Hid (xs.length = n) := hn
  clear hn
  have HA : Hid (AR w b o n (fun j => xs.getD j 0)) := hA
  clear hA
  obtain ⟨R, hR⟩ : ∃ R, (if k < 0 then 0 else xs.getD k.toNat 0) = R := ⟨_, rfl⟩
  rw [hR]
  have HR : Hid ((if k < 0 then 0 else xs.getD k.toNat 0) = R) := hR
  clear hR
  go_enter Tryd.func38, Tryd.ntmps38
  by_cases h0 : k < 0
  · have e0 : R = 0 := by rw [← HR.out, if_pos h0]
    clear HR
    go_wp2
    refine bodyPost_ret (v := .int .i64 0) (by simp [results, go_sem, loadVar]) rfl ?_
    exact ⟨by first | rfl | rw [e0], Below.refl _ _⟩
  · by_cases h1 : (n : Int) ≤ k
    · have e0 : R = 0 := by rw [← HR.out, if_neg h0, getD_of_ge xs _ (by have := HN.out; omega)]
      clear HR
      go_wp2
      refine bodyPost_ret (v := .int .i64 0) (by simp [results, go_sem, loadVar]) rfl ?_
      exact ⟨by first | rfl | rw [e0], Below.refl _ _⟩
    · obtain ⟨j, rfl⟩ : ∃ j : Nat, k = j := ⟨k.toNat, by omega⟩
      obtain rfl := ha (by omega)
      have e0 : xs.getD j 0 = R := by rw [← HR.out, if_neg h0, Int.toNat_natCast]
      have hc : w.cell? ⟨b, o + j, none⟩ = some (.int .i64 R) := by rw [← e0]; exact HA.out j (by omega)
      clear HR e0
      have h2 : (j : Int) < (n : Int) := by omega
      go_wp2
      refine bodyPost_ret (v := .int .i64 R) (by simp [results, go_sem, loadVar]) rfl ?_
      exact ⟨rfl, Below.refl _ _⟩
theorem tmod_pos {a m : Int} (hm : 0 < m) : a % m = (if a.tmod m < 0 then a.tmod m + m else a.tmod m) ∧ -m < a.tmod m ∧ a.tmod m < m := by
  have h1 := Int.mul_tdiv_add_tmod a m
  have h2 := Int.tmod_lt_of_pos a hm
  have h3 := Int.tmod_lt_of_pos (-a) hm
  rw [Int.neg_tmod] at h3
  obtain ⟨T, hT⟩ : ∃ T, a.tmod m = T := ⟨_, rfl⟩
  rw [hT] at h1 h2 h3 ⊢
  have e : a % m = T % m := by
    rw [← h1, Int.mul_add_emod_self_left]
  refine ⟨?_, by omega, h2⟩
  rw [e]
  split
  · rw [← Int.add_emod_right, Int.emod_eq_of_lt (by omega) (by omega)]
  · rw [Int.emod_eq_of_lt (by omega) h2]
set_option maxRecDepth 10000 in
set_option maxHeartbeats 1000000 in
theorem mod_any (w : World) (a m : Int) (hm : 0 < m) (hm2 : m < 2147483648) :
    Calls Tryd.prog 63 #[.int .i64 a, .int .i64 m] w fun e w' => e = .returned (.int .i64 (a % m)) ∧ Below w.heap.size w w' := by
  obtain ⟨h1, h2, h3⟩ := tmod_pos (a := a) hm
  obtain ⟨R, hR⟩ : ∃ R, a % m = R := ⟨_, rfl⟩
  rw [hR] at h1 ⊢
  obtain ⟨T, hT⟩ : ∃ T, a.tmod m = T := ⟨_, rfl⟩
  rw [hT] at h1 h2 h3
  have HR : Hid (R = if T < 0 then T + m else T) := h1
  clear h1 hR
  go_enter Tryd.func63, Tryd.ntmps63
  by_cases h0 : T < 0
  · have e0 : R = T + m := by rw [HR.out, if_pos h0]
    have hw : wrap64 (T + m) = T + m := by unfold wrap64; omega
    clear HR
    go_wp2
    refine bodyPost_ret (v := .int .i64 (T + m)) (by simp [results, go_sem, loadVar]) rfl ?_
    exact ⟨by first | rfl | rw [e0], Below.refl _ _⟩
  · have e0 : R = T := by rw [HR.out, if_neg h0]
    clear HR
    go_wp2
    refine bodyPost_ret (v := .int .i64 T) (by simp [results, go_sem, loadVar]) rfl ?_
    exact ⟨by first | rfl | rw [e0], Below.refl _ _⟩
set_option maxRecDepth 10000 in
set_option maxHeartbeats 1000000 in
theorem same_any (w : World) (v1 v2 : Value) (xs ys : List Int) (h1 : VW w v1 xs) (h2 : VW w v2 ys) (hl : xs.length ≤ 17592186044416) (hl2 : ys.length ≤ 17592186044416) :
    Calls Tryd.prog 14 #[v1, v2] w fun e w' => BoolIs w (xs = ys) e w' := by
  obtain ⟨a, b, o, c, rfl, ha, hA⟩ := h1
  obtain ⟨a2, b2, o2, c2, rfl, ha2, hA2⟩ := h2
  obtain ⟨n, hn⟩ : ∃ n, xs.length = n := ⟨_, rfl⟩
  obtain ⟨n2, hn2⟩ : ∃ n, ys.length = n := ⟨_, rfl⟩
  rw [hn] at ha hA hl ⊢
  rw [hn2] at ha2 hA2 hl2 ⊢
  have HN : Hid (xs.length = n ∧ ys.length = n2) := ⟨hn, hn2⟩
  clear hn hn2
  have HA : Hid (AR w b o n (fun j => xs.getD j 0)) := hA
  have HA2 : Hid (AR w b2 o2 n2 (fun j => ys.getD j 0)) := hA2
  clear hA hA2
  go_enter Tryd.func14, Tryd.ntmps14
  by_cases h0 : n = n2
  · subst h0
    go_wp2
    go_loopw [5] (fun i wr => ∃ k : Nat, k ≤ n ∧ i = .int .i64 k ∧ (∀ j, j < k → xs.getD j 0 = ys.getD j 0) ∧ Below w.heap.size w wr) (fun i _ => n - (Lib.intOf i).toNat)
    case atStart => exact ⟨0, by omega, rfl, fun j hj => by omega, Below.refl _ _⟩
    case round =>
      obtain ⟨k, hk, rfl, he, hB⟩ := hrel
      have HE : Hid (∀ j, j < k → xs.getD j 0 = ys.getD j 0) := he
      have HB : Hid (Below w.heap.size w wr) := hB
      clear he hB
      by_cases hkn : k < n
      · have hki : (k : Int) < (n : Int) := by omega
        obtain rfl := ha (by omega)
        obtain rfl := ha2 (by omega)
        obtain ⟨x, hx⟩ : ∃ x, xs.getD k 0 = x := ⟨_, rfl⟩
        obtain ⟨y, hy⟩ : ∃ y, ys.getD k 0 = y := ⟨_, rfl⟩
        have c1 : wr.cell? ⟨b, o + k, none⟩ = some (.int .i64 x) := by rw [← hx]; exact (HA.out.below HB.out) k hkn
        have c2' : wr.cell? ⟨b2, o2 + k, none⟩ = some (.int .i64 y) := by rw [← hy]; exact (HA2.out.below HB.out) k hkn
        have HXY : Hid (xs.getD k 0 = x ∧ ys.getD k 0 = y) := ⟨hx, hy⟩
        clear hx hy
        by_cases hxy : x = y
        · have HS : Hid (x = y) := hxy
          subst hxy
          have HR : Hid (∀ j, j < k + 1 → xs.getD j 0 = ys.getD j 0) := fun j hj => by
            rcases Nat.lt_or_ge j k with h | h
            · exact HE.out j h
            · obtain rfl : j = k := by omega
              rw [HXY.out.1, HXY.out.2]
          go_wp2
          go_region
          all_goals
            go_wp2
            first
            | exact ⟨⟨k + 1, by omega, by congr 1, HR.out, by first | exact HB.out | exact HB.out.drew⟩, by simp only [Lib.intOf]; omega⟩
            | (go_roundw
               case rel => exact ⟨k + 1, by omega, by first | rfl | congr 1, HR.out, by first | exact HB.out | exact HB.out.drew⟩
               case measure => simp only [Lib.intOf]; omega)
        · have hxb : (x != y) = true := by simpa using hxy
          have HNE : Hid (¬ xs = ys) := fun h => by
            have h9 := HXY.out
            rw [h] at h9
            exact hxy (h9.1.symm.trans h9.2)
          go_wp2
          go_region
          all_goals
            go_wp2
            refine bodyPost_ret (v := .bool false) (by simp [results, go_sem, loadVar]) rfl ?_
            exact ⟨false, rfl, ⟨fun h => absurd h (by decide), fun h => absurd h HNE.out⟩, by first | exact HB.out | exact HB.out.drew⟩
      · obtain rfl : k = n := by omega
        have hki : ¬ (k : Int) < (k : Int) := by omega
        have HEQ : Hid (xs = ys) := by
          have h9 := HN.out
          refine List.ext_getElem (by omega) fun i h1 h2 => ?_
          have h3 := HE.out i (by omega)
          simpa [List.getD_eq_getElem?_getD, h1, h2] using h3
        go_wp2
        refine bodyPost_ret (v := .bool true) (by simp [results, go_sem, loadVar]) rfl ?_
        exact ⟨true, rfl, ⟨fun _ => HEQ.out, fun _ => rfl⟩, HB.out⟩
  · have hne' : ¬ (n : Int) = (n2 : Int) := by omega
    have HNE : Hid (¬ xs = ys) := fun h => by
      have h9 := HN.out
      rw [h] at h9
      omega
    go_wp2
    refine bodyPost_ret (v := .bool false) (by simp [results, go_sem, loadVar]) rfl ?_
    exact ⟨false, rfl, ⟨fun h => absurd h (by decide), fun h => absurd h HNE.out⟩, Below.refl _ _⟩
end Go.Proofs.YtffdemplaodbcaaDoor
