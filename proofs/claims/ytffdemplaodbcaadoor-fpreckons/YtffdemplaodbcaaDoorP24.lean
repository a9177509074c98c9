/- A part of the proof: PK, PL, PM, QD. -/
import Derived.Test.YtffdemplaodbcaaDoorP22
import Derived.Deep.AppendLies
import Derived.Test.YtffdemplaodbcaaDoorP23
set_option linter.all false
namespace Go.Proofs.YtffdemplaodbcaaDoor
open Go Go.Proofs Go.RowKit Go.Rad

/-- The list without the noughts at its end. -/
structure Trm (xs z : List Int) : Prop where
  eq : ∀ j, z.getD j 0 = xs.getD j 0
  len : z.length ≤ xs.length
  top : 0 < z.length → z.getD (z.length - 1) 0 ≠ 0
set_option maxRecDepth 10000 in
set_option maxHeartbeats 1000000 in
theorem made_any (w : World) (B : Nat) (v : Value) (xs : List Int) (h : SR w B v xs) (hl : xs.length ≤ 1048576) :
    Calls Tryd.prog 39 #[v] w fun e w' => ∃ u z, e = .returned u ∧ SR w' B u z ∧ Below w.heap.size w w' ∧ Trm xs z := by
  cases h with
  | nil a c hv hx =>
    subst hv
    subst hx
    have hc0 : (0 : Int) ≤ (c : Int) := by omega
    go_enter Tryd.func39, Tryd.ntmps39
    go_wp2
    go_loopw [3] (fun i wr => i = .int .i64 0 ∧ Below w.heap.size w wr) (fun _ _ => 0)
    case atStart => exact ⟨rfl, Below.refl _ _⟩
    case round =>
      obtain ⟨rfl, hB⟩ := hrel
      have HB : Hid (Below w.heap.size w wr) := hB
      clear hB
      go_wp2
      refine bodyPost_ret (v := .slice a 0 c) (by simp [results, go_sem, loadVar]) rfl ?_
      exact ⟨_, [], rfl, .nil a c rfl rfl, HB.out, fun _ => rfl, Nat.le_refl _, fun h => by simp at h⟩
  | row b o c hv h0 hc hb hbl hA hz =>
    obtain ⟨n, hn⟩ : ∃ n, xs.length = n := ⟨_, rfl⟩
    rw [hn] at hv h0 hc hA hz hl
    subst hv
    have HN : Hid (xs.length = n) := hn
    have HA : Hid (AR w b o n (fun j => xs.getD j 0)) := hA
    have HZ : Hid (Free w b o n) := hz
    have HBL : Hid (b < w.heap.size ∧ B ≤ b) := ⟨hbl, hb⟩
    clear hA hz hn hbl hb
    have FIN : Hid (∀ (k : Nat) (wr : World), k ≤ n → Below w.heap.size w wr → (∀ j, k ≤ j → xs.getD j 0 = 0) → (0 < k → xs.getD (k - 1) 0 ≠ 0) → ∃ u z, Ending.returned (.slice (some ⟨b, o, none⟩) k c) = .returned u ∧ SR wr B u z ∧ Below w.heap.size w wr ∧ Trm xs z) := by
      intro k wr hk hB hz0 ht
      obtain ⟨r, re⟩ : ∃ r : Nat → Int, ∀ j, r j = xs.getD j 0 := ⟨_, fun _ => rfl⟩
      refine ⟨_, lst r k, rfl, sr_lst (fun _ => rfl) (by omega) HBL.out.2 (Nat.lt_of_lt_of_le HBL.out.1 hB.size) (fun i hi => by rw [re]; exact (HA.out.below hB) i (by omega)) (fun i hi => (hB.frozen (p := ⟨b, o + i, none⟩) HBL.out.1).trans (HZ.out i (by omega))), hB, fun j => ?_, by rw [lst_length, HN.out]; exact hk, fun h => ?_⟩
      · rw [lst_getD]; unfold cut
        by_cases hj : j < k
        · rw [if_pos hj, re]
        · rw [if_neg hj, hz0 j (by omega)]
      · rw [lst_length] at h ⊢
        rw [lst_getD]; unfold cut
        rw [if_pos (by omega), re]; exact ht h
    go_enter Tryd.func39, Tryd.ntmps39
    go_wp2
    go_loopw [3] (fun i wr => ∃ k : Nat, k ≤ n ∧ i = .int .i64 k ∧ (∀ j, k ≤ j → xs.getD j 0 = 0) ∧ Below w.heap.size w wr) (fun i _ => (Lib.intOf i).toNat)
    case atStart => exact ⟨n, Nat.le_refl _, rfl, fun j hj => getD_of_ge xs j (by rw [HN.out]; exact hj), Below.refl _ _⟩
    case round =>
      obtain ⟨k, hk, rfl, he, hB⟩ := hrel
      have HE : Hid (∀ j, k ≤ j → xs.getD j 0 = 0) := he
      have HB : Hid (Below w.heap.size w wr) := hB
      clear he hB
      have hkc : (k : Int) ≤ (c : Int) := by omega
      cases k with
      | zero =>
        have R := FIN.out 0 wr (by omega) HB.out HE.out (fun h => by omega)
        have R : Hid _ := R
        have hkc' : (0 : Int) ≤ (c : Int) := by omega
        go_wp2
        refine bodyPost_ret (v := .slice (some ⟨b, o, none⟩) 0 c) (by simp [results, go_sem, loadVar]) rfl ?_
        exact R.out
      | succ j =>
        obtain ⟨x, hx⟩ : ∃ x, xs.getD j 0 = x := ⟨_, rfl⟩
        have c1 : wr.cell? ⟨b, o + j, none⟩ = some (.int .i64 x) := by rw [← hx]; exact (HA.out.below HB.out) j (by omega)
        have HX : Hid (xs.getD j 0 = x) := hx
        clear hx
        have hj1 : ((j + 1 : Nat) : Int) - 1 = (j : Int) := by omega
        have hjn : (j : Int) < (n : Int) := by omega
        rw [show ((j + 1 : Nat) : Int) = (j : Int) + 1 by omega] at hkc ⊢
        have hj0 : (0 : Int) < (j : Int) + 1 := by omega
        by_cases hx0 : x = 0
        · have HR : Hid (∀ i, j ≤ i → xs.getD i 0 = 0) := fun i hi => by
            rcases Nat.lt_or_ge j i with h | h
            · exact HE.out i h
            · obtain rfl : i = j := by omega
              rw [HX.out, hx0]
          subst hx0
          go_wp2
          first
          | exact ⟨⟨j, by omega, rfl, HR.out, HB.out⟩, by simp only [Lib.intOf]; omega⟩
          | (go_roundw
             case rel => exact ⟨j, by omega, rfl, HR.out, HB.out⟩
             case measure => simp only [Lib.intOf]; omega)
        · have R := FIN.out (j + 1) wr (by omega) HB.out HE.out (fun h => by rw [Nat.add_sub_cancel, HX.out]; exact hx0)
          have R : Hid _ := R
          have hxb : (x == 0) = false := by simpa using hx0
          go_wp2
          refine bodyPost_ret (v := .slice (some ⟨b, o, none⟩) (j + 1) c) (by simp [results, go_sem, loadVar]) rfl ?_
          exact R.out
end Go.Proofs.YtffdemplaodbcaaDoor
namespace Go.Proofs.YtffdemplaodbcaaDoor
open Go Go.Proofs Go.RowKit Go.Rad

/-- The first n products that fall on place k, by the places of the first factor. -/
def smp (x y : List Int) (k : Nat) : Nat → Int
  | 0 => 0
  | n + 1 => smp x y k n + x.getD n 0 * y.getD (k - n) 0
theorem smp_nil (y : List Int) (k : Nat) : ∀ n, smp [] y k n = 0
  | 0 => rfl
  | n + 1 => by
    show smp [] y k n + ([] : List Int).getD n 0 * _ = 0
    rw [smp_nil y k n, getD_of_ge [] n (Nat.zero_le _), Int.zero_mul, Int.zero_add]
theorem smp_cons (a : Int) (x y : List Int) (k : Nat) : ∀ n, smp (a :: x) y (k + 1) (n + 1) = a * y.getD (k + 1) 0 + smp x y k n
  | 0 => by
    show 0 + a * y.getD (k + 1) 0 = a * y.getD (k + 1) 0 + 0
    omega
  | n + 1 => by
    have e1 : smp (a :: x) y (k + 1) (n + 1 + 1) = smp (a :: x) y (k + 1) (n + 1) + x.getD n 0 * y.getD (k + 1 - (n + 1)) 0 := rfl
    have e2 : smp x y k (n + 1) = smp x y k n + x.getD n 0 * y.getD (k - n) 0 := rfl
    rw [e1, e2, smp_cons a x y k n, show k + 1 - (n + 1) = k - n by omega]
    omega
theorem smp_row : ∀ (x y : List Int) (k : Nat), smp x y k (k + 1) = row (pmul x y) k
  | [], y, k => by rw [smp_nil]; rfl
  | a :: x, y, 0 => by
    show 0 + a * y.getD 0 0 = row (pmul (a :: x) y) 0
    have e : row (pmul (a :: x) y) 0 = a * row y 0 + 0 := by rw [row_pmul]; rfl
    rw [e, row_getD]; omega
  | a :: x, y, k + 1 => by
    have e : row (pmul (a :: x) y) (k + 1) = a * row y (k + 1) + act x (row y) k := by rw [row_pmul]; rfl
    rw [smp_cons, e, smp_row x y k, row_pmul, row_getD]
theorem row_pmul_ge (x y : List Int) (j : Nat) (h : x.length + y.length ≤ j + 1) : row (pmul x y) j = 0 := by
  have e1 : row (pmul x y) j = cvp (fun j => x.getD j 0) (fun j => y.getD j 0) y.length x.length j := by
    rw [row_pmul, ← act_row_lst, lst_self, lst_self]
  rw [e1, cvp_zero _ _ _ _ _ h]
theorem Trm.nrm {p : Int} {t : Nat → Int} {xs z : List Int} (h : Trm xs z) (hx : ∀ j, xs.getD j 0 = t j % p) : Nrm p t z := ⟨fun j => by rw [row_getD, h.eq, hx], h.top⟩
end Go.Proofs.YtffdemplaodbcaaDoor
namespace Go.Proofs.YtffdemplaodbcaaDoor
open Go Go.Proofs Go.RowKit Go.Rad

/-- A list of the call's own, that append lengthens. -/
def OWI (w : World) (B : Nat) (v : Value) (xs : List Int) : Prop := w.ownsRow B 3 1 v xs.length (xs.map (Value.int .i64))
theorem OWI.nil (w : World) (B : Nat) : OWI w B (.slice none 0 0) [] := ⟨rfl, .inl ⟨rfl, rfl⟩⟩
theorem OWI.below {w w' : World} {B : Nat} {v : Value} {xs : List Int} (h : OWI w B v xs) (hb : Below w.heap.size w w') : OWI w' B v xs := by
  refine ⟨h.1, ?_⟩
  rcases h.2 with h1 | ⟨g, cap, cur, hv, hB, hg, h2⟩
  · exact .inl h1
  · exact .inr ⟨g, cap, cur, hv, hB, (hb.block g (Array.getElem?_eq_some_iff.1 hg).1).trans hg, h2⟩
theorem wpList_appendI {w : World} {ops : Array Oper} {rest : List Oper} {o : Oper} {a : Act} {Q : Exit → Act → World → Prop} (hgd : o.guard = none) (s x : Operand)
    (ho : o.op = .call { callee := .builtin .append, args := #[s, x], argTypes := #[22, 22] }) {B : Nat} {v : Value} {xs : List Int} (hs : a.eval s = v) (hown : OWI w B v xs) (g7 m7 : Nat) (c : Int)
    (hx : a.eval x = .slice (some ⟨g7, 0, none⟩) 1 m7) (hc : w.cell? ⟨g7, 0, none⟩ = some (.int .i64 c)) (hl : xs.length ≤ 1048576) (hB : B ≤ w.heap.size)
    (h : ∀ v' w', OWI w' B v' (xs ++ [c]) → Below B w w' → wpList Tryd.prog ops Q rest (a.put o.dst v') w') : wpList Tryd.prog ops Q (o :: rest) a w := by
  obtain ⟨i, hi0, hi1⟩ := Option.map_eq_some_iff.1 info3
  simp only [Prod.mk.injEq] at hi1
  obtain ⟨z0, z1, z2⟩ := hi1
  obtain ⟨g, cap, w', hrun, hrow, hgr, hg, hlt⟩ := run_append_lies (P := Tryd.prog) w 22 o.type B 3 i (.int .i64 0) 1 8 Tryd.underlying22 hi0 z0 z1 z2 rfl (by omega) v xs.length _ hown ⟨g7, 0, none⟩ 1 m7 [.int .i64 c] rfl
    (fun j u hj => by
      cases j with
      | zero =>
        simp at hj
        subst hj
        exact hc
      | succ j => simp at hj) (fun u hu => by simp at hu; subst hu; rfl) (by omega) (by unfold maxLen; omega) (by omega) hB w.heap.size rfl
  refine wpList_plain hgd fun K hK => ?_
  unfold Oper.wp execOp
  simp only [ho, resolve, invoke, builtin, Sem.run_bind, Sem.run_pure, Result.andThen_ok, List.map_toArray, List.map_cons, List.map_nil, hs, hx, hrun]
  refine hK _ _ (h _ _ ?_ ?_)
  · unfold OWI
    rw [List.length_append, List.map_append]
    exact hrow
  · refine ⟨hgr.os, hgr.tape, hgr.output, hgr.size, fun k hk => hgr.block k (by omega) (fun he => ?_)⟩
    rcases hown.2 with ⟨hv, _⟩ | ⟨g', cap', cur, hv, hb, _⟩
    · rw [hv] at he; cases he
    · rw [hv] at he
      have : k = g' := by simpa [Value.ownBlock] using he
      omega
theorem mat_nat (w : World) (v : Value) (xs : List Int) (k : Nat) (h : VW w v xs) (hl : xs.length ≤ 1048576) :
    Calls Tryd.prog 38 #[v, .int .i64 k] w fun e w' => e = .returned (.int .i64 (xs.getD k 0)) ∧ Below w.heap.size w w' := by
  have h1 := mat_any w v xs k h hl
  rw [if_neg (by omega), Int.toNat_natCast] at h1
  exact h1
set_option maxRecDepth 10000 in
set_option maxHeartbeats 1000000 in
theorem mmul_any (w : World) (v1 v2 : Value) (xs ys : List Int) (p : Int) (h1 : VW w v1 xs) (h2 : VW w v2 ys) (hp : 0 < p ∧ p < 2147483648) (hx : ∀ j, 0 ≤ xs.getD j 0 ∧ xs.getD j 0 < p) (hy : ∀ j, 0 ≤ ys.getD j 0 ∧ ys.getD j 0 < p)
    (hl1 : xs.length ≤ 1000) (hl2 : ys.length ≤ 1000) :
    Calls Tryd.prog 15 #[v1, v2, .int .i64 p] w fun e w' => ∃ u z, e = .returned u ∧ SR w' w.heap.size u z ∧ Below w.heap.size w w' ∧ Nrm p (row (pmul xs ys)) z := by
  have C1 := fun wx (hb : Below w.heap.size w wx) k => mat_nat wx v1 xs k (h1.below hb) (by omega)
  have C2 := fun wx (hb : Below w.heap.size w wx) k => mat_nat wx v2 ys k (h2.below hb) (by omega)
  obtain ⟨a, b, o, c, rfl, -, -⟩ := h1
  obtain ⟨a2, b2, o2, c2, rfl, -, -⟩ := h2
  have HX : Hid (∀ j, 0 ≤ xs.getD j 0 ∧ xs.getD j 0 < p) := hx
  have HY : Hid (∀ j, 0 ≤ ys.getD j 0 ∧ ys.getD j 0 < p) := hy
  obtain ⟨n1, hn1⟩ : ∃ n, xs.length = n := ⟨_, rfl⟩
  obtain ⟨n2, hn2⟩ : ∃ n, ys.length = n := ⟨_, rfl⟩
  rw [hn1] at C1 hl1 ⊢
  rw [hn2] at C2 hl2 ⊢
  have HN : Hid (xs.length = n1 ∧ ys.length = n2) := ⟨hn1, hn2⟩
  clear hx hy hn1 hn2
  go_enter Tryd.func15, Tryd.ntmps15
  go_wp2
  go_loopw [7, 8] (fun s i wr => ∃ (k : Nat) (zs : List Int), k ≤ n1 + n2 ∧ i = .int .i64 k ∧ OWI wr w.heap.size s zs ∧ zs.length = k ∧ (∀ j, j < k → zs.getD j 0 = row (pmul xs ys) j % p) ∧ Below w.heap.size w wr) (fun _ i _ => n1 + n2 - (Lib.intOf i).toNat)
  case atStart => exact ⟨0, [], by omega, rfl, OWI.nil _ _, rfl, fun j hj => by omega, Below.refl _ _⟩
  case round =>
    obtain ⟨k, zs, hk, rfl, hO, hzl, hzs, hB⟩ := hrel
    have HO : Hid (OWI wr w.heap.size _ zs) := hO
    have HZL : Hid (zs.length = k) := hzl
    have HZS : Hid (∀ j, j < k → zs.getD j 0 = row (pmul xs ys) j % p) := hzs
    have HB : Hid (Below w.heap.size w wr) := hB
    clear hO hzl hzs hB
    by_cases hkn : k < n1 + n2
    · have hki : (k : Int) < (n1 : Int) + (n2 : Int) := by omega
      obtain ⟨wo, rfl⟩ : ∃ x, x = wr := ⟨_, rfl⟩
      go_wp2
      go_loopw [9, 10] (fun s i wq => ∃ (m : Nat) (S : Int), m ≤ k + 1 ∧ i = .int .i64 m ∧ s = .int .i64 S ∧ S = smp xs ys k m % p ∧ Below wo.heap.size wo wq) (fun _ i _ => k + 1 - (Lib.intOf i).toNat)
      case atStart => exact ⟨0, 0, by omega, rfl, rfl, by show (0 : Int) = 0 % p; simp, Below.refl _ _⟩
      case round =>
        obtain ⟨m, S, hm, rfl, rfl, hS, hB⟩ := hrel
        have hSb : 0 ≤ S ∧ S < p := by rw [hS]; exact ⟨Int.emod_nonneg _ (by omega), Int.emod_lt_of_pos _ (by omega)⟩
        have HS : Hid (S = smp xs ys k m % p) := hS
        have HBq : Hid (Below wo.heap.size wo wr) := hB
        have HBw : Hid (Below w.heap.size w wr) := HB.out.trans (hB.mono HB.out.size)
        clear hS hB
        by_cases hmk : m ≤ k
        · have hmi : (m : Int) ≤ (k : Int) := by omega
          have hkm : (k : Int) - (m : Int) = ((k - m : Nat) : Int) := by omega
          go_wp2_with (go_at_call 38; fail)
          refine (C1 _ (by first | exact HBw.out | exact HBw.out.drew) m).mono ?_
          rintro e w1 ⟨rfl, hb1⟩
          have HB1 : Hid (Below w.heap.size w w1) := HBw.out.trans (hb1.mono HBw.out.size)
          have HB1q : Hid (Below wo.heap.size wo w1) := HBq.out.trans (hb1.mono HBq.out.size)
          have hXb := HX.out m
          have hYb := HY.out (k - m)
          have CC := C2 w1 HB1.out (k - m)
          obtain ⟨X, hX⟩ : ∃ X, xs.getD m 0 = X := ⟨_, rfl⟩
          obtain ⟨Y, hY⟩ : ∃ Y, ys.getD (k - m) 0 = Y := ⟨_, rfl⟩
          rw [hX] at hXb ⊢
          rw [hY] at hYb CC
          have hZb := sq_lt hXb.1 (by omega) hYb.1 (by omega)
          obtain ⟨Z, hZ⟩ : ∃ Z, X * Y = Z := ⟨_, rfl⟩
          rw [hZ] at hZb
          have HXYZ : Hid (xs.getD m 0 * ys.getD (k - m) 0 = Z) := by show _ = _; rw [hX, hY, hZ]
          clear hb1 hX hY
          go_wp2_with (go_at_call 38; fail)
          refine CC.mono ?_
          rintro e w2 ⟨rfl, hb2⟩
          have HB2q : Hid (Below wo.heap.size wo w2) := HB1q.out.trans (hb2.mono HB1q.out.size)
          have hw1 : wrap64 Z = Z := wrap_in hZb.1 (by omega)
          have hw2 : wrap64 (S + Z) = S + Z := wrap_in (by omega) (by omega)
          have hnn : 0 ≤ S + Z := by omega
          obtain ⟨T, hT⟩ : ∃ T, (S + Z) % p = T := ⟨_, rfl⟩
          have hTb : 0 ≤ T ∧ T < p := by rw [← hT]; exact ⟨Int.emod_nonneg _ (by omega), Int.emod_lt_of_pos _ (by omega)⟩
          have hw3 : wrap64 T = T := wrap_in hTb.1 (by omega)
          have HT : Hid (T = smp xs ys k (m + 1) % p) := by
            show _ = (smp xs ys k m + xs.getD m 0 * ys.getD (k - m) 0) % p
            rw [← hT, HS.out, HXYZ.out, Int.emod_add_emod]
          clear hb2 CC
          go_wp2
          first
          | exact ⟨⟨m + 1, T, by omega, by first | rfl | congr 1, congrArg (Value.int .i64) hT, HT.out, by first | exact HB2q.out | exact HB2q.out.drew⟩, by simp only [Lib.intOf]; omega⟩
          | (go_roundw
             case rel => exact ⟨m + 1, T, by omega, by first | rfl | congr 1, congrArg (Value.int .i64) hT, HT.out, by first | exact HB2q.out | exact HB2q.out.drew⟩
             case measure => simp only [Lib.intOf]; omega)
        · obtain rfl : m = k + 1 := by omega
          have hmi : ¬ ((k : Int) + 1 ≤ (k : Int)) := by omega
          rw [show ((k + 1 : Nat) : Int) = (k : Int) + 1 by omega]
          have HOq := fun X => (HO.out.below HBq.out).below (bel1 wr X)
          have hzl : zs.length ≤ 1048576 := by have := HZL.out; omega
          have hws := HBw.out.size
          go_wp2_with (refine wpList_appendI (by rfl) _ _ (by rfl) (by rfl) (HOq _) _ _ S (by rfl) (by simp [go_sem]) hzl (by simp; omega) ?_; intro v' w' h1 h2)
          have HE : ∀ j, j < k + 1 → (zs ++ [S]).getD j 0 = row (pmul xs ys) j % p := fun j hj => by
            rcases Nat.lt_or_ge j k with h | h
            · have e : (zs ++ [S]).getD j 0 = zs.getD j 0 := by
                have := HZL.out
                simp [List.getD_eq_getElem?_getD, List.getElem?_append, show j < zs.length by omega]
              rw [e, HZS.out j h]
            · obtain rfl : j = k := by omega
              have e : (zs ++ [S]).getD j 0 = S := by
                have := HZL.out
                simp [List.getD_eq_getElem?_getD, List.getElem?_append, this]
              rw [e, HS.out, smp_row]
          exact ⟨⟨k + 1, zs ++ [S], by omega, by first | rfl | congr 1, h1, by rw [List.length_append, HZL.out]; rfl, HE, (HBw.out.alloc HBw.out.size _).trans h2⟩, by simp only [Lib.intOf]; omega⟩
    · obtain rfl : k = n1 + n2 := by omega
      have hki : ¬ ((n1 : Int) + (n2 : Int) < (n1 : Int) + (n2 : Int)) := by omega
      rw [show ((n1 + n2 : Nat) : Int) = (n1 : Int) + (n2 : Int) by omega]
      go_wp2_with (go_at_call 39; fail)
      refine (made_any wr w.heap.size _ zs (sr_of_row HO.out) (by have := HZL.out; omega)).mono ?_
      rintro e w5 ⟨u, z, rfl, hS, hb, ht⟩
      have R : Hid (∃ u' z, Ending.returned u = .returned u' ∧ SR w5 w.heap.size u' z ∧ Below w.heap.size w w5 ∧ Nrm p (row (pmul xs ys)) z) := by
        refine ⟨u, z, rfl, hS, HB.out.trans (hb.mono HB.out.size), ht.nrm fun j => ?_⟩
        rcases Nat.lt_or_ge j (n1 + n2) with h | h
        · exact HZS.out j h
        · rw [getD_of_ge zs j (by have := HZL.out; omega), row_pmul_ge xs ys j (by have := HN.out; omega)]; simp
      clear hS hb ht
      go_wp2
      refine bodyPost_ret (v := u) (by simp [results, go_sem, loadVar]) rfl ?_
      exact R.out
end Go.Proofs.YtffdemplaodbcaaDoor
namespace Go.Proofs.YtffdemplaodbcaaDoor
open Go Go.Proofs Go.RowKit Go.Rad

theorem OWI.mono {w : World} {B C : Nat} {v : Value} {xs : List Int} (h : OWI w B v xs) (hc : C ≤ B) : OWI w C v xs := by
  refine ⟨h.1, ?_⟩
  rcases h.2 with h1 | ⟨g, cap, cur, hv, hb, hr⟩
  · exact .inl h1
  · exact .inr ⟨g, cap, cur, hv, by omega, hr⟩
/-- Every P-th of the coefficients. -/
inductive RootPost (w : World) (P : Nat) (x : List Int) (e : Ending) (w' : World) : Prop
  | mk (u : Value) (z : List Int) (he : e = .returned u) (hS : SR w' w.heap.size u z) (hb : Below w.heap.size w w') (hz : ∀ j, j < z.length → z.getD j 0 = x.getD (P * j) 0) (h1 : x.length ≤ P * z.length) (h2 : 0 < z.length → P * (z.length - 1) < x.length)
inductive RtR (w1 : World) (B P L : Nat) (x : List Int) (v : Value) (i : Value) (wr : World) : Prop
  | mk (k : Nat) (zs : List Int) (t : Int) (hi : i = .int .i64 t) (ht : t = ((P * k : Nat) : Int)) (hl : t < 3000000000) (hO : OWI wr B v zs) (hz : zs.length = k) (hs : ∀ j, j < k → zs.getD j 0 = x.getD (P * j) 0) (h1 : 0 < k → P * (k - 1) < L) (hb : Below w1.heap.size w1 wr) (hk : k ≤ 1000)
set_option maxRecDepth 10000 in
set_option maxHeartbeats 2000000 in
theorem root_any (w : World) (P : Nat) (q : Int) (v : Value) (x : List Int) (hv : VW w v x) (hp : 0 < P ∧ P < 2147483648) (hl : x.length ≤ 1000) :
    Calls Tryd.prog 66 #[FV P q, v] w fun e w' => RootPost w P x e w' := by
  obtain ⟨a, b, o, c, rfl, ha, hA⟩ := hv
  obtain ⟨L, hL⟩ : ∃ L, x.length = L := ⟨_, rfl⟩
  have HL : Hid (x.length = L) := hL
  rw [hL] at ha hA hl ⊢
  have HA : Hid (AR w b o L (fun j => x.getD j 0)) := hA
  clear hA hL
  obtain ⟨p, hpp⟩ : ∃ p : Int, p = (P : Int) := ⟨_, rfl⟩
  have HP : Hid (p = (P : Int)) := hpp
  rw [← hpp]
  have hp0 : 0 < p ∧ p < 2147483648 := by omega
  clear hpp
  go_enter Tryd.func66, Tryd.ntmps66
  go_upto_region 1 with fail
  refine wp_world (fun w1 => Below w.heap.size w w1 ∧ w1.heap.size = w.heap.size + 1 ∧ w1.cell? ⟨w.heap.size, 0, none⟩ = some (.int .i64 p)) ⟨bel1 _ _, by simp, by simp [go_sem]⟩ ?_
  rintro w1 ⟨hB1, hls, c0⟩
  obtain ⟨b4, hb4⟩ : ∃ x, x = w.heap.size := ⟨_, rfl⟩
  rw [← hb4] at c0 hls ⊢
  have hl4 : b4 < w1.heap.size := by omega
  have HLS : Hid (w1.heap.size = b4 + 1) := hls
  clear hls
  have H4 : Hid (b4 = w.heap.size) := hb4
  have HB1 : Hid (Below w.heap.size w w1) := hB1
  clear hB1 hb4
  go_wp2
  go_loopw [5, 6] (fun s i wr => RtR w1 (b4 + 1) P L x s i wr) (fun _ i _ => L - (Lib.intOf i).toNat)
  case atStart => exact ⟨0, [], 0, rfl, by simp, by omega, OWI.nil _ _, rfl, fun j hj => by omega, fun h => by omega, Below.refl _ _, by omega⟩
  case round =>
    obtain ⟨k, zs, t, rfl, ht, htl, hO, hzl, hzs, hk1, hB, hk2⟩ := hrel
    have HO : Hid (OWI wr (b4 + 1) _ zs) := hO
    have HZL : Hid (zs.length = k) := hzl
    have HZS : Hid (∀ j, j < k → zs.getD j 0 = x.getD (P * j) 0) := hzs
    have HK1 : Hid (0 < k → P * (k - 1) < L) := hk1
    have HB : Hid (Below w1.heap.size w1 wr) := hB
    have HT : Hid (t = ((P * k : Nat) : Int)) := ht
    have d0 : wr.cell? ⟨b4, 0, none⟩ = some (.int .i64 p) := (hB.cell (p := ⟨b4, 0, none⟩) hl4).trans c0
    clear hO hzl hzs hk1 hB ht c0
    by_cases hkn : t < (L : Int)
    · obtain ⟨s, hs⟩ : ∃ s : Nat, t = (s : Int) := ⟨P * k, HT.out⟩
      have HS : Hid (s = P * k) := by have := HT.out; show _ = _; omega
      subst hs
      obtain rfl := ha (by omega)
      clear ha
      obtain ⟨X, hX⟩ : ∃ X, x.getD s 0 = X := ⟨_, rfl⟩
      have cs : wr.cell? ⟨b, o + s, none⟩ = some (.int .i64 X) := by rw [← hX]; exact ((HA.out.below HB1.out).below HB.out) s (by omega)
      have HX : Hid (x.getD s 0 = X) := hX
      clear hX
      have HOq := fun Y => HO.out.below (bel1 wr Y)
      have hzl : zs.length ≤ 1048576 := by have := HZL.out; omega
      have hws : b4 + 1 ≤ wr.heap.size := by have := HB.out.size; omega
      have hb4r : b4 < wr.heap.size := hws
      have hw1 : wrap64 ((s : Int) + p) = (s : Int) + p := wrap_in (by omega) (by omega)
      have HK3 : Hid (k < 1000) := by
        have h1 := HS.out
        have h2 := Nat.le_mul_of_pos_left k hp.1
        show _ < _
        omega
      have HTL : Hid ((s : Int) < 3000000000) := htl
      clear htl
      go_wp2_with (refine wpList_appendI (by rfl) _ _ (by rfl) (by rfl) (HOq _) _ _ X (by rfl) (by simp [go_sem]) hzl (by simp <;> omega) ?_; intro v' w' h1 h2; have d5 : w'.cell? ⟨b4, 0, none⟩ = some (.int .i64 p) := (h2.cell (p := ⟨b4, 0, none⟩) (Nat.lt_succ_self _)).trans (((bel1 wr _).cell (p := ⟨b4, 0, none⟩) hb4r).trans d0))
      have HZN : Hid (∀ j, j < k + 1 → (zs ++ [X]).getD j 0 = x.getD (P * j) 0) := fun j hj => by
        have h9 := HZL.out
        rcases Nat.lt_or_ge j k with h | h
        · have e : (zs ++ [X]).getD j 0 = zs.getD j 0 := by
            simp [List.getD_eq_getElem?_getD, List.getElem?_append, show j < zs.length by omega]
          rw [e, HZS.out j h]
        · obtain rfl : j = k := by omega
          have e : (zs ++ [X]).getD j 0 = X := by
            simp [List.getD_eq_getElem?_getD, List.getElem?_append, h9]
          rw [e, ← HS.out, HX.out]
      have HO5 : Hid (OWI w' (b4 + 1) v' (zs ++ [X])) := h1
      have HB5 : Hid (Below w1.heap.size w1 w') := (HB.out.alloc HB.out.size _).trans (h2.mono (by have := HLS.out; omega))
      have HREL : Hid (RtR w1 (b4 + 1) P L x v' (.int .i64 ((s : Int) + p)) w') := by
        refine ⟨k + 1, zs ++ [X], (s : Int) + p, rfl, ?_, by have := HTL.out; omega, HO5.out, by rw [List.length_append, HZL.out]; rfl, HZN, fun _ => ?_, HB5.out, by have := HK3.out; omega⟩
        · rw [HS.out, HP.out, Nat.mul_add, Nat.mul_one]; push_cast; rfl
        · rw [Nat.add_sub_cancel, ← HS.out]; omega
      exact ⟨HREL.out, by simp only [Lib.intOf]; omega⟩
    · have hts : 0 ≤ t := by have := HT.out; omega
      go_wp2
      have R : Hid (RootPost w P x (.returned u5) wr) := by
        refine .mk u5 zs rfl (sr_of_row (OWI.mono HO.out (by have := H4.out; omega))) (HB1.out.trans (HB.out.mono HB1.out.size)) (fun j hj => HZS.out j (by rw [← HZL.out]; exact hj)) ?_ (fun h => ?_)
        · rw [HL.out, HZL.out]; have := HT.out; omega
        · rw [HL.out, HZL.out]; exact HK1.out (by rw [← HZL.out]; exact h)
      refine bodyPost_ret (v := u5) (by simp [results, go_sem, loadVar]) rfl ?_
      exact R.out
end Go.Proofs.YtffdemplaodbcaaDoor
