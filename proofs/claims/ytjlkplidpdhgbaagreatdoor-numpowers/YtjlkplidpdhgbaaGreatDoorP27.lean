/- A part of the proof: R1, Tx3, R2, Tx4. -/
import Derived.Test.YtjlkplidpdhgbaaGreatDoorP26
import Derived.Test.YtjlkplidpdhgbaaGreatDoorP24
set_option linter.all false

namespace Go.Proofs.YtjlkplidpdhgbaaGreatDoor
open Go Go.Proofs Go.RowKit Go.Rad

/-- A slice of places of four digits that holds the number x: n places, the highest not 0. -/
def Dg (w : World) (v : Value) (x n : Nat) : Prop :=
  ∃ (ao : Option Addr) (b o c : Nat), v = .slice ao n c ∧ Sl ao b o n ∧ n ≤ c ∧ c ≤ maxLen ∧ Arr .i64 10000 w b o n ∧ num 10000 w b o n = x ∧ (n = 0 ∨ word w b (o + (n - 1)) ≠ 0)
theorem Dg.below {w w' : World} {v : Value} {x n : Nat} (h : Dg w v x n) (hb : Below w.heap.size w w') : Dg w' v x n := by
  obtain ⟨ao, b, o, c, hv, hs, hc, hcm, ha, hx, hn⟩ := h
  refine ⟨ao, b, o, c, hv, hs, hc, hcm, arr_below ha hb, by rw [num_below ha hb, hx], ?_⟩
  rcases hn with h0 | h0
  · exact .inl h0
  · by_cases hz : n = 0
    · exact .inl hz
    · right; rw [word_below ha hb (by omega)]; exact h0
theorem Dg.lt {w : World} {v : Value} {x n : Nat} (h : Dg w v x n) : x < 10000 ^ n := by
  obtain ⟨ao, b, o, c, hv, hs, hc, hcm, ha, hx, hn⟩ := h
  rw [← hx]; exact num_lt ha
theorem Dg.ge {w : World} {v : Value} {x n : Nat} (h : Dg w v x n) (hn0 : 0 < n) : 10000 ^ (n - 1) ≤ x := by
  obtain ⟨ao, b, o, c, hv, hs, hc, hcm, ha, hx, hn⟩ := h
  rw [← hx]
  rcases hn with h0 | h0
  · omega
  · exact _root_.Rad.vs_ge hn0 (by simpa using h0)
theorem Dg.len_le {w : World} {v : Value} {x n : Nat} (h : Dg w v x n) {L : Nat} (hx : x < 10000 ^ L) : n ≤ L := by
  rcases Nat.lt_or_ge L n with h1 | h1
  · have h2 := h.ge (by omega)
    have h3 : 10000 ^ L ≤ 10000 ^ (n - 1) := Nat.pow_le_pow_right (by decide) (by omega)
    omega
  · exact h1
theorem Dg.zero_iff {w : World} {v : Value} {x n : Nat} (h : Dg w v x n) : x = 0 ↔ n = 0 := by
  constructor
  · intro hx
    rcases Nat.eq_zero_or_pos n with h0 | h0
    · exact h0
    · have h1 := h.ge h0
      have h2 : 0 < 10000 ^ (n - 1) := Nat.pow_pos (by decide)
      omega
  · intro hn; have := h.lt; rw [hn] at this; simpa using this
theorem dg_nil (w : World) : Dg w (.slice none 0 0) 0 0 := ⟨none, 0, 0, 0, rfl, fun h => by omega, by omega, by unfold maxLen; omega, fun i hi => by omega, rfl, .inl rfl⟩
/-- A number of the document's answer. -/
def IsZ (w : World) (v : Value) (z : Int) : Prop := ∃ dv n, v = .agg #[.bool (decide (z < 0)), dv] ∧ Dg w dv z.natAbs n
theorem IsZ.below {w w' : World} {v : Value} {z : Int} (h : IsZ w v z) (hb : Below w.heap.size w w') : IsZ w' v z := by
  obtain ⟨dv, n, hv, hd⟩ := h
  exact ⟨dv, n, hv, hd.below hb⟩
theorem IsZ.form {w : World} {v : Value} {z : Int} (h : IsZ w v z) : ∃ b a n c, v = .agg #[.bool b, .slice a n c] := by
  obtain ⟨dv, n, hv, ao, b, o, c, rfl, _⟩ := h
  exact ⟨_, _, _, _, hv⟩
/-- What is left of a row when zeros at its end are passed over. -/
theorem strip_num {w : World} {b o n k : Nat} (hk : k ≤ n) (hz : ∀ i, k ≤ i → i < n → word w b (o + i) = 0) : num 10000 w b o k = num 10000 w b o n := by
  obtain ⟨m, rfl⟩ := Nat.exists_eq_add_of_le hk
  have h0 : num 10000 w b (o + k) m = 0 := by
    have : ∀ j, j ≤ m → num 10000 w b (o + k) j = 0 := by
      intro j
      induction j with
      | zero => intro _; rfl
      | succ j ih => intro hj; rw [num_succ, ih (by omega), Nat.add_assoc o k j, hz (k + j) (by omega) (by omega), Nat.mul_zero]
    exact this m (Nat.le_refl _)
  rw [num_add, h0]; simp
/-- A result of type Z (a boolean, a slice) that has its variable in block b, not yet written. -/
structure Rez (w w1 : World) (b : Nat) : Prop where
  below : Below w.heap.size w w1
  ge : w.heap.size ≤ b
  lt : b < w1.heap.size
  c0 : w1.cell? ⟨b, 0, none⟩ = some (.bool false)
  c1 : w1.cell? ⟨b, 1, none⟩ = some (.slice none 0 0)
  f0 : w1.frozen? ⟨b, 0, none⟩ = false
  f1 : w1.frozen? ⟨b, 1, none⟩ = false
theorem Rez.step {w w1 w2 : World} {b B : Nat} (h : Rez w w1 b) (hb : Below B w1 w2) (hB : b < B) : Rez w w2 b := by
  have hg := h.ge
  refine ⟨h.below.trans (hb.mono (by omega)), h.ge, Nat.lt_of_lt_of_le h.lt hb.size, ?_, ?_, ?_, ?_⟩
  · exact (World.cell?_of_block (hb.block b hB)).trans h.c0
  · exact (World.cell?_of_block (hb.block b hB)).trans h.c1
  · exact (World.frozen?_of_block (hb.block b hB)).trans h.f0
  · exact (World.frozen?_of_block (hb.block b hB)).trans h.f1
theorem Dg.set {w : World} {v u : Value} {x n : Nat} {p : Addr} (h : Dg w v x n) (hp : ∀ y, w.cell? p ≠ some (.int .i64 y)) (hs : p = ⟨p.block, p.off, none⟩) : Dg (w.setCell p u) v x n := by
  obtain ⟨ao, b, o, c, hv, hs', hc, hcm, ha, hx, hn⟩ := h
  rw [hs] at hp ⊢
  generalize p.block = pb at hp ⊢
  generalize p.off = po at hp ⊢
  have hd : pb ≠ b ∨ po < o ∨ o + n ≤ po := by
    by_cases hb : pb = b
    · subst hb
      right
      refine Classical.byContradiction fun hcon => ?_
      have h2 := (ha (po - o) (by omega)).1
      rw [show o + (po - o) = po by omega] at h2
      exact hp _ h2
    · exact .inl hb
  refine ⟨ao, b, o, c, hv, hs', hc, hcm, ha.set' hd, by rw [num_set_other hd, hx], ?_⟩
  rcases hn with h0 | h0
  · exact .inl h0
  · by_cases hz : n = 0
    · exact .inl hz
    · right; rw [word_set_other (by omega)]; exact h0
theorem IsZ.stored {w : World} {v u1 u2 y0 y : Value} {z : Int} {b : Nat} (h : IsZ w v z) (h0 : w.cell? ⟨b, 0, none⟩ = some y0) (h1 : w.cell? ⟨b, 1, none⟩ = some y)
    (hy0 : ∀ q, y0 ≠ .int .i64 q) (hy : ∀ q, y ≠ .int .i64 q) : IsZ ((w.setCell ⟨b, 0, none⟩ u1).setCell ⟨b, 1, none⟩ u2) v z := by
  obtain ⟨dv, n, hv, hd⟩ := h
  refine ⟨dv, n, hv, (hd.set (by rw [h0]; intro q hq; exact hy0 q (Option.some.inj hq)) rfl).set ?_ rfl⟩
  rw [cell_other (by omega), h1]
  intro q hq
  exact hy q (Option.some.inj hq)
theorem Rez.done {w w1 : World} {b : Nat} (h : Rez w w1 b) {s : Bool} {a : Option Addr} {n c : Nat} {z : Int} (hI : IsZ w1 (.agg #[.bool s, .slice a n c]) z) :
    Below w.heap.size w ((w1.setCell ⟨b, 0, none⟩ (.bool s)).setCell ⟨b, 1, none⟩ (.slice a n c)) ∧ IsZ ((w1.setCell ⟨b, 0, none⟩ (.bool s)).setCell ⟨b, 1, none⟩ (.slice a n c)) (.agg #[.bool s, .slice a n c]) z :=
  ⟨(h.below.setCell (p := ⟨b, 0, none⟩) h.ge _).setCell (p := ⟨b, 1, none⟩) h.ge _, hI.stored h.c0 h.c1 (by intro q; simp) (by intro q; simp)⟩
theorem Rez.mk0 (w : World) : Rez w (w.alloc (Obj.cells #[Value.bool false, Value.slice none 0 0] 31)) w.heap.size :=
  ⟨bel1 _ _, Nat.le_refl _, by simp, by simp [go_sem], by simp [go_sem], by simp [go_sem], by simp [go_sem]⟩
theorem isZ_zero (w : World) : IsZ w (.agg #[.bool false, .slice none 0 0]) 0 := ⟨_, 0, rfl, dg_nil w⟩

set_option maxRecDepth 10000 in
set_option maxHeartbeats 1000000 in
theorem zmade_any (w : World) (neg : Bool) (ao : Option Addr) (b o n c x : Nat) (hs : Sl ao b o n) (hc : n ≤ c) (hcm : c ≤ maxLen) (ha : Arr .i64 10000 w b o n) (hx : num 10000 w b o n = x) :
    Calls Tryz.prog 73 #[.bool neg, .slice ao n c] w fun e w' => ∃ v, e = .returned v ∧ Below w.heap.size w w' ∧ IsZ w' v (sgn neg x) := by
  have HF : Hid (Rez w (w.alloc (Obj.cells #[Value.bool false, Value.slice none 0 0] 31)) w.heap.size ∧ Arr .i64 10000 (w.alloc (Obj.cells #[Value.bool false, Value.slice none 0 0] 31)) b o n ∧ num 10000 (w.alloc (Obj.cells #[Value.bool false, Value.slice none 0 0] 31)) b o n = x) :=
    ⟨Rez.mk0 w, arr_below ha (bel1 w _), (num_below ha (bel1 w _)).trans hx⟩
  have hcm' := hcm
  unfold maxLen at hcm
  clear ha hx
  go_enter Tryz.func73, Tryz.ntmps73
  go_wp2
  refine wp_world (fun w1 => Rez w w1 w.heap.size ∧ Arr .i64 10000 w1 b o n ∧ num 10000 w1 b o n = x) HF.out ?_
  clear HF
  rintro w1 ⟨R, hA, hX⟩
  have HR : Hid _ := R
  have HA : Hid _ := hA
  have HX : Hid _ := hX
  clear R hA hX
  go_loop [5] (fun s5 => ∃ k : Nat, k ≤ n ∧ s5 = .int .i64 (k : Int) ∧ ∀ i, k ≤ i → i < n → word w1 b (o + i) = 0) (fun s5 => (intOf s5).toNat)
  case atStart => exact ⟨n, Nat.le_refl _, rfl, fun i h1 h2 => by omega⟩
  case round =>
    obtain ⟨k, hk, rfl, hz⟩ := hrel
    have HZ : Hid _ := hz
    clear hz
    by_cases hk0 : k = 0
    · subst hk0
      have hx0 : x = 0 := by rw [← HX.out, ← strip_num (Nat.zero_le n) HZ.out]; rfl
      have hI := isZ_zero w1
      obtain ⟨HE, HI⟩ := HR.out.done hI
      have HE' : Hid _ := HE
      have HI' : Hid _ := HI
      obtain ⟨-, -, lt, k0, k1, f0, f1⟩ := HR.out
      have HX0 : Hid _ := hx0
      clear HE HI hI hx0 HX HZ
      go_wp2
      refine bodyPost_ret (v := .agg #[.bool false, .slice none 0 0]) (by simp [results, go_sem, loadVar, World.cell?_setCell_same, *]) rfl ?_
      exact ⟨_, rfl, HE'.out, by rw [show sgn neg x = 0 by rw [HX0.out]; cases neg <;> rfl]; exact HI'.out⟩
    · have c1 : (0 : Int) < (k : Int) := by omega
      obtain rfl := hs (by omega)
      obtain ⟨j, rfl⟩ : ∃ j, k = j + 1 := ⟨k - 1, by omega⟩
      have hcell := arr_cell HA.out (i := j) (by omega)
      have e1 : ((j + 1 : Nat) : Int) - 1 = (j : Int) := by omega
      obtain ⟨y, hy⟩ : ∃ y, word w1 b (o + j) = y := ⟨_, rfl⟩
      rw [hy] at hcell
      have HY : Hid _ := hy
      clear hy
      by_cases hy0 : y = 0
      · have c2 : (y : Int) = 0 := by omega
        have c3 : j < n := by omega
        go_wp2
        refine ⟨⟨j, by omega, by go_num, fun i h1 h2 => ?_⟩, by simp [intOf]⟩
        by_cases hij : i = j
        · rw [hij, HY.out]; exact hy0
        · exact HZ.out i (by omega) h2
      · have c2 : ¬ (y : Int) = 0 := by omega
        have c3 : j < n := by omega
        have hI : IsZ w1 (.agg #[.bool (decide (sgn neg x < 0)), .slice (some ⟨b, o, none⟩) (j + 1) c]) (sgn neg x) := by
          have e2 : (sgn neg x).natAbs = x := by unfold sgn; cases neg <;> simp
          refine ⟨_, j + 1, rfl, _, b, o, c, rfl, Sl.mk _ _ _, by omega, hcm', fun i hi => HA.out i (by omega), ?_, .inr ?_⟩
          · rw [strip_num hk HZ.out, HX.out, e2]
          · rw [Nat.add_sub_cancel, HY.out]; exact hy0
        have hb : decide (sgn neg x < 0) = neg := by
          have hxp : 0 < x := by
            rw [← HX.out, ← strip_num hk HZ.out, num_succ, HY.out]
            have : 0 < 10000 ^ j * y := Nat.mul_pos (Nat.pow_pos (by decide)) (by omega)
            omega
          unfold sgn; cases neg <;> simp <;> omega
        rw [hb] at hI
        obtain ⟨HE, HI⟩ := HR.out.done hI
        have HE' : Hid _ := HE
        have HI' : Hid _ := HI
        obtain ⟨-, -, lt, k0, k1, f0, f1⟩ := HR.out
        have c4 : (j : Int) + 1 ≤ (c : Int) := by omega
        clear HE HI hI hb HX HZ HY
        go_wp2
        refine bodyPost_ret (v := .agg #[.bool neg, .slice (some ⟨b, o, none⟩) (j + 1) c]) (by simp [results, go_sem, loadVar, World.cell?_setCell_same, *]) rfl ?_
        exact ⟨_, rfl, HE'.out, HI'.out⟩
end Go.Proofs.YtjlkplidpdhgbaaGreatDoor

namespace Rad
open Go
theorem runD_take : ∀ l : List UInt8, runD (l.take (runD l)) = runD l
  | [] => rfl
  | b :: r => by
    by_cases hb : IsDg b
    · have e : runD (b :: r) = runD r + 1 := by rw [runD, if_pos hb]
      rw [e, List.take_succ_cons, runD, if_pos hb, runD_take r]
    · have e : runD (b :: r) = 0 := by rw [runD, if_neg hb]
      rw [e]; rfl
theorem wlen_le_len (l : List UInt8) : wlen l ≤ l.length := by
  cases l with
  | nil => exact Nat.le_refl _
  | cons b r =>
    by_cases hb : b = 45
    · subst hb; rw [wlen_neg]; have := runD_le r; simp only [List.length_cons]; split <;> omega
    · by_cases h0 : b = 48
      · subst h0; rw [wlen_zero]; simp
      · rw [wlen_pos hb h0]; exact runD_le _
theorem is48 : IsDg 48 := by decide
theorem wlen_take (l : List UInt8) : wlen (l.take (wlen l)) = wlen l := by
  cases l with
  | nil => rfl
  | cons b r =>
    by_cases hb : b = 45
    · subst hb
      rw [wlen_neg]
      by_cases h : r.head? = some 48
      · rw [if_pos h]; rfl
      · rw [if_neg h, Nat.add_comm, List.take_succ_cons, wlen_neg, runD_take, if_neg, Nat.add_comm]
        cases r with
        | nil => simp
        | cons c r =>
          cases hm : runD (c :: r) with
          | zero => simp
          | succ m => simpa using h
    · by_cases h0 : b = 48
      · subst h0; rw [wlen_zero]; rfl
      · rw [wlen_pos hb h0]
        by_cases hd : IsDg b
        · have e : runD (b :: r) = runD r + 1 := by rw [runD, if_pos hd]
          rw [e, List.take_succ_cons, wlen_pos hb h0, runD, if_pos hd, runD_take]
        · have e : runD (b :: r) = 0 := by rw [runD, if_neg hd]
          rw [e]; rfl
theorem valid_take (l : List UInt8) : Valid (l.take (wlen l)) ↔ digs (l.take (wlen l)) ≠ [] := by
  unfold Valid
  rw [wlen_take, List.length_take, Nat.min_eq_left (wlen_le_len l)]
  simp
theorem valid_take_nil : ¬ Valid (([] : List UInt8).take (wlen [])) := by rw [valid_take]; simp [digs]
theorem valid_take_neg (r : List UInt8) : Valid ((45 :: r).take (wlen (45 :: r))) ↔ (¬ r.head? = some 48 ∧ 0 < runD r) := by
  rw [valid_take, wlen_neg]
  by_cases h : r.head? = some 48
  · rw [if_pos h]; simp [digs, h]
  · rw [if_neg h, Nat.add_comm, List.take_succ_cons, digs_neg]
    simp only [h, not_false_eq_true, true_and, ne_eq, List.take_eq_nil_iff]
    constructor
    · intro h2; omega
    · intro h2 h3
      rcases h3 with h3 | h3
      · omega
      · subst h3; simp [runD] at h2
theorem valid_take_zero (r : List UInt8) : Valid ((48 :: r).take (wlen (48 :: r))) := by rw [valid_take, wlen_zero]; simp [digs]
theorem valid_take_pos {b : UInt8} (hb : b ≠ 45) (h0 : b ≠ 48) (r : List UInt8) : Valid ((b :: r).take (wlen (b :: r))) ↔ 0 < runD (b :: r) := by
  rw [valid_take, wlen_pos hb h0]
  by_cases hd : IsDg b
  · have e : runD (b :: r) = runD r + 1 := by rw [runD, if_pos hd]
    rw [e, List.take_succ_cons, digs_pos hb]; simp
  · have e : runD (b :: r) = 0 := by rw [runD, if_neg hd]
    rw [e]; simp [digs]
end Rad

namespace Go.Proofs.YtjlkplidpdhgbaaGreatDoor
open Go Go.Proofs Go.RowKit Go.Rad

set_option maxRecDepth 10000 in
theorem digitsOf_any (w : World) (s : ByteArray) (h0 : 0 < s.size) (hs : s.size ≤ 9223372036854775806) (r : Nat) (hr : (_root_.Rad.digs s.data.toList).length = r) :
    Calls Tryz.prog 67 #[.string s] w fun e w' => e = .returned (.int .i64 (r : Int)) ∧ w' = w := by
  have ec := ba_cons h0
  have c0 : (0 : Int) < (s.size : Int) := by omega
  by_cases h1 : s[0] = 45
  · have e3 : (s[0].toNat : Int) = 45 := by rw [h1]; rfl
    have hr' : (s.size : Int) - 1 = (r : Int) := by
      have h2 : s.size = r + 1 := by rw [← hr, ← ba_size s, ec, h1, _root_.Rad.digs_neg]; simp
      omega
    clear ec hr
    go_enter Tryz.func67, Tryz.ntmps67
    go_wp2
    go_ret
    exact ⟨rfl, rfl⟩
  · have e3 : ¬ (s[0].toNat : Int) = 45 := u8_ne (n := 45) (by decide) h1
    have hr' : s.size = r := by rw [← hr, ← ba_size s, ec, _root_.Rad.digs_pos h1]
    have f3 : (((s[0].toNat : Nat) : Int) == 45) = false := by simpa using e3
    subst hr'
    clear ec hr
    go_enter Tryz.func67, Tryz.ntmps67
    go_wp2
    go_ret
    exact ⟨rfl, rfl⟩

/-- The document's word, of a number that may have a sign and be 0. -/
theorem word_loop_facts {s : ByteArray} {k r : Nat} (hr : r = k + _root_.Rad.runD (s.data.toList.drop k)) (hk : k ≤ s.size) :
    r ≤ s.size ∧ (∀ i (h : i < s.size), k ≤ i → i < r → 48 ≤ (s[i].toNat : Int) ∧ (s[i].toNat : Int) ≤ 57) ∧ (∀ (h : r < s.size), ((s[r].toNat : Int) < 48 ∨ 57 < (s[r].toNat : Int))) := by
  have hl : (s.data.toList.drop k).length = s.size - k := by rw [List.length_drop, ba_size]
  have hle := _root_.Rad.runD_le (s.data.toList.drop k)
  have hget : ∀ i (h : i < s.size), s.data.toList[i]'(by rw [ba_size]; exact h) = s[i] := fun i h => rfl
  refine ⟨by omega, fun i h h1 h2 => ?_, fun h => ?_⟩
  · have h3 := _root_.Rad.runD_at (l := s.data.toList.drop k) (i := i - k) (by omega) (by omega)
    rw [List.getElem_drop] at h3
    have e : s.data.toList[k + (i - k)]'(by rw [ba_size]; omega) = s[i] := by
      rw [← hget i h]; congr 1; omega
    rw [e] at h3
    unfold _root_.Rad.IsDg at h3
    omega
  · have h3 := _root_.Rad.runD_stop (l := s.data.toList.drop k) (by omega)
    rw [List.getElem_drop] at h3
    have e : s.data.toList[k + _root_.Rad.runD (s.data.toList.drop k)]'(by rw [ba_size]; omega) = s[r] := by
      rw [← hget r h]; congr 1; omega
    rw [e] at h3
    unfold _root_.Rad.IsDg at h3
    omega
/-- The document's word, both ways true. -/
theorem tup2 {x y : Int} {a b : Bool} (h : x = y) (h2 : a = b) : Ending.returned (.tuple #[.int .i64 x, .bool a]) = Ending.returned (.tuple #[.int .i64 y, .bool b]) := by rw [h, h2]
set_option maxRecDepth 10000 in
set_option maxHeartbeats 2000000 in
theorem word_tt (w : World) (s : ByteArray) (hs : s.size ≤ 9223372036854775806) (r : Nat) (ok : Bool) (hr : r = _root_.Rad.wlen s.data.toList) (hok : ok = true ↔ _root_.Rad.Valid (s.data.toList.take (_root_.Rad.wlen s.data.toList))) :
    Calls Tryz.prog 66 #[.string s, .bool true, .bool true] w fun e w' => e = .returned (.tuple #[.int .i64 (r : Int), .bool ok]) ∧ w' = w := by
  by_cases h0 : s.size = 0
  · have hnil : s.data.toList = [] := List.eq_nil_of_length_eq_zero (by rw [ba_size]; exact h0)
    rw [hnil] at hr hok
    have hr0 : r = 0 := hr
    subst hr0
    obtain rfl : ok = false := by rw [← Bool.not_eq_true, hok]; exact _root_.Rad.valid_take_nil
    have eE : s = ByteArray.empty := by
      apply ByteArray.ext
      apply Array.toList_inj.1
      rw [hnil]; rfl
    clear hok hnil
    subst eE
    go_enter Tryz.func66, Tryz.ntmps66
    go_wp2
    go_loop [9] (fun s9 => s9 = .int .i64 0) (fun s9 => 0)
    case atStart => rfl
    case round =>
      obtain rfl := hrel
      go_wp2
      go_ret2
      exact ⟨rfl, rfl⟩
  · have hp : 0 < s.size := by omega
    have ec := ba_cons hp
    have c0 : (0 : Int) < (s.size : Int) := by omega
    by_cases h1 : s[0] = 45
    · have e3 : (s[0].toNat : Int) = 45 := by rw [h1]; rfl
      rw [ec, h1] at hr hok
      rw [_root_.Rad.valid_take_neg] at hok
      rw [_root_.Rad.wlen_neg] at hr
      by_cases h2 : 1 < s.size
      · have c2 : (1 : Int) < (s.size : Int) := by omega
        have hd1 : (s.data.toList.drop 1).head? = some s[1] := by
          have h3 : 1 < s.data.toList.length := by rw [ba_size]; exact h2
          rw [List.head?_drop, List.getElem?_eq_getElem h3]; rfl
        by_cases h4 : s[1] = 48
        · rw [hd1, h4] at hr hok
          rw [if_pos rfl] at hr
          obtain rfl : r = 1 := hr
          obtain rfl : ok = false := by rw [← Bool.not_eq_true, hok]; simp
          have e4 : (s[1].toNat : Int) = 48 := by rw [h4]; rfl
          clear hok hd1 ec
          go_enter Tryz.func66, Tryz.ntmps66
          go_wp2
          go_ret2
          exact ⟨rfl, rfl⟩
        · have e4 : ¬ (s[1].toNat : Int) = 48 := u8_ne (n := 48) (by decide) h4
          have hh : ¬ (s.data.toList.drop 1).head? = some 48 := by rw [hd1]; intro h; exact h4 (Option.some.inj h)
          rw [if_neg hh] at hr
          obtain ⟨hle, hdg', hst'⟩ := word_loop_facts hr (by omega)
          have hdg : Hid _ := hdg'
          have hst : Hid _ := hst'
          have h1r : 1 ≤ r := by omega
          have hk2 : ok = decide ((1 : Int) < (r : Int)) := by
            rw [Bool.eq_iff_iff, hok, decide_eq_true_eq]
            constructor
            · intro h; omega
            · intro h; exact ⟨hh, by omega⟩
          have HK : Hid _ := hk2
          clear hr hok hd1 ec hdg' hst' hh hk2
          go_enter Tryz.func66, Tryz.ntmps66
          go_wp2
          go_loop [9] (fun s9 => ∃ i : Nat, 1 ≤ i ∧ i ≤ r ∧ s9 = .int .i64 (i : Int)) (fun s9 => s.size - (intOf s9).toNat)
          case atStart => exact ⟨1, Nat.le_refl _, by omega, rfl⟩
          case round =>
            obtain ⟨i, hki, hir, rfl⟩ := hrel
            by_cases hie : i = r
            · subst hie
              by_cases his : i = s.size
              · have c1 : ¬ (i : Int) < (s.size : Int) := by omega
                go_wp2
                (go_ret2; exact ⟨tup2 rfl (by have h5 := HK.out; subst h5; first | rfl | (apply Bool.eq_iff_iff.2; simp; done) | (apply Bool.eq_iff_iff.2; simp; omega)), rfl⟩)
              · have c1 : (i : Int) < (s.size : Int) := by omega
                have c2 : i < s.size := by omega
                rcases hst.out c2 with h | h
                · have h' : ¬ 48 ≤ (s[i].toNat : Int) := by omega
                  go_wp2
                  (go_ret2; exact ⟨tup2 rfl (by have h5 := HK.out; subst h5; first | rfl | (apply Bool.eq_iff_iff.2; simp; done) | (apply Bool.eq_iff_iff.2; simp; omega)), rfl⟩)
                · have h' : 48 ≤ (s[i].toNat : Int) := by omega
                  have h'' : ¬ (s[i].toNat : Int) ≤ 57 := by omega
                  go_wp2
                  (go_ret2; exact ⟨tup2 rfl (by have h5 := HK.out; subst h5; first | rfl | (apply Bool.eq_iff_iff.2; simp; done) | (apply Bool.eq_iff_iff.2; simp; omega)), rfl⟩)
            · have c1 : (i : Int) < (s.size : Int) := by omega
              have c2 : i < s.size := by omega
              obtain ⟨h1, h2⟩ := hdg.out i c2 hki (by omega)
              go_wp2
              exact ⟨⟨i + 1, by omega, by omega, by go_num⟩, by simp [intOf]; omega⟩
      · have hnil : s.data.toList.drop 1 = [] := List.eq_nil_of_length_eq_zero (by rw [List.length_drop, ba_size]; omega)
        rw [hnil] at hr hok
        obtain rfl : r = 1 := hr
        obtain rfl : ok = false := by rw [← Bool.not_eq_true, hok]; simp [_root_.Rad.runD]
        have c2 : (s.size : Int) = 1 := by omega
        clear hok hnil ec
        go_enter Tryz.func66, Tryz.ntmps66
        go_wp2
        go_loop [9] (fun s9 => s9 = .int .i64 1) (fun s9 => 0)
        case atStart => rfl
        case round =>
          obtain rfl := hrel
          go_wp2
          go_ret2
          exact ⟨rfl, rfl⟩
    · have e3 : ¬ (s[0].toNat : Int) = 45 := u8_ne (n := 45) (by decide) h1
      by_cases h2 : s[0] = 48
      · have e4 : (s[0].toNat : Int) = 48 := by rw [h2]; rfl
        rw [ec, h2] at hr hok
        rw [_root_.Rad.wlen_zero] at hr
        obtain rfl : r = 1 := hr
        obtain rfl : ok = true := by rw [hok]; exact _root_.Rad.valid_take_zero _
        clear hok ec
        go_enter Tryz.func66, Tryz.ntmps66
        go_wp2
        go_ret2
        exact ⟨rfl, rfl⟩
      · have e4 : ¬ (s[0].toNat : Int) = 48 := u8_ne (n := 48) (by decide) h2
        rw [ec] at hr hok
        rw [_root_.Rad.valid_take_pos h1 h2, ← ec] at hok
        rw [_root_.Rad.wlen_pos h1 h2, ← ec] at hr
        have hr0 : r = 0 + _root_.Rad.runD (s.data.toList.drop 0) := by rw [Nat.zero_add]; exact hr
        obtain ⟨hle, hdg', hst'⟩ := word_loop_facts hr0 (by omega)
        have hdg : Hid _ := hdg'
        have hst : Hid _ := hst'
        have hk2 : ok = decide ((0 : Int) < (r : Int)) := by
          rw [Bool.eq_iff_iff, hok, decide_eq_true_eq]
          omega
        have HK : Hid _ := hk2
        have f3 : (((s[0].toNat : Nat) : Int) == 45) = false := by simpa using e3
        have f4 : (((s[0].toNat : Nat) : Int) == 48) = false := by simpa using e4
        clear hr hr0 hok ec hdg' hst' hk2
        go_enter Tryz.func66, Tryz.ntmps66
        go_wp2
        go_loop [9] (fun s9 => ∃ i : Nat, 0 ≤ i ∧ i ≤ r ∧ s9 = .int .i64 (i : Int)) (fun s9 => s.size - (intOf s9).toNat)
        case atStart => exact ⟨0, Nat.le_refl _, by omega, rfl⟩
        case round =>
          obtain ⟨i, hki, hir, rfl⟩ := hrel
          by_cases hie : i = r
          · subst hie
            by_cases his : i = s.size
            · have c1 : ¬ (i : Int) < (s.size : Int) := by omega
              go_wp2
              (go_ret2; exact ⟨tup2 rfl (by have h5 := HK.out; subst h5; first | rfl | (apply Bool.eq_iff_iff.2; simp; done) | (apply Bool.eq_iff_iff.2; simp; omega)), rfl⟩)
            · have c1 : (i : Int) < (s.size : Int) := by omega
              have c2 : i < s.size := by omega
              rcases hst.out c2 with h | h
              · have h' : ¬ 48 ≤ (s[i].toNat : Int) := by omega
                go_wp2
                (go_ret2; exact ⟨tup2 rfl (by have h5 := HK.out; subst h5; first | rfl | (apply Bool.eq_iff_iff.2; simp; done) | (apply Bool.eq_iff_iff.2; simp; omega)), rfl⟩)
              · have h' : 48 ≤ (s[i].toNat : Int) := by omega
                have h'' : ¬ (s[i].toNat : Int) ≤ 57 := by omega
                go_wp2
                (go_ret2; exact ⟨tup2 rfl (by have h5 := HK.out; subst h5; first | rfl | (apply Bool.eq_iff_iff.2; simp; done) | (apply Bool.eq_iff_iff.2; simp; omega)), rfl⟩)
          · have c1 : (i : Int) < (s.size : Int) := by omega
            have c2 : i < s.size := by omega
            obtain ⟨h1, h2⟩ := hdg.out i c2 hki (by omega)
            go_wp2
            exact ⟨⟨i + 1, by omega, by omega, by go_num⟩, by simp [intOf]; omega⟩
end Go.Proofs.YtjlkplidpdhgbaaGreatDoor

namespace Rad
open Go
theorem dval_snoc (l : List UInt8) (b : UInt8) : dval (l ++ [b]) = dval l * 10 + (b.toNat - 48) := by
  rw [dval_append, List.length_singleton, Nat.pow_one]; simp [dval, dvalF]
/-- Four digits more, from the end. -/
theorem four_step (t : List UInt8) {I : Nat} (hI : I ≤ t.length) : dval (t.drop (I - 4)) = dval ((t.drop (I - 4)).take (I - (I - 4))) * 10 ^ (t.length - I) + dval (t.drop I) := by
  have e : t.drop (I - 4) = (t.drop (I - 4)).take (I - (I - 4)) ++ t.drop I := by
    have h := List.take_append_drop (I - (I - 4)) (t.drop (I - 4))
    rw [List.drop_drop, show I - 4 + (I - (I - 4)) = I by omega] at h
    exact h.symm
  conv => lhs; rw [e]
  rw [dval_append, List.length_drop]
theorem take_step {t : List UInt8} {a x : Nat} (ha : a ≤ x) (hx : x < t.length) : (t.drop a).take (x + 1 - a) = (t.drop a).take (x - a) ++ [t[x]] := by
  have h1 : x - a < (t.drop a).length := by rw [List.length_drop]; omega
  rw [show x + 1 - a = (x - a) + 1 by omega, List.take_succ_eq_append_getElem h1, List.getElem_drop]
  congr 2
  simp only [show a + (x - a) = x by omega]
end Rad
