/- A part of the proof: S4. -/
import Derived.Test.YtjlkplidpdhgbaaGreatDoorP41
import Derived.Test.YtjlkplidpdhgbaaGreatDoorP32
set_option linter.all false

namespace Go.Proofs.YtjlkplidpdhgbaaGreatDoor
open Go Go.Proofs Go.RowKit Go.Rad


theorem pow_bounds {y m xn : Nat} (hm : m ≤ 200) (hm1 : 1 ≤ m) (h : _root_.Rad.IsRt m xn y) (hx : xn < 10 ^ 200) :
    (max 1 y) ^ m < 10000 ^ 66 ∧ y ^ m < 10000 ^ 66 ∧ xn < 10000 ^ 66 ∧ y < 10000 ^ 66 ∧ (max 1 (y + 1)) ^ m < 10000 ^ 66 ∧ (y + 1) ^ m < 10000 ^ 66 := by
  have e0 : (10 : Nat) ^ 200 ≤ 10000 ^ 66 := by decide
  have h1 : (max 1 y) ^ m < 10 ^ 200 := by
    rcases Nat.eq_zero_or_pos y with h0 | h0
    · rw [h0, Nat.max_eq_left (by decide), Nat.one_pow]; exact Nat.one_lt_pow (by decide) (by decide)
    · rw [Nat.max_eq_right h0]; exact Nat.lt_of_le_of_lt h.1 hx
  have h2 : y + 1 ≤ 2 * max 1 y := by omega
  have h3 : (y + 1) ^ m ≤ 2 ^ m * (max 1 y) ^ m := by rw [← Nat.mul_pow]; exact Nat.pow_le_pow_left h2 m
  have h4 : 2 ^ m ≤ 2 ^ 200 := Nat.pow_le_pow_right (by decide) hm
  have h5 : (y + 1) ^ m < 10000 ^ 66 := by
    refine Nat.lt_of_le_of_lt (Nat.le_trans h3 (Nat.mul_le_mul h4 (Nat.le_of_lt h1))) ?_
    decide
  have h6 : y ≤ y ^ m := Nat.le_self_pow (by omega) y
  have h7 : y ^ m < 10000 ^ 66 := Nat.lt_of_lt_of_le (Nat.lt_of_le_of_lt h.1 hx) e0
  refine ⟨Nat.lt_of_lt_of_le h1 e0, h7, Nat.lt_of_lt_of_le hx e0, Nat.lt_of_le_of_lt h6 h7, ?_, h5⟩
  rw [Nat.max_eq_right (by omega)]; exact h5
/-- The world behind the first statements of NumPowers. -/
structure PK (w wr : World) (b7 b11 b12 : Nat) (s7 : Bool) (a7 : Option Addr) (n7 d7 : Nat) (s11 : Int) (a11 : Option Addr) (n11 d11 : Nat) (x r c11 : Int) : Prop where
  below : Below w.heap.size w wr
  f7 : FB wr b7 (.bool s7) (.slice a7 n7 d7)
  f11 : FB wr b11 (.int .i64 s11) (.slice a11 n11 d11)
  f12 : FB wr b12 (.int .i64 c11) (.int .i64 0)
  i11 : IsInt wr (.agg #[.int .i64 s11, .slice a11 n11 d11]) r
  i7 : IsZ wr (.agg #[.bool s7, .slice a7 n7 d7]) x
theorem PK.step {w wr wy : World} {b7 b11 b12 : Nat} {s7 : Bool} {a7 : Option Addr} {n7 d7 : Nat} {s11 : Int} {a11 : Option Addr} {n11 d11 : Nat} {x r c11 : Int} (h : PK w wr b7 b11 b12 s7 a7 n7 d7 s11 a11 n11 d11 x r c11)
    (hb : Below wr.heap.size wr wy) : PK w wy b7 b11 b12 s7 a7 n7 d7 s11 a11 n11 d11 x r c11 :=
  ⟨h.below.trans (hb.mono h.below.size), h.f7.below hb, h.f11.below hb, h.f12.below hb, h.i11.below hb, h.i7.below hb⟩
/-- When the whole power is looked at, it is not long. -/
theorem pow_short (s : ByteArray) (m M : Nat) (hM : M = 3001) (hm : m ≤ 200) (hs : s.size ≤ 9223372036854775806) (h : IntKind.i64.wrap ((s.size : Int) * (m : Int)) ≤ 3000) : (max 1 (pval s.data.toList).natAbs) ^ m < 10 ^ M := by
  by_cases hl : s.size ≤ 1001
  · have h1 : s.size * m ≤ 1001 * 200 := Nat.mul_le_mul hl hm
    have h2 : (s.size : Int) * (m : Int) = ((s.size * m : Nat) : Int) := (Int.natCast_mul _ _).symm
    rw [h2, IntKind.wrap_i64] at h
    have h3 : s.size * m ≤ 3000 := by omega
    rcases Nat.eq_zero_or_pos s.size with h0 | h0
    · have hv : pval s.data.toList = 0 := by
        have he : s.data.toList = [] := List.eq_nil_of_length_eq_zero (by rw [ba_size]; exact h0)
        rw [he]; rfl
      rw [hv]
      exact Nat.lt_of_le_of_lt (show (max 1 (0 : Int).natAbs) ^ m ≤ 1 by rw [Int.natAbs_zero, Nat.max_eq_left (by decide), Nat.one_pow]; exact Nat.le_refl _) (Nat.one_lt_pow (by omega) (by decide))
    · refine _root_.Rad.max_pow_lt (l := s.size) h0 ?_ (by omega)
      unfold pval
      split
      · rename_i hv
        rw [_root_.Rad.Valid.val_abs]
        refine Nat.lt_of_lt_of_le (_root_.Rad.dval_lt hv.1.digits) (Nat.pow_le_pow_right (by decide) ?_)
        have := (digs_len s.data.toList).1
        rw [ba_size] at this; exact this
      · exact Nat.pow_pos (by decide)
  · have hv : pval s.data.toList = 0 := by
      unfold pval
      rw [if_neg]
      intro h1
      have := (digs_len s.data.toList).2
      rw [ba_size] at this
      omega
    rw [hv]
    exact Nat.lt_of_le_of_lt (show (max 1 (0 : Int).natAbs) ^ m ≤ 1 by rw [Int.natAbs_zero, Nat.max_eq_left (by decide), Nat.one_pow]; exact Nat.le_refl _) (Nat.one_lt_pow (by omega) (by decide))

theorem pow_short' (s : ByteArray) (m LX : Nat) (hL : LX = 751) (hm : m ≤ 200) (hs : s.size ≤ 9223372036854775806) (h : IntKind.i64.wrap ((s.size : Int) * (m : Int)) ≤ 3000) :
    (max 1 (pval s.data.toList).natAbs) ^ m < 10000 ^ LX ∧ (max 1 (pval s.data.toList).natAbs) ^ m < B ^ 159 := by
  obtain ⟨M, hM⟩ : ∃ M, M = 3001 := ⟨_, rfl⟩
  have h1 := pow_short s m M hM hm hs h
  refine ⟨Nat.lt_of_lt_of_le h1 ?_, Nat.lt_of_lt_of_le h1 ?_⟩
  · have e : (10000 : Nat) ^ LX = 10 ^ (4 * LX) := by rw [Nat.pow_mul]
    rw [e]
    exact Nat.pow_le_pow_right (by decide) (by omega)
  · obtain ⟨q, hq⟩ : ∃ q, q = 158 := ⟨_, rfl⟩
    have h2 : (10 : Nat) ^ M ≤ 10 ^ (19 * q) := Nat.pow_le_pow_right (by decide) (by omega)
    rw [Nat.pow_mul] at h2
    exact Nat.le_trans h2 (Nat.le_trans (Nat.pow_le_pow_left (show 10 ^ 19 ≤ B by decide) q) (Nat.pow_le_pow_right B_pos (by omega)))

set_option maxRecDepth 10000 in
set_option maxHeartbeats 4000000 in
theorem numPowers_any (w : World) (s : ByteArray) (n : Int) (hs : s.size ≤ 9223372036854775806) (hn1 : -9223372036854775808 ≤ n) (hn2 : n ≤ 9223372036854775807) (ht : TabP w) :
    Calls Tryz.prog 5 #[.string s, .int .i64 n] w fun e w' => e = .returned (.bool true) ∧ Below w.heap.size w w' := by
  have CPX := fun w => parse_any w s hs
  have CZX := fun w => zparse_any w s hs
  have hx1 := pval_lt s.data.toList
  have hx2 := pval_B53 s.data.toList
  obtain ⟨LX, hLX⟩ : ∃ LX, LX = 751 := ⟨_, rfl⟩
  have hsh := fun m hm h => pow_short' s m LX hLX hm hs h
  have HLX : Hid (LX ≤ 268435456) := by show _ ≤ _; omega
  clear hLX
  have hvl : 200 < s.size ∨ (pval s.data.toList).natAbs < 10 ^ 200 := by
    rcases Nat.lt_or_ge 200 s.size with h | h
    · exact .inl h
    · right
      unfold pval
      split
      · rename_i hv
        rw [_root_.Rad.Valid.val_abs]
        refine Nat.lt_of_lt_of_le (_root_.Rad.dval_lt hv.1.digits) (Nat.pow_le_pow_right (by decide) ?_)
        have := (digs_len s.data.toList).1
        rw [ba_size] at this; omega
      · exact Nat.pow_pos (by decide)
  obtain ⟨pc, hpc⟩ : ∃ pc, pcode s.data.toList = pc := ⟨_, rfl⟩
  obtain ⟨pa, hpa⟩ : ∃ pa, pat s.data.toList = pa := ⟨_, rfl⟩
  obtain ⟨x, hz⟩ : ∃ x, pval s.data.toList = x := ⟨_, rfl⟩
  simp only [hpc, hpa, hz] at CPX CZX
  simp only [hz] at hsh
  rw [hz] at hx1 hx2 hvl
  have HT : Hid (TabP w) := ht
  have HX1 : Hid _ := hx1
  have HX2 : Hid _ := hx2
  have HSH : Hid _ := hsh
  have HVL : Hid _ := hvl
  have HN1 : Hid _ := hn1
  have HN2 : Hid _ := hn2
  clear ht hpc hpa hz hx1 hx2 hsh hvl
  have HB : Hid (Below w.heap.size w w) := Below.refl _ _
  obtain ⟨u0, hu0⟩ : ∃ u, u = w := ⟨_, rfl⟩
  go_enter Tryz.func5, Tryz.ntmps5
  have HB : Hid (Below w.heap.size w u0) := by rw [hu0]; exact HB.out
  go_wp2_with (go_at_call 9; fail)
  refine (CPX w).mono ?_
  rintro e w1 ⟨v1, rfl, hb1, hi1⟩
  rw [← hu0] at hb1
  obtain ⟨s1, a1, n1, c1, rfl⟩ := hi1.form
  clear hu0
  unfold flt
  have b2 := bel2 w1 (Obj.cells #[.int .i64 s1, .slice a1 n1 c1] 24) (Obj.cells #[.int .i64 pc, .int .i64 pa] 26)
  have hB1 := HB.out.trans (hb1.mono HB.out.size)
  have hBB := hB1.trans (b2.mono hB1.size)
  have hn1 : IV _ _ (x) := ⟨_, _, _, _, (FB.mk0 w1 (.int .i64 s1) (.slice a1 n1 c1) 24).alloc (Obj.cells #[.int .i64 pc, .int .i64 pa] 26), hi1.below b2⟩
  have hn2 : FB ((w1.alloc (Obj.cells #[.int .i64 s1, .slice a1 n1 c1] 24)).alloc (Obj.cells #[.int .i64 pc, .int .i64 pa] 26)) (w1.heap.size + 1) (.int .i64 pc) (.int .i64 pa) := by simpa using FB.mk0 (w1.alloc (Obj.cells #[.int .i64 s1, .slice a1 n1 c1] 24)) (.int .i64 pc) (.int .i64 pa) 26
  have hbb : ∀ b, b < u0.heap.size → b < w1.heap.size := fun b h => Nat.lt_of_lt_of_le h hb1.size
  go_upto_region 2 with fail
  obtain ⟨u1, hu1⟩ : ∃ x, (w1.alloc (Obj.cells #[.int .i64 s1, .slice a1 n1 c1] 24)).alloc (Obj.cells #[.int .i64 pc, .int .i64 pa] 26) = x := ⟨_, rfl⟩
  have hsz : u1.heap.size = w1.heap.size + 2 := by rw [← hu1]; simp
  obtain ⟨b5, hb5⟩ : ∃ b, w1.heap.size = b := ⟨_, rfl⟩
  obtain ⟨b6, hb6⟩ : ∃ b, b5 + 1 = b := ⟨_, rfl⟩
  rw [hu1] at hn1 hn2 hBB ⊢
  rw [hb5] at hn1 hn2 hbb ⊢
  rw [hb6] at hn2 ⊢
  have HV5 : Hid (IV u1 b5 (x)) := hn1
  have HB : Hid (Below w.heap.size w u1) := hBB
  clear b2 hB1 hBB hn1 hn2 hbb hb1 hi1 hu1 hb5 hb6 hsz 
  go_wp2_with (go_at_call 10; fail)
  refine (CZX u1).mono ?_
  rintro e w2 ⟨v2, rfl, hb2, hi2⟩
  obtain ⟨s2, a2, n2, c2, rfl⟩ := hi2.form
  unfold flt
  have b2 := bel2 w2 (Obj.cells #[.bool s2, .slice a2 n2 c2] 31) (Obj.cells #[.int .i64 pc, .int .i64 pa] 26)
  have hB2 := HB.out.trans (hb2.mono HB.out.size)
  have hBB := hB2.trans (b2.mono hB2.size)
  have hV5 := (HV5.out.below hb2).below b2
  have hn1 : ZV _ _ (x) := ⟨_, _, _, _, (FB.mk0 w2 (.bool s2) (.slice a2 n2 c2) 31).alloc (Obj.cells #[.int .i64 pc, .int .i64 pa] 26), hi2.below b2⟩
  have hn2 : FB ((w2.alloc (Obj.cells #[.bool s2, .slice a2 n2 c2] 31)).alloc (Obj.cells #[.int .i64 pc, .int .i64 pa] 26)) (w2.heap.size + 1) (.int .i64 pc) (.int .i64 pa) := by simpa using FB.mk0 (w2.alloc (Obj.cells #[.bool s2, .slice a2 n2 c2] 31)) (.int .i64 pc) (.int .i64 pa) 26
  have hbb : ∀ b, b < u1.heap.size → b < w2.heap.size := fun b h => Nat.lt_of_lt_of_le h hb2.size
  go_upto_region 3 with fail
  obtain ⟨u2, hu2⟩ : ∃ x, (w2.alloc (Obj.cells #[.bool s2, .slice a2 n2 c2] 31)).alloc (Obj.cells #[.int .i64 pc, .int .i64 pa] 26) = x := ⟨_, rfl⟩
  have hsz : u2.heap.size = w2.heap.size + 2 := by rw [← hu2]; simp
  obtain ⟨b7, hb7⟩ : ∃ b, w2.heap.size = b := ⟨_, rfl⟩
  obtain ⟨b8, hb8⟩ : ∃ b, b7 + 1 = b := ⟨_, rfl⟩
  rw [hu2] at hn1 hn2 hBB ⊢
  rw [hb7] at hn1 hn2 hbb ⊢
  rw [hb8] at hn2 ⊢
  rw [hu2] at hV5
  have HV5 : Hid (IV u2 b5 (x)) := hV5
  have HV7 : Hid (ZV u2 b7 (x)) := hn1
  have HB : Hid (Below w.heap.size w u2) := hBB
  clear b2 hB2 hBB hn1 hn2 hbb hb2 hi2 hu2 hb7 hb8 hsz hV5
  obtain ⟨s5, a5, n5, c5, F5, I5⟩ := HV5.out
  obtain ⟨l5, k50, k51, -, -⟩ := F5
  go_wp2_with (go_at_call 30; fail)
  refine (powI_any u2 _ x n I5 HX2.out HN1.out HN2.out).mono ?_
  rintro e w3 hpost
  obtain ⟨v3, c9, p, rfl, hb3, hi3, ok9⟩ := hpost
  clear l5 k50 k51 I5
  have OK9 : Hid _ := ok9
  clear ok9
  obtain ⟨s3, a3, n3, c3, rfl⟩ := hi3.form
  unfold flt
  have b2 := bel2 w3 (Obj.cells #[.int .i64 s3, .slice a3 n3 c3] 24) (Obj.cells #[.int .i64 c9, .int .i64 0] 26)
  have hB3 := HB.out.trans (hb3.mono HB.out.size)
  have hBB := hB3.trans (b2.mono hB3.size)
  have hV5 := (HV5.out.below hb3).below b2
  have hV7 := (HV7.out.below hb3).below b2
  have hn1 : IV _ _ (p) := ⟨_, _, _, _, (FB.mk0 w3 (.int .i64 s3) (.slice a3 n3 c3) 24).alloc (Obj.cells #[.int .i64 c9, .int .i64 0] 26), hi3.below b2⟩
  have hn2 : FB ((w3.alloc (Obj.cells #[.int .i64 s3, .slice a3 n3 c3] 24)).alloc (Obj.cells #[.int .i64 c9, .int .i64 0] 26)) (w3.heap.size + 1) (.int .i64 c9) (.int .i64 0) := by simpa using FB.mk0 (w3.alloc (Obj.cells #[.int .i64 s3, .slice a3 n3 c3] 24)) (.int .i64 c9) (.int .i64 0) 26
  have hbb : ∀ b, b < u2.heap.size → b < w3.heap.size := fun b h => Nat.lt_of_lt_of_le h hb3.size
  go_upto_region 4 with fail
  obtain ⟨u3, hu3⟩ : ∃ x, (w3.alloc (Obj.cells #[.int .i64 s3, .slice a3 n3 c3] 24)).alloc (Obj.cells #[.int .i64 c9, .int .i64 0] 26) = x := ⟨_, rfl⟩
  have hsz : u3.heap.size = w3.heap.size + 2 := by rw [← hu3]; simp
  obtain ⟨b9, hb9⟩ : ∃ b, w3.heap.size = b := ⟨_, rfl⟩
  obtain ⟨b10, hb10⟩ : ∃ b, b9 + 1 = b := ⟨_, rfl⟩
  rw [hu3] at hn1 hn2 hBB ⊢
  rw [hb9] at hn1 hn2 hbb ⊢
  rw [hb10] at hn2 ⊢
  rw [hu3] at hV5
  rw [hu3] at hV7
  have HV5 : Hid (IV u3 b5 (x)) := hV5
  have HV7 : Hid (ZV u3 b7 (x)) := hV7
  have HV9 : Hid (IV u3 b9 (p)) := hn1
  have HF10 : Hid (FB u3 b10 (.int .i64 c9) (.int .i64 0)) := hn2
  have HB : Hid (Below w.heap.size w u3) := hBB
  clear b2 hB3 hBB hn1 hn2 hbb hb3 hi3 hu3 hb9 hb10 hsz hV5 hV7
  obtain ⟨s5, a5, n5, c5, F5, I5⟩ := HV5.out
  obtain ⟨l5, k50, k51, -, -⟩ := F5
  go_wp2_with (go_at_call 31; fail)
  refine (rootI_any u3 _ x n I5 HX2.out HN1.out HN2.out).mono ?_
  rintro e w4 hpost
  obtain ⟨v4, c11, r, rfl, hb4, hi4, ok11⟩ := hpost
  clear l5 k50 k51 I5
  have OK11 : Hid _ := ok11
  clear ok11
  obtain ⟨s4, a4, n4, c4, rfl⟩ := hi4.form
  unfold flt
  have b2 := bel2 w4 (Obj.cells #[.int .i64 s4, .slice a4 n4 c4] 24) (Obj.cells #[.int .i64 c11, .int .i64 0] 26)
  have hB4 := HB.out.trans (hb4.mono HB.out.size)
  have hBB := hB4.trans (b2.mono hB4.size)
  have hV5 := (HV5.out.below hb4).below b2
  have hV7 := (HV7.out.below hb4).below b2
  have hV9 := (HV9.out.below hb4).below b2
  have hF10 := (HF10.out.below hb4).below b2
  have hn1 : IV _ _ (r) := ⟨_, _, _, _, (FB.mk0 w4 (.int .i64 s4) (.slice a4 n4 c4) 24).alloc (Obj.cells #[.int .i64 c11, .int .i64 0] 26), hi4.below b2⟩
  have hn2 : FB ((w4.alloc (Obj.cells #[.int .i64 s4, .slice a4 n4 c4] 24)).alloc (Obj.cells #[.int .i64 c11, .int .i64 0] 26)) (w4.heap.size + 1) (.int .i64 c11) (.int .i64 0) := by simpa using FB.mk0 (w4.alloc (Obj.cells #[.int .i64 s4, .slice a4 n4 c4] 24)) (.int .i64 c11) (.int .i64 0) 26
  have hbb : ∀ b, b < u3.heap.size → b < w4.heap.size := fun b h => Nat.lt_of_lt_of_le h hb4.size
  go_upto_region 5 with fail
  obtain ⟨u4, hu4⟩ : ∃ x, (w4.alloc (Obj.cells #[.int .i64 s4, .slice a4 n4 c4] 24)).alloc (Obj.cells #[.int .i64 c11, .int .i64 0] 26) = x := ⟨_, rfl⟩
  have hsz : u4.heap.size = w4.heap.size + 2 := by rw [← hu4]; simp
  obtain ⟨b11, hb11⟩ : ∃ b, w4.heap.size = b := ⟨_, rfl⟩
  obtain ⟨b12, hb12⟩ : ∃ b, b11 + 1 = b := ⟨_, rfl⟩
  rw [hu4] at hn1 hn2 hBB ⊢
  rw [hb11] at hn1 hn2 hbb ⊢
  rw [hb12] at hn2 ⊢
  rw [hu4] at hV5
  rw [hu4] at hV7
  rw [hu4] at hV9
  rw [hu4] at hF10
  have HV5 : Hid (IV u4 b5 (x)) := hV5
  have HV7 : Hid (ZV u4 b7 (x)) := hV7
  have HV9 : Hid (IV u4 b9 (p)) := hV9
  have HF10 : Hid (FB u4 b10 (.int .i64 c9) (.int .i64 0)) := hF10
  have HV11 : Hid (IV u4 b11 (r)) := hn1
  have HF12 : Hid (FB u4 b12 (.int .i64 c11) (.int .i64 0)) := hn2
  have HB : Hid (Below w.heap.size w u4) := hBB
  clear b2 hB4 hBB hn1 hn2 hbb hb4 hi4 hu4 hb11 hb12 hsz hV5 hV7 hV9 hF10
  clear CPX CZX HV5
  go_wp2_with (go_at_call 11; fail)
  refine (numBegun_any u4 (HT.out.below HB.out)).mono ?_
  rintro e u5 ⟨rfl, hb5⟩
  have hV7 := HV7.out.below hb5
  have hV9 := HV9.out.below hb5
  have hF10 := HF10.out.below hb5
  have hV11 := HV11.out.below hb5
  have hF12 := HF12.out.below hb5
  have hBB := HB.out.trans (hb5.mono HB.out.size)
  have HV7 : Hid (ZV u5 b7 (x)) := hV7
  have HV9 : Hid (IV u5 b9 (p)) := hV9
  have HF10 : Hid (FB u5 b10 (.int .i64 c9) (.int .i64 0)) := hF10
  have HV11 : Hid (IV u5 b11 (r)) := hV11
  have HF12 : Hid (FB u5 b12 (.int .i64 c11) (.int .i64 0)) := hF12
  have HB : Hid (Below w.heap.size w u5) := hBB
  clear hb5 hBB hV7 hV9 hF10 hV11 hF12
  go_upto_region 7 with fail
  obtain ⟨s9, a9, n9, d9, F9, I9⟩ := HV9.out
  obtain ⟨s11, a11, n11, d11, F11, I11⟩ := HV11.out
  obtain ⟨s7, a7, n7, d7, F7, I7⟩ := HV7.out
  have HI9 : Hid (IsInt u5 (.agg #[.int .i64 s9, .slice a9 n9 d9]) p) := I9
  have HI11 : Hid (IsInt u5 (.agg #[.int .i64 s11, .slice a11 n11 d11]) r) := I11
  have HI7 : Hid (IsZ u5 (.agg #[.bool s7, .slice a7 n7 d7]) x) := I7
  have G7 : Hid _ := F7
  have G9 : Hid _ := F9
  have G11 : Hid _ := F11
  clear HV7 HV9 HV11 I9 I11 I7 F7 F9 F11
  by_cases hA : n < 0 ∨ 200 < n
  · obtain ⟨rfl, rfl⟩ := OK9.out.range hA
    obtain ⟨rfl, rfl⟩ := OK11.out.range (by omega)
    obtain ⟨l7, k70, k71, -, -⟩ := G7.out
    obtain ⟨l9, k90, k91, -, -⟩ := G9.out
    obtain ⟨l10, k100, k101, -, -⟩ := HF10.out
    obtain ⟨l11, k110, k111, -, -⟩ := G11.out
    obtain ⟨l12, k120, k121, -, -⟩ := HF12.out
    have e0 : cmpI 0 0 = 0 := rfl
    by_cases h2 : n < 0
    · clear hA
      go_wp2_with (go_at_call 18; fail)
      refine (sign_any _ _ 0 (IsInt.below HI9.out (bel1 u5 (Obj.cells #[.int .i64 7, .int .i64 0] 26)))).mono ?_
      rintro e w6 ⟨rfl, hb6⟩
      have hb56 := (bel1 u5 (Obj.cells #[.int .i64 7, .int .i64 0] 26)).trans (hb6.mono (by simp))
      have j11 := IsInt.below HI11.out hb56
      have G110 := (hb56.cell (p := ⟨b11, 0, none⟩) l11).trans k110
      have G111 := (hb56.cell (p := ⟨b11, 1, none⟩) l11).trans k111
      have hB6 := HB.out.trans (hb56.mono HB.out.size)
      have HB6 : Hid _ := hB6
      have J11 : Hid (IsInt w6 (.agg #[.int .i64 s11, .slice a11 n11 d11]) 0) := j11
      clear l7 k70 k71 l9 k90 k91 l10 k100 k101 l11 k110 k111 l12 k120 k121 hb6 hb56 hB6 j11
      go_wp2_with (go_at_call 18; fail)
      refine (sign_any w6 _ 0 J11.out).mono ?_
      rintro e w7 ⟨rfl, hb7⟩
      have HB7 : Hid _ := HB6.out.trans (hb7.mono HB6.out.size)
      clear hb7 G110 G111
      go_wp2
      go_ret
      exact ⟨rfl, HB7.out⟩
    · have h3 : 200 < n := by omega
      clear hA
      go_wp2_with (go_at_call 18; fail)
      refine (sign_any _ _ 0 (IsInt.below HI9.out (bel1 u5 (Obj.cells #[.int .i64 7, .int .i64 0] 26)))).mono ?_
      rintro e w6 ⟨rfl, hb6⟩
      have hb56 := (bel1 u5 (Obj.cells #[.int .i64 7, .int .i64 0] 26)).trans (hb6.mono (by simp))
      have j11 := IsInt.below HI11.out hb56
      have G110 := (hb56.cell (p := ⟨b11, 0, none⟩) l11).trans k110
      have G111 := (hb56.cell (p := ⟨b11, 1, none⟩) l11).trans k111
      have hB6 := HB.out.trans (hb56.mono HB.out.size)
      have HB6 : Hid _ := hB6
      have J11 : Hid (IsInt w6 (.agg #[.int .i64 s11, .slice a11 n11 d11]) 0) := j11
      clear l7 k70 k71 l9 k90 k91 l10 k100 k101 l11 k110 k111 l12 k120 k121 hb6 hb56 hB6 j11
      go_wp2_with (go_at_call 18; fail)
      refine (sign_any w6 _ 0 J11.out).mono ?_
      rintro e w7 ⟨rfl, hb7⟩
      have HB7 : Hid _ := HB6.out.trans (hb7.mono HB6.out.size)
      clear hb7 G110 G111
      go_wp2
      go_ret
      exact ⟨rfl, HB7.out⟩
  · have h2 : ¬ n < 0 := by omega
    have h3 : ¬ 200 < n := by omega
    obtain ⟨m, rfl⟩ : ∃ m : Nat, n = (m : Int) := ⟨n.toNat, by omega⟩
    have hm : m ≤ 200 := by omega
    obtain ⟨rfl, hp⟩ := OK9.out.ok (by omega) (by omega)
    rw [Int.toNat_natCast] at hp
    subst hp
    have OKR : Hid (RootOk m x c11 r) := OK11.out
    clear hA OK9 OK11 hn1 hn2 HN1 HN2
    obtain ⟨pr, hpr⟩ : ∃ pr, IntKind.i64.wrap ((s.size : Int) * (m : Int)) = pr := ⟨_, rfl⟩
    obtain ⟨l7, k70, k71, -, -⟩ := G7.out
    obtain ⟨l9, k90, k91, -, -⟩ := G9.out
    obtain ⟨l10, k100, k101, -, -⟩ := HF10.out
    obtain ⟨l11, k110, k111, -, -⟩ := G11.out
    obtain ⟨l12, k120, k121, -, -⟩ := HF12.out
    obtain ⟨tx1, hu1⟩ : ∃ u : ByteArray, u = ⟨(txt (x ^ m)).toArray⟩ := ⟨_, rfl⟩
    have HU1 : Hid _ := hu1
    have HSH' : Hid (pr ≤ 3000 → max 1 x.natAbs ^ m < 10000 ^ LX ∧ max 1 x.natAbs ^ m < B ^ 159) := by rw [← hpr]; exact HSH.out m hm
    clear hu1
    have HPK : Hid (PK w u5 b7 b11 b12 s7 a7 n7 d7 s11 a11 n11 d11 x r c11) := ⟨HB.out, G7.out, G11.out, HF12.out, HI11.out, HI7.out⟩
    go_upto_region 10 with fail
    go_cut [83] from 65 (fun v wx => v = .bool false ∧ PK w wx b7 b11 b12 s7 a7 n7 d7 s11 a11 n11 d11 x r c11)
    case first =>
      refine wp_world (fun w1 => w1 = u5) rfl ?_
      rintro w1 rfl
      by_cases hG : pr ≤ 3000
      · have HSM : Hid _ := HSH'.out hG
        have CT : ∀ wx, Below w.heap.size w wx → ∀ v, IsInt wx v (x ^ m) → Calls Tryz.prog 14 #[v] wx fun e w' => e = .returned (.string tx1) ∧ Below wx.heap.size wx w' := fun wx h1 v hv => by
          rw [HU1.out]
          exact text_any wx _ _ hv (Nat.lt_of_le_of_lt (_root_.Rad.pow_abs_le x (Nat.le_refl m)) HSM.out.2) (HT.out.below h1)
        have CZ : ∀ wx v, IsZ wx v (x ^ m) → Calls Tryz.prog 15 #[v] wx fun e w' => e = .returned (.string tx1) ∧ Below wx.heap.size wx w' := fun wx v hv => by
          rw [HU1.out]
          exact zText_any wx _ _ LX hv (Nat.lt_of_le_of_lt (_root_.Rad.pow_abs_le x (Nat.le_refl m)) HSM.out.1) (Nat.le_trans HLX.out (by decide))
        refine wp_drawn mixed [⟨65, [], [], [0]⟩, ⟨66, [0], [0], []⟩, ⟨67, [], [], [1]⟩, ⟨68, [1, 2], [0, 1, 2], []⟩, ⟨69, [3], [0, 1, 2, 3], []⟩, ⟨70, [4], [0, 1, 2, 3, 4], []⟩, ⟨71, [5], [0, 1, 2, 3, 4, 5], [10]⟩, ⟨72, [5, 6], [0, 1, 2, 3, 4, 5, 6], []⟩, ⟨73, [5, 7], [0, 1, 2, 3, 4, 5, 6, 7], []⟩, ⟨74, [5, 8], [0, 1, 2, 3, 4, 5, 6, 7, 8], []⟩, ⟨75, [9], [0, 1, 2, 3, 4, 5, 6, 7, 8, 9], [9]⟩, ⟨76, [9, 10], [0, 1, 2, 3, 4, 5, 6, 7, 8, 9, 10], []⟩, ⟨77, [9], [0, 1, 2, 3, 4, 5, 6, 7, 8, 9], [7]⟩, ⟨78, [9], [0, 1, 2, 3, 4, 5, 6, 7, 8, 9], [1]⟩, ⟨79, [9, 11, 12, 13], [0, 1, 2, 3, 4, 5, 6, 7, 8, 9, 10, 11, 12, 13], []⟩, ⟨80, [9, 14], [0, 1, 2, 3, 4, 5, 6, 7, 8, 9, 10, 11, 12, 13, 14], []⟩, ⟨81, [9, 11, 15], [0, 1, 2, 3, 4, 5, 6, 7, 8, 9, 10, 11, 12, 13, 14, 15], []⟩, ⟨82, [5, 9, 16], [0, 1, 2, 3, 4, 5, 6, 7, 8, 9, 10, 11, 12, 13, 14, 15, 16], []⟩, ⟨83, [5, 17], [0, 1, 2, 3, 4, 5, 6, 7, 8, 9, 10, 11, 12, 13, 14, 15, 16, 17], []⟩] [] (by kernel_rfl) 158 rfl (by kernel_rfl) (fun (i : Nat) (v : Value) (wq : World) => match i with | 0 => v = .string (s) | 1 => v = .int .i64 ((s.size : Int)) | 2 => v = .int .i64 ((m : Int)) | 3 => v = .int .i64 (pr) | 4 => v = .bool (true) | 5 => v = .bool (true) | 6 => v = .pointer (some ⟨b10, 0, none⟩) | 7 => v = .int .i64 (0) | 8 => v = .bool (false) | 9 => v = .bool (false) | 10 => v = .agg #[.int .i64 (s9), .slice a9 (n9) (d9)] | 11 => v = .string (tx1) | 12 => v = .agg #[.bool (s7), .slice a7 (n7) (d7)] | 13 => v = .int .i64 ((m : Int)) | 14 => IsZ wq v (x ^ m) | 15 => v = .string (tx1) | 16 => v = .bool (false) | 17 => v = .bool (false) | 18 => v = .bool (false) | _ => True) (fun _ wq => Below w1.heap.size w1 wq) (fun wx wy => Below wx.heap.size wx wy) (Below.refl _ _).drew (fun i v wx wy h hx => match i, h with | 0, h => h | 1, h => h | 2, h => h | 3, h => h | 4, h => h | 5, h => h | 6, h => h | 7, h => h | 8, h => h | 9, h => h | 10, h => h | 11, h => h | 12, h => h | 13, h => h | 15, h => h | 16, h => h | 17, h => h | 18, h => h | 14, h => (h : IsZ wx v _).below hx | n + 19, _ => trivial) ?_ ?_
        · intro i o r ho hr L fr wx hW hL hpr hds hdef hpre hfree
          clear hL hpr hds hdef
          match i, ho, hr with
          | 0, ho, hr =>
            obtain rfl := Option.some.inj ho; obtain rfl := Option.some.inj hr
            have t0 := ev_tmp (show fr.eval (.tmp 0) = .string (s) from hfree 0 (by decide))
            clear hpre hfree
            refine stpK rfl rfl fun K hK => ?_
            go_simp
            exact hK _ _ ⟨rfl, hW, Below.refl _ _, fun h => (List.not_mem_nil h).elim⟩
          | 1, ho, hr =>
            obtain rfl := Option.some.inj ho; obtain rfl := Option.some.inj hr
            have e0 := ev_tmp (show fr.eval (.tmp 65) = .string (s) from hpre 0 (by decide) _ rfl)
            clear hpre hfree
            refine stpK rfl rfl fun K hK => ?_
            go_simp
            exact hK _ _ ⟨(by first | rfl | (simp; done) | (simp [*]; done)), hW, Below.refl _ _, fun h => (List.not_mem_nil h).elim⟩
          | 2, ho, hr =>
            obtain rfl := Option.some.inj ho; obtain rfl := Option.some.inj hr
            have t1 := ev_tmp (show fr.eval (.tmp 1) = .int .i64 ((m : Int)) from hfree 1 (by decide))
            clear hpre hfree
            refine stpK rfl rfl fun K hK => ?_
            go_simp
            exact hK _ _ ⟨rfl, hW, Below.refl _ _, fun h => (List.not_mem_nil h).elim⟩
          | 3, ho, hr =>
            obtain rfl := Option.some.inj ho; obtain rfl := Option.some.inj hr
            have e1 := ev_tmp (show fr.eval (.tmp 66) = .int .i64 ((s.size : Int)) from hpre 1 (by decide) _ rfl)
            have e2 := ev_tmp (show fr.eval (.tmp 67) = .int .i64 ((m : Int)) from hpre 2 (by decide) _ rfl)
            clear hpre hfree
            refine stpK rfl rfl fun K hK => ?_
            go_simp
            exact hK _ _ ⟨(by first | rfl | (simp; done) | (simp [*]; done)), hW, Below.refl _ _, fun h => (List.not_mem_nil h).elim⟩
          | 4, ho, hr =>
            obtain rfl := Option.some.inj ho; obtain rfl := Option.some.inj hr
            have e3 := ev_tmp (show fr.eval (.tmp 68) = .int .i64 (pr) from hpre 3 (by decide) _ rfl)
            clear hpre hfree
            refine stpK rfl rfl fun K hK => ?_
            go_simp
            exact hK _ _ ⟨(by first | rfl | (simp; done) | (simp [*]; done)), hW, Below.refl _ _, fun h => (List.not_mem_nil h).elim⟩
          | 5, ho, hr =>
            obtain rfl := Option.some.inj ho; obtain rfl := Option.some.inj hr
            have e4 := ev_tmp (show fr.eval (.tmp 69) = .bool (true) from hpre 4 (by decide) _ rfl)
            clear hpre hfree
            refine stpK rfl rfl fun K hK => ?_
            go_simp
            exact hK _ _ ⟨rfl, hW, Below.refl _ _, fun h => (List.not_mem_nil h).elim⟩
          | 6, ho, hr =>
            obtain rfl := Option.some.inj ho; obtain rfl := Option.some.inj hr
            have e5 := ev_tmp (show fr.eval (.tmp 70) = .bool (true) from hpre 5 (by decide) _ rfl)
            have t10 := ev_tmp (show fr.eval (.tmp 10) = .pointer (some ⟨b10, 0, none⟩) from hfree 10 (by decide))
            clear hpre hfree
            refine stpK_g rfl rfl e5 rfl fun K hK => ?_
            go_simp
            exact hK _ _ ⟨rfl, hW, Below.refl _ _, fun h => (List.not_mem_nil h).elim⟩
          | 7, ho, hr =>
            obtain rfl := Option.some.inj ho; obtain rfl := Option.some.inj hr
            have e5 := ev_tmp (show fr.eval (.tmp 70) = .bool (true) from hpre 5 (by decide) _ rfl)
            have e6 := ev_tmp (show fr.eval (.tmp 71) = .pointer (some ⟨b10, 0, none⟩) from hpre 6 (by decide) _ rfl)
            clear hpre hfree
            have c0 := (hW.cell (p := ⟨b10, 0, none⟩) l10).trans k100
            refine stpK_g rfl rfl e5 rfl fun K hK => ?_
            go_simp
            exact hK _ _ ⟨rfl, hW, Below.refl _ _, fun h => (List.not_mem_nil h).elim⟩
          | 8, ho, hr =>
            obtain rfl := Option.some.inj ho; obtain rfl := Option.some.inj hr
            have e5 := ev_tmp (show fr.eval (.tmp 70) = .bool (true) from hpre 5 (by decide) _ rfl)
            have e7 := ev_tmp (show fr.eval (.tmp 72) = .int .i64 (0) from hpre 7 (by decide) _ rfl)
            clear hpre hfree
            refine stpK_g rfl rfl e5 rfl fun K hK => ?_
            go_simp
            exact hK _ _ ⟨(by first | rfl | (simp; done) | (simp [*]; done)), hW, Below.refl _ _, fun h => (List.not_mem_nil h).elim⟩
          | 9, ho, hr =>
            obtain rfl := Option.some.inj ho; obtain rfl := Option.some.inj hr
            have e5 := ev_tmp (show fr.eval (.tmp 70) = .bool (true) from hpre 5 (by decide) _ rfl)
            have e8 := ev_tmp (show fr.eval (.tmp 73) = .bool (false) from hpre 8 (by decide) _ rfl)
            clear hpre hfree
            refine stpK_g rfl rfl e5 rfl fun K hK => ?_
            go_simp
            exact hK _ _ ⟨rfl, hW, Below.refl _ _, fun h => (List.not_mem_nil h).elim⟩
          | 10, ho, hr =>
            obtain rfl := Option.some.inj ho; obtain rfl := Option.some.inj hr
            have e9 := ev_tmp (show fr.eval (.tmp 74) = .bool (false) from hpre 9 (by decide) _ rfl)
            have t9 := ev_tmp (show fr.eval (.tmp 9) = .pointer (some ⟨b9, 0, none⟩) from hfree 9 (by decide))
            clear hpre hfree
            have c0 := (hW.cell (p := ⟨b9, 0, none⟩) l9).trans k90
            have c1 := (hW.cell (p := ⟨b9, 1, none⟩) l9).trans k91
            refine stpK_g rfl rfl e9 rfl fun K hK => ?_
            go_simp
            exact hK _ _ ⟨rfl, hW, Below.refl _ _, fun h => (List.not_mem_nil h).elim⟩
          | 11, ho, hr =>
            obtain rfl := Option.some.inj ho; obtain rfl := Option.some.inj hr
            have e9 := ev_tmp (show fr.eval (.tmp 74) = .bool (false) from hpre 9 (by decide) _ rfl)
            have e10 := ev_tmp (show fr.eval (.tmp 75) = .agg #[.int .i64 (s9), .slice a9 (n9) (d9)] from hpre 10 (by decide) _ rfl)
            clear hpre hfree
            refine stpK_g rfl rfl e9 rfl fun K hK => ?_
            go_simp
            refine (CT wx (HB.out.trans (hW.mono HB.out.size)) _ (IsInt.below HI9.out hW)).mono ?_
            rintro e wy ⟨rfl, hb⟩
            exact hK _ _ ⟨rfl, hW.trans (hb.mono hW.size), hb, fun h => (List.not_mem_nil h).elim⟩
          | 12, ho, hr =>
            obtain rfl := Option.some.inj ho; obtain rfl := Option.some.inj hr
            have e9 := ev_tmp (show fr.eval (.tmp 74) = .bool (false) from hpre 9 (by decide) _ rfl)
            have t7 := ev_tmp (show fr.eval (.tmp 7) = .pointer (some ⟨b7, 0, none⟩) from hfree 7 (by decide))
            clear hpre hfree
            have c0 := (hW.cell (p := ⟨b7, 0, none⟩) l7).trans k70
            have c1 := (hW.cell (p := ⟨b7, 1, none⟩) l7).trans k71
            refine stpK_g rfl rfl e9 rfl fun K hK => ?_
            go_simp
            exact hK _ _ ⟨rfl, hW, Below.refl _ _, fun h => (List.not_mem_nil h).elim⟩
          | 13, ho, hr =>
            obtain rfl := Option.some.inj ho; obtain rfl := Option.some.inj hr
            have e9 := ev_tmp (show fr.eval (.tmp 74) = .bool (false) from hpre 9 (by decide) _ rfl)
            have t1 := ev_tmp (show fr.eval (.tmp 1) = .int .i64 ((m : Int)) from hfree 1 (by decide))
            clear hpre hfree
            refine stpK_g rfl rfl e9 rfl fun K hK => ?_
            go_simp
            exact hK _ _ ⟨rfl, hW, Below.refl _ _, fun h => (List.not_mem_nil h).elim⟩
          | 14, ho, hr =>
            obtain rfl := Option.some.inj ho; obtain rfl := Option.some.inj hr
            have e9 := ev_tmp (show fr.eval (.tmp 74) = .bool (false) from hpre 9 (by decide) _ rfl)
            have e12 := ev_tmp (show fr.eval (.tmp 77) = .agg #[.bool (s7), .slice a7 (n7) (d7)] from hpre 12 (by decide) _ rfl)
            have e13 := ev_tmp (show fr.eval (.tmp 78) = .int .i64 ((m : Int)) from hpre 13 (by decide) _ rfl)
            clear hpre hfree
            refine stpK_g rfl rfl e9 rfl fun K hK => ?_
            go_simp
            refine (zPow_any wx _ x m LX (IsZ.below HI7.out hW) HSM.out.1 HLX.out (by omega)).mono ?_
            rintro e wy ⟨v4, rfl, hb, hm4⟩
            exact hK _ _ ⟨hm4, hW.trans (hb.mono hW.size), hb, fun h => (List.not_mem_nil h).elim⟩
          | 15, ho, hr =>
            obtain rfl := Option.some.inj ho; obtain rfl := Option.some.inj hr
            have e9 := ev_tmp (show fr.eval (.tmp 74) = .bool (false) from hpre 9 (by decide) _ rfl)
            obtain ⟨u14, q14⟩ : ∃ u, fr.eval (.tmp 79) = u := ⟨_, rfl⟩
            have p14 : IsZ wx u14 (x ^ m) := by rw [← q14]; exact hpre 14 (by decide) _ rfl
            have e14 := ev_tmp q14; clear q14
            clear hpre hfree
            refine stpK_g rfl rfl e9 rfl fun K hK => ?_
            go_simp
            refine (CZ wx _ p14).mono ?_
            rintro e wy ⟨rfl, hb⟩
            exact hK _ _ ⟨rfl, hW.trans (hb.mono hW.size), hb, fun h => (List.not_mem_nil h).elim⟩
          | 16, ho, hr =>
            obtain rfl := Option.some.inj ho; obtain rfl := Option.some.inj hr
            have e9 := ev_tmp (show fr.eval (.tmp 74) = .bool (false) from hpre 9 (by decide) _ rfl)
            have e11 := ev_tmp (show fr.eval (.tmp 76) = .string (tx1) from hpre 11 (by decide) _ rfl)
            have e15 := ev_tmp (show fr.eval (.tmp 80) = .string (tx1) from hpre 15 (by decide) _ rfl)
            clear hpre hfree
            refine stpK_g rfl rfl e9 rfl fun K hK => ?_
            go_simp
            exact hK _ _ ⟨(by first | rfl | (simp; done) | (simp [*]; done)), hW, Below.refl _ _, fun h => (List.not_mem_nil h).elim⟩
          | 17, ho, hr =>
            obtain rfl := Option.some.inj ho; obtain rfl := Option.some.inj hr
            have e5 := ev_tmp (show fr.eval (.tmp 70) = .bool (true) from hpre 5 (by decide) _ rfl)
            have e9 := ev_tmp (show fr.eval (.tmp 74) = .bool (false) from hpre 9 (by decide) _ rfl)
            have e16 := ev_tmp (show fr.eval (.tmp 81) = .bool (false) from hpre 16 (by decide) _ rfl)
            clear hpre hfree
            refine stpK_g rfl rfl e5 rfl fun K hK => ?_
            go_simp
            exact hK _ _ ⟨(by first | rfl | (simp; done) | (simp [*]; done)), hW, Below.refl _ _, fun h => (List.not_mem_nil h).elim⟩
          | 18, ho, hr =>
            obtain rfl := Option.some.inj ho; obtain rfl := Option.some.inj hr
            have e5 := ev_tmp (show fr.eval (.tmp 70) = .bool (true) from hpre 5 (by decide) _ rfl)
            have e17 := ev_tmp (show fr.eval (.tmp 82) = .bool (false) from hpre 17 (by decide) _ rfl)
            clear hpre hfree
            refine stpK rfl rfl fun K hK => ?_
            go_simp
            exact hK _ _ ⟨(by first | rfl | (simp; done) | (simp [*]; done)), hW, Below.refl _ _, fun h => (List.not_mem_nil h).elim⟩
          | n + 19, ho, hr => exact absurd hr (by simp)
        · intro vs wn hvs hW1 hap0
          clear hap0
          have e0 : vs 0 = .string (s) := hvs 0 (by decide)
          have e1 : vs 1 = .int .i64 ((s.size : Int)) := hvs 1 (by decide)
          have e2 : vs 2 = .int .i64 ((m : Int)) := hvs 2 (by decide)
          have e3 : vs 3 = .int .i64 (pr) := hvs 3 (by decide)
          have e4 : vs 4 = .bool (true) := hvs 4 (by decide)
          have e5 : vs 5 = .bool (true) := hvs 5 (by decide)
          have e6 : vs 6 = .pointer (some ⟨b10, 0, none⟩) := hvs 6 (by decide)
          have e7 : vs 7 = .int .i64 (0) := hvs 7 (by decide)
          have e8 : vs 8 = .bool (false) := hvs 8 (by decide)
          have e9 : vs 9 = .bool (false) := hvs 9 (by decide)
          have e10 : vs 10 = .agg #[.int .i64 (s9), .slice a9 (n9) (d9)] := hvs 10 (by decide)
          have e11 : vs 11 = .string (tx1) := hvs 11 (by decide)
          have e12 : vs 12 = .agg #[.bool (s7), .slice a7 (n7) (d7)] := hvs 12 (by decide)
          have e13 : vs 13 = .int .i64 ((m : Int)) := hvs 13 (by decide)
          obtain ⟨u14, e14⟩ : ∃ u, vs 14 = u := ⟨_, rfl⟩
          have p14 : IsZ wn u14 (x ^ m) := by rw [← e14]; exact hvs 14 (by decide)
          have e15 : vs 15 = .string (tx1) := hvs 15 (by decide)
          have e16 : vs 16 = .bool (false) := hvs 16 (by decide)
          have e17 : vs 17 = .bool (false) := hvs 17 (by decide)
          have e18 : vs 18 = .bool (false) := hvs 18 (by decide)
          simp only [puts, Nat.reduceAdd, e0, e1, e2, e3, e4, e5, e6, e7, e8, e9, e10, e11, e12, e13, e14, e15, e16, e17, e18, Act.put, List.setIfInBounds_toArray, List.set_cons_zero, List.set_cons_succ, List.drop_succ_cons, List.drop_zero, List.length_cons, List.length_nil]
          clear hvs e0 e1 e2 e3 e4 e5 e6 e7 e8 e9 e10 e11 e12 e13 e14 e15 e16 e17 e18
          clear CT CZ p14 hpr l7 k70 k71 l9 k90 k91 l10 k100 k101 l11 k110 k111 l12 k120 k121
          have HN : Hid _ := HPK.out.step hW1
          clear hW1
          go_wp2_with fail
          go_meet
          case rel => exact ⟨rfl, HN.out⟩
      · clear HSH'
        refine wp_drawn mixed [⟨65, [], [], [0]⟩, ⟨66, [0], [0], []⟩, ⟨67, [], [], [1]⟩, ⟨68, [1, 2], [0, 1, 2], []⟩, ⟨69, [3], [0, 1, 2, 3], []⟩, ⟨70, [4], [0, 1, 2, 3, 4], []⟩, ⟨71, [5], [0, 1, 2, 3, 4, 5], [10]⟩, ⟨72, [5, 6], [0, 1, 2, 3, 4, 5, 6], []⟩, ⟨73, [5, 7], [0, 1, 2, 3, 4, 5, 6, 7], []⟩, ⟨74, [5, 8], [0, 1, 2, 3, 4, 5, 6, 7, 8], []⟩, ⟨75, [9], [0, 1, 2, 3, 4, 5, 6, 7, 8, 9], [9]⟩, ⟨76, [9, 10], [0, 1, 2, 3, 4, 5, 6, 7, 8, 9, 10], []⟩, ⟨77, [9], [0, 1, 2, 3, 4, 5, 6, 7, 8, 9], [7]⟩, ⟨78, [9], [0, 1, 2, 3, 4, 5, 6, 7, 8, 9], [1]⟩, ⟨79, [9, 11, 12, 13], [0, 1, 2, 3, 4, 5, 6, 7, 8, 9, 10, 11, 12, 13], []⟩, ⟨80, [9, 14], [0, 1, 2, 3, 4, 5, 6, 7, 8, 9, 10, 11, 12, 13, 14], []⟩, ⟨81, [9, 11, 15], [0, 1, 2, 3, 4, 5, 6, 7, 8, 9, 10, 11, 12, 13, 14, 15], []⟩, ⟨82, [5, 9, 16], [0, 1, 2, 3, 4, 5, 6, 7, 8, 9, 10, 11, 12, 13, 14, 15, 16], []⟩, ⟨83, [5, 17], [0, 1, 2, 3, 4, 5, 6, 7, 8, 9, 10, 11, 12, 13, 14, 15, 16, 17], []⟩] [] (by kernel_rfl) 158 rfl (by kernel_rfl) (fun (i : Nat) (v : Value) (wq : World) => match i with | 0 => v = .string (s) | 1 => v = .int .i64 ((s.size : Int)) | 2 => v = .int .i64 ((m : Int)) | 3 => v = .int .i64 (pr) | 4 => v = .bool (false) | 5 => v = .bool (false) | 6 => v = undef | 7 => v = undef | 8 => v = undef | 9 => v = undef | 10 => v = undef | 11 => v = undef | 12 => v = undef | 13 => v = undef | 14 => v = undef | 15 => v = undef | 16 => v = undef | 17 => v = undef | 18 => v = .bool (false) | _ => True) (fun _ wq => Below w1.heap.size w1 wq) (fun wx wy => Below wx.heap.size wx wy) (Below.refl _ _).drew (fun i v wx wy h hx => match i, h with | 0, h => h | 1, h => h | 2, h => h | 3, h => h | 4, h => h | 5, h => h | 6, h => h | 7, h => h | 8, h => h | 9, h => h | 10, h => h | 11, h => h | 12, h => h | 13, h => h | 14, h => h | 15, h => h | 16, h => h | 17, h => h | 18, h => h  | n + 19, _ => trivial) ?_ ?_
        · intro i o r ho hr L fr wx hW hL hpr hds hdef hpre hfree
          clear hL hpr hds hdef
          match i, ho, hr with
          | 0, ho, hr =>
            obtain rfl := Option.some.inj ho; obtain rfl := Option.some.inj hr
            have t0 := ev_tmp (show fr.eval (.tmp 0) = .string (s) from hfree 0 (by decide))
            clear hpre hfree
            refine stpK rfl rfl fun K hK => ?_
            go_simp
            exact hK _ _ ⟨rfl, hW, Below.refl _ _, fun h => (List.not_mem_nil h).elim⟩
          | 1, ho, hr =>
            obtain rfl := Option.some.inj ho; obtain rfl := Option.some.inj hr
            have e0 := ev_tmp (show fr.eval (.tmp 65) = .string (s) from hpre 0 (by decide) _ rfl)
            clear hpre hfree
            refine stpK rfl rfl fun K hK => ?_
            go_simp
            exact hK _ _ ⟨(by first | rfl | (simp; done) | (simp [*]; done)), hW, Below.refl _ _, fun h => (List.not_mem_nil h).elim⟩
          | 2, ho, hr =>
            obtain rfl := Option.some.inj ho; obtain rfl := Option.some.inj hr
            have t1 := ev_tmp (show fr.eval (.tmp 1) = .int .i64 ((m : Int)) from hfree 1 (by decide))
            clear hpre hfree
            refine stpK rfl rfl fun K hK => ?_
            go_simp
            exact hK _ _ ⟨rfl, hW, Below.refl _ _, fun h => (List.not_mem_nil h).elim⟩
          | 3, ho, hr =>
            obtain rfl := Option.some.inj ho; obtain rfl := Option.some.inj hr
            have e1 := ev_tmp (show fr.eval (.tmp 66) = .int .i64 ((s.size : Int)) from hpre 1 (by decide) _ rfl)
            have e2 := ev_tmp (show fr.eval (.tmp 67) = .int .i64 ((m : Int)) from hpre 2 (by decide) _ rfl)
            clear hpre hfree
            refine stpK rfl rfl fun K hK => ?_
            go_simp
            exact hK _ _ ⟨(by first | rfl | (simp; done) | (simp [*]; done)), hW, Below.refl _ _, fun h => (List.not_mem_nil h).elim⟩
          | 4, ho, hr =>
            obtain rfl := Option.some.inj ho; obtain rfl := Option.some.inj hr
            have e3 := ev_tmp (show fr.eval (.tmp 68) = .int .i64 (pr) from hpre 3 (by decide) _ rfl)
            clear hpre hfree
            refine stpK rfl rfl fun K hK => ?_
            go_simp
            exact hK _ _ ⟨(by first | rfl | (simp; done) | (simp [*]; done)), hW, Below.refl _ _, fun h => (List.not_mem_nil h).elim⟩
          | 5, ho, hr =>
            obtain rfl := Option.some.inj ho; obtain rfl := Option.some.inj hr
            have e4 := ev_tmp (show fr.eval (.tmp 69) = .bool (false) from hpre 4 (by decide) _ rfl)
            clear hpre hfree
            refine stpK rfl rfl fun K hK => ?_
            go_simp
            exact hK _ _ ⟨rfl, hW, Below.refl _ _, fun h => (List.not_mem_nil h).elim⟩
          | 6, ho, hr =>
            obtain rfl := Option.some.inj ho; obtain rfl := Option.some.inj hr
            have e5 := ev_tmp (show fr.eval (.tmp 70) = .bool (false) from hpre 5 (by decide) _ rfl)
            have t10 := ev_tmp (show fr.eval (.tmp 10) = .pointer (some ⟨b10, 0, none⟩) from hfree 10 (by decide))
            clear hpre hfree
            refine stpN rfl rfl e5 (by decide) ⟨undef, rfl, rfl, hW, Below.refl _ _, fun h => (List.not_mem_nil h).elim⟩
          | 7, ho, hr =>
            obtain rfl := Option.some.inj ho; obtain rfl := Option.some.inj hr
            have e5 := ev_tmp (show fr.eval (.tmp 70) = .bool (false) from hpre 5 (by decide) _ rfl)
            have e6 := ev_tmp (show fr.eval (.tmp 71) = undef from hpre 6 (by decide) _ rfl)
            clear hpre hfree
            refine stpN rfl rfl e5 (by decide) ⟨undef, rfl, rfl, hW, Below.refl _ _, fun h => (List.not_mem_nil h).elim⟩
          | 8, ho, hr =>
            obtain rfl := Option.some.inj ho; obtain rfl := Option.some.inj hr
            have e5 := ev_tmp (show fr.eval (.tmp 70) = .bool (false) from hpre 5 (by decide) _ rfl)
            have e7 := ev_tmp (show fr.eval (.tmp 72) = undef from hpre 7 (by decide) _ rfl)
            clear hpre hfree
            refine stpN rfl rfl e5 (by decide) ⟨undef, rfl, rfl, hW, Below.refl _ _, fun h => (List.not_mem_nil h).elim⟩
          | 9, ho, hr =>
            obtain rfl := Option.some.inj ho; obtain rfl := Option.some.inj hr
            have e5 := ev_tmp (show fr.eval (.tmp 70) = .bool (false) from hpre 5 (by decide) _ rfl)
            have e8 := ev_tmp (show fr.eval (.tmp 73) = undef from hpre 8 (by decide) _ rfl)
            clear hpre hfree
            refine stpN rfl rfl e5 (by decide) ⟨undef, rfl, rfl, hW, Below.refl _ _, fun h => (List.not_mem_nil h).elim⟩
          | 10, ho, hr =>
            obtain rfl := Option.some.inj ho; obtain rfl := Option.some.inj hr
            have e9 := ev_tmp (show fr.eval (.tmp 74) = undef from hpre 9 (by decide) _ rfl)
            have t9 := ev_tmp (show fr.eval (.tmp 9) = .pointer (some ⟨b9, 0, none⟩) from hfree 9 (by decide))
            clear hpre hfree
            refine stpU rfl rfl e9 ⟨undef, rfl, rfl, hW, Below.refl _ _, fun h => (List.not_mem_nil h).elim⟩
          | 11, ho, hr =>
            obtain rfl := Option.some.inj ho; obtain rfl := Option.some.inj hr
            have e9 := ev_tmp (show fr.eval (.tmp 74) = undef from hpre 9 (by decide) _ rfl)
            have e10 := ev_tmp (show fr.eval (.tmp 75) = undef from hpre 10 (by decide) _ rfl)
            clear hpre hfree
            refine stpU rfl rfl e9 ⟨undef, rfl, rfl, hW, Below.refl _ _, fun h => (List.not_mem_nil h).elim⟩
          | 12, ho, hr =>
            obtain rfl := Option.some.inj ho; obtain rfl := Option.some.inj hr
            have e9 := ev_tmp (show fr.eval (.tmp 74) = undef from hpre 9 (by decide) _ rfl)
            have t7 := ev_tmp (show fr.eval (.tmp 7) = .pointer (some ⟨b7, 0, none⟩) from hfree 7 (by decide))
            clear hpre hfree
            refine stpU rfl rfl e9 ⟨undef, rfl, rfl, hW, Below.refl _ _, fun h => (List.not_mem_nil h).elim⟩
          | 13, ho, hr =>
            obtain rfl := Option.some.inj ho; obtain rfl := Option.some.inj hr
            have e9 := ev_tmp (show fr.eval (.tmp 74) = undef from hpre 9 (by decide) _ rfl)
            have t1 := ev_tmp (show fr.eval (.tmp 1) = .int .i64 ((m : Int)) from hfree 1 (by decide))
            clear hpre hfree
            refine stpU rfl rfl e9 ⟨undef, rfl, rfl, hW, Below.refl _ _, fun h => (List.not_mem_nil h).elim⟩
          | 14, ho, hr =>
            obtain rfl := Option.some.inj ho; obtain rfl := Option.some.inj hr
            have e9 := ev_tmp (show fr.eval (.tmp 74) = undef from hpre 9 (by decide) _ rfl)
            have e12 := ev_tmp (show fr.eval (.tmp 77) = undef from hpre 12 (by decide) _ rfl)
            have e13 := ev_tmp (show fr.eval (.tmp 78) = undef from hpre 13 (by decide) _ rfl)
            clear hpre hfree
            refine stpU rfl rfl e9 ⟨undef, rfl, rfl, hW, Below.refl _ _, fun h => (List.not_mem_nil h).elim⟩
          | 15, ho, hr =>
            obtain rfl := Option.some.inj ho; obtain rfl := Option.some.inj hr
            have e9 := ev_tmp (show fr.eval (.tmp 74) = undef from hpre 9 (by decide) _ rfl)
            have e14 := ev_tmp (show fr.eval (.tmp 79) = undef from hpre 14 (by decide) _ rfl)
            clear hpre hfree
            refine stpU rfl rfl e9 ⟨undef, rfl, rfl, hW, Below.refl _ _, fun h => (List.not_mem_nil h).elim⟩
          | 16, ho, hr =>
            obtain rfl := Option.some.inj ho; obtain rfl := Option.some.inj hr
            have e9 := ev_tmp (show fr.eval (.tmp 74) = undef from hpre 9 (by decide) _ rfl)
            have e11 := ev_tmp (show fr.eval (.tmp 76) = undef from hpre 11 (by decide) _ rfl)
            have e15 := ev_tmp (show fr.eval (.tmp 80) = undef from hpre 15 (by decide) _ rfl)
            clear hpre hfree
            refine stpU rfl rfl e9 ⟨undef, rfl, rfl, hW, Below.refl _ _, fun h => (List.not_mem_nil h).elim⟩
          | 17, ho, hr =>
            obtain rfl := Option.some.inj ho; obtain rfl := Option.some.inj hr
            have e5 := ev_tmp (show fr.eval (.tmp 70) = .bool (false) from hpre 5 (by decide) _ rfl)
            have e9 := ev_tmp (show fr.eval (.tmp 74) = undef from hpre 9 (by decide) _ rfl)
            have e16 := ev_tmp (show fr.eval (.tmp 81) = undef from hpre 16 (by decide) _ rfl)
            clear hpre hfree
            refine stpN rfl rfl e5 (by decide) ⟨undef, rfl, rfl, hW, Below.refl _ _, fun h => (List.not_mem_nil h).elim⟩
          | 18, ho, hr =>
            obtain rfl := Option.some.inj ho; obtain rfl := Option.some.inj hr
            have e5 := ev_tmp (show fr.eval (.tmp 70) = .bool (false) from hpre 5 (by decide) _ rfl)
            have e17 := ev_tmp (show fr.eval (.tmp 82) = undef from hpre 17 (by decide) _ rfl)
            clear hpre hfree
            refine stpK rfl rfl fun K hK => ?_
            go_simp
            exact hK _ _ ⟨(by first | rfl | (simp; done) | (simp [*]; done)), hW, Below.refl _ _, fun h => (List.not_mem_nil h).elim⟩
          | n + 19, ho, hr => exact absurd hr (by simp)
        · intro vs wn hvs hW1 hap0
          clear hap0
          have e0 : vs 0 = .string (s) := hvs 0 (by decide)
          have e1 : vs 1 = .int .i64 ((s.size : Int)) := hvs 1 (by decide)
          have e2 : vs 2 = .int .i64 ((m : Int)) := hvs 2 (by decide)
          have e3 : vs 3 = .int .i64 (pr) := hvs 3 (by decide)
          have e4 : vs 4 = .bool (false) := hvs 4 (by decide)
          have e5 : vs 5 = .bool (false) := hvs 5 (by decide)
          have e6 : vs 6 = undef := hvs 6 (by decide)
          have e7 : vs 7 = undef := hvs 7 (by decide)
          have e8 : vs 8 = undef := hvs 8 (by decide)
          have e9 : vs 9 = undef := hvs 9 (by decide)
          have e10 : vs 10 = undef := hvs 10 (by decide)
          have e11 : vs 11 = undef := hvs 11 (by decide)
          have e12 : vs 12 = undef := hvs 12 (by decide)
          have e13 : vs 13 = undef := hvs 13 (by decide)
          have e14 : vs 14 = undef := hvs 14 (by decide)
          have e15 : vs 15 = undef := hvs 15 (by decide)
          have e16 : vs 16 = undef := hvs 16 (by decide)
          have e17 : vs 17 = undef := hvs 17 (by decide)
          have e18 : vs 18 = .bool (false) := hvs 18 (by decide)
          simp only [puts, Nat.reduceAdd, e0, e1, e2, e3, e4, e5, e6, e7, e8, e9, e10, e11, e12, e13, e14, e15, e16, e17, e18, Act.put, List.setIfInBounds_toArray, List.set_cons_zero, List.set_cons_succ, List.drop_succ_cons, List.drop_zero, List.length_cons, List.length_nil]
          clear hvs e0 e1 e2 e3 e4 e5 e6 e7 e8 e9 e10 e11 e12 e13 e14 e15 e16 e17 e18
          clear hpr l7 k70 k71 l9 k90 k91 l10 k100 k101 l11 k110 k111 l12 k120 k121
          have HN : Hid _ := HPK.out.step hW1
          clear hW1
          go_wp2_with fail
          go_meet
          case rel => exact ⟨rfl, HN.out⟩
    case rest =>
      obtain ⟨rfl, hpk⟩ := hcut
      have HPKc : Hid (PK w wc b7 b11 b12 s7 a7 n7 d7 s11 a11 n11 d11 x r c11) := hpk
      clear hpk l7 k70 k71 l9 k90 k91 l10 k100 k101 l11 k110 k111 l12 k120 k121 G7 G9 G11 HF12 HF10 HI11 HI9 HI7 HB HPK hpr HSH' HSH HU1
      have hpk := HPKc.out
      obtain ⟨l7, k70, k71, -, -⟩ := HPKc.out.f7
      obtain ⟨l11, k110, k111, -, -⟩ := HPKc.out.f11
      obtain ⟨l12, k120, k121, -, -⟩ := HPKc.out.f12
      clear hpk
      by_cases hm0 : m = 0
      · subst hm0
        obtain ⟨rfl, rfl⟩ := OKR.out.range (by omega)
        go_wp2_with (go_at_call 18; fail)
        refine (sign_any wc _ 0 HPKc.out.i11).mono ?_
        rintro e w6 ⟨rfl, hb6⟩
        have e0 : cmpI 0 0 = 0 := rfl
        have HB6 : Hid _ := HPKc.out.below.trans (hb6.mono HPKc.out.below.size)
        clear hb6 l7 k70 k71 l11 k110 k111 l12 k120 k121
        go_wp2
        go_ret
        exact ⟨rfl, HB6.out⟩
      · have hmi : ¬ (m : Int) = 0 := by omega
        have hm1 : 1 ≤ m := by omega
        obtain ⟨p2, hp2⟩ : ∃ p2, m % 2 = p2 := ⟨_, rfl⟩
        have HP2e : Hid _ := hp2
        have em : (m : Int).tmod 2 = (p2 : Int) := by rw [Int.tmod_eq_emod_of_nonneg (by omega)]; omega
        have em2 : (m : Int) % 2 = (p2 : Int) := by omega
        have EM2 : Hid _ := em2
        clear hp2 em em2
        go_upto_region 14 with fail
        go_cut [101] from 65 (fun v wx => v = .bool (decide (x < 0 ∧ p2 = 0)) ∧ PK w wx b7 b11 b12 s7 a7 n7 d7 s11 a11 n11 d11 x r c11)
        case first =>
          go_wp2_with (go_at_call 19; fail)
          refine (zSign_any wc _ x HPKc.out.i7).mono ?_
          rintro e w6 ⟨rfl, hb6⟩
          have HN : Hid _ := HPKc.out.step hb6
          clear l7 k70 k71 l11 k110 k111 l12 k120 k121 hb6
          have em2 := EM2.out
          have em : (m : Int).tmod 2 = (p2 : Int) := by rw [Int.tmod_eq_emod_of_nonneg (by omega)]; exact em2
          have hcs : cmpI x 0 < 0 ↔ x < 0 := by unfold cmpI; split <;> (try split) <;> omega
          obtain ⟨cx, hcx⟩ : ∃ cx, cmpI x 0 = cx := ⟨_, rfl⟩
          rw [hcx] at hcs ⊢
          clear hcx
          by_cases hx0 : x < 0
          · have hc1 : cx < 0 := hcs.2 hx0
            by_cases h0 : p2 = 0
            · have HD : Hid (decide (x < 0 ∧ p2 = 0) = true) := decide_eq_true ⟨hx0, h0⟩
              subst h0
              clear hcs hx0
              go_wp2_with fail
              go_meet
              case rel => exact ⟨congrArg Value.bool HD.out.symm, HN.out⟩
            · have HD : Hid (decide (x < 0 ∧ p2 = 0) = false) := decide_eq_false (fun h => h0 h.2)
              have h1 : ((p2 : Int) == 0) = false := by simp; omega
              have h2 : ¬ (p2 : Int) = 0 := by omega
              clear hcs hx0 h0
              go_wp2_with fail
              go_meet
              case rel => exact ⟨congrArg Value.bool HD.out.symm, HN.out⟩
          · have hc1 : ¬ cx < 0 := fun h => hx0 (hcs.1 h)
            have HD : Hid (decide (x < 0 ∧ p2 = 0) = false) := decide_eq_false (fun h => hx0 h.1)
            clear hcs hx0
            go_wp2_with fail
            go_meet
            case rel => exact ⟨congrArg Value.bool HD.out.symm, HN.out⟩
        case rest =>
          obtain ⟨rfl, hpk⟩ := hcut
          clear l7 k70 k71 l11 k110 k111 l12 k120 k121 HPKc
          have HP : Hid (PK w wc b7 b11 b12 s7 a7 n7 d7 s11 a11 n11 d11 x r c11) := hpk
          clear hpk
          obtain ⟨l7, k70, k71, -, -⟩ := HP.out.f7
          obtain ⟨l11, k110, k111, -, -⟩ := HP.out.f11
          obtain ⟨l12, k120, k121, -, -⟩ := HP.out.f12
          by_cases hev : x < 0 ∧ p2 = 0
          · obtain ⟨rfl, rfl⟩ := OKR.out.none (by omega) (by omega) hev.1 (by rw [EM2.out, hev.2]; rfl)
            have hd : decide (x < 0 ∧ p2 = 0) = true := decide_eq_true hev
            rw [hd]
            clear hd hev
            go_wp2_with (go_at_call 18; fail)
            refine (sign_any wc _ 0 HP.out.i11).mono ?_
            rintro e w6 ⟨rfl, hb6⟩
            have e0 : cmpI 0 0 = 0 := rfl
            have HB6 : Hid _ := HP.out.below.trans (hb6.mono HP.out.below.size)
            clear hb6 l7 k70 k71 l11 k110 k111 l12 k120 k121
            go_wp2
            go_ret
            exact ⟨rfl, HB6.out⟩
          · have hd : decide (x < 0 ∧ p2 = 0) = false := decide_eq_false hev
            rw [hd]
            obtain ⟨rfl, hrt, hs1, hs2⟩ := OKR.out.ok (by omega) (by omega) (by intro h; have := HP2e.out; omega)
            rw [Int.toNat_natCast] at hrt
            have HRT : Hid (_root_.Rad.IsRt m x.natAbs r.natAbs) := hrt
            have HS1 : Hid _ := hs1
            have HS2 : Hid _ := hs2
            clear hd hrt hs1 hs2 hev
            by_cases hlen : 200 < s.size
            · have hl : (200 : Int) < (s.size : Int) := by omega
              have HBB : Hid _ := HP.out.below
              clear hlen
              go_wp2
              go_ret
              exact ⟨rfl, HBB.out⟩
            · have hl : ¬ (200 : Int) < (s.size : Int) := by omega
              have hx200 : x.natAbs < 10 ^ 200 := HVL.out.resolve_left hlen
              clear hlen
              have hrx : r.natAbs ≤ x.natAbs := Nat.le_trans (Nat.le_self_pow (by omega) _) HRT.out.1
              have hr200 : r.natAbs < 10 ^ 200 := Nat.lt_of_le_of_lt hrx hx200
              have hrB : r.natAbs < B ^ 159 := Nat.lt_of_lt_of_le hr200 (by unfold B; decide)
              obtain ⟨v1, v2, v3⟩ := _root_.Rad.itoa_back r
              have v4 := v3 200 (by decide) hr200
              obtain ⟨tr, htr⟩ : ∃ tr : ByteArray, (⟨(txt r).toArray⟩ : ByteArray) = tr := ⟨_, rfl⟩
              have hdl : tr.data.toList = txt r := by rw [← htr]
              have htl : tr.size ≤ 201 := by
                rw [← ba_size, hdl]
                exact Nat.le_trans (digs_len (txt r)).2 (by unfold txt; omega)
              have q1 : pcode tr.data.toList = 0 := by rw [hdl]; unfold pcode txt; rw [if_pos v1, if_neg (by omega)]
              have q2 : pat tr.data.toList = 0 := by rw [hdl]; unfold pat txt; rw [if_pos v1]
              have q3 : pval tr.data.toList = r := by rw [hdl]; unfold pval txt; rw [if_pos ⟨v1, by omega⟩, v2]
              have CTX := text_any wc _ r HP.out.i11 hrB (HT.out.below HP.out.below)
              rw [htr] at CTX
              have CZP := fun w => zparse_any w tr (by omega)
              simp only [q1, q2, q3] at CZP
              have HR200 : Hid _ := hr200
              have HX200 : Hid _ := hx200
              clear hrx hr200 hrB hx200 v1 v2 v3 v4 htr hdl htl q1 q2 q3
              go_wp2_with (go_at_call 14; fail)
              refine CTX.mono ?_
              rintro e w6 ⟨rfl, hb6⟩
              have HP6 : Hid (PK w w6 b7 b11 b12 s7 a7 n7 d7 s11 a11 n11 d11 x r 0) := HP.out.step hb6
              clear CTX l7 k70 k71 l11 k110 k111 l12 k120 k121 hb6 HP
              go_wp2_with (go_at_call 10; fail)
              refine (CZP w6).mono ?_
              rintro e w8 ⟨v8, rfl, hb8, hi8⟩
              obtain ⟨s14, a14, n14, d14, rfl⟩ := hi8.form
              unfold flt
              have b2 := bel2 w8 (Obj.cells #[.bool s14, .slice a14 n14 d14] 31) (Obj.cells #[.int .i64 0, .int .i64 0] 26)
              have hP := (HP6.out.step hb8).step b2
              have F14 : FB ((w8.alloc (Obj.cells #[.bool s14, .slice a14 n14 d14] 31)).alloc (Obj.cells #[.int .i64 0, .int .i64 0] 26)) w8.heap.size (.bool s14) (.slice a14 n14 d14) := (FB.mk0 w8 (.bool s14) (.slice a14 n14 d14) 31).alloc (Obj.cells #[.int .i64 0, .int .i64 0] 26)
              have F15 : FB ((w8.alloc (Obj.cells #[.bool s14, .slice a14 n14 d14] 31)).alloc (Obj.cells #[.int .i64 0, .int .i64 0] 26)) (w8.heap.size + 1) (.int .i64 0) (.int .i64 0) := by simpa using FB.mk0 (w8.alloc (Obj.cells #[.bool s14, .slice a14 n14 d14] 31)) (.int .i64 0) (.int .i64 0) 26
              have i14 := hi8.below b2
              have h714 : b7 < w8.heap.size := (HP6.out.f7.below hb8).lt
              have h714w : w.heap.size ≤ w8.heap.size := Nat.le_trans HP6.out.below.size hb8.size
              go_upto_region 19 with fail
              obtain ⟨w9, hw9⟩ : ∃ x, (w8.alloc (Obj.cells #[.bool s14, .slice a14 n14 d14] 31)).alloc (Obj.cells #[.int .i64 0, .int .i64 0] 26) = x := ⟨_, rfl⟩
              rw [hw9] at hP F14 F15 i14 ⊢
              obtain ⟨b14, hb14⟩ : ∃ b, w8.heap.size = b := ⟨_, rfl⟩
              rw [hb14] at F14 F15 h714 h714w ⊢
              obtain ⟨b15, hb15⟩ : ∃ b, b14 + 1 = b := ⟨_, rfl⟩
              rw [hb15] at F15 ⊢
              have HP : Hid (PK w w9 b7 b11 b12 s7 a7 n7 d7 s11 a11 n11 d11 x r 0) := hP
              have G14 : Hid _ := F14
              have HI14 : Hid (IsZ w9 (.agg #[.bool s14, .slice a14 n14 d14]) r) := i14
              have HI7 : Hid (IsZ w9 (.agg #[.bool s7, .slice a7 n7 d7]) x) := hP.i7
              have h714w' := h714w
              clear b2 hP i14 hb8 hi8 HP6 CZP hb14 hb15 hw9 h714w
              obtain ⟨l7, k70, k71, -, -⟩ := HP.out.f7
              obtain ⟨l11, k110, k111, -, -⟩ := HP.out.f11
              obtain ⟨l12, k120, k121, -, -⟩ := HP.out.f12
              obtain ⟨l14, k140, k141, -, -⟩ := G14.out
              obtain ⟨l15, k150, k151, -, -⟩ := F15
              clear F14
              obtain ⟨sg, hsg⟩ : ∃ sg, cmpI r 0 * cmpI x 0 = sg := ⟨_, rfl⟩
              have hsg0 : ¬ sg < 0 := by
                rw [← hsg]
                rcases Int.le_total 0 x with h | h
                · have h1 := HS1.out h
                  exact Int.not_lt.2 (Int.mul_nonneg (by unfold cmpI; split <;> (try split) <;> omega) (by unfold cmpI; split <;> (try split) <;> omega))
                · have h1 := HS2.out h
                  exact Int.not_lt.2 (Int.mul_nonneg_of_nonpos_of_nonpos (by unfold cmpI; split <;> (try split) <;> omega) (by unfold cmpI; split <;> (try split) <;> omega))
              have HSG : Hid (cmpI r 0 * cmpI x 0 = sg) := hsg
              have hsgr : -9223372036854775808 ≤ sg ∧ sg ≤ 9223372036854775807 := by
                have h1 := cmpI_range r 0
                have h2 := cmpI_range x 0
                rw [← hsg]
                have h3 : cmpI r 0 = -1 ∨ cmpI r 0 = 0 ∨ cmpI r 0 = 1 := by omega
                rcases h3 with h3 | h3 | h3 <;> rw [h3] <;> omega
              have HSW : Hid (IntKind.i64.wrap (cmpI r 0 * cmpI x 0) = sg) := by show _ = _; rw [hsg, IntKind.wrap_i64]; omega
              have hsgb : decide (sg < 0) = false := decide_eq_false hsg0
              clear hsg
              refine wp_world (fun w1 => w1 = w9) rfl ?_
              rintro w1 rfl
              refine wp_drawn mixed [⟨122, [], [], [12]⟩, ⟨123, [0], [0], []⟩, ⟨124, [1], [0, 1], []⟩, ⟨125, [2], [0, 1, 2], []⟩, ⟨126, [3], [0, 1, 2, 3], [15]⟩, ⟨127, [3, 4], [0, 1, 2, 3, 4], []⟩, ⟨128, [3, 5], [0, 1, 2, 3, 4, 5], []⟩, ⟨129, [3, 6], [0, 1, 2, 3, 4, 5, 6], []⟩, ⟨130, [3, 7], [0, 1, 2, 3, 4, 5, 6, 7], []⟩, ⟨131, [8], [0, 1, 2, 3, 4, 5, 6, 7, 8], [14]⟩, ⟨132, [8, 9], [0, 1, 2, 3, 4, 5, 6, 7, 8, 9], []⟩, ⟨133, [8], [0, 1, 2, 3, 4, 5, 6, 7, 8], [7]⟩, ⟨134, [8, 10, 11], [0, 1, 2, 3, 4, 5, 6, 7, 8, 9, 10, 11], []⟩, ⟨135, [8, 10, 12], [0, 1, 2, 3, 4, 5, 6, 7, 8, 9, 10, 11, 12], []⟩, ⟨136, [8, 13], [0, 1, 2, 3, 4, 5, 6, 7, 8, 9, 10, 11, 12, 13], []⟩, ⟨137, [8, 14], [0, 1, 2, 3, 4, 5, 6, 7, 8, 9, 10, 11, 12, 13, 14], []⟩] [] (by kernel_rfl) 158 rfl (by kernel_rfl) (fun (i : Nat) (v : Value) (wq : World) => match i with | 0 => v = .pointer (some ⟨b12, 0, none⟩) | 1 => v = .int .i64 (0) | 2 => v = .bool (false) | 3 => v = .bool (false) | 4 => v = .pointer (some ⟨b15, 0, none⟩) | 5 => v = .int .i64 (0) | 6 => v = .bool (false) | 7 => v = .bool (false) | 8 => v = .bool (false) | 9 => v = .agg #[.bool (s14), .slice a14 (n14) (d14)] | 10 => v = .int .i64 (cmpI r 0) | 11 => v = .agg #[.bool (s7), .slice a7 (n7) (d7)] | 12 => v = .int .i64 (cmpI x 0) | 13 => v = .int .i64 (sg) | 14 => v = .bool (false) | 15 => v = .bool (false) | _ => True) (fun _ wq => Below w1.heap.size w1 wq) (fun wx wy => Below wx.heap.size wx wy) (Below.refl _ _).drew (fun i v wx wy h hx => match i, h with | 0, h => h | 1, h => h | 2, h => h | 3, h => h | 4, h => h | 5, h => h | 6, h => h | 7, h => h | 8, h => h | 9, h => h | 10, h => h | 11, h => h | 12, h => h | 13, h => h | 14, h => h | 15, h => h  | n + 16, _ => trivial) ?_ ?_
              · intro i o r ho hr L fr wx hW hL hpr hds hdef hpre hfree
                clear hL hpr hds hdef
                match i, ho, hr with
                | 0, ho, hr =>
                  obtain rfl := Option.some.inj ho; obtain rfl := Option.some.inj hr
                  have t12 := ev_tmp (show fr.eval (.tmp 12) = .pointer (some ⟨b12, 0, none⟩) from hfree 12 (by decide))
                  clear hpre hfree
                  refine stpK rfl rfl fun K hK => ?_
                  go_simp
                  exact hK _ _ ⟨rfl, hW, Below.refl _ _, fun h => (List.not_mem_nil h).elim⟩
                | 1, ho, hr =>
                  obtain rfl := Option.some.inj ho; obtain rfl := Option.some.inj hr
                  have e0 := ev_tmp (show fr.eval (.tmp 122) = .pointer (some ⟨b12, 0, none⟩) from hpre 0 (by decide) _ rfl)
                  clear hpre hfree
                  have c0 := (hW.cell (p := ⟨b12, 0, none⟩) l12).trans k120
                  refine stpK rfl rfl fun K hK => ?_
                  go_simp
                  exact hK _ _ ⟨rfl, hW, Below.refl _ _, fun h => (List.not_mem_nil h).elim⟩
                | 2, ho, hr =>
                  obtain rfl := Option.some.inj ho; obtain rfl := Option.some.inj hr
                  have e1 := ev_tmp (show fr.eval (.tmp 123) = .int .i64 (0) from hpre 1 (by decide) _ rfl)
                  clear hpre hfree
                  refine stpK rfl rfl fun K hK => ?_
                  go_simp
                  exact hK _ _ ⟨(by first | rfl | (simp; done) | (simp [*]; done)), hW, Below.refl _ _, fun h => (List.not_mem_nil h).elim⟩
                | 3, ho, hr =>
                  obtain rfl := Option.some.inj ho; obtain rfl := Option.some.inj hr
                  have e2 := ev_tmp (show fr.eval (.tmp 124) = .bool (false) from hpre 2 (by decide) _ rfl)
                  clear hpre hfree
                  refine stpK rfl rfl fun K hK => ?_
                  go_simp
                  exact hK _ _ ⟨rfl, hW, Below.refl _ _, fun h => (List.not_mem_nil h).elim⟩
                | 4, ho, hr =>
                  obtain rfl := Option.some.inj ho; obtain rfl := Option.some.inj hr
                  have e3 := ev_tmp (show fr.eval (.tmp 125) = .bool (false) from hpre 3 (by decide) _ rfl)
                  have t15 := ev_tmp (show fr.eval (.tmp 15) = .pointer (some ⟨b15, 0, none⟩) from hfree 15 (by decide))
                  clear hpre hfree
                  refine stpK_g rfl rfl e3 rfl fun K hK => ?_
                  go_simp
                  exact hK _ _ ⟨rfl, hW, Below.refl _ _, fun h => (List.not_mem_nil h).elim⟩
                | 5, ho, hr =>
                  obtain rfl := Option.some.inj ho; obtain rfl := Option.some.inj hr
                  have e3 := ev_tmp (show fr.eval (.tmp 125) = .bool (false) from hpre 3 (by decide) _ rfl)
                  have e4 := ev_tmp (show fr.eval (.tmp 126) = .pointer (some ⟨b15, 0, none⟩) from hpre 4 (by decide) _ rfl)
                  clear hpre hfree
                  have c0 := (hW.cell (p := ⟨b15, 0, none⟩) l15).trans k150
                  refine stpK_g rfl rfl e3 rfl fun K hK => ?_
                  go_simp
                  exact hK _ _ ⟨rfl, hW, Below.refl _ _, fun h => (List.not_mem_nil h).elim⟩
                | 6, ho, hr =>
                  obtain rfl := Option.some.inj ho; obtain rfl := Option.some.inj hr
                  have e3 := ev_tmp (show fr.eval (.tmp 125) = .bool (false) from hpre 3 (by decide) _ rfl)
                  have e5 := ev_tmp (show fr.eval (.tmp 127) = .int .i64 (0) from hpre 5 (by decide) _ rfl)
                  clear hpre hfree
                  refine stpK_g rfl rfl e3 rfl fun K hK => ?_
                  go_simp
                  exact hK _ _ ⟨(by first | rfl | (simp; done) | (simp [*]; done)), hW, Below.refl _ _, fun h => (List.not_mem_nil h).elim⟩
                | 7, ho, hr =>
                  obtain rfl := Option.some.inj ho; obtain rfl := Option.some.inj hr
                  have e3 := ev_tmp (show fr.eval (.tmp 125) = .bool (false) from hpre 3 (by decide) _ rfl)
                  have e6 := ev_tmp (show fr.eval (.tmp 128) = .bool (false) from hpre 6 (by decide) _ rfl)
                  clear hpre hfree
                  refine stpK rfl rfl fun K hK => ?_
                  go_simp
                  exact hK _ _ ⟨(by first | rfl | (simp; done) | (simp [*]; done)), hW, Below.refl _ _, fun h => (List.not_mem_nil h).elim⟩
                | 8, ho, hr =>
                  obtain rfl := Option.some.inj ho; obtain rfl := Option.some.inj hr
                  have e7 := ev_tmp (show fr.eval (.tmp 129) = .bool (false) from hpre 7 (by decide) _ rfl)
                  clear hpre hfree
                  refine stpK rfl rfl fun K hK => ?_
                  go_simp
                  exact hK _ _ ⟨rfl, hW, Below.refl _ _, fun h => (List.not_mem_nil h).elim⟩
                | 9, ho, hr =>
                  obtain rfl := Option.some.inj ho; obtain rfl := Option.some.inj hr
                  have e8 := ev_tmp (show fr.eval (.tmp 130) = .bool (false) from hpre 8 (by decide) _ rfl)
                  have t14 := ev_tmp (show fr.eval (.tmp 14) = .pointer (some ⟨b14, 0, none⟩) from hfree 14 (by decide))
                  clear hpre hfree
                  have c0 := (hW.cell (p := ⟨b14, 0, none⟩) l14).trans k140
                  have c1 := (hW.cell (p := ⟨b14, 1, none⟩) l14).trans k141
                  refine stpK_g rfl rfl e8 rfl fun K hK => ?_
                  go_simp
                  exact hK _ _ ⟨rfl, hW, Below.refl _ _, fun h => (List.not_mem_nil h).elim⟩
                | 10, ho, hr =>
                  obtain rfl := Option.some.inj ho; obtain rfl := Option.some.inj hr
                  have e8 := ev_tmp (show fr.eval (.tmp 130) = .bool (false) from hpre 8 (by decide) _ rfl)
                  have e9 := ev_tmp (show fr.eval (.tmp 131) = .agg #[.bool (s14), .slice a14 (n14) (d14)] from hpre 9 (by decide) _ rfl)
                  clear hpre hfree
                  refine stpK_g rfl rfl e8 rfl fun K hK => ?_
                  go_simp
                  refine (zSign_any wx _ r (IsZ.below HI14.out hW)).mono ?_
                  rintro e wy ⟨rfl, hb⟩
                  exact hK _ _ ⟨rfl, hW.trans (hb.mono hW.size), hb, fun h => (List.not_mem_nil h).elim⟩
                | 11, ho, hr =>
                  obtain rfl := Option.some.inj ho; obtain rfl := Option.some.inj hr
                  have e8 := ev_tmp (show fr.eval (.tmp 130) = .bool (false) from hpre 8 (by decide) _ rfl)
                  have t7 := ev_tmp (show fr.eval (.tmp 7) = .pointer (some ⟨b7, 0, none⟩) from hfree 7 (by decide))
                  clear hpre hfree
                  have c0 := (hW.cell (p := ⟨b7, 0, none⟩) l7).trans k70
                  have c1 := (hW.cell (p := ⟨b7, 1, none⟩) l7).trans k71
                  refine stpK_g rfl rfl e8 rfl fun K hK => ?_
                  go_simp
                  exact hK _ _ ⟨rfl, hW, Below.refl _ _, fun h => (List.not_mem_nil h).elim⟩
                | 12, ho, hr =>
                  obtain rfl := Option.some.inj ho; obtain rfl := Option.some.inj hr
                  have e8 := ev_tmp (show fr.eval (.tmp 130) = .bool (false) from hpre 8 (by decide) _ rfl)
                  have e11 := ev_tmp (show fr.eval (.tmp 133) = .agg #[.bool (s7), .slice a7 (n7) (d7)] from hpre 11 (by decide) _ rfl)
                  clear hpre hfree
                  refine stpK_g rfl rfl e8 rfl fun K hK => ?_
                  go_simp
                  refine (zSign_any wx _ x (IsZ.below HI7.out hW)).mono ?_
                  rintro e wy ⟨rfl, hb⟩
                  exact hK _ _ ⟨rfl, hW.trans (hb.mono hW.size), hb, fun h => (List.not_mem_nil h).elim⟩
                | 13, ho, hr =>
                  obtain rfl := Option.some.inj ho; obtain rfl := Option.some.inj hr
                  have e8 := ev_tmp (show fr.eval (.tmp 130) = .bool (false) from hpre 8 (by decide) _ rfl)
                  have e10 := ev_tmp (show fr.eval (.tmp 132) = .int .i64 (cmpI r 0) from hpre 10 (by decide) _ rfl)
                  have e12 := ev_tmp (show fr.eval (.tmp 134) = .int .i64 (cmpI x 0) from hpre 12 (by decide) _ rfl)
                  clear hpre hfree
                  refine stpK_g rfl rfl e8 rfl fun K hK => ?_
                  go_simp
                  exact hK _ _ ⟨(by first | exact congrArg (Value.int .i64) HSG.out | exact congrArg (Value.int .i64) HSW.out), hW, Below.refl _ _, fun h => (List.not_mem_nil h).elim⟩
                | 14, ho, hr =>
                  obtain rfl := Option.some.inj ho; obtain rfl := Option.some.inj hr
                  have e8 := ev_tmp (show fr.eval (.tmp 130) = .bool (false) from hpre 8 (by decide) _ rfl)
                  have e13 := ev_tmp (show fr.eval (.tmp 135) = .int .i64 (sg) from hpre 13 (by decide) _ rfl)
                  clear hpre hfree
                  refine stpK_g rfl rfl e8 rfl fun K hK => ?_
                  go_simp
                  exact hK _ _ ⟨(by first | rfl | (simp; done) | (simp [*]; done)), hW, Below.refl _ _, fun h => (List.not_mem_nil h).elim⟩
                | 15, ho, hr =>
                  obtain rfl := Option.some.inj ho; obtain rfl := Option.some.inj hr
                  have e8 := ev_tmp (show fr.eval (.tmp 130) = .bool (false) from hpre 8 (by decide) _ rfl)
                  have e14 := ev_tmp (show fr.eval (.tmp 136) = .bool (false) from hpre 14 (by decide) _ rfl)
                  clear hpre hfree
                  refine stpK rfl rfl fun K hK => ?_
                  go_simp
                  exact hK _ _ ⟨(by first | rfl | (simp; done) | (simp [*]; done)), hW, Below.refl _ _, fun h => (List.not_mem_nil h).elim⟩
                | n + 16, ho, hr => exact absurd hr (by simp)
              · intro vs wn hvs hW1 hap0
                clear hap0
                have e0 : vs 0 = .pointer (some ⟨b12, 0, none⟩) := hvs 0 (by decide)
                have e1 : vs 1 = .int .i64 (0) := hvs 1 (by decide)
                have e2 : vs 2 = .bool (false) := hvs 2 (by decide)
                have e3 : vs 3 = .bool (false) := hvs 3 (by decide)
                have e4 : vs 4 = .pointer (some ⟨b15, 0, none⟩) := hvs 4 (by decide)
                have e5 : vs 5 = .int .i64 (0) := hvs 5 (by decide)
                have e6 : vs 6 = .bool (false) := hvs 6 (by decide)
                have e7 : vs 7 = .bool (false) := hvs 7 (by decide)
                have e8 : vs 8 = .bool (false) := hvs 8 (by decide)
                have e9 : vs 9 = .agg #[.bool (s14), .slice a14 (n14) (d14)] := hvs 9 (by decide)
                have e10 : vs 10 = .int .i64 (cmpI r 0) := hvs 10 (by decide)
                have e11 : vs 11 = .agg #[.bool (s7), .slice a7 (n7) (d7)] := hvs 11 (by decide)
                have e12 : vs 12 = .int .i64 (cmpI x 0) := hvs 12 (by decide)
                have e13 : vs 13 = .int .i64 (sg) := hvs 13 (by decide)
                have e14 : vs 14 = .bool (false) := hvs 14 (by decide)
                have e15 : vs 15 = .bool (false) := hvs 15 (by decide)
                simp only [puts, Nat.reduceAdd, e0, e1, e2, e3, e4, e5, e6, e7, e8, e9, e10, e11, e12, e13, e14, e15, Act.put, List.setIfInBounds_toArray, List.set_cons_zero, List.set_cons_succ, List.drop_succ_cons, List.drop_zero, List.length_cons, List.length_nil]
                clear hvs e0 e1 e2 e3 e4 e5 e6 e7 e8 e9 e10 e11 e12 e13 e14 e15
                clear l7 k70 k71 l11 k110 k111 l12 k120 k121 l14 k140 k141 l15 k150 k151 hsgb
                have HQ : Hid (PK w wn b7 b11 b12 s7 a7 n7 d7 s11 a11 n11 d11 x r 0) := HP.out.step hW1
                have H14 : Hid _ := G14.out.below hW1
                have HJ14 : Hid (IsZ wn (.agg #[.bool s14, .slice a14 n14 d14]) r) := IsZ.below HI14.out hW1
                have h714w : Hid (w.heap.size ≤ b14) := h714w'
                clear hW1 HP G14 HI14 HI7 hsg0 hsgr HSG HSW h714w'
                obtain ⟨l14, k140, k141, -, -⟩ := H14.out
                go_wp2_with (go_at_call 33; fail)
                refine (zAbs_any wn _ r HJ14.out).mono ?_
                rintro e wm ⟨vm, rfl, hbm, him⟩
                obtain ⟨s15, a15, n15, d15, rfl⟩ := him.form
                have hq := HQ.out.step hbm
                have f14 := H14.out.below hbm
                have HF14 : Hid _ := f14
                have hne : b7 ≠ b14 := by omega
                have i14 := him.stored (u1 := .bool s15) (u2 := .slice a15 n15 d15) f14.c0 f14.c1 (by intro q; simp) (by intro q; simp)
                have i7 := hq.i7.stored (u1 := .bool s15) (u2 := .slice a15 n15 d15) f14.c0 f14.c1 (by intro q; simp) (by intro q; simp)
                have g7 := hq.f7.other (.bool s15) (.slice a15 n15 d15) hne
                have g14 := f14.set (.bool s15) (.slice a15 n15 d15)
                have hbb := below_set2 hq.below h714w.out (.bool s15) (.slice a15 n15 d15)
                clear l14 k140 k141 hbm him hq HQ H14 HJ14 hne
                obtain ⟨l14, k140, k141, p140, p141⟩ := f14
                have HS1' : Hid (IsZ _ _ _) := i14
                have HS2' : Hid (IsZ _ _ _) := i7
                have HS3' : Hid _ := g7
                have HS4' : Hid _ := g14
                have HS5' : Hid _ := hbb
                clear i14 i7 g7 g14 hbb
                go_upto_region 22 with fail
                obtain ⟨wq, hwq⟩ : ∃ x, (wm.setCell ⟨b14, 0, none⟩ (.bool s15)).setCell ⟨b14, 1, none⟩ (.slice a15 n15 d15) = x := ⟨_, rfl⟩
                rw [hwq] at HS1' HS2' HS3' HS4' HS5' ⊢
                clear l14 k140 k141 p140 p141 hwq
                obtain ⟨l14, k140, k141, -, -⟩ := HS4'.out
                obtain ⟨l7, k70, k71, -, -⟩ := HS3'.out
                have HI14 : Hid (IsZ wq (.agg #[.bool s15, .slice a15 n15 d15]) (r.natAbs : Int)) := HS1'.out
                have HI7 : Hid (IsZ wq (.agg #[.bool s7, .slice a7 n7 d7]) x) := HS2'.out
                have HBQ : Hid (Below w.heap.size w wq) := HS5'.out
                clear HS1' HS2' HS3' HS4' HS5' HF14
                obtain ⟨b1, b2, b3, b4, b5', b6'⟩ := pow_bounds (y := r.natAbs) (m := m) (xn := x.natAbs) hm hm1 HRT.out HX200.out
                have HP1 : Hid ((max 1 ((r.natAbs : Nat) : Int).natAbs) ^ m < 10000 ^ 66) := b1
                have HP1b : Hid ((((r.natAbs : Nat) : Int) ^ m).natAbs < 10000 ^ 66) := by show _ < _; rw [Int.natAbs_pow]; exact b2
                have HPX : Hid (((x.natAbs : Nat) : Int).natAbs < 10000 ^ 66) := b3
                have HPR : Hid (((r.natAbs : Nat) : Int).natAbs < 10000 ^ 66) := b4
                have HPO : Hid ((1 : Int).natAbs < 10000 ^ 66) := by show 1 < _; exact Nat.one_lt_pow (by decide) (by decide)
                have HP2 : Hid ((max 1 (((r.natAbs : Nat) : Int) + 1).natAbs) ^ m < 10000 ^ 66) := b5'
                have HP2b : Hid (((((r.natAbs : Nat) : Int) + 1) ^ m).natAbs < 10000 ^ 66) := by show _ < _; rw [Int.natAbs_pow]; exact b6'
                obtain ⟨g1, hg1⟩ : ∃ g, cmpI (((r.natAbs : Nat) : Int) ^ m) ((x.natAbs : Nat) : Int) = g := ⟨_, rfl⟩
                obtain ⟨g2, hg2⟩ : ∃ g, cmpI ((x.natAbs : Nat) : Int) ((((r.natAbs : Nat) : Int) + 1) ^ m) = g := ⟨_, rfl⟩
                have hc1 : g1 ≤ 0 := by
                  have h1 : ((r.natAbs : Nat) : Int) ^ m ≤ ((x.natAbs : Nat) : Int) := by rw [← Int.natCast_pow]; exact Int.ofNat_le.2 HRT.out.1
                  rw [← hg1]; unfold cmpI; split <;> (try split) <;> omega
                have hc2 : g2 < 0 := by
                  have h1 : ((x.natAbs : Nat) : Int) < (((r.natAbs : Nat) : Int) + 1) ^ m := by
                    have h2 := HRT.out.2
                    have h3 : (((r.natAbs : Nat) : Int) + 1) ^ m = (((r.natAbs + 1) ^ m : Nat) : Int) := by rw [Int.natCast_pow]; rfl
                    rw [h3]; exact Int.ofNat_lt.2 h2
                  rw [← hg2]; unfold cmpI; split <;> (try split) <;> omega
                have HG1 : Hid _ := hg1
                have HG2 : Hid _ := hg2
                have hd1 : decide (g1 ≤ 0) = true := decide_eq_true hc1
                have hd2 : decide (g2 < 0) = true := decide_eq_true hc2
                clear b1 b2 b3 b4 b5' b6' hg1 hg2
                refine wp_world (fun w1 => w1 = wq) rfl ?_
                rintro w1 rfl
                refine wp_drawn mixed [⟨140, [], [], [14]⟩, ⟨141, [], [], [1]⟩, ⟨142, [0, 1], [0, 1], []⟩, ⟨143, [], [], [7]⟩, ⟨144, [2, 3], [0, 1, 2, 3], []⟩, ⟨145, [2, 4], [0, 1, 2, 3, 4], []⟩, ⟨146, [5], [0, 1, 2, 3, 4, 5], []⟩, ⟨147, [5, 6], [0, 1, 2, 3, 4, 5, 6], []⟩, ⟨148, [7], [0, 1, 2, 3, 4, 5, 6, 7], [7]⟩, ⟨149, [7, 8], [0, 1, 2, 3, 4, 5, 6, 7, 8], []⟩, ⟨150, [7], [0, 1, 2, 3, 4, 5, 6, 7], [14]⟩, ⟨151, [7, 9], [0, 1, 2, 3, 4, 5, 6, 7, 8, 9], []⟩, ⟨152, [7, 10, 11], [0, 1, 2, 3, 4, 5, 6, 7, 8, 9, 10, 11], []⟩, ⟨153, [7], [0, 1, 2, 3, 4, 5, 6, 7], [1]⟩, ⟨154, [7, 12, 13], [0, 1, 2, 3, 4, 5, 6, 7, 8, 9, 10, 11, 12, 13], []⟩, ⟨155, [7, 9, 14], [0, 1, 2, 3, 4, 5, 6, 7, 8, 9, 10, 11, 12, 13, 14], []⟩, ⟨156, [7, 15], [0, 1, 2, 3, 4, 5, 6, 7, 8, 9, 10, 11, 12, 13, 14, 15], []⟩, ⟨157, [7, 16], [0, 1, 2, 3, 4, 5, 6, 7, 8, 9, 10, 11, 12, 13, 14, 15, 16], []⟩, ⟨4, [0, 1, 2, 3, 4, 5, 6, 7, 8, 9, 10, 11, 12, 13, 14, 15, 16, 17], [0, 1, 2, 3, 4, 5, 6, 7, 8, 9, 10, 11, 12, 13, 14, 15, 16, 17], []⟩] [] (by kernel_rfl) 158 rfl (by kernel_rfl) (fun (i : Nat) (v : Value) (wq : World) => match i with | 0 => v = .agg #[.bool (s15), .slice a15 (n15) (d15)] | 1 => v = .int .i64 ((m : Int)) | 2 => IsZ wq v ((r.natAbs : Int) ^ m) | 3 => v = .agg #[.bool (s7), .slice a7 (n7) (d7)] | 4 => IsZ wq v (x.natAbs : Int) | 5 => v = .int .i64 (g1) | 6 => v = .bool (true) | 7 => v = .bool (true) | 8 => v = .agg #[.bool (s7), .slice a7 (n7) (d7)] | 9 => IsZ wq v (x.natAbs : Int) | 10 => v = .agg #[.bool (s15), .slice a15 (n15) (d15)] | 11 => IsZ wq v 1 | 12 => IsZ wq v ((r.natAbs : Int) + 1) | 13 => v = .int .i64 ((m : Int)) | 14 => IsZ wq v (((r.natAbs : Int) + 1) ^ m) | 15 => v = .int .i64 (g2) | 16 => v = .bool (true) | 17 => v = .bool (true) | 18 => v = .bool (true) | _ => True) (fun _ wq => Below w1.heap.size w1 wq) (fun wx wy => Below wx.heap.size wx wy) (Below.refl _ _).drew (fun i v wx wy h hx => match i, h with | 0, h => h | 1, h => h | 3, h => h | 5, h => h | 6, h => h | 7, h => h | 8, h => h | 10, h => h | 13, h => h | 15, h => h | 16, h => h | 17, h => h | 18, h => h | 2, h => (h : IsZ wx v _).below hx | 4, h => (h : IsZ wx v _).below hx | 9, h => (h : IsZ wx v _).below hx | 11, h => (h : IsZ wx v _).below hx | 12, h => (h : IsZ wx v _).below hx | 14, h => (h : IsZ wx v _).below hx | n + 19, _ => trivial) ?_ ?_
                · intro i o r ho hr L fr wx hW hL hpr hds hdef hpre hfree
                  clear hL hpr hds hdef
                  match i, ho, hr with
                  | 0, ho, hr =>
                    obtain rfl := Option.some.inj ho; obtain rfl := Option.some.inj hr
                    have t14 := ev_tmp (show fr.eval (.tmp 14) = .pointer (some ⟨b14, 0, none⟩) from hfree 14 (by decide))
                    clear hpre hfree
                    have c0 := (hW.cell (p := ⟨b14, 0, none⟩) l14).trans k140
                    have c1 := (hW.cell (p := ⟨b14, 1, none⟩) l14).trans k141
                    refine stpK rfl rfl fun K hK => ?_
                    go_simp
                    exact hK _ _ ⟨rfl, hW, Below.refl _ _, fun h => (List.not_mem_nil h).elim⟩
                  | 1, ho, hr =>
                    obtain rfl := Option.some.inj ho; obtain rfl := Option.some.inj hr
                    have t1 := ev_tmp (show fr.eval (.tmp 1) = .int .i64 ((m : Int)) from hfree 1 (by decide))
                    clear hpre hfree
                    refine stpK rfl rfl fun K hK => ?_
                    go_simp
                    exact hK _ _ ⟨rfl, hW, Below.refl _ _, fun h => (List.not_mem_nil h).elim⟩
                  | 2, ho, hr =>
                    obtain rfl := Option.some.inj ho; obtain rfl := Option.some.inj hr
                    have e0 := ev_tmp (show fr.eval (.tmp 140) = .agg #[.bool (s15), .slice a15 (n15) (d15)] from hpre 0 (by decide) _ rfl)
                    have e1 := ev_tmp (show fr.eval (.tmp 141) = .int .i64 ((m : Int)) from hpre 1 (by decide) _ rfl)
                    clear hpre hfree
                    refine stpK rfl rfl fun K hK => ?_
                    go_simp
                    refine (zPow_any wx _ _ m 66 (IsZ.below HI14.out hW) HP1.out (by decide) (by omega)).mono ?_
                    rintro e wy ⟨v4, rfl, hb, hm4⟩
                    exact hK _ _ ⟨hm4, hW.trans (hb.mono hW.size), hb, fun h => (List.not_mem_nil h).elim⟩
                  | 3, ho, hr =>
                    obtain rfl := Option.some.inj ho; obtain rfl := Option.some.inj hr
                    have t7 := ev_tmp (show fr.eval (.tmp 7) = .pointer (some ⟨b7, 0, none⟩) from hfree 7 (by decide))
                    clear hpre hfree
                    have c0 := (hW.cell (p := ⟨b7, 0, none⟩) l7).trans k70
                    have c1 := (hW.cell (p := ⟨b7, 1, none⟩) l7).trans k71
                    refine stpK rfl rfl fun K hK => ?_
                    go_simp
                    exact hK _ _ ⟨rfl, hW, Below.refl _ _, fun h => (List.not_mem_nil h).elim⟩
                  | 4, ho, hr =>
                    obtain rfl := Option.some.inj ho; obtain rfl := Option.some.inj hr
                    have e3 := ev_tmp (show fr.eval (.tmp 143) = .agg #[.bool (s7), .slice a7 (n7) (d7)] from hpre 3 (by decide) _ rfl)
                    clear hpre hfree
                    refine stpK rfl rfl fun K hK => ?_
                    go_simp
                    refine (zAbs_any wx _ x (IsZ.below HI7.out hW)).mono ?_
                    rintro e wy ⟨v4, rfl, hb, hm4⟩
                    exact hK _ _ ⟨hm4, hW.trans (hb.mono hW.size), hb, fun h => (List.not_mem_nil h).elim⟩
                  | 5, ho, hr =>
                    obtain rfl := Option.some.inj ho; obtain rfl := Option.some.inj hr
                    obtain ⟨u2, q2⟩ : ∃ u, fr.eval (.tmp 142) = u := ⟨_, rfl⟩
                    have p2 : IsZ wx u2 ((r.natAbs : Int) ^ m) := by rw [← q2]; exact hpre 2 (by decide) _ rfl
                    have e2 := ev_tmp q2; clear q2
                    obtain ⟨u4, q4⟩ : ∃ u, fr.eval (.tmp 144) = u := ⟨_, rfl⟩
                    have p4 : IsZ wx u4 (x.natAbs : Int) := by rw [← q4]; exact hpre 4 (by decide) _ rfl
                    have e4 := ev_tmp q4; clear q4
                    clear hpre hfree
                    refine stpK rfl rfl fun K hK => ?_
                    go_simp
                    refine (zCmp_any wx _ _ _ _ 66 p2 p4 HP1b.out HPX.out (by decide)).mono ?_
                    rintro e wy ⟨rfl, hb⟩
                    exact hK _ _ ⟨congrArg (Value.int .i64) HG1.out, hW.trans (hb.mono hW.size), hb, fun h => (List.not_mem_nil h).elim⟩
                  | 6, ho, hr =>
                    obtain rfl := Option.some.inj ho; obtain rfl := Option.some.inj hr
                    have e5 := ev_tmp (show fr.eval (.tmp 145) = .int .i64 (g1) from hpre 5 (by decide) _ rfl)
                    clear hpre hfree
                    refine stpK rfl rfl fun K hK => ?_
                    go_simp
                    exact hK _ _ ⟨(by first | rfl | (simp; done) | (simp [*]; done)), hW, Below.refl _ _, fun h => (List.not_mem_nil h).elim⟩
                  | 7, ho, hr =>
                    obtain rfl := Option.some.inj ho; obtain rfl := Option.some.inj hr
                    have e6 := ev_tmp (show fr.eval (.tmp 146) = .bool (true) from hpre 6 (by decide) _ rfl)
                    clear hpre hfree
                    refine stpK rfl rfl fun K hK => ?_
                    go_simp
                    exact hK _ _ ⟨rfl, hW, Below.refl _ _, fun h => (List.not_mem_nil h).elim⟩
                  | 8, ho, hr =>
                    obtain rfl := Option.some.inj ho; obtain rfl := Option.some.inj hr
                    have e7 := ev_tmp (show fr.eval (.tmp 147) = .bool (true) from hpre 7 (by decide) _ rfl)
                    have t7 := ev_tmp (show fr.eval (.tmp 7) = .pointer (some ⟨b7, 0, none⟩) from hfree 7 (by decide))
                    clear hpre hfree
                    have c0 := (hW.cell (p := ⟨b7, 0, none⟩) l7).trans k70
                    have c1 := (hW.cell (p := ⟨b7, 1, none⟩) l7).trans k71
                    refine stpK_g rfl rfl e7 rfl fun K hK => ?_
                    go_simp
                    exact hK _ _ ⟨rfl, hW, Below.refl _ _, fun h => (List.not_mem_nil h).elim⟩
                  | 9, ho, hr =>
                    obtain rfl := Option.some.inj ho; obtain rfl := Option.some.inj hr
                    have e7 := ev_tmp (show fr.eval (.tmp 147) = .bool (true) from hpre 7 (by decide) _ rfl)
                    have e8 := ev_tmp (show fr.eval (.tmp 148) = .agg #[.bool (s7), .slice a7 (n7) (d7)] from hpre 8 (by decide) _ rfl)
                    clear hpre hfree
                    refine stpK_g rfl rfl e7 rfl fun K hK => ?_
                    go_simp
                    refine (zAbs_any wx _ x (IsZ.below HI7.out hW)).mono ?_
                    rintro e wy ⟨v4, rfl, hb, hm4⟩
                    exact hK _ _ ⟨hm4, hW.trans (hb.mono hW.size), hb, fun h => (List.not_mem_nil h).elim⟩
                  | 10, ho, hr =>
                    obtain rfl := Option.some.inj ho; obtain rfl := Option.some.inj hr
                    have e7 := ev_tmp (show fr.eval (.tmp 147) = .bool (true) from hpre 7 (by decide) _ rfl)
                    have t14 := ev_tmp (show fr.eval (.tmp 14) = .pointer (some ⟨b14, 0, none⟩) from hfree 14 (by decide))
                    clear hpre hfree
                    have c0 := (hW.cell (p := ⟨b14, 0, none⟩) l14).trans k140
                    have c1 := (hW.cell (p := ⟨b14, 1, none⟩) l14).trans k141
                    refine stpK_g rfl rfl e7 rfl fun K hK => ?_
                    go_simp
                    exact hK _ _ ⟨rfl, hW, Below.refl _ _, fun h => (List.not_mem_nil h).elim⟩
                  | 11, ho, hr =>
                    obtain rfl := Option.some.inj ho; obtain rfl := Option.some.inj hr
                    have e7 := ev_tmp (show fr.eval (.tmp 147) = .bool (true) from hpre 7 (by decide) _ rfl)
                    clear hpre hfree
                    refine stpK_g rfl rfl e7 rfl fun K hK => ?_
                    go_simp
                    refine (zOf_any wx 1 (by decide) (by decide)).mono ?_
                    rintro e wy ⟨v4, rfl, hb, hm4⟩
                    exact hK _ _ ⟨hm4, hW.trans (hb.mono hW.size), hb, fun h => (List.not_mem_nil h).elim⟩
                  | 12, ho, hr =>
                    obtain rfl := Option.some.inj ho; obtain rfl := Option.some.inj hr
                    have e7 := ev_tmp (show fr.eval (.tmp 147) = .bool (true) from hpre 7 (by decide) _ rfl)
                    have e10 := ev_tmp (show fr.eval (.tmp 150) = .agg #[.bool (s15), .slice a15 (n15) (d15)] from hpre 10 (by decide) _ rfl)
                    obtain ⟨u11, q11⟩ : ∃ u, fr.eval (.tmp 151) = u := ⟨_, rfl⟩
                    have p11 : IsZ wx u11 1 := by rw [← q11]; exact hpre 11 (by decide) _ rfl
                    have e11 := ev_tmp q11; clear q11
                    clear hpre hfree
                    refine stpK_g rfl rfl e7 rfl fun K hK => ?_
                    go_simp
                    refine (zAdd_any wx _ _ _ _ 66 (IsZ.below HI14.out hW) p11 HPR.out HPO.out (by decide)).mono ?_
                    rintro e wy ⟨v4, rfl, hb, hm4⟩
                    exact hK _ _ ⟨hm4, hW.trans (hb.mono hW.size), hb, fun h => (List.not_mem_nil h).elim⟩
                  | 13, ho, hr =>
                    obtain rfl := Option.some.inj ho; obtain rfl := Option.some.inj hr
                    have e7 := ev_tmp (show fr.eval (.tmp 147) = .bool (true) from hpre 7 (by decide) _ rfl)
                    have t1 := ev_tmp (show fr.eval (.tmp 1) = .int .i64 ((m : Int)) from hfree 1 (by decide))
                    clear hpre hfree
                    refine stpK_g rfl rfl e7 rfl fun K hK => ?_
                    go_simp
                    exact hK _ _ ⟨rfl, hW, Below.refl _ _, fun h => (List.not_mem_nil h).elim⟩
                  | 14, ho, hr =>
                    obtain rfl := Option.some.inj ho; obtain rfl := Option.some.inj hr
                    have e7 := ev_tmp (show fr.eval (.tmp 147) = .bool (true) from hpre 7 (by decide) _ rfl)
                    obtain ⟨u12, q12⟩ : ∃ u, fr.eval (.tmp 152) = u := ⟨_, rfl⟩
                    have p12 : IsZ wx u12 ((r.natAbs : Int) + 1) := by rw [← q12]; exact hpre 12 (by decide) _ rfl
                    have e12 := ev_tmp q12; clear q12
                    have e13 := ev_tmp (show fr.eval (.tmp 153) = .int .i64 ((m : Int)) from hpre 13 (by decide) _ rfl)
                    clear hpre hfree
                    refine stpK_g rfl rfl e7 rfl fun K hK => ?_
                    go_simp
                    refine (zPow_any wx _ _ m 66 p12 HP2.out (by decide) (by omega)).mono ?_
                    rintro e wy ⟨v4, rfl, hb, hm4⟩
                    exact hK _ _ ⟨hm4, hW.trans (hb.mono hW.size), hb, fun h => (List.not_mem_nil h).elim⟩
                  | 15, ho, hr =>
                    obtain rfl := Option.some.inj ho; obtain rfl := Option.some.inj hr
                    have e7 := ev_tmp (show fr.eval (.tmp 147) = .bool (true) from hpre 7 (by decide) _ rfl)
                    obtain ⟨u9, q9⟩ : ∃ u, fr.eval (.tmp 149) = u := ⟨_, rfl⟩
                    have p9 : IsZ wx u9 (x.natAbs : Int) := by rw [← q9]; exact hpre 9 (by decide) _ rfl
                    have e9 := ev_tmp q9; clear q9
                    obtain ⟨u14, q14⟩ : ∃ u, fr.eval (.tmp 154) = u := ⟨_, rfl⟩
                    have p14 : IsZ wx u14 (((r.natAbs : Int) + 1) ^ m) := by rw [← q14]; exact hpre 14 (by decide) _ rfl
                    have e14 := ev_tmp q14; clear q14
                    clear hpre hfree
                    refine stpK_g rfl rfl e7 rfl fun K hK => ?_
                    go_simp
                    refine (zCmp_any wx _ _ _ _ 66 p9 p14 HPX.out HP2b.out (by decide)).mono ?_
                    rintro e wy ⟨rfl, hb⟩
                    exact hK _ _ ⟨congrArg (Value.int .i64) HG2.out, hW.trans (hb.mono hW.size), hb, fun h => (List.not_mem_nil h).elim⟩
                  | 16, ho, hr =>
                    obtain rfl := Option.some.inj ho; obtain rfl := Option.some.inj hr
                    have e7 := ev_tmp (show fr.eval (.tmp 147) = .bool (true) from hpre 7 (by decide) _ rfl)
                    have e15 := ev_tmp (show fr.eval (.tmp 155) = .int .i64 (g2) from hpre 15 (by decide) _ rfl)
                    clear hpre hfree
                    refine stpK_g rfl rfl e7 rfl fun K hK => ?_
                    go_simp
                    exact hK _ _ ⟨(by first | rfl | (simp; done) | (simp [*]; done)), hW, Below.refl _ _, fun h => (List.not_mem_nil h).elim⟩
                  | 17, ho, hr =>
                    obtain rfl := Option.some.inj ho; obtain rfl := Option.some.inj hr
                    have e7 := ev_tmp (show fr.eval (.tmp 147) = .bool (true) from hpre 7 (by decide) _ rfl)
                    have e16 := ev_tmp (show fr.eval (.tmp 156) = .bool (true) from hpre 16 (by decide) _ rfl)
                    clear hpre hfree
                    refine stpK rfl rfl fun K hK => ?_
                    go_simp
                    exact hK _ _ ⟨(by first | rfl | (simp; done) | (simp [*]; done)), hW, Below.refl _ _, fun h => (List.not_mem_nil h).elim⟩
                  | 18, ho, hr =>
                    obtain rfl := Option.some.inj ho; obtain rfl := Option.some.inj hr
                    have e17 := ev_tmp (show fr.eval (.tmp 157) = .bool (true) from hpre 17 (by decide) _ rfl)
                    clear hpre hfree
                    refine stpK rfl rfl fun K hK => ?_
                    go_simp
                    exact hK _ _ ⟨(by first | rfl | (simp; done) | (simp [*]; done)), hW, Below.refl _ _, fun h => (List.not_mem_nil h).elim⟩
                  | n + 19, ho, hr => exact absurd hr (by simp)
                · intro vs wn hvs hW1 hap0
                  clear hap0
                  have e0 : vs 0 = .agg #[.bool (s15), .slice a15 (n15) (d15)] := hvs 0 (by decide)
                  have e1 : vs 1 = .int .i64 ((m : Int)) := hvs 1 (by decide)
                  obtain ⟨u2, e2⟩ : ∃ u, vs 2 = u := ⟨_, rfl⟩
                  have p2 : IsZ wn u2 ((r.natAbs : Int) ^ m) := by rw [← e2]; exact hvs 2 (by decide)
                  have e3 : vs 3 = .agg #[.bool (s7), .slice a7 (n7) (d7)] := hvs 3 (by decide)
                  obtain ⟨u4, e4⟩ : ∃ u, vs 4 = u := ⟨_, rfl⟩
                  have p4 : IsZ wn u4 (x.natAbs : Int) := by rw [← e4]; exact hvs 4 (by decide)
                  have e5 : vs 5 = .int .i64 (g1) := hvs 5 (by decide)
                  have e6 : vs 6 = .bool (true) := hvs 6 (by decide)
                  have e7 : vs 7 = .bool (true) := hvs 7 (by decide)
                  have e8 : vs 8 = .agg #[.bool (s7), .slice a7 (n7) (d7)] := hvs 8 (by decide)
                  obtain ⟨u9, e9⟩ : ∃ u, vs 9 = u := ⟨_, rfl⟩
                  have p9 : IsZ wn u9 (x.natAbs : Int) := by rw [← e9]; exact hvs 9 (by decide)
                  have e10 : vs 10 = .agg #[.bool (s15), .slice a15 (n15) (d15)] := hvs 10 (by decide)
                  obtain ⟨u11, e11⟩ : ∃ u, vs 11 = u := ⟨_, rfl⟩
                  have p11 : IsZ wn u11 1 := by rw [← e11]; exact hvs 11 (by decide)
                  obtain ⟨u12, e12⟩ : ∃ u, vs 12 = u := ⟨_, rfl⟩
                  have p12 : IsZ wn u12 ((r.natAbs : Int) + 1) := by rw [← e12]; exact hvs 12 (by decide)
                  have e13 : vs 13 = .int .i64 ((m : Int)) := hvs 13 (by decide)
                  obtain ⟨u14, e14⟩ : ∃ u, vs 14 = u := ⟨_, rfl⟩
                  have p14 : IsZ wn u14 (((r.natAbs : Int) + 1) ^ m) := by rw [← e14]; exact hvs 14 (by decide)
                  have e15 : vs 15 = .int .i64 (g2) := hvs 15 (by decide)
                  have e16 : vs 16 = .bool (true) := hvs 16 (by decide)
                  have e17 : vs 17 = .bool (true) := hvs 17 (by decide)
                  have e18 : vs 18 = .bool (true) := hvs 18 (by decide)
                  simp only [puts, Nat.reduceAdd, e0, e1, e2, e3, e4, e5, e6, e7, e8, e9, e10, e11, e12, e13, e14, e15, e16, e17, e18, Act.put, List.setIfInBounds_toArray, List.set_cons_zero, List.set_cons_succ, List.drop_succ_cons, List.drop_zero, List.length_cons, List.length_nil]
                  clear hvs e0 e1 e2 e3 e4 e5 e6 e7 e8 e9 e10 e11 e12 e13 e14 e15 e16 e17 e18
                  clear l14 k140 k141 l7 k70 k71
                  have HE : Hid _ := HBQ.out.trans (hW1.mono HBQ.out.size)
                  clear hW1 p2 p4 p9 p11 p12 p14
                  go_wp2
                  go_ret
                  exact ⟨rfl, HE.out⟩
end Go.Proofs.YtjlkplidpdhgbaaGreatDoor
