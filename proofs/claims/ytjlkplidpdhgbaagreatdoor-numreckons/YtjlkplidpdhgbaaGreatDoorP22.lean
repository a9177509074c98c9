/- A part of the proof: Tx5, W19, W11. -/
import Derived.Test.YtjlkplidpdhgbaaGreatDoorP11
import Derived.Test.YtjlkplidpdhgbaaGreatDoorP09
import Derived.Deep.Draws
import Derived.Test.YtjlkplidpdhgbaaGreatDoorP16
import Derived.Test.YtjlkplidpdhgbaaGreatDoorP06
set_option linter.all false

namespace Rad
open Go
theorem dec_snoc {x d : Nat} (hx : 0 < x) (hd : d ≤ 9) : Lib.decDigits (x * 10 + d) = Lib.decDigits x ++ [UInt8.ofNat (48 + d)] := by
  rw [Lib.decDigits, dif_neg (by omega), show (x * 10 + d) / 10 = x by omega, show (x * 10 + d) % 10 = d by omega]
/-- Four digits. -/
def four (d0 d1 d2 d3 : Nat) : List UInt8 := [UInt8.ofNat (48 + d0), UInt8.ofNat (48 + d1), UInt8.ofNat (48 + d2), UInt8.ofNat (48 + d3)]
theorem dec_four {H d0 d1 d2 d3 : Nat} (hH : 0 < H) (h0 : d0 ≤ 9) (h1 : d1 ≤ 9) (h2 : d2 ≤ 9) (h3 : d3 ≤ 9) : Lib.decDigits (1000 * d0 + 100 * d1 + 10 * d2 + d3 + 10000 * H) = Lib.decDigits H ++ four d0 d1 d2 d3 := by
  have e : 1000 * d0 + 100 * d1 + 10 * d2 + d3 + 10000 * H = (((H * 10 + d0) * 10 + d1) * 10 + d2) * 10 + d3 := by omega
  rw [e, dec_snoc (by omega) h3, dec_snoc (by omega) h2, dec_snoc (by omega) h1, dec_snoc hH h0]
  simp [four]
/-- How many zeros stand ahead, of four digits that are not all 0. -/
def lead (d0 d1 d2 : Nat) : Nat := if d0 ≠ 0 then 0 else if d1 ≠ 0 then 1 else if d2 ≠ 0 then 2 else 3
theorem lead_le (d0 d1 d2 : Nat) : lead d0 d1 d2 ≤ 3 := by unfold lead; split <;> (try split) <;> (try split) <;> omega
theorem dec_lead {d0 d1 d2 d3 : Nat} (h0 : d0 ≤ 9) (h1 : d1 ≤ 9) (h2 : d2 ≤ 9) (h3 : d3 ≤ 9) : Lib.decDigits (1000 * d0 + 100 * d1 + 10 * d2 + d3) = (four d0 d1 d2 d3).drop (lead d0 d1 d2) := by
  unfold lead
  by_cases a0 : d0 ≠ 0
  · rw [if_pos a0]
    have e : 1000 * d0 + 100 * d1 + 10 * d2 + d3 = ((d0 * 10 + d1) * 10 + d2) * 10 + d3 := by omega
    rw [e, dec_snoc (by omega) h3, dec_snoc (by omega) h2, dec_snoc (by omega) h1, Lib.decDigits_one (by omega)]
    simp [four]
  · rw [if_neg a0]
    have a0 : d0 = 0 := by omega
    by_cases a1 : d1 ≠ 0
    · rw [if_pos a1]
      have e : 1000 * d0 + 100 * d1 + 10 * d2 + d3 = (d1 * 10 + d2) * 10 + d3 := by omega
      rw [e, dec_snoc (by omega) h3, dec_snoc (by omega) h2, Lib.decDigits_one (by omega)]
      simp [four]
    · rw [if_neg a1]
      by_cases a2 : d2 ≠ 0
      · rw [if_pos a2]
        have e : 1000 * d0 + 100 * d1 + 10 * d2 + d3 = d2 * 10 + d3 := by omega
        rw [e, dec_snoc (by omega) h3, Lib.decDigits_one (by omega)]
        simp [four]
      · rw [if_neg a2]
        have e : 1000 * d0 + 100 * d1 + 10 * d2 + d3 = d3 := by omega
        rw [e, Lib.decDigits_one (by omega)]
        simp [four]
/-- The place of a digit of four. -/
def pick4 (d0 d1 d2 d3 i : Nat) : Nat := if i = 0 then d0 else if i = 1 then d1 else if i = 2 then d2 else d3
theorem lead_zero {d0 d1 d2 d3 i : Nat} (h : i < lead d0 d1 d2) : pick4 d0 d1 d2 d3 i = 0 := by
  unfold lead at h; unfold pick4
  split at h
  · omega
  · split at h
    · have : i = 0 := by omega
      subst this; simp; omega
    · split at h
      · by_cases h0 : i = 0
        · subst h0; simp; omega
        · have : i = 1 := by omega
          subst this; simp; omega
      · by_cases h0 : i = 0
        · subst h0; simp; omega
        · by_cases h1 : i = 1
          · subst h1; simp; omega
          · have : i = 2 := by omega
            subst this; simp; omega
theorem lead_stop {d0 d1 d2 d3 : Nat} (h : lead d0 d1 d2 < 3) : pick4 d0 d1 d2 d3 (lead d0 d1 d2) ≠ 0 := by
  unfold lead at h ⊢; unfold pick4
  by_cases a0 : d0 ≠ 0
  · rw [if_pos a0]; simpa using a0
  · rw [if_neg a0] at h ⊢
    by_cases a1 : d1 ≠ 0
    · rw [if_pos a1]; simpa using a1
    · rw [if_neg a1] at h ⊢
      by_cases a2 : d2 ≠ 0
      · rw [if_pos a2]; simpa using a2
      · rw [if_neg a2] at h; omega
theorem four_at (d0 d1 d2 d3 : Nat) {i : Nat} (hi : i < (four d0 d1 d2 d3).length) (h0 : d0 ≤ 9) (h1 : d1 ≤ 9) (h2 : d2 ≤ 9) (h3 : d3 ≤ 9) : (four d0 d1 d2 d3)[i].toNat = 48 + pick4 d0 d1 d2 d3 i := by
  have hl : i < 4 := hi
  unfold pick4
  match i, hl with
  | 0, _ => simp [four]; omega
  | 1, _ => simp [four]; omega
  | 2, _ => simp [four]; omega
  | 3, _ => simp [four]; omega
theorem pick4_le {d0 d1 d2 d3 : Nat} (h0 : d0 ≤ 9) (h1 : d1 ≤ 9) (h2 : d2 ≤ 9) (h3 : d3 ≤ 9) (i : Nat) : pick4 d0 d1 d2 d3 i ≤ 9 := by
  unfold pick4; split <;> (try split) <;> (try split) <;> omega
end Rad

namespace Go.Proofs.YtjlkplidpdhgbaaGreatDoor
open Go Go.Proofs Go.RowKit Go.Rad

theorem wrap_toInt (v : BitVec 64) : IntKind.i64.wrap (v.toNat : Nat) = v.toInt := by
  rw [IntKind.wrap_i64, BitVec.toInt_eq_toNat_cond]
  have := v.isLt
  split <;> omega
theorem ofInt_wrap_toInt (v : BitVec 64) : BitVec.ofInt 64 v.toInt = v := BitVec.ofInt_toInt
theorem ofInt_in {x : Int} (h1 : -9223372036854775808 ≤ x) (h2 : x ≤ 9223372036854775807) : (BitVec.ofInt 64 x).toInt = x := by
  rw [BitVec.toInt_ofInt]
  simp only [Int.bmod]
  split <;> omega
theorem bits_xor_i64 (x y : Int) : bits .xor .i64 x y = (BitVec.ofInt 64 x ^^^ BitVec.ofInt 64 y).toInt := by
  show IntKind.i64.wrap ((BitVec.ofInt 64 x ^^^ BitVec.ofInt 64 y).toNat : Nat) = _
  exact wrap_toInt _
theorem bits_and_i64 (x y : Int) : bits .and .i64 x y = (BitVec.ofInt 64 x &&& BitVec.ofInt 64 y).toInt := by
  show IntKind.i64.wrap ((BitVec.ofInt 64 x &&& BitVec.ofInt 64 y).toNat : Nat) = _
  exact wrap_toInt _
/-- Whether the and of two xors is below 0: by signs alone. -/
theorem signs {x s y t : Int} (hx : -9223372036854775808 ≤ x ∧ x ≤ 9223372036854775807) (hs : -9223372036854775808 ≤ s ∧ s ≤ 9223372036854775807)
    (hy : -9223372036854775808 ≤ y ∧ y ≤ 9223372036854775807) (ht : -9223372036854775808 ≤ t ∧ t ≤ 9223372036854775807) :
    bits .and .i64 (bits .xor .i64 x s) (bits .xor .i64 y t) < 0 ↔ (¬ (x < 0 ↔ s < 0) ∧ ¬ (y < 0 ↔ t < 0)) := by
  rw [bits_and_i64, bits_xor_i64, bits_xor_i64, ofInt_wrap_toInt, ofInt_wrap_toInt]
  have key : ∀ v : BitVec 64, v.toInt < 0 ↔ v.msb = true := fun v => by rw [BitVec.msb_eq_toInt]; simp
  rw [key, BitVec.msb_and, BitVec.msb_xor, BitVec.msb_xor, BitVec.msb_eq_toInt, BitVec.msb_eq_toInt, BitVec.msb_eq_toInt, BitVec.msb_eq_toInt,
    ofInt_in hx.1 hx.2, ofInt_in hs.1 hs.2, ofInt_in hy.1 hy.2, ofInt_in ht.1 ht.2]
  by_cases a : x < 0 <;> by_cases b : s < 0 <;> by_cases c : y < 0 <;> by_cases d : t < 0 <;> simp [a, b, c, d]
theorem add_over {x y : Int} (hx : -9223372036854775808 ≤ x ∧ x ≤ 9223372036854775807) (hy : -9223372036854775808 ≤ y ∧ y ≤ 9223372036854775807) :
    0 ≤ bits .and .i64 (bits .xor .i64 x (IntKind.i64.wrap (x + y))) (bits .xor .i64 y (IntKind.i64.wrap (x + y))) ↔ -9223372036854775808 ≤ x + y ∧ x + y ≤ 9223372036854775807 := by
  have e := IntKind.wrap_i64 (x + y)
  have h := signs (s := IntKind.i64.wrap (x + y)) (t := IntKind.i64.wrap (x + y)) hx (by omega) hy (by omega)
  rw [← Int.not_lt, h]
  omega
theorem sub_over {x y : Int} (hx : -9223372036854775808 ≤ x ∧ x ≤ 9223372036854775807) (hy : -9223372036854775808 ≤ y ∧ y ≤ 9223372036854775807) :
    0 ≤ bits .and .i64 (bits .xor .i64 x y) (bits .xor .i64 x (IntKind.i64.wrap (x - y))) ↔ -9223372036854775808 ≤ x - y ∧ x - y ≤ 9223372036854775807 := by
  have e := IntKind.wrap_i64 (x - y)
  have h := signs (s := y) (t := IntKind.i64.wrap (x - y)) hx hy hx (by omega)
  rw [← Int.not_lt, h]
  omega
theorem cmp_mag (w : World) (vx vy : Value) (x y nx ny : Nat) (hx : Mag w vx x nx) (hy : Mag w vy y ny) (hl : nx ≤ 35184372088832) (hl' : ny ≤ 35184372088832) :
    Calls Tryz.prog 87 #[vx, vy] w fun e w' => e = .returned (.int .i64 (cmpI (x : Int) (y : Int))) ∧ Below w.heap.size w w' := by
  obtain ⟨ax, bx, ox, cx, rfl, hsx, hcx, hax, hnx, hrx⟩ := hx
  obtain ⟨ay, byy, oy, cy, rfl, hsy, hcy, hay, hny', hry⟩ := hy
  refine (cmpWords_any w ax ay bx ox nx cx byy oy ny cy hsx hsy (by unfold maxLen; omega) (by unfold maxLen; omega) hax hay hrx hry).mono ?_
  rintro e w' ⟨rfl, n, rfl⟩
  rw [hnx, hny']
  exact ⟨rfl, ⟨rfl, rfl, rfl, Nat.le_refl _, fun _ _ => rfl⟩⟩
end Go.Proofs.YtjlkplidpdhgbaaGreatDoor

namespace Go.Proofs.YtjlkplidpdhgbaaGreatDoor
open Go Go.Proofs Go.RowKit Go.Rad

set_option maxRecDepth 10000 in
set_option maxHeartbeats 1000000 in
theorem shiftLeft_any (w : World) (vx : Value) (x nx m : Nat) (hx : Mag w vx x nx) (hl : nx + m / 64 + 1 ≤ 35184372088832) (hm : m ≤ maxLen) :
    Calls Tryz.prog 136 #[vx, .int .i64 m] w fun e w' => ∃ v n, e = .returned v ∧ Below w.heap.size w w' ∧ Mag w' v (x * 2 ^ m) n ∧ n ≤ nx + m / 64 + 1 := by
  obtain ⟨ax, bx, ox, cx, rfl, hsx, hcx, hax, hnx, hrx⟩ := hx
  obtain ⟨i0, hi0, hz0, hz1, hz2⟩ := info_parts info98
  have HX : Hid (num B w bx ox nx = x) := hnx
  clear hnx hrx
  have hm' : m ≤ 9223372036854775807 := hm
  obtain ⟨k, hk⟩ : ∃ k, k = m / 64 := ⟨_, rfl⟩
  obtain ⟨s, hs⟩ : ∃ s, s = m % 64 := ⟨_, rfl⟩
  rw [← hk] at hl ⊢
  have hms : Hid (m = 64 * k + s) := by show m = _; omega
  have hs64 : s < 64 := by omega
  have e1 : (m : Int).tdiv 64 = (k : Int) := by rw [Int.tdiv_eq_ediv_of_nonneg (by omega)]; omega
  have e2 : (m : Int).tmod 64 = (s : Int) := by rw [Int.tmod_eq_emod_of_nonneg (by omega)]; omega
  have e3 : (m : Int) / 64 = (k : Int) := by omega
  have e4 : (m : Int) % 64 = (s : Int) := by omega
  clear hk hs
  have hml : nx + k + 1 ≤ maxLen := by unfold maxLen; omega
  have z1 : nx + k + 1 - k = nx + 1 := by omega
  go_enter Tryz.func136, Tryz.ntmps136
  go_wp2_with (first
    | (at_make; refine wpList_makeRow .u64 B B_pos rfl _ _ 22 rfl 98 i0 Tryz.underlying22 hi0 hz0 hz1 .i64 .i64 _ _ (nx + k + 1) rfl rfl (by omega) (by omega) (by rw [hz2]; omega) hml ?_; intro w1 hm1)
    | (go_at_call 137; fail))
  have ha1 : Arr .u64 B w1 w.heap.size k (nx + 1) := by
    have := hm1.arr.sub (d := k) (m := nx + 1) (by omega)
    rwa [Nat.zero_add] at this
  have hf1 : Free w1 w.heap.size k (nx + 1) := by
    have := hm1.free.sub (d := k) (m := nx + 1) (by omega)
    rwa [Nat.zero_add] at this
  refine (moveUp_any w1 _ ax w.heap.size k (nx + 1) (nx + 1) bx ox nx cx s (Sl.mk _ _ _) hsx ha1 hf1 (arr_below hax hm1.below) rfl (fun h => .inl (by have := hax.lt h; omega)) (by unfold maxLen; omega) hs64).mono ?_
  rintro e w2 ⟨rfl, hch, ha2, hn2⟩
  rw [num_below hax hm1.below, HX.out] at hn2
  have hb3 : Below w.heap.size w w2 := hm1.below.trans (hch.below (Nat.le_refl _) (by have := hm1.lt; omega))
  have ha3 : Arr .u64 B w2 w.heap.size 0 (nx + k + 1) := fun i hi => by
    by_cases hik : i < k
    · have e := hch.cell (0 + i) (by omega)
      rw [word_of_cell e, e]
      exact hm1.arr i (by omega)
    · obtain ⟨j, rfl⟩ := Nat.exists_eq_add_of_le (Nat.le_of_not_lt hik)
      have := ha2 j (by omega)
      rwa [Nat.zero_add]
  have hv : num B w2 w.heap.size 0 (nx + k + 1) = x * 2 ^ m := by
    have h0 : num B w2 w.heap.size 0 k = 0 := _root_.Rad.vs_zeros fun i hi => by
      rw [Nat.zero_add, word_of_cell (hch.cell i (by omega))]
      exact hm1.zero i (by omega)
    have hB : B ^ k = 2 ^ (64 * k) := by rw [Nat.pow_mul]; rfl
    rw [show nx + k + 1 = k + (nx + 1) by omega, num_add, h0, Nat.zero_add, Nat.zero_add, hn2, hB, hms.out, Nat.pow_add, Nat.mul_left_comm]
  have HV : Hid _ := hv
  clear hv hn2 hm1 ha1 hf1 ha2 hch
  have e5 : (nx : Int) + (k : Int) + 1 = ((nx + k + 1 : Nat) : Int) := by omega
  have C := front_mag w2 (some ⟨w.heap.size, 0, none⟩) w.heap.size 0 (nx + k + 1) (nx + k + 1) (nx + k + 1) (Sl.mk _ _ _) (Nat.le_refl _) hml hml ha3
  rw [← e5] at C
  clear e5
  go_wp2_with (go_at_call 86; refine C.mono ?_; rintro e w' ⟨v, q, rfl, hw, hk1, hk2, hmg⟩; subst hw)
  go_ret
  rw [Nat.min_self, HV.out] at hmg
  exact ⟨_, q, rfl, hb3, hmg, hk1⟩

set_option maxRecDepth 10000 in
set_option maxHeartbeats 1000000 in
theorem shiftRight_any (w : World) (vx : Value) (x nx m : Nat) (hx : Mag w vx x nx) (hl : nx ≤ 35184372088832) (hm : m ≤ maxLen) :
    Calls Tryz.prog 120 #[vx, .int .i64 m] w fun e w' => ∃ v n, e = .returned v ∧ Below w.heap.size w w' ∧ Mag w' v (x / 2 ^ m) n ∧ n ≤ nx := by
  obtain ⟨ax, bx, ox, cx, rfl, hsx, hcx, hax, hnx, hrx⟩ := hx
  obtain ⟨i0, hi0, hz0, hz1, hz2⟩ := info_parts info98
  have HX : Hid (num B w bx ox nx = x) := hnx
  clear hnx hrx
  have hm' : m ≤ 9223372036854775807 := hm
  obtain ⟨k, hk⟩ : ∃ k, k = m / 64 := ⟨_, rfl⟩
  obtain ⟨s, hs⟩ : ∃ s, s = m % 64 := ⟨_, rfl⟩
  have hms : Hid (m = 64 * k + s) := by show m = _; omega
  have hs64 : s < 64 := by omega
  have e1 : (m : Int).tdiv 64 = (k : Int) := by rw [Int.tdiv_eq_ediv_of_nonneg (by omega)]; omega
  have e2 : (m : Int).tmod 64 = (s : Int) := by rw [Int.tmod_eq_emod_of_nonneg (by omega)]; omega
  have e3 : (m : Int) / 64 = (k : Int) := by omega
  have e4 : (m : Int) % 64 = (s : Int) := by omega
  clear hk hs
  have hB : Hid (B ^ k = 2 ^ (64 * k)) := by show B ^ k = _; rw [Nat.pow_mul]; rfl
  by_cases hkn : nx ≤ k
  · have hz : Hid (x / 2 ^ m = 0) := by
      show x / 2 ^ m = 0
      refine Nat.div_eq_of_lt ?_
      have h1 := num_lt hax
      rw [HX.out] at h1
      have h2 : B ^ nx ≤ B ^ k := Nat.pow_le_pow_right B_pos hkn
      rw [hB.out] at h2
      have h3 : 2 ^ (64 * k) ≤ 2 ^ m := Nat.pow_le_pow_right (by decide) (by rw [hms.out]; exact Nat.le_add_right _ _)
      exact Nat.lt_of_lt_of_le h1 (Nat.le_trans h2 h3)
    go_enter Tryz.func120, Tryz.ntmps120
    go_wp2
    go_ret
    exact ⟨_, 0, rfl, Below.refl _ _, by rw [hz.out]; exact mag_nil _, by omega⟩
  · have hml : nx ≤ maxLen := by unfold maxLen; omega
    have z1 : (nx : Int) - (k : Int) = ((nx - k : Nat) : Int) := by omega
    have z2 : ¬ cx = k := by omega
    obtain rfl := hsx (by omega)
    go_enter Tryz.func120, Tryz.ntmps120
    go_wp2_with (first
      | (at_make; refine wpList_makeRow .u64 B B_pos rfl _ _ 22 rfl 98 i0 Tryz.underlying22 hi0 hz0 hz1 .i64 .i64 _ _ (nx - k) rfl rfl (by omega) (by omega) (by rw [hz2]; omega) (by omega) ?_; intro w1 hm1)
      | (go_at_call 140; fail))
    have hxk : Arr .u64 B w bx (ox + k) (nx - k) := hax.sub (by omega)
    refine (moveDown_any w1 _ _ w.heap.size 0 (nx - k) (nx - k) bx (ox + k) (cx - k) s (Sl.mk _ _ _) (Sl.mk _ _ _) hm1.arr hm1.free (arr_below hxk hm1.below) (fun h => .inl (by have := hxk.lt h; omega)) (by omega) hs64).mono ?_
    rintro e w2 ⟨rfl, hch, ha2, hn2⟩
    rw [num_below hxk hm1.below] at hn2
    have hb3 : Below w.heap.size w w2 := hm1.below.trans (hch.below (Nat.le_refl _) (by have := hm1.lt; omega))
    have hv : num B w2 w.heap.size 0 (nx - k) = x / 2 ^ m := by
      have h1 : num B w bx ox nx = num B w bx ox k + B ^ k * num B w bx (ox + k) (nx - k) := by rw [← num_add]; congr 1; omega
      have h2 : num B w bx ox k < B ^ k := num_lt (fun i hi => hax i (by omega))
      have h3 : x / B ^ k = num B w bx (ox + k) (nx - k) := by
        rw [← HX.out, h1, Nat.add_mul_div_left _ _ (Nat.pow_pos B_pos), Nat.div_eq_of_lt h2, Nat.zero_add]
      rw [hn2, ← h3, Nat.div_div_eq_div_mul, hB.out, hms.out, Nat.pow_add]
    have HV : Hid _ := hv
    clear hv hn2 hm1 hch
    go_wp2_with (go_at_call 86; refine (front_mag w2 _ _ _ _ _ (nx - k) (Sl.mk _ _ _) (Nat.le_refl _) (by omega) (by omega) ha2).mono ?_; rintro e w' ⟨v, q, rfl, hw, hk1, hk2, hmg⟩; subst hw)
    go_ret
    rw [Nat.min_self, HV.out] at hmg
    exact ⟨_, q, rfl, hb3, hmg, by omega⟩
end Go.Proofs.YtjlkplidpdhgbaaGreatDoor
