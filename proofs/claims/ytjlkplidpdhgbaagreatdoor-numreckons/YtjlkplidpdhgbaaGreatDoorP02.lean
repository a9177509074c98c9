/- A part of the proof: W1, W2, Mag, W16, W36, W37. -/
import Derived.Test.YtjlkplidpdhgbaaGreatDoorP01
import Derived.Deep.QuietTactic
import Derived.BigQuiet
import Derived.WalkSpells
import Derived.Test.YtjlkplidpdhgbaaGreatDoorP00
set_option linter.all false

namespace Go.Proofs.YtjlkplidpdhgbaaGreatDoor
open Go Go.Proofs Go.RowKit Go.Rad

set_option maxHeartbeats 1000000 in
theorem front_any (w : World) (ao : Option Addr) (b o n c m : Nat) (hs : Sl ao b o n) (hc : n ≤ c) (hcm : n ≤ maxLen) (hmm : m ≤ maxLen) (ha : Arr .u64 B w b o n) :
    Calls Tryz.prog 86 #[.slice ao n c, .int .i64 m] w fun e w' => ∃ k, e = .returned (.slice ao k k) ∧ w' = w ∧ k ≤ m ∧ k ≤ n ∧ (k = 0 ∨ word w b (o + (k - 1)) ≠ 0) ∧
      (∀ i, k ≤ i → i < m → i < n → word w b (o + i) = 0) := by
  unfold maxLen at hcm hmm
  go_enter Tryz.func86, Tryz.ntmps86
  go_wp2
  all_goals
    go_loop [1] (fun s => ∃ k : Nat, k ≤ m ∧ k ≤ n ∧ s = .int .i64 k ∧ ∀ i, k ≤ i → i < m → i < n → word w b (o + i) = 0) (fun s => (intOf s).toNat)
    case atStart => exact ⟨_, by omega, by omega, rfl, fun i h1 h2 h3 => by omega⟩
    case round =>
      obtain ⟨k, hk1, hk2, rfl, hz⟩ := hrel
      by_cases h0 : k = 0
      · subst h0
        go_wp2
        go_ret
        exact ⟨0, rfl, rfl, by omega, by omega, .inl rfl, hz⟩
      · obtain ⟨j, rfl⟩ : ∃ j, k = j + 1 := ⟨k - 1, by omega⟩
        obtain rfl := hs (by omega)
        have hcell := arr_cell ha (i := j) (by omega)
        by_cases hw : word w b (o + j) = 0
        · have hz' : ∀ i, j ≤ i → i < m → i < n → word w b (o + i) = 0 := fun i h1 h2 h3 => by
            by_cases hij : i = j
            · subst hij; exact hw
            · exact hz i (by omega) h2 h3
          rw [hw] at hcell
          clear hz hw
          go_wp2
          go_round
          case rel => exact ⟨j, by omega, by omega, by go_num, hz'⟩
          case measure => simp [intOf]
        · have hne : ¬ ((word w b (o + j) : Nat) : Int) = 0 := by omega
          go_wp2
          go_ret
          exact ⟨j + 1, by simp, rfl, hk1, hk2, .inr (by simpa using hw), hz⟩

theorem isNaNi (x : Int) (w : World) : Calls Tryz.prog 110 #[.int .i64 x] w fun e w' => e = .returned (.bool false) ∧ w' = w := by
  go_enter Tryz.func110, Tryz.ntmps110
  go_wp2
  go_ret
  exact ⟨rfl, rfl⟩
theorem isNaNu (x : Int) (w : World) : Calls Tryz.prog 146 #[.int .u64 x] w fun e w' => e = .returned (.bool false) ∧ w' = w := by
  go_enter Tryz.func146, Tryz.ntmps146
  go_wp2
  go_ret
  exact ⟨rfl, rfl⟩
/-- -1, 0 or 1. -/
def cmpI (x y : Int) : Int := if x < y then -1 else if x = y then 0 else 1
theorem compare_i (x y : Int) (w : World) : Calls Tryz.prog 74 #[.int .i64 x, .int .i64 y] w fun e w' => e = .returned (.int .i64 (cmpI x y)) ∧ w' = w := by
  by_cases h1 : x < y
  · have e1 : cmpI x y = -1 := if_pos h1
    rw [e1]; clear e1
    go_enter Tryz.func74, Tryz.ntmps74
    go_wp2_with (go_at_call 110; refine (isNaNi _ _).mono ?_; rintro e w' ⟨rfl, hw⟩; subst hw)
    go_ret
    exact ⟨rfl, rfl⟩
  · by_cases h2 : y < x
    · have e1 : cmpI x y = 1 := by unfold cmpI; rw [if_neg h1, if_neg (by omega)]
      rw [e1]; clear e1
      go_enter Tryz.func74, Tryz.ntmps74
      go_wp2_with (go_at_call 110; refine (isNaNi _ _).mono ?_; rintro e w' ⟨rfl, hw⟩; subst hw)
      go_ret
      exact ⟨rfl, rfl⟩
    · have e1 : cmpI x y = 0 := by unfold cmpI; rw [if_neg h1, if_pos (by omega)]
      rw [e1]; clear e1
      go_enter Tryz.func74, Tryz.ntmps74
      go_wp2_with (go_at_call 110; refine (isNaNi _ _).mono ?_; rintro e w' ⟨rfl, hw⟩; subst hw)
      go_ret
      exact ⟨rfl, rfl⟩
theorem compare_u (x y : Int) (w : World) : Calls Tryz.prog 116 #[.int .u64 x, .int .u64 y] w fun e w' => e = .returned (.int .i64 (cmpI x y)) ∧ w' = w := by
  by_cases h1 : x < y
  · have e1 : cmpI x y = -1 := if_pos h1
    rw [e1]; clear e1
    go_enter Tryz.func116, Tryz.ntmps116
    go_wp2_with (go_at_call 146; refine (isNaNu _ _).mono ?_; rintro e w' ⟨rfl, hw⟩; subst hw)
    go_ret
    exact ⟨rfl, rfl⟩
  · by_cases h2 : y < x
    · have e1 : cmpI x y = 1 := by unfold cmpI; rw [if_neg h1, if_neg (by omega)]
      rw [e1]; clear e1
      go_enter Tryz.func116, Tryz.ntmps116
      go_wp2_with (go_at_call 146; refine (isNaNu _ _).mono ?_; rintro e w' ⟨rfl, hw⟩; subst hw)
      go_ret
      exact ⟨rfl, rfl⟩
    · have e1 : cmpI x y = 0 := by unfold cmpI; rw [if_neg h1, if_pos (by omega)]
      rw [e1]; clear e1
      go_enter Tryz.func116, Tryz.ntmps116
      go_wp2_with (go_at_call 146; refine (isNaNu _ _).mono ?_; rintro e w' ⟨rfl, hw⟩; subst hw)
      go_ret
      exact ⟨rfl, rfl⟩
end Go.Proofs.YtjlkplidpdhgbaaGreatDoor

namespace Go.Proofs.YtjlkplidpdhgbaaGreatDoor
open Go Go.Proofs Go.RowKit Go.Rad

/-- Normal: the highest place is not 0. -/
def Nrm (w : World) (b o n : Nat) : Prop := n = 0 ∨ word w b (o + (n - 1)) ≠ 0

theorem ret_int {k : IntKind} {a b : Int} (h : a = b) : Ending.returned (.int k a) = .returned (.int k b) := by rw [h]
theorem cmpI_nat_lt {a b : Nat} (h : a < b) : cmpI (a : Int) (b : Int) = -1 := if_pos (by omega)
theorem cmpI_nat_gt {a b : Nat} (h : b < a) : cmpI (a : Int) (b : Int) = 1 := by unfold cmpI; rw [if_neg (by omega), if_neg (by omega)]
theorem cmpI_nat_eq {a b : Nat} (h : a = b) : cmpI (a : Int) (b : Int) = 0 := by unfold cmpI; rw [if_neg (by omega), if_pos (by omega)]

theorem num_len_lt {w : World} {bx ox nx byy oy ny : Nat} (hx : Arr .u64 B w bx ox nx) (hny : Nrm w byy oy ny) (h : nx < ny) : num B w bx ox nx < num B w byy oy ny := by
  have h1 := num_lt hx
  rcases hny with h2 | h2
  · omega
  · have h3 : B ^ (ny - 1) ≤ num B w byy oy ny := _root_.Rad.vs_ge (by omega) (by simpa using h2)
    have h4 : B ^ nx ≤ B ^ (ny - 1) := Nat.pow_le_pow_right B_pos (by omega)
    omega

set_option maxHeartbeats 1000000 in
theorem cmpWords_any (w : World) (ax ay : Option Addr) (bx ox nx cx byy oy ny cy : Nat) (hsx : Sl ax bx ox nx) (hsy : Sl ay byy oy ny) (hmx : nx ≤ maxLen) (hmy : ny ≤ maxLen)
    (hx : Arr .u64 B w bx ox nx) (hy : Arr .u64 B w byy oy ny) (hnx : Nrm w bx ox nx) (hny : Nrm w byy oy ny) :
    Calls Tryz.prog 87 #[.slice ax nx cx, .slice ay ny cy] w fun e w' => e = .returned (.int .i64 (cmpI (num B w bx ox nx : Nat) (num B w byy oy ny : Nat))) ∧ ∃ n, w' = w.drewN n := by
  unfold maxLen at hmx hmy
  by_cases hn : nx = ny
  · subst hn
    go_enter Tryz.func87, Tryz.ntmps87
    go_wp2
    go_loopw [5] (fun s wr => ∃ k d : Nat, k ≤ nx ∧ s = .int .i64 ((k : Int) - 1) ∧ wr = w.drewN d ∧ ∀ i, k ≤ i → i < nx → word w bx (ox + i) = word w byy (oy + i)) (fun s _ => (intOf s + 1).toNat)
    case atStart => exact ⟨nx, 0, by omega, by go_num, rfl, fun i h1 h2 => by omega⟩
    case round =>
      obtain ⟨k, d, hk, rfl, rfl, hz⟩ := hrel
      by_cases h0 : k = 0
      · subst h0
        have e : cmpI (num B w bx ox nx : Nat) (num B w byy oy nx : Nat) = 0 := cmpI_nat_eq (num_congr fun i hi => (hz i (by omega) hi).symm).symm
        go_wp2
        go_ret
        exact ⟨ret_int e.symm, _, rfl⟩
      · obtain ⟨j, rfl⟩ : ∃ j, k = j + 1 := ⟨k - 1, by omega⟩
        obtain rfl := hsx (by omega)
        obtain rfl := hsy (by omega)
        have hcx := arr_cell hx (i := j) (by omega)
        have hcy := arr_cell hy (i := j) (by omega)
        have he : ((j + 1 : Nat) : Int) - 1 = (j : Int) := by omega
        rw [he]
        by_cases hw : word w bx (ox + j) = word w byy (oy + j)
        · have hw' : ((word w bx (ox + j) : Nat) : Int) = ((word w byy (oy + j) : Nat) : Int) := by rw [hw]
          have hz' : ∀ i, j ≤ i → i < nx → word w bx (ox + i) = word w byy (oy + i) := fun i h1 h2 => by
            by_cases hij : i = j
            · subst hij; exact hw
            · exact hz i (by omega) h2
          clear hz hw he
          go_wp2
          go_quiet (fail)
          go_wp2
          go_roundw
          case rel => exact ⟨j, _, by omega, by go_num, rfl, hz'⟩
          case measure => simp [intOf]
        · have hne : ((word w bx (ox + j) : Nat) : Int) ≠ ((word w byy (oy + j) : Nat) : Int) := by omega
          have hres : cmpI ((word w bx (ox + j) : Nat) : Int) ((word w byy (oy + j) : Nat) : Int) = cmpI (num B w bx ox nx : Nat) (num B w byy oy nx : Nat) := by
            rcases Nat.lt_or_ge (word w bx (ox + j)) (word w byy (oy + j)) with h | h
            · rw [cmpI_nat_lt h, cmpI_nat_lt]
              exact _root_.Rad.vs_lt_of_place (i := j) (fun i hi => arr_lt hx hi) (by omega) h (fun i h1 h2 => hz i (by omega) h2)
            · have h' : word w byy (oy + j) < word w bx (ox + j) := by omega
              rw [cmpI_nat_gt h', cmpI_nat_gt]
              exact _root_.Rad.vs_lt_of_place (i := j) (fun i hi => arr_lt hy hi) (by omega) h' (fun i h1 h2 => (hz i (by omega) h2).symm)
          have HR : Hid (cmpI ((word w bx (ox + j) : Nat) : Int) ((word w byy (oy + j) : Nat) : Int) = cmpI (num B w bx ox nx : Nat) (num B w byy oy nx : Nat)) := hres
          have hb : (j : Int) < (nx : Int) := by omega
          have hb0 : (0 : Int) ≤ (j : Int) := by omega
          clear hz hw he hres
          go_wp2
          go_quiet (fail)
          go_wp2
          go_quiet ((go_at_call 116; refine (compare_u _ _ _).mono ?_; rintro e w'' ⟨rfl, rfl⟩; exact ⟨rfl, _, rfl⟩))
          go_wp2
          go_ret
          exact ⟨ret_int HR.out, by simp only [World.drewN_drewN]; exact ⟨_, rfl⟩⟩
  · have hres : cmpI (nx : Int) (ny : Int) = cmpI (num B w bx ox nx : Nat) (num B w byy oy ny : Nat) := by
      rcases Nat.lt_or_ge nx ny with h | h
      · rw [cmpI_nat_lt h, cmpI_nat_lt (num_len_lt hx hny h)]
      · have h' : ny < nx := by omega
        rw [cmpI_nat_gt h', cmpI_nat_gt (num_len_lt hy hnx h')]
    have HR : Hid (cmpI (nx : Int) (ny : Int) = cmpI (num B w bx ox nx : Nat) (num B w byy oy ny : Nat)) := hres
    have hne : ((nx : Int) != (ny : Int)) = true := by simp; omega
    clear hres
    go_enter Tryz.func87, Tryz.ntmps87
    go_wp2_with (go_at_call 74; refine (compare_i _ _ _).mono ?_; rintro e w' ⟨rfl, hw⟩; subst hw)
    go_ret
    exact ⟨ret_int HR.out, 0, rfl⟩
end Go.Proofs.YtjlkplidpdhgbaaGreatDoor

namespace Go.Proofs.YtjlkplidpdhgbaaGreatDoor
open Go Go.Proofs Go.RowKit Go.Rad

/-- A slice of words that holds the number x: n words, the highest not 0. -/
def Mag (w : World) (v : Value) (x n : Nat) : Prop :=
  ∃ (ao : Option Addr) (b o c : Nat), v = .slice ao n c ∧ Sl ao b o n ∧ n ≤ c ∧ Arr .u64 B w b o n ∧ num B w b o n = x ∧ Nrm w b o n

theorem arr_below {k : IntKind} {β : Nat} {w w' : World} {b o n : Nat} (h : Arr k β w b o n) (hb : Below w.heap.size w w') : Arr k β w' b o n := by
  intro i hi
  have e : w'.cell? ⟨b, o + i, none⟩ = w.cell? ⟨b, o + i, none⟩ := hb.cell (p := ⟨b, o + i, none⟩) (h.lt (by omega))
  rw [word_of_cell e, e]
  exact h i hi
theorem word_below {k : IntKind} {β : Nat} {w w' : World} {b o n : Nat} (h : Arr k β w b o n) (hb : Below w.heap.size w w') {i : Nat} (hi : i < n) : word w' b (o + i) = word w b (o + i) :=
  word_of_cell (hb.cell (p := ⟨b, o + i, none⟩) (h.lt (by omega)))
theorem num_below {k : IntKind} {β : Nat} {w w' : World} {b o n : Nat} (h : Arr k β w b o n) (hb : Below w.heap.size w w') : num β w' b o n = num β w b o n :=
  num_congr fun _ hi => word_below h hb hi
theorem nrm_below {w w' : World} {b o n : Nat} (h : Arr .u64 B w b o n) (hn : Nrm w b o n) (hb : Below w.heap.size w w') : Nrm w' b o n := by
  rcases hn with h0 | h0
  · exact .inl h0
  · by_cases hz : n = 0
    · exact .inl hz
    · right; rw [word_below h hb (by omega)]; exact h0
theorem Mag.below {w w' : World} {v : Value} {x n : Nat} (h : Mag w v x n) (hb : Below w.heap.size w w') : Mag w' v x n := by
  obtain ⟨ao, b, o, c, hv, hs, hc, ha, hx, hn⟩ := h
  exact ⟨ao, b, o, c, hv, hs, hc, arr_below ha hb, by rw [num_below ha hb, hx], nrm_below ha hn hb⟩

theorem Mag.lt {w : World} {v : Value} {x n : Nat} (h : Mag w v x n) : x < B ^ n := by
  obtain ⟨ao, b, o, c, hv, hs, hc, ha, hx, hn⟩ := h
  rw [← hx]; exact num_lt ha
theorem Mag.ge {w : World} {v : Value} {x n : Nat} (h : Mag w v x n) (hn0 : 0 < n) : B ^ (n - 1) ≤ x := by
  obtain ⟨ao, b, o, c, hv, hs, hc, ha, hx, hn⟩ := h
  rw [← hx]
  rcases hn with h0 | h0
  · omega
  · exact _root_.Rad.vs_ge hn0 (by simpa using h0)
theorem Mag.pos {w : World} {v : Value} {x n : Nat} (h : Mag w v x n) (hn0 : 0 < n) : 0 < x := Nat.lt_of_lt_of_le (Nat.pow_pos B_pos) (h.ge hn0)
theorem Mag.len_le {w : World} {v : Value} {x n : Nat} (h : Mag w v x n) {L : Nat} (hx : x < B ^ L) : n ≤ L := by
  rcases Nat.lt_or_ge L n with h1 | h1
  · have h2 := h.ge (by omega)
    have h3 : B ^ L ≤ B ^ (n - 1) := Nat.pow_le_pow_right B_pos (by omega)
    omega
  · exact h1
theorem Mag.zero_iff {w : World} {v : Value} {x n : Nat} (h : Mag w v x n) : x = 0 ↔ n = 0 := by
  constructor
  · intro hx
    rcases Nat.eq_zero_or_pos n with h0 | h0
    · exact h0
    · have := h.pos h0; omega
  · intro hn; have := h.lt; rw [hn] at this; simpa using this

theorem mag_nil (w : World) : Mag w (.slice none 0 0) 0 0 := ⟨none, 0, 0, 0, rfl, fun h => by omega, by omega, fun i hi => by omega, rfl, .inl rfl⟩

/-- front, of a row that holds a number. -/
theorem front_mag (w : World) (ao : Option Addr) (b o n c m : Nat) (hs : Sl ao b o n) (hc : n ≤ c) (hcm : n ≤ maxLen) (hmm : m ≤ maxLen) (ha : Arr .u64 B w b o n) :
    Calls Tryz.prog 86 #[.slice ao n c, .int .i64 m] w fun e w' => ∃ v k, e = .returned v ∧ w' = w ∧ k ≤ m ∧ k ≤ n ∧ Mag w v (num B w b o (min m n)) k := by
  refine (front_any w ao b o n c m hs hc hcm hmm ha).mono ?_
  rintro e w' ⟨k, rfl, rfl, hk1, hk2, htop, hz⟩
  refine ⟨_, k, rfl, rfl, hk1, hk2, ao, b, o, k, rfl, fun h => hs (by omega), Nat.le_refl _, ?_, ?_, ?_⟩
  · have := ha.sub (d := 0) (m := k) (by omega); simpa using this
  · exact (_root_.Rad.vs_top (by omega) (fun i h1 h2 => hz i h1 (by omega) (by omega))).symm
  · rcases htop with h | h
    · exact .inl h
    · exact .inr h

theorem num_made {k : IntKind} {β : Nat} {w w' : World} {n : Nat} (h : Made k β w w' n) (m : Nat) (hm : m ≤ n) : num β w' w.heap.size 0 m = 0 :=
  _root_.Rad.vs_zeros fun i hi => by rw [Nat.zero_add]; exact h.zero i (by omega)

theorem info98 : (Tryz.prog.info? 98).map (fun i => (i.zero, i.size, i.bytes)) = some (some (.int .u64 0), 1, 8) := by kernel_rfl
theorem size98 : (Tryz.prog.info? 98).map (·.size) = some 1 := by kernel_rfl

/-- A new row, with a number copied to its low end. -/
theorem row_copied {w w1 w2 : World} {n m b o : Nat} (hm : Made .u64 B w w1 n) (ha : Arr .u64 B w b o m) (hmn : m ≤ n) (hc : Copied .u64 B w1 w2 w.heap.size 0 m b o) :
    Below w.heap.size w w2 ∧ Arr .u64 B w2 w.heap.size 0 n ∧ Free w2 w.heap.size 0 n ∧ num B w2 w.heap.size 0 n = num B w b o m ∧ w.heap.size < w2.heap.size := by
  have hlow : ∀ i, i < m → word w2 w.heap.size (0 + i) = word w b (o + i) := fun i hi => (hc.same i hi).trans (word_below ha hm.below hi)
  have hhigh : ∀ i, m ≤ i → w2.cell? ⟨w.heap.size, i, none⟩ = w1.cell? ⟨w.heap.size, i, none⟩ := fun i hi => hc.chg.cell i (by omega)
  refine ⟨hm.below.trans (hc.chg.below (Nat.le_refl _) (by have := hm.lt; omega)), fun i hi => ?_, hc.chg.free hm.free (fun _ => hm.lt), ?_, Nat.lt_of_lt_of_le hm.lt hc.chg.size⟩
  · by_cases him : i < m
    · exact hc.arr i him
    · have e := hhigh i (by omega)
      rw [Nat.zero_add, word_of_cell e, e]
      have := hm.arr i hi
      rwa [Nat.zero_add] at this
  · have h1 : num B w2 w.heap.size 0 n = num B w2 w.heap.size 0 m := _root_.Rad.vs_top hmn fun i h1 h2 => by
      rw [Nat.zero_add, word_of_cell (hhigh i h1)]
      exact hm.zero i h2
    rw [h1]
    exact num_congr hlow
theorem nat_min_self (n : Nat) : min n n = n := Nat.min_self n
end Go.Proofs.YtjlkplidpdhgbaaGreatDoor

namespace Go.Proofs.YtjlkplidpdhgbaaGreatDoor
open Go Go.Proofs Go.RowKit Go.Rad

set_option maxRecDepth 10000 in
theorem sizeOf_any (s : Int) (h1 : -9223372036854775808 ≤ s) (h2 : s ≤ 9223372036854775807) (w : World) :
    Calls Tryz.prog 84 #[.int .i64 s] w fun e w' => e = .returned (.int .u64 (s.natAbs : Int)) ∧ w' = w := by
  go_enter Tryz.func84, Tryz.ntmps84
  by_cases hs : s < 0
  · go_wp2
    go_ret
    exact ⟨ret_int (by rw [IntKind.wrap_u64, IntKind.wrap_u64]; omega), rfl⟩
  · go_wp2
    go_ret
    exact ⟨ret_int (by omega), rfl⟩
theorem one_mag (w : World) (x : Nat) (h0 : ¬ x = 0) (h : x < B) : Mag (w.alloc (.cells #[.int .u64 (x : Int)] 98)) (.slice (some ⟨w.heap.size, 0, none⟩) 1 1) x 1 := by
  have hc : (w.alloc (.cells #[.int .u64 (x : Int)] 98)).cell? ⟨w.heap.size, 0, none⟩ = some (.int .u64 (x : Int)) := by
    rw [World.cell?_alloc_at (w := w) _ _ w.heap.size 0 rfl]; rfl
  have hw := word_eq hc
  refine ⟨_, w.heap.size, 0, 1, rfl, Sl.mk _ _ _, Nat.le_refl _, fun i hi => ?_, ?_, .inr ?_⟩
  · obtain rfl : i = 0 := by omega
    rw [Nat.zero_add, hw]; exact ⟨hc, h⟩
  · rw [num_succ, num_zero, Nat.zero_add, hw]; simp
  · rw [show 0 + (1 - 1) = 0 from rfl, hw]; exact h0

set_option maxRecDepth 10000 in
theorem magnitude_small (s : Int) (h1 : -9223372036854775808 ≤ s) (h2 : s ≤ 9223372036854775807) (w : World) :
    Calls Tryz.prog 77 #[.agg #[.int .i64 s, .slice none 0 0]] w fun e w' => ∃ v n, e = .returned v ∧ Below w.heap.size w w' ∧ Mag w' v s.natAbs n ∧ n ≤ 1 := by
  have qT : ∀ (w : World) (a : Option Addr) (n c : Nat), (binOp .neq 22 (.slice a n c) (.slice none 0 0)).run Tryz.prog w = .ok (.bool (!a.isNone)) w := fun w a n c => run_neq_slice_nil_any w 22 98 a n c 0 0 Tryz.underlying22
  by_cases hs : s = 0
  · subst hs
    go_enter Tryz.func77, Tryz.ntmps77
    go_wp2
    go_ret
    exact ⟨_, 0, rfl, (Below.refl _ _).alloc (Nat.le_refl _) _, mag_nil _, by omega⟩
  · have hn0 : ¬ s.natAbs = 0 := by omega
    have hlt : s.natAbs < B := by unfold B; omega
    go_enter Tryz.func77, Tryz.ntmps77
    go_wp2_with (go_at_call 84; refine (sizeOf_any s h1 h2 _).mono ?_; rintro e w' ⟨rfl, rfl⟩)
    go_ret
    refine ⟨_, 1, rfl, ((Below.refl _ _).alloc (Nat.le_refl _) _).alloc (by simp) _, ?_, Nat.le_refl _⟩
    have := one_mag (w.alloc (.cells #[.int .i64 s, .slice none 0 0] 24)) s.natAbs hn0 hlt
    have e : (w.alloc (.cells #[.int .i64 s, .slice none 0 0] 24)).heap.size = w.heap.size + 1 := by simp
    rw [e] at this
    exact this

/-- A number, and the value that it is kept in: small ones in a word, long ones by sign and magnitude. -/
def IsInt (w : World) (v : Value) (z : Int) : Prop :=
  (v = .agg #[.int .i64 z, .slice none 0 0] ∧ -9223372036854775808 ≤ z ∧ z ≤ 9223372036854775807) ∨
  ∃ (s : Int) (a : Addr) (n c m : Nat), v = .agg #[.int .i64 s, .slice (some a) n c] ∧ Mag w (.slice (some a) n c) m n ∧ (s = 1 ∧ z = (m : Int) ∧ 9223372036854775807 < z ∨ s = -1 ∧ z = -(m : Int) ∧ z < -9223372036854775808)

set_option maxRecDepth 10000 in
theorem magnitude_any (w : World) (v : Value) (z : Int) (hv : IsInt w v z) :
    Calls Tryz.prog 77 #[v] w fun e w' => ∃ v n, e = .returned v ∧ Below w.heap.size w w' ∧ Mag w' v z.natAbs n := by
  rcases hv with ⟨rfl, h1, h2⟩ | ⟨s, a, n, c, m, rfl, hm, hs⟩
  · refine (magnitude_small z h1 h2 w).mono ?_
    rintro e w' ⟨v, n, h1, h2, h3, _⟩
    exact ⟨v, n, h1, h2, h3⟩
  · have qT : ∀ (w : World) (a : Option Addr) (n c : Nat), (binOp .neq 22 (.slice a n c) (.slice none 0 0)).run Tryz.prog w = .ok (.bool (!a.isNone)) w := fun w a n c => run_neq_slice_nil_any w 22 98 a n c 0 0 Tryz.underlying22
    have hz : z.natAbs = m := by omega
    rw [hz]
    have hB : Below w.heap.size w (w.alloc (Obj.cells #[Value.int IntKind.i64 s, Value.slice (some a) n c] 24)) := (Below.refl _ _).alloc (Nat.le_refl _) _
    have HM := hm.below hB
    have HM' : Hid _ := HM
    clear HM hm hs hz
    go_enter Tryz.func77, Tryz.ntmps77
    go_wp2
    go_ret
    exact ⟨_, n, rfl, hB, HM'.out⟩
end Go.Proofs.YtjlkplidpdhgbaaGreatDoor

namespace Go.Proofs.YtjlkplidpdhgbaaGreatDoor
open Go Go.Proofs Go.RowKit Go.Rad

theorem ba_empty {s : ByteArray} (h : s.size = 0) : s.toList.isEmpty = true := by
  rw [ByteArray.toList_eq, List.isEmpty_iff]
  exact List.eq_nil_of_length_eq_zero (by simpa using h)
theorem ba_full {s : ByteArray} (h : 0 < s.size) : s.toList.isEmpty = false := by
  rw [ByteArray.toList_eq, ← Bool.not_eq_true, List.isEmpty_iff]
  intro h2
  have h3 : s.data.toList.length = 0 := by rw [h2]; rfl
  have h4 : s.data.toList.length = s.size := by simp
  omega
theorem ba_head {s : ByteArray} (h : 0 < s.size) : s.data.toList.head? = some s[0] := by
  have h2 : 0 < s.data.toList.length := by simpa using h
  rw [List.head?_eq_getElem?, List.getElem?_eq_getElem h2]
  rfl
theorem u8_ne {b : UInt8} {n : Nat} (hn : n < 256) (h : ¬ b = UInt8.ofNat n) : ¬ (b.toNat : Int) = (n : Int) := by
  intro h2
  apply h
  apply UInt8.toNat_inj.1
  simp
  omega
/-- The length of the longest beginning that is digits of which the first is not 0. -/
def dl (l : List UInt8) : Nat := if l.head? = some 48 then 0 else _root_.Rad.runD l
set_option maxRecDepth 10000 in
set_option maxHeartbeats 1000000 in
theorem digitsLen_any (w : World) (s : ByteArray) (hs : s.size ≤ 9223372036854775806) :
    Calls Tryz.prog 96 #[.string s] w fun e w' => e = .returned (.int .i64 (dl s.data.toList : Nat)) ∧ w' = w := by
  have hlen : s.data.toList.length = s.size := by simp
  obtain ⟨r, hr⟩ : ∃ r, dl s.data.toList = r := ⟨_, rfl⟩
  rw [hr]
  by_cases h0 : s.size = 0
  · have e1 := ba_empty h0
    have : s.data.toList = [] := List.eq_nil_of_length_eq_zero (by omega)
    rw [this] at hr
    obtain rfl : r = 0 := hr.symm
    clear hr hlen this
    go_enter Tryz.func96, Tryz.ntmps96
    go_wp2
    have e2 : (s.size : Int) = 0 := by omega
    go_loop [13] (fun i => i = .int .i64 0) (fun i => 0)
    case atStart => rfl
    case round =>
      obtain rfl := hrel
      go_wp2
      go_ret
      exact ⟨rfl, rfl⟩
  · have e2 : 0 < s.size := by omega
    have e1 := ba_full e2
    have eh := ba_head e2
    by_cases h1 : s[0] = 48
    · have e3 : (s[0].toNat : Int) = 48 := by rw [h1]; rfl
      have : r = 0 := by rw [← hr]; unfold dl; rw [eh, h1]; rfl
      subst this
      clear hr hlen eh
      go_enter Tryz.func96, Tryz.ntmps96
      go_wp2
      go_ret
      exact ⟨rfl, rfl⟩
    · have e3 : ¬ (s[0].toNat : Int) = 48 := u8_ne (n := 48) (by decide) h1
      have hR : r = _root_.Rad.runD s.data.toList := by rw [← hr]; unfold dl; rw [eh, if_neg]; intro h; exact h1 (Option.some.inj h)
      have hle : r ≤ s.size := by rw [hR, ← hlen]; exact _root_.Rad.runD_le _
      have hdg : Hid (∀ i (h : i < s.size), i < r → 48 ≤ (s[i].toNat : Int) ∧ (s[i].toNat : Int) ≤ 57) := fun i h hi => by
        have := _root_.Rad.runD_at (l := s.data.toList) (i := i) (by omega) (by omega)
        unfold _root_.Rad.IsDg at this
        have e : s.data.toList[i]'(by omega) = s[i] := rfl
        rw [e] at this
        omega
      have hst : Hid (∀ (h : r < s.size), ((s[r].toNat : Int) < 48 ∨ 57 < (s[r].toNat : Int))) := fun h => by
        have := _root_.Rad.runD_stop (l := s.data.toList) (by omega)
        unfold _root_.Rad.IsDg at this
        have e : s.data.toList[_root_.Rad.runD s.data.toList]'(by omega) = s[r] := by subst hR; rfl
        rw [e] at this
        omega
      clear hR hr hlen eh
      go_enter Tryz.func96, Tryz.ntmps96
      go_wp2
      go_loop [13] (fun i => ∃ i' : Nat, i' ≤ r ∧ i = .int .i64 (i' : Int)) (fun i => s.size - (intOf i).toNat)
      case atStart => exact ⟨0, by omega, rfl⟩
      case round =>
        obtain ⟨i, hi, rfl⟩ := hrel
        by_cases hie : i = r
        · subst hie
          by_cases his : i = s.size
          · have c1 : ¬ (i : Int) < (s.size : Int) := by omega
            go_wp2
            go_ret
            exact ⟨rfl, rfl⟩
          · have c1 : (i : Int) < (s.size : Int) := by omega
            have c2 : i < s.size := by omega
            rcases hst.out c2 with h | h
            · go_wp2
              go_ret
              exact ⟨rfl, rfl⟩
            · have h' : ¬ (s[i].toNat : Int) < 48 := by omega
              go_wp2
              go_ret
              exact ⟨rfl, rfl⟩
        · have c1 : (i : Int) < (s.size : Int) := by omega
          have c2 : i < s.size := by omega
          obtain ⟨h1, h2⟩ := hdg.out i c2 (by omega)
          have h1' : ¬ (s[i].toNat : Int) < 48 := by omega
          have h2' : ¬ 57 < (s[i].toNat : Int) := by omega
          go_wp2
          exact ⟨⟨i + 1, by omega, by go_num⟩, by simp [intOf]; omega⟩
end Go.Proofs.YtjlkplidpdhgbaaGreatDoor

namespace Go.Proofs.YtjlkplidpdhgbaaGreatDoor
open Go Go.Proofs Go.RowKit Go.Rad

theorem ba_drop (s : ByteArray) (k : Nat) : (s.extract k s.size).data.toList = s.data.toList.drop k := by
  rw [ByteArray.data_extract, Array.toList_extract, List.extract_eq_take_drop, List.take_of_length_le]
  simp
theorem ba_take (s : ByteArray) (k : Nat) : (s.extract 0 k).data.toList = s.data.toList.take k := by
  rw [ByteArray.data_extract, Array.toList_extract, List.extract_eq_take_drop]
  simp
theorem ba_size (s : ByteArray) : s.data.toList.length = s.size := by simp
theorem ba_all (s : ByteArray) : s.extract 0 s.size = s := by simp
theorem dl_le (l : List UInt8) : dl l ≤ l.length := by
  unfold dl; have := _root_.Rad.runD_le l; split <;> omega
theorem wlen_nil : _root_.Rad.wlen [] = 0 := rfl
theorem ba_cons {s : ByteArray} (h : 0 < s.size) : s.data.toList = s[0] :: s.data.toList.drop 1 := by
  have := ba_head h
  cases hl : s.data.toList with
  | nil => rw [hl] at this; simp at this
  | cons a t => rw [hl] at this; simp at this; simp [this]
set_option maxRecDepth 10000 in
set_option maxHeartbeats 1000000 in
theorem numberLen_any (w : World) (s : ByteArray) (hs : s.size ≤ 9223372036854775806) (r : Nat) (hr : _root_.Rad.wlen s.data.toList = r) :
    Calls Tryz.prog 62 #[.string s] w fun e w' => e = .returned (.int .i64 (r : Nat)) ∧ w' = w := by
  have hlen : s.data.toList.length = s.size := ba_size s
  by_cases h0 : s.size = 0
  · have e1 := ba_empty h0
    have hnil : s.data.toList = [] := List.eq_nil_of_length_eq_zero (by omega)
    rw [hnil] at hr
    obtain rfl : r = 0 := hr.symm
    have es : s.extract 0 s.size = s := ba_all s
    have CL := digitsLen_any w s hs
    rw [hnil, show dl [] = 0 from rfl] at CL
    have eE : s = ByteArray.empty := by
      apply ByteArray.ext
      apply Array.toList_inj.1
      rw [hnil]; rfl
    clear hr hlen hnil es
    subst eE
    go_enter Tryz.func62, Tryz.ntmps62
    go_wp2_with (go_at_call 96; refine CL.mono ?_; rintro e w' ⟨rfl, hw⟩; subst hw)
    go_ret
    exact ⟨rfl, rfl⟩
  · have e2 : 0 < s.size := by omega
    have e1 := ba_full e2
    have ec := ba_cons e2
    by_cases h1 : s[0] = 45
    · have e3 : (s[0].toNat : Int) = 45 := by rw [h1]; rfl
      obtain ⟨q, hq⟩ : ∃ q, dl (s.data.toList.drop 1) = q := ⟨_, rfl⟩
      have CL := digitsLen_any w (s.extract 1 s.size) (by simp; omega)
      rw [ba_drop, hq] at CL
      have hrq : r = 1 + q := by
        rw [← hr, ec, h1, _root_.Rad.wlen_neg, ← hq]; rfl
      have hqle : q ≤ s.size := by rw [← hq, ← hlen]; refine Nat.le_trans (dl_le _) ?_; simp
      subst hrq
      have ew : IntKind.i64.wrap (1 + (q : Int)) = ((1 + q : Nat) : Int) := by rw [IntKind.wrap_i64]; omega
      clear hr hq hlen ec
      go_enter Tryz.func62, Tryz.ntmps62
      go_wp2_with (go_at_call 96; refine CL.mono ?_; rintro e w' ⟨rfl, hw⟩; subst hw)
      go_ret
      exact ⟨by go_num, rfl⟩
    · have e3 : ¬ (s[0].toNat : Int) = 45 := u8_ne (n := 45) (by decide) h1
      by_cases h2 : s[0] = 48
      · have e4 : (s[0].toNat : Int) = 48 := by rw [h2]; rfl
        obtain rfl : r = 1 := by rw [← hr, ec, h2, _root_.Rad.wlen_zero]
        clear hr hlen ec
        go_enter Tryz.func62, Tryz.ntmps62
        go_wp2
        go_ret
        exact ⟨rfl, rfl⟩
      · have e4 : ¬ (s[0].toNat : Int) = 48 := u8_ne (n := 48) (by decide) h2
        have CL := digitsLen_any w (s.extract 0 s.size) (by rw [ba_all]; exact hs)
        have hrq : dl s.data.toList = r := by
          rw [← hr, ec, _root_.Rad.wlen_pos h1 h2]; unfold dl; rw [if_neg]; simpa using h2
        have hqle : r ≤ s.size := by rw [← hrq, ← hlen]; exact dl_le _
        rw [ba_all, hrq] at CL
        have ea := ba_all s
        have f3 : (((s[0].toNat : Nat) : Int) == 45) = false := by simpa using e3
        have f4 : (((s[0].toNat : Nat) : Int) == 48) = false := by simpa using e4
        have ew : IntKind.i64.wrap ((r : Int)) = (r : Int) := by rw [IntKind.wrap_i64]; omega
        clear hr hlen ec hrq
        go_enter Tryz.func62, Tryz.ntmps62
        go_wp2_with (go_at_call 96; refine CL.mono ?_; rintro e w' ⟨rfl, hw⟩; subst hw)
        go_ret
        exact ⟨by go_num, rfl⟩
end Go.Proofs.YtjlkplidpdhgbaaGreatDoor
