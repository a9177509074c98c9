/- A part of the proof: Tx5, R15a. -/
import Derived.Test.YtjlkplidpdhgbaaGreatDoorP37
import Derived.Test.YtjlkplidpdhgbaaGreatDoorP35
set_option linter.all false

namespace Rad
open Go
theorem dec_snoc {x d : Nat} (hx : 0 < x) (hd : d ≤ 9) : Lib.decDigits (x * 10 + d) = Lib.decDigits x ++ [UInt8.ofNat (48 + d)] := by
  rw [Lib.decDigits, dif_neg (by omega), show (x * 10 + d) / 10 = x by omega, show (x * 10 + d) % 10 = d by omega]
/-- Four digits. -/
def four (d0 d1 d2 d3 : Nat) : List UInt8 := [UInt8.ofNat (48 + d0), UInt8.ofNat (48 + d1), UInt8.ofNat (48 + d2), UInt8.ofNat (48 + d3)]
theorem dec_four {H d0 d1 d2 d3 : Nat} (hH : 0 < H) (h0 : d0 ≤ 9) (h1 : d1 ≤ 9) (h2 : d2 ≤ 9) (h3 : d3 ≤ 9) : Lib.decDigits (1000 * d0 + 100 * d1 + 10 * d2 + d3 + 10000 * H) = Lib.decDigits H ++ four d0 d1 d2 d3 := by
  have e : 1000 * d0 + 100 * d1 + 10 * d2 + d3 + 10000 * H = (((H * 10 + d0) * 10 + d1) * 10 + d2) * 10 + d3 := by omega
  rw [e, dec_snoc (by omega) h3, dec_snoc (by omega) h2, dec_snoc (by omega) h1, dec_snoc hH h0]
  simp [four]
/-- How many zeros stand ahead, of four digits that are not all 0. -/
def lead (d0 d1 d2 : Nat) : Nat := if d0 ≠ 0 then 0 else if d1 ≠ 0 then 1 else if d2 ≠ 0 then 2 else 3
theorem lead_le (d0 d1 d2 : Nat) : lead d0 d1 d2 ≤ 3 := by unfold lead; split <;> (try split) <;> (try split) <;> omega
theorem dec_lead {d0 d1 d2 d3 : Nat} (h0 : d0 ≤ 9) (h1 : d1 ≤ 9) (h2 : d2 ≤ 9) (h3 : d3 ≤ 9) : Lib.decDigits (1000 * d0 + 100 * d1 + 10 * d2 + d3) = (four d0 d1 d2 d3).drop (lead d0 d1 d2) := by
  unfold lead
  by_cases a0 : d0 ≠ 0
  · rw [if_pos a0]
    have e : 1000 * d0 + 100 * d1 + 10 * d2 + d3 = ((d0 * 10 + d1) * 10 + d2) * 10 + d3 := by omega
    rw [e, dec_snoc (by omega) h3, dec_snoc (by omega) h2, dec_snoc (by omega) h1, Lib.decDigits_one (by omega)]
    simp [four]
  · rw [if_neg a0]
    have a0 : d0 = 0 := by omega
    by_cases a1 : d1 ≠ 0
    · rw [if_pos a1]
      have e : 1000 * d0 + 100 * d1 + 10 * d2 + d3 = (d1 * 10 + d2) * 10 + d3 := by omega
      rw [e, dec_snoc (by omega) h3, dec_snoc (by omega) h2, Lib.decDigits_one (by omega)]
      simp [four]
    · rw [if_neg a1]
      by_cases a2 : d2 ≠ 0
      · rw [if_pos a2]
        have e : 1000 * d0 + 100 * d1 + 10 * d2 + d3 = d2 * 10 + d3 := by omega
        rw [e, dec_snoc (by omega) h3, Lib.decDigits_one (by omega)]
        simp [four]
      · rw [if_neg a2]
        have e : 1000 * d0 + 100 * d1 + 10 * d2 + d3 = d3 := by omega
        rw [e, Lib.decDigits_one (by omega)]
        simp [four]
/-- The place of a digit of four. -/
def pick4 (d0 d1 d2 d3 i : Nat) : Nat := if i = 0 then d0 else if i = 1 then d1 else if i = 2 then d2 else d3
theorem lead_zero {d0 d1 d2 d3 i : Nat} (h : i < lead d0 d1 d2) : pick4 d0 d1 d2 d3 i = 0 := by
  unfold lead at h; unfold pick4
  split at h
  · omega
  · split at h
    · have : i = 0 := by omega
      subst this; simp; omega
    · split at h
      · by_cases h0 : i = 0
        · subst h0; simp; omega
        · have : i = 1 := by omega
          subst this; simp; omega
      · by_cases h0 : i = 0
        · subst h0; simp; omega
        · by_cases h1 : i = 1
          · subst h1; simp; omega
          · have : i = 2 := by omega
            subst this; simp; omega
theorem lead_stop {d0 d1 d2 d3 : Nat} (h : lead d0 d1 d2 < 3) : pick4 d0 d1 d2 d3 (lead d0 d1 d2) ≠ 0 := by
  unfold lead at h ⊢; unfold pick4
  by_cases a0 : d0 ≠ 0
  · rw [if_pos a0]; simpa using a0
  · rw [if_neg a0] at h ⊢
    by_cases a1 : d1 ≠ 0
    · rw [if_pos a1]; simpa using a1
    · rw [if_neg a1] at h ⊢
      by_cases a2 : d2 ≠ 0
      · rw [if_pos a2]; simpa using a2
      · rw [if_neg a2] at h; omega
theorem four_at (d0 d1 d2 d3 : Nat) {i : Nat} (hi : i < (four d0 d1 d2 d3).length) (h0 : d0 ≤ 9) (h1 : d1 ≤ 9) (h2 : d2 ≤ 9) (h3 : d3 ≤ 9) : (four d0 d1 d2 d3)[i].toNat = 48 + pick4 d0 d1 d2 d3 i := by
  have hl : i < 4 := hi
  unfold pick4
  match i, hl with
  | 0, _ => simp [four]; omega
  | 1, _ => simp [four]; omega
  | 2, _ => simp [four]; omega
  | 3, _ => simp [four]; omega
theorem pick4_le {d0 d1 d2 d3 : Nat} (h0 : d0 ≤ 9) (h1 : d1 ≤ 9) (h2 : d2 ≤ 9) (h3 : d3 ≤ 9) (i : Nat) : pick4 d0 d1 d2 d3 i ≤ 9 := by
  unfold pick4; split <;> (try split) <;> (try split) <;> omega
end Rad

namespace Go.Proofs.YtjlkplidpdhgbaaGreatDoor
open Go Go.Proofs Go.RowKit Go.Rad

theorem TabP.below {w w' : World} (h : TabP w) (hb : Below w.heap.size w w') : TabP w' := by
  unfold TabP Lib.TabIs World.var? at *
  cases hg : Tryz.prog.globalNamed "internal/strconv.uint64pow10" with
  | none => simp [hg] at h
  | some g =>
    simp only [hg, Option.bind_some] at h ⊢
    have hlt : g < w.heap.size := by
      rcases Nat.lt_or_ge g w.heap.size with h' | h'
      · exact h'
      · rw [Array.getElem?_eq_none h'] at h; simp at h
    rw [hb.block g hlt]
    exact h
theorem txt_70001 : txt (-70001) = [45, 55, 48, 48, 48, 49] := by
  unfold txt
  rw [show (-70001 : Int) = -((70001 : Nat) : Int) from rfl, Lib.itoa_neg _ (by decide)]
  rw [show (70001 : Nat) = 1000 * 0 + 100 * 0 + 10 * 0 + 1 + 10000 * 7 from rfl, _root_.Rad.dec_four (by decide) (by decide) (by decide) (by decide) (by decide), Lib.decDigits_one (by decide)]
  rfl

set_option maxRecDepth 10000 in
theorem numBegun_any (w : World) (ht : TabP w) : Calls Tryz.prog 11 #[] w fun e w' => e = .returned (.bool true) ∧ Below w.heap.size w w' := by
  have CO := of_any w (-70001) (by decide) (by decide)
  go_enter Tryz.func11, Tryz.ntmps11
  go_wp2_with (go_at_call 16; fail)
  refine CO.mono ?_
  rintro e w1 ⟨v1, rfl, hb1, hI⟩
  have hb1' : Int.natAbs (-70001) < B ^ 159 := Nat.lt_of_lt_of_le (show 70001 < B ^ 1 by decide) (Nat.pow_le_pow_right (by decide) (by decide))
  have CT := text_any w1 v1 (-70001) hI hb1' (ht.below hb1)
  rw [txt_70001] at CT
  clear CO hI ht hb1'
  go_wp2_with (go_at_call 14; fail)
  refine CT.mono ?_
  rintro e w2 ⟨rfl, hb2⟩
  have hB := hb1.trans (hb2.mono hb1.size)
  clear CT hb1 hb2
  go_wp2
  go_ret
  exact ⟨rfl, hB⟩

theorem ten_pow {x l n : Nat} (h : x < 10 ^ l) (hl : l ≤ 4 * n) : x < 10000 ^ n := by
  have h1 : 10 ^ l ≤ 10 ^ (4 * n) := Nat.pow_le_pow_right (by decide) hl
  rw [Nat.pow_mul] at h1
  exact Nat.lt_of_lt_of_le h h1
/-- What is parsed is not long. -/
theorem pval_lt (l : List UInt8) : (pval l).natAbs < 10000 ^ 250 := by
  unfold pval
  split
  · rename_i h
    rw [_root_.Rad.Valid.val_abs]
    exact ten_pow (_root_.Rad.dval_lt h.1.digits) h.2
  · exact Nat.pow_pos (by decide)
end Go.Proofs.YtjlkplidpdhgbaaGreatDoor
