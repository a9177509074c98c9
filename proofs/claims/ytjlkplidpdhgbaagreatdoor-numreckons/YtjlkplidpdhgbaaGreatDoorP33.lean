/- A part of the proof: R15. -/
import Derived.Test.YtjlkplidpdhgbaaGreatDoorP32
import Derived.Test.YtjlkplidpdhgbaaGreatDoorP31
set_option linter.all false

namespace Go.Proofs.YtjlkplidpdhgbaaGreatDoor
open Go Go.Proofs Go.RowKit Go.Rad

theorem TabP.below {w w' : World} (h : TabP w) (hb : Below w.heap.size w w') : TabP w' := by
  unfold TabP Lib.TabIs World.var? at *
  cases hg : Tryz.prog.globalNamed "internal/strconv.uint64pow10" with
  | none => simp [hg] at h
  | some g =>
    simp only [hg, Option.bind_some] at h ⊢
    have hlt : g < w.heap.size := by
      rcases Nat.lt_or_ge g w.heap.size with h' | h'
      · exact h'
      · rw [Array.getElem?_eq_none h'] at h; simp at h
    rw [hb.block g hlt]
    exact h
/-- Two cells of a block. -/
structure Box2 (w : World) (b : Nat) (u0 u1 : Value) : Prop where
  lt : b < w.heap.size
  c0 : w.cell? ⟨b, 0, none⟩ = some u0
  c1 : w.cell? ⟨b, 1, none⟩ = some u1
theorem Box2.step {w w' : World} {b B : Nat} {u0 u1 : Value} (h : Box2 w b u0 u1) (hb : Below B w w') (hB : b < B) : Box2 w' b u0 u1 :=
  ⟨Nat.lt_of_lt_of_le h.lt hb.size, (World.cell?_of_block (hb.block b hB)).trans h.c0, (World.cell?_of_block (hb.block b hB)).trans h.c1⟩
theorem Box2.mk0 (w : World) (u0 u1 : Value) (T : TypeId) : Box2 (w.alloc (Obj.cells #[u0, u1] T)) w.heap.size u0 u1 := ⟨by simp, by simp [go_sem], by simp [go_sem]⟩
theorem Box2.mk1 (w : World) (X : Obj) (u0 u1 : Value) (T : TypeId) : Box2 ((w.alloc X).alloc (Obj.cells #[u0, u1] T)) (w.heap.size + 1) u0 u1 := ⟨by simp, by simp [go_sem], by simp [go_sem]⟩
theorem Box2.mk2 (w : World) (u0 u1 : Value) (T : TypeId) (X : Obj) : Box2 ((w.alloc (Obj.cells #[u0, u1] T)).alloc X) w.heap.size u0 u1 := (Box2.mk0 w u0 u1 T).step (bel1 _ _) (by simp)
/-- Two cells known to be as they were. -/
theorem Box2.below {w w' : World} {b : Nat} {u0 u1 : Value} (h : Box2 w b u0 u1) (hb : Below w.heap.size w w') : Box2 w' b u0 u1 := h.step hb h.lt

theorem txt_70001 : txt (-70001) = [45, 55, 48, 48, 48, 49] := by
  unfold txt
  rw [show (-70001 : Int) = -((70001 : Nat) : Int) from rfl, Lib.itoa_neg _ (by decide)]
  rw [show (70001 : Nat) = 1000 * 0 + 100 * 0 + 10 * 0 + 1 + 10000 * 7 from rfl, _root_.Rad.dec_four (by decide) (by decide) (by decide) (by decide) (by decide), Lib.decDigits_one (by decide)]
  rfl

set_option maxRecDepth 10000 in
theorem numBegun_any (w : World) (ht : TabP w) : Calls Tryz.prog 11 #[] w fun e w' => e = .returned (.bool true) ∧ Below w.heap.size w w' := by
  have CO := of_any w (-70001) (by decide) (by decide)
  go_enter Tryz.func11, Tryz.ntmps11
  go_wp2_with (go_at_call 16; fail)
  refine CO.mono ?_
  rintro e w1 ⟨v1, rfl, hb1, hI⟩
  have hb1' : Int.natAbs (-70001) < B ^ 159 := Nat.lt_of_lt_of_le (show 70001 < B ^ 1 by decide) (Nat.pow_le_pow_right (by decide) (by decide))
  have CT := text_any w1 v1 (-70001) hI hb1' (ht.below hb1)
  rw [txt_70001] at CT
  clear CO hI ht hb1'
  go_wp2_with (go_at_call 14; fail)
  refine CT.mono ?_
  rintro e w2 ⟨rfl, hb2⟩
  have hB := hb1.trans (hb2.mono hb1.size)
  clear CT hb1 hb2
  go_wp2
  go_ret
  exact ⟨rfl, hB⟩

/-- What Small tells. -/
def smV (z : Int) : Int := if -9223372036854775808 ≤ z ∧ z ≤ 9223372036854775807 then z else 0
def smB (z : Int) : Bool := decide (-9223372036854775808 ≤ z ∧ z ≤ 9223372036854775807)
theorem small_v (w : World) (v : Value) (z : Int) (hv : IsInt w v z) : Calls Tryz.prog 12 #[v] w fun e w' => e = .returned (.tuple #[.int .i64 (smV z), .bool (smB z)]) ∧ Below w.heap.size w w' := by
  refine (small_any w v z hv).mono ?_
  rintro e w' ⟨hb, ⟨h1, h2, rfl⟩ | ⟨h, rfl⟩⟩
  · refine ⟨?_, hb⟩
    unfold smV smB
    rw [if_pos ⟨h1, h2⟩, decide_eq_true ⟨h1, h2⟩]
  · refine ⟨?_, hb⟩
    have hn : ¬ (-9223372036854775808 ≤ z ∧ z ≤ 9223372036854775807) := by omega
    unfold smV smB
    rw [if_neg hn, decide_eq_false hn]
theorem zSmall_v (w : World) (v : Value) (z : Int) (LX : Nat) (hx : IsZ w v z) (hbx : z.natAbs < 10000 ^ LX) (hL : LX ≤ 1073741824) (hL5 : 5 ≤ LX) : Calls Tryz.prog 13 #[v] w fun e w' => e = .returned (.tuple #[.int .i64 (smV z), .bool (smB z)]) ∧ Below w.heap.size w w' := by
  refine (zSmall_any w v z LX hx hbx hL hL5).mono ?_
  rintro e w' ⟨hb, ⟨h1, h2, rfl⟩ | ⟨h, rfl⟩⟩
  · refine ⟨?_, hb⟩
    unfold smV smB
    rw [if_pos ⟨h1, h2⟩, decide_eq_true ⟨h1, h2⟩]
  · refine ⟨?_, hb⟩
    have hn : ¬ (-9223372036854775808 ≤ z ∧ z ≤ 9223372036854775807) := by omega
    unfold smV smB
    rw [if_neg hn, decide_eq_false hn]
theorem ten_pow {x l n : Nat} (h : x < 10 ^ l) (hl : l ≤ 4 * n) : x < 10000 ^ n := by
  have h1 : 10 ^ l ≤ 10 ^ (4 * n) := Nat.pow_le_pow_right (by decide) hl
  rw [Nat.pow_mul] at h1
  exact Nat.lt_of_lt_of_le h h1
/-- What is parsed is not long. -/
theorem pval_lt (l : List UInt8) : (pval l).natAbs < 10000 ^ 250 := by
  unfold pval
  split
  · rename_i h
    rw [_root_.Rad.Valid.val_abs]
    exact ten_pow (_root_.Rad.dval_lt h.1.digits) h.2
  · exact Nat.pow_pos (by decide)
theorem Z_B : 10000 ^ 5 ≤ B ^ 2 := by decide
theorem pval_B (l : List UInt8) : (pval l).natAbs < B ^ 100 := by
  have h1 := pval_lt l
  have h2 : (10000 ^ 5) ^ 50 ≤ (B ^ 2) ^ 50 := Nat.pow_le_pow_left Z_B 50
  rw [← Nat.pow_mul, ← Nat.pow_mul] at h2
  exact Nat.lt_of_lt_of_le h1 h2
end Go.Proofs.YtjlkplidpdhgbaaGreatDoor
