/- A part of the proof: D0, Pm8, W9. -/
import Derived.Test.YtjlkplidpdhgbaaGreatDoorP08
import Derived.Test.YtjlkplidpdhgbaaGreatDoorP09
import Derived.Test.YtjlkplidpdhgbaaGreatDoorP03
import Derived.Laws.Bits64b
set_option linter.all false

namespace Go.Proofs.YtjlkplidpdhgbaaGreatDoor
open Go Go.Proofs Go.RowKit Go.Rad

/-- Words stay words. -/
structure Keep (w w' : World) : Prop where
  size : w.heap.size ≤ w'.heap.size
  u64 : ∀ b i y, w.cell? ⟨b, i, none⟩ = some (.int .u64 y) → w'.cell? ⟨b, i, none⟩ = some (.int .u64 y)
theorem Keep.refl (w : World) : Keep w w := ⟨Nat.le_refl _, fun _ _ _ h => h⟩
theorem Keep.trans {a b c : World} (h : Keep a b) (k : Keep b c) : Keep a c := ⟨Nat.le_trans h.size k.size, fun _ _ _ e => k.u64 _ _ _ (h.u64 _ _ _ e)⟩
theorem Keep.drew {a b : World} (h : Keep a b) : Keep a b.drew := ⟨h.size, h.u64⟩
theorem Keep.of_below {w w' : World} (h : Below w.heap.size w w') : Keep w w' := ⟨h.size, fun b i y e => (h.cell (p := ⟨b, i, none⟩) (block_lt e)).trans e⟩
theorem Keep.word {w w' : World} (h : Keep w w') {β b i : Nat} (e : w.cell? ⟨b, i, none⟩ = some (.int .u64 ((word w b i : Nat) : Int)) ∧ word w b i < β) :
    w'.cell? ⟨b, i, none⟩ = some (.int .u64 ((word w b i : Nat) : Int)) ∧ word w' b i = word w b i := by
  have h1 := h.u64 _ _ _ e.1
  exact ⟨h1, word_of_cell (h1.trans e.1.symm)⟩
theorem Mag.keep {w w' : World} {v : Value} {x n : Nat} (h : Mag w v x n) (k : Keep w w') : Mag w' v x n := by
  obtain ⟨ao, b, o, c, hv, hs, hc, ha, hx, hn⟩ := h
  refine ⟨ao, b, o, c, hv, hs, hc, fun i hi => ?_, ?_, ?_⟩
  · obtain ⟨h1, h2⟩ := k.word (ha i hi)
    rw [h2]; exact ⟨h1, (ha i hi).2⟩
  · rw [← hx]; exact num_congr fun i hi => (k.word (ha i hi)).2
  · rcases hn with h0 | h0
    · exact .inl h0
    · by_cases hz : n = 0
      · exact .inl hz
      · right; rw [(k.word (ha (n - 1) (by omega))).2]; exact h0
theorem IsInt.keep {w w' : World} {v : Value} {z : Int} (h : IsInt w v z) (k : Keep w w') : IsInt w' v z := by
  rcases h with h | ⟨s, a, n, c, m, hv, hm, hz⟩
  · exact .inl h
  · exact .inr ⟨s, a, n, c, m, hv, hm.keep k, hz⟩

/-- A variable of two cells, which may be written. -/
structure FB (w : World) (b : Nat) (u0 u1 : Value) : Prop where
  lt : b < w.heap.size
  c0 : w.cell? ⟨b, 0, none⟩ = some u0
  c1 : w.cell? ⟨b, 1, none⟩ = some u1
  f0 : w.frozen? ⟨b, 0, none⟩ = false
  f1 : w.frozen? ⟨b, 1, none⟩ = false
theorem FB.step {w w' : World} {b C : Nat} {u0 u1 : Value} (h : FB w b u0 u1) (hb : Below C w w') (hC : b < C) : FB w' b u0 u1 :=
  ⟨Nat.lt_of_lt_of_le h.lt hb.size, (World.cell?_of_block (hb.block b hC)).trans h.c0, (World.cell?_of_block (hb.block b hC)).trans h.c1,
    (World.frozen?_of_block (hb.block b hC)).trans h.f0, (World.frozen?_of_block (hb.block b hC)).trans h.f1⟩
theorem FB.below {w w' : World} {b : Nat} {u0 u1 : Value} (h : FB w b u0 u1) (hb : Below w.heap.size w w') : FB w' b u0 u1 := h.step hb h.lt
theorem FB.mk0 (w : World) (u0 u1 : Value) (T : TypeId) : FB (w.alloc (Obj.cells #[u0, u1] T)) w.heap.size u0 u1 := ⟨by simp, by simp [go_sem], by simp [go_sem], by simp [go_sem], by simp [go_sem]⟩
theorem FB.alloc {w : World} {b : Nat} {u0 u1 : Value} (h : FB w b u0 u1) (X : Obj) : FB (w.alloc X) b u0 u1 := h.below (bel1 _ _)
theorem FB.set {w : World} {b : Nat} {u0 u1 : Value} (h : FB w b u0 u1) (v0 v1 : Value) : FB ((w.setCell ⟨b, 0, none⟩ v0).setCell ⟨b, 1, none⟩ v1) b v0 v1 := by
  refine ⟨by simp; exact h.lt, ?_, ?_, ?_, ?_⟩
  · rw [cell_other (.inr (by omega)), cell_same h.c0]
  · rw [cell_same (u := u1) (by rw [cell_other (.inr (by omega))]; exact h.c1)]
  · rw [World.frozen?_setCell, World.frozen?_setCell]; exact h.f0
  · rw [World.frozen?_setCell, World.frozen?_setCell]; exact h.f1
theorem FB.other {w : World} {b c : Nat} {u0 u1 : Value} (h : FB w b u0 u1) (v0 v1 : Value) (hc : b ≠ c) : FB ((w.setCell ⟨c, 0, none⟩ v0).setCell ⟨c, 1, none⟩ v1) b u0 u1 := by
  refine ⟨by simp; exact h.lt, ?_, ?_, ?_, ?_⟩
  · rw [cell_other (.inl hc), cell_other (.inl hc)]; exact h.c0
  · rw [cell_other (.inl hc), cell_other (.inl hc)]; exact h.c1
  · rw [World.frozen?_setCell, World.frozen?_setCell]; exact h.f0
  · rw [World.frozen?_setCell, World.frozen?_setCell]; exact h.f1
/-- What is written into a variable of type Int changes no word. -/
theorem FB.keep {w : World} {b : Nat} {x : Int} {a : Option Addr} {n c : Nat} (h : FB w b (.int .i64 x) (.slice a n c)) (v0 v1 : Value) : Keep w ((w.setCell ⟨b, 0, none⟩ v0).setCell ⟨b, 1, none⟩ v1) := by
  refine ⟨by simp, fun p i y e => ?_⟩
  by_cases hp : p = b
  · subst hp
    have h0 : i ≠ 0 := fun h0 => by rw [h0, h.c0] at e; simp at e
    have h1 : i ≠ 1 := fun h1 => by rw [h1, h.c1] at e; simp at e
    rw [cell_other (.inr h1), cell_other (.inr h0)]; exact e
  · rw [cell_other (.inl hp), cell_other (.inl hp)]; exact e
theorem FB.keepF {w : World} {b : Nat} {x y : Int} (h : FB w b (.int .i64 x) (.int .i64 y)) (v0 v1 : Value) : Keep w ((w.setCell ⟨b, 0, none⟩ v0).setCell ⟨b, 1, none⟩ v1) := by
  refine ⟨by simp, fun p i y e => ?_⟩
  by_cases hp : p = b
  · subst hp
    have h0 : i ≠ 0 := fun h0 => by rw [h0, h.c0] at e; simp at e
    have h1 : i ≠ 1 := fun h1 => by rw [h1, h.c1] at e; simp at e
    rw [cell_other (.inr h1), cell_other (.inr h0)]; exact e
  · rw [cell_other (.inl hp), cell_other (.inl hp)]; exact e
theorem FB.drew {w : World} {b : Nat} {u0 u1 : Value} (h : FB w b u0 u1) : FB w.drew b u0 u1 := ⟨h.lt, h.c0, h.c1, h.f0, h.f1⟩
theorem bel_drew (w : World) : Below w.heap.size w w.drew := (Below.refl _ _).drew
theorem below_set2 {W : Nat} {w0 w : World} {b : Nat} (h : Below W w0 w) (hb : W ≤ b) (v0 v1 : Value) : Below W w0 ((w.setCell ⟨b, 0, none⟩ v0).setCell ⟨b, 1, none⟩ v1) :=
  (h.setCell (p := ⟨b, 0, none⟩) hb v0).setCell (p := ⟨b, 1, none⟩) hb v1
/-- A variable of type Int that holds a number. -/
def IV (w : World) (b : Nat) (z : Int) : Prop := ∃ s a n c, FB w b (.int .i64 s) (.slice a n c) ∧ IsInt w (.agg #[.int .i64 s, .slice a n c]) z
theorem IV.below {w w' : World} {b : Nat} {z : Int} (h : IV w b z) (hb : Below w.heap.size w w') : IV w' b z := by
  obtain ⟨s, a, n, c, h1, h2⟩ := h
  exact ⟨s, a, n, c, h1.below hb, h2.below hb⟩
theorem IV.drew {w : World} {b : Nat} {z : Int} (h : IV w b z) : IV w.drew b z := h.below (bel_drew _)
/-- A number is stored in a variable. -/
theorem IV.set {w : World} {b : Nat} {z x s : Int} {a a' : Option Addr} {n c n' c' : Nat} (h : FB w b (.int .i64 x) (.slice a' n' c')) (hz : IsInt w (.agg #[.int .i64 s, .slice a n c]) z) :
    IV ((w.setCell ⟨b, 0, none⟩ (.int .i64 s)).setCell ⟨b, 1, none⟩ (.slice a n c)) b z := ⟨s, a, n, c, h.set _ _, hz.keep (h.keep _ _)⟩
theorem IV.other {w : World} {b p : Nat} {z x : Int} {a' : Option Addr} {n' c' : Nat} (h : IV w b z) (hp : FB w p (.int .i64 x) (.slice a' n' c')) (hc : b ≠ p) (v0 v1 : Value) :
    IV ((w.setCell ⟨p, 0, none⟩ v0).setCell ⟨p, 1, none⟩ v1) b z := by
  obtain ⟨s, a, n, c, h1, h2⟩ := h
  exact ⟨s, a, n, c, h1.other _ _ hc, h2.keep (hp.keep _ _)⟩
theorem fb1 (w : World) (a0 a1 : Value) (T1 : TypeId) : Below w.heap.size w (w.alloc (Obj.cells #[a0, a1] T1)) ∧ FB (w.alloc (Obj.cells #[a0, a1] T1)) w.heap.size a0 a1 := ⟨bel1 _ _, FB.mk0 _ _ _ _⟩
theorem fb2 (w : World) (a0 a1 b0 b1 : Value) (T1 T2 : TypeId) {w1 : World} (h : w1 = (w.alloc (Obj.cells #[a0, a1] T1)).alloc (Obj.cells #[b0, b1] T2)) :
    Below w.heap.size w w1 ∧ FB w1 w.heap.size a0 a1 ∧ FB w1 (w.heap.size + 1) b0 b1 := by
  subst h
  exact ⟨bel2 _ _ _, (FB.mk0 _ _ _ _).alloc _, by simpa using (FB.mk0 (w.alloc _) _ _ _)⟩
theorem fb3 (w : World) (a0 a1 b0 b1 c0 c1 : Value) (T1 T2 T3 : TypeId) {w1 : World} (h : w1 = ((w.alloc (Obj.cells #[a0, a1] T1)).alloc (Obj.cells #[b0, b1] T2)).alloc (Obj.cells #[c0, c1] T3)) :
    Below w.heap.size w w1 ∧ FB w1 w.heap.size a0 a1 ∧ FB w1 (w.heap.size + 1) b0 b1 ∧ FB w1 (w.heap.size + 1 + 1) c0 c1 := by
  subst h
  exact ⟨bel3 _ _ _ _, ((FB.mk0 _ _ _ _).alloc _).alloc _, by simpa using ((FB.mk0 (w.alloc _) _ _ _).alloc _), by simpa using (FB.mk0 ((w.alloc _).alloc _) _ _ _)⟩
theorem fb4 (w : World) (a0 a1 b0 b1 c0 c1 d0 d1 : Value) (T1 T2 T3 T4 : TypeId) {w1 : World}
    (h : w1 = (((w.alloc (Obj.cells #[a0, a1] T1)).alloc (Obj.cells #[b0, b1] T2)).alloc (Obj.cells #[c0, c1] T3)).alloc (Obj.cells #[d0, d1] T4)) :
    Below w.heap.size w w1 ∧ FB w1 w.heap.size a0 a1 ∧ FB w1 (w.heap.size + 1) b0 b1 ∧ FB w1 (w.heap.size + 1 + 1) c0 c1 ∧ FB w1 (w.heap.size + 1 + 1 + 1) d0 d1 := by
  subst h
  exact ⟨(bel3 _ _ _ _).alloc (by simp; omega) _, (((FB.mk0 _ _ _ _).alloc _).alloc _).alloc _, by simpa using (((FB.mk0 (w.alloc _) _ _ _).alloc _).alloc _), by simpa using ((FB.mk0 ((w.alloc _).alloc _) _ _ _).alloc _), by simpa using (FB.mk0 (((w.alloc _).alloc _).alloc _) _ _ _)⟩
end Go.Proofs.YtjlkplidpdhgbaaGreatDoor

/- Division, rounded towards 0 and not: plain arithmetic. -/
namespace Rad
theorem cut_sign (a b : Int) (hb : b ≠ 0) :
    (0 ≤ a.tmod b → a.tdiv b = a / b ∧ a.tmod b = a % b) ∧
    (a.tmod b < 0 → b < 0 → a.tdiv b + 1 = a / b ∧ a.tmod b - b = a % b) ∧
    (a.tmod b < 0 → ¬ b < 0 → a.tdiv b - 1 = a / b ∧ a.tmod b + b = a % b) := by
  have h1 : b * a.tdiv b + a.tmod b = a := Int.mul_tdiv_add_tmod a b
  have h2 : (a.tmod b).natAbs < b.natAbs := by
    rw [Int.natAbs_tmod]; exact Nat.mod_lt _ (by omega)
  have key : ∀ q r : Int, b * q + r = a → 0 ≤ r → r < b.natAbs → q = a / b ∧ r = a % b := fun q r h h0 hl => by
    have h3 := Int.emod_nonneg a hb
    have h4 := Int.emod_lt_of_neg a (b := b)
    have h5 := Int.emod_lt_of_pos a (b := b)
    have h6 := Int.mul_ediv_add_emod a b
    have e : b * (q - a / b) = a % b - r := by rw [Int.mul_sub]; omega
    have hq : q - a / b = 0 := by
      rcases Int.lt_trichotomy (q - a / b) 0 with h7 | h7 | h7
      · exfalso
        rcases Int.lt_or_lt_of_ne hb with h8 | h8
        · have h9 := Int.mul_le_mul_of_nonpos_left (show b ≤ 0 by omega) (show q - a / b ≤ -1 by omega)
          have := h4 h8; omega
        · have h9 := Int.mul_le_mul_of_nonneg_left (show q - a / b ≤ -1 by omega) (show 0 ≤ b by omega)
          have := h5 h8; omega
      · exact h7
      · exfalso
        rcases Int.lt_or_lt_of_ne hb with h8 | h8
        · have h9 := Int.mul_le_mul_of_nonpos_left (show b ≤ 0 by omega) (show 1 ≤ q - a / b by omega)
          have := h4 h8; omega
        · have h9 := Int.mul_le_mul_of_nonneg_left (show 1 ≤ q - a / b by omega) (show 0 ≤ b by omega)
          have := h5 h8; omega
    rw [hq, Int.mul_zero] at e
    omega
  refine ⟨fun h => key _ _ h1 h (by omega), fun h h' => ?_, fun h h' => ?_⟩
  · exact key _ _ (by rw [Int.mul_add]; omega) (by omega) (by omega)
  · exact key _ _ (by rw [Int.mul_sub]; omega) (by omega) (by omega)
theorem tdiv_range {s t : Int} (h1 : -9223372036854775808 ≤ s) (h2 : s ≤ 9223372036854775807) (h : ¬ (s = -9223372036854775808 ∧ t = -1)) :
    -9223372036854775808 ≤ s.tdiv t ∧ s.tdiv t ≤ 9223372036854775807 := by
  have e : (s.tdiv t).natAbs = s.natAbs / t.natAbs := Int.natAbs_tdiv s t
  have e1 : s.natAbs / t.natAbs ≤ s.natAbs := Nat.div_le_self _ _
  refine ⟨by omega, ?_⟩
  rcases Int.lt_or_le (-9223372036854775808) s with h3 | h3
  · omega
  · have hs : s = -9223372036854775808 := by omega
    have ht : t ≠ -1 := fun ht => h ⟨hs, ht⟩
    rcases Int.lt_or_le t 0 with h4 | h4
    · have h5 : s.natAbs / t.natAbs ≤ s.natAbs / 2 := Nat.div_le_div_left (by omega) (by decide)
      omega
    · have h5 : 0 ≤ (-s).tdiv t := Int.tdiv_nonneg (by omega) h4
      rw [Int.neg_tdiv] at h5
      omega
theorem tmod_range {s t : Int} (h1 : -9223372036854775808 ≤ s) (h2 : s ≤ 9223372036854775807) : -9223372036854775808 ≤ s.tmod t ∧ s.tmod t ≤ 9223372036854775807 := by
  have e : (s.tmod t).natAbs = s.natAbs % t.natAbs := Int.natAbs_tmod s t
  have e1 : s.natAbs % t.natAbs ≤ s.natAbs := Nat.mod_le _ _
  rcases Int.lt_or_le s 0 with h3 | h3
  · have h4 : 0 ≤ (-s).tmod t := Int.tmod_nonneg _ (by omega)
    rw [Int.neg_tmod] at h4
    omega
  · have h4 : 0 ≤ s.tmod t := Int.tmod_nonneg _ h3
    omega
theorem tdiv_abs_le (a b : Int) : (a.tdiv b).natAbs ≤ a.natAbs := by rw [Int.natAbs_tdiv]; exact Nat.div_le_self _ _
/-- Quotient and rest by magnitudes. -/
theorem tdiv_sgn (a b : Int) (s t : Bool) (hs : s = true ↔ a < 0) (ht : t = true ↔ b < 0) :
    (if (s != t) = true then -((a.natAbs / b.natAbs : Nat) : Int) else ((a.natAbs / b.natAbs : Nat) : Int)) = a.tdiv b ∧
    (if s = true then -((a.natAbs % b.natAbs : Nat) : Int) else ((a.natAbs % b.natAbs : Nat) : Int)) = a.tmod b := by
  have ha : a = (if s = true then -(a.natAbs : Int) else (a.natAbs : Int)) := by
    cases s
    · have : ¬ a < 0 := fun h => by simpa using hs.2 h
      simp; omega
    · have := hs.1 rfl; simp; omega
  have hb : b = (if t = true then -(b.natAbs : Int) else (b.natAbs : Int)) := by
    cases t
    · have : ¬ b < 0 := fun h => by simpa using ht.2 h
      simp; omega
    · have := ht.1 rfl; simp; omega
  generalize a.natAbs = x at *
  generalize b.natAbs = y at *
  subst ha hb
  cases s <;> cases t <;> simp [Int.neg_tdiv, Int.tdiv_neg, Int.neg_tmod, Int.tmod_neg] <;> exact (Int.tmod_eq_emod_of_nonneg (by omega)).symm
end Rad

namespace Go.Proofs.YtjlkplidpdhgbaaGreatDoor
open Go Go.Proofs Go.RowKit Go.Rad

theorem two_pow_split {s : Nat} (hs : s ≤ 64) : 2 ^ (64 - s) * 2 ^ s = 18446744073709551616 := by
  rw [← Nat.pow_add, show 64 - s + s = 64 by omega]
theorem wrap_u64_nat (n : Nat) : IntKind.u64.wrap ((n : Nat) : Int) = ((lo n : Nat) : Int) := by
  rw [IntKind.wrap_u64]; unfold lo; omega
theorem shl_nat (d s : Nat) : IntKind.u64.wrap ((d : Int) * 2 ^ s) = ((lo (d * 2 ^ s) : Nat) : Int) := by
  rw [← wrap_u64_nat, Int.natCast_mul, Int.natCast_pow] <;> rfl
theorem shr_nat (d s : Nat) : (d : Int) / 2 ^ s = ((d / 2 ^ s : Nat) : Int) := by
  rw [Int.natCast_ediv, Int.natCast_pow]; rfl
/-- The low word of a shift, and what is shifted in. -/
theorem lo_shl {d s : Nat} (hs : s ≤ 64) : lo (d * 2 ^ s) = 2 ^ s * (d % 2 ^ (64 - s)) := by
  unfold lo
  rw [← two_pow_split hs, Nat.mul_mod_mul_right, Nat.mul_comm]
theorem hi_shl {d s : Nat} (hs : s ≤ 64) : hi (d * 2 ^ s) = d / 2 ^ (64 - s) := by
  unfold hi
  rw [← two_pow_split hs, Nat.mul_div_mul_right _ _ (Nat.pow_pos (by decide))]
theorem shl_or {d s c : Nat} (hs : s ≤ 64) (hc : c < 2 ^ s) :
    bits .or .u64 (IntKind.u64.wrap ((d : Int) * 2 ^ s)) (c : Int) = ((lo (d * 2 ^ s) + c : Nat) : Int) := by
  have h1 : 2 ^ s ≤ 2 ^ 64 := Nat.pow_le_pow_right (by decide) hs
  rw [shl_nat, bits_or_u64_nat _ _ (lo_lt _) (by omega), lo_shl hs, ← Nat.two_pow_add_eq_or_of_lt hc]
theorem shl_or_lt {d s c : Nat} (hs : s ≤ 64) (hc : c < 2 ^ s) : lo (d * 2 ^ s) + c < B := by
  rw [lo_shl hs]
  have h1 : d % 2 ^ (64 - s) < 2 ^ (64 - s) := Nat.mod_lt _ (Nat.pow_pos (by decide))
  have h2 := two_pow_split hs
  have h3 := Nat.mul_le_mul_left (2 ^ s) (show d % 2 ^ (64 - s) + 1 ≤ 2 ^ (64 - s) from h1)
  rw [Nat.mul_add, Nat.mul_comm (2 ^ s) (2 ^ (64 - s)), h2] at h3
  unfold B
  omega
theorem hi_shl_lt {d s : Nat} (hs : s ≤ 64) (hd : d < B) : d / 2 ^ (64 - s) < 2 ^ s := by
  refine Nat.div_lt_of_lt_mul ?_
  rw [two_pow_split hs]; exact hd
/-- One word of a shift upwards. -/
theorem up_step {k x d c r p e f : Nat} (h : r + B ^ k * c = x * p) (he : e + B * f = d * p + c) : r + B ^ k * e + B ^ (k + 1) * f = (x + B ^ k * d) * p := by
  have h2 : B ^ (k + 1) * f = B ^ k * (B * f) := by rw [Nat.pow_succ, Nat.mul_assoc]
  have h3 : B ^ k * (e + B * f) = B ^ k * (d * p + c) := by rw [he]
  rw [Nat.mul_add, Nat.mul_add] at h3
  have h4 : (x + B ^ k * d) * p = x * p + B ^ k * (d * p) := by rw [Nat.add_mul, Nat.mul_assoc]
  rw [h2, h4]
  omega

set_option maxRecDepth 10000 in
set_option maxHeartbeats 1000000 in
theorem moveUp_any (w : World) (az ax : Option Addr) (bz oz nz cz bx ox nx cx s : Nat) (hsz : Sl az bz oz nz) (hsx : Sl ax bx ox nx) (hz : Arr .u64 B w bz oz nz) (hf : Free w bz oz nz)
    (hx : Arr .u64 B w bx ox nx) (hn : nz = nx + 1) (hap : 0 < nx → bz ≠ bx ∨ ox + nx ≤ oz ∨ oz + nz ≤ ox) (hmz : nz ≤ maxLen) (hs : s < 64) :
    Calls Tryz.prog 137 #[.slice az nz cz, .slice ax nx cx, .int .u64 s] w fun e w' => e = .returned (.tuple #[]) ∧ Chg w w' bz oz (oz + nz) ∧ Arr .u64 B w' bz oz nz ∧
      num B w' bz oz nz = num B w bx ox nx * 2 ^ s := by
  subst hn
  have hmz' : nx + 1 ≤ 9223372036854775807 := hmz
  clear hmz
  go_enter Tryz.func137, Tryz.ntmps137
  go_wp2
  go_loopw [6, 11] (fun c i wr => ∃ k cc : Nat, k ≤ nx ∧ cc < 2 ^ s ∧ i = .int .i64 k ∧ c = .int .u64 cc ∧ Chg w wr bz oz (oz + k) ∧ Arr .u64 B wr bz oz (nx + 1) ∧
      num B wr bz oz k + B ^ k * cc = num B w bx ox k * 2 ^ s)
    (fun _ i _ => nx - (intOf i).toNat)
  case atStart => exact ⟨0, 0, by omega, Nat.pow_pos (by decide), rfl, rfl, Chg.refl _ _ _ _, hz, by simp [num_zero]⟩
  case round =>
    obtain ⟨k, cc, hk, hcc, rfl, rfl, hch, har, hnum⟩ := hrel
    obtain rfl := hsz (by omega)
    by_cases hlt : k < nx
    · obtain rfl := hsx (by omega)
      have hzk := arr_cell har (i := k) (by omega)
      have exk : wr.cell? ⟨bx, ox + k, none⟩ = w.cell? ⟨bx, ox + k, none⟩ := hch.cellAt (hx.lt (by omega)) (by have := hap (by omega); omega)
      have hxk : wr.cell? ⟨bx, ox + k, none⟩ = some (.int .u64 ((word w bx (ox + k) : Nat) : Int)) := exk.trans (arr_cell hx hlt)
      have hfk : wr.frozen? ⟨bz, oz + k, none⟩ = false := (hch.free hf hz.lt) k (by omega)
      have hs0 : (0 : Int) ≤ 64 - (s : Int) := by omega
      have hs1 : (64 - (s : Int)).toNat = 64 - s := by omega
      have hlt2 := arr_lt hx hlt
      have e1 := shl_or (d := word w bx (ox + k)) (s := s) (c := cc) (by omega) hcc
      have e2 := shr_nat (word w bx (ox + k)) (64 - s)
      have l1 := shl_or_lt (d := word w bx (ox + k)) (s := s) (c := cc) (by omega) hcc
      have l2 := hi_shl_lt (s := s) (by omega) hlt2
      have hstep := up_step (p := 2 ^ s) (e := lo (word w bx (ox + k) * 2 ^ s) + cc) (f := word w bx (ox + k) / 2 ^ (64 - s)) hnum
        (by rw [← hi_shl (by omega), Nat.add_right_comm, lo_hi])
      have H0 : num B wr bz oz k + B ^ k * (lo (word w bx (ox + k) * 2 ^ s) + cc) + B ^ (k + 1) * (word w bx (ox + k) / 2 ^ (64 - s)) = num B w bx ox (k + 1) * 2 ^ s := by
        rw [num_succ]; exact hstep
      have H : Hid _ := H0
      have E1 : Hid _ := e1
      have E2 : Hid _ := e2
      have L1 : Hid _ := l1
      have L2 : Hid _ := l2
      clear hnum exk hstep H0 e1 e2 l1 l2 hcc
      go_wp2
      rw [E1.out, E2.out]
      go_roundw
      case rel =>
        exact ⟨k + 1, _, by omega, L2.out, by go_num, rfl, (hch.mono (Nat.le_refl _) (by omega)).set (by omega) (by omega) _, har.set L1.out, by rw [num_store har (by omega)]; exact H.out⟩
      case measure => simp [intOf]; omega
    · obtain rfl : k = nx := by omega
      have hzk := arr_cell har (i := k) (by omega)
      have hfk : wr.frozen? ⟨bz, oz + k, none⟩ = false := (hch.free hf hz.lt) k (by omega)
      have H : Hid _ := hnum
      have C : Hid _ := hcc
      clear hnum hcc
      have hcB : cc < B := by
        have h1 := C.out
        have h2 : 2 ^ s ≤ 2 ^ 64 := Nat.pow_le_pow_right (by decide) (by omega)
        unfold B; omega
      go_wp2
      go_end0
      exact ⟨rfl, (hch.mono (Nat.le_refl _) (by omega)).set (by omega) (by omega) _, har.set hcB, by rw [num_store har (by omega)]; exact H.out⟩

/-- One word of a shift downwards: x stands above d; r is what x leaves. -/
theorem down_step {d x s : Nat} (hs : s ≤ 64) : (d + B * x) / 2 ^ s = (d / 2 ^ s + 2 ^ (64 - s) * (x % 2 ^ s)) + B * (x / 2 ^ s) := by
  have hp : 0 < 2 ^ s := Nat.pow_pos (by decide)
  have hB : B = 2 ^ s * 2 ^ (64 - s) := by rw [Nat.mul_comm, two_pow_split hs]; rfl
  have hx := Nat.mod_add_div x (2 ^ s)
  have e : d + B * x = d + 2 ^ s * (2 ^ (64 - s) * x) := by rw [hB, Nat.mul_assoc]
  rw [e, Nat.add_mul_div_left _ _ hp]
  have e2 : 2 ^ (64 - s) * x = 2 ^ (64 - s) * (x % 2 ^ s) + B * (x / 2 ^ s) := by
    conv => lhs; rw [← hx, Nat.mul_add, ← Nat.mul_assoc]
    rw [hB, Nat.mul_comm (2 ^ (64 - s)) (2 ^ s)]
  rw [e2]
  generalize B * (x / 2 ^ s) = u
  omega
theorem down_lt {d x s : Nat} (hs : s ≤ 64) (hd : d < B) : d / 2 ^ s + 2 ^ (64 - s) * (x % 2 ^ s) < B := by
  have h2 := two_pow_split hs
  have h1 : d / 2 ^ s < 2 ^ (64 - s) := Nat.div_lt_of_lt_mul (by rw [Nat.mul_comm, h2]; exact hd)
  have h3 : x % 2 ^ s < 2 ^ s := Nat.mod_lt _ (Nat.pow_pos (by decide))
  have h4 := Nat.mul_le_mul_left (2 ^ (64 - s)) (show x % 2 ^ s + 1 ≤ 2 ^ s from h3)
  rw [Nat.mul_add, h2, Nat.mul_one] at h4
  exact Nat.lt_of_lt_of_le (by rw [Nat.add_comm]; exact Nat.add_lt_add_left h1 _) h4
theorem shr_or {d x s : Nat} (hs : s ≤ 64) (hd : d < B) :
    bits .or .u64 ((d / 2 ^ s : Nat) : Int) ((2 ^ (64 - s) * (x % 2 ^ s) : Nat) : Int) = ((d / 2 ^ s + 2 ^ (64 - s) * (x % 2 ^ s) : Nat) : Int) := by
  have h2 := two_pow_split hs
  have h1 : d / 2 ^ s < 2 ^ (64 - s) := Nat.div_lt_of_lt_mul (by rw [Nat.mul_comm, h2]; exact hd)
  have h3 := down_lt (x := x) hs hd
  unfold B at h3
  rw [bits_or_u64_nat _ _ (Nat.lt_of_le_of_lt (Nat.le_add_right _ _) h3) (Nat.lt_of_le_of_lt (Nat.le_add_left _ _) h3), Nat.or_comm, ← Nat.two_pow_add_eq_or_of_lt h1, Nat.add_comm]
/-- What is shifted out at the low end, at the high end. -/
theorem shl_out {x s : Nat} (hs : s ≤ 64) : lo (x * 2 ^ (64 - s)) = 2 ^ (64 - s) * (x % 2 ^ s) := by
  have := lo_shl (d := x) (s := 64 - s) (by omega)
  rwa [show 64 - (64 - s) = s by omega] at this
theorem num_head (w : World) (b o n : Nat) : num B w b o (n + 1) = word w b o + B * num B w b (o + 1) n := by
  unfold num
  rw [_root_.Rad.vs_head]
  simp only [Nat.add_zero]
  congr 2
  exact _root_.Rad.vs_congr fun i _ => by rw [show o + 1 + i = o + (i + 1) by omega]

set_option maxRecDepth 10000 in
set_option maxHeartbeats 1000000 in
/-- moveDown: z may be x itself. -/
theorem moveDown_any (w : World) (az ax : Option Addr) (bz oz n cz bx ox cx s : Nat) (hsz : Sl az bz oz n) (hsx : Sl ax bx ox n) (hz : Arr .u64 B w bz oz n) (hf : Free w bz oz n)
    (hx : Arr .u64 B w bx ox n) (hap : 0 < n → bz ≠ bx ∨ ox + n ≤ oz ∨ oz + n ≤ ox ∨ ox = oz) (hmz : n ≤ maxLen) (hs : s < 64) :
    Calls Tryz.prog 140 #[.slice az n cz, .slice ax n cx, .int .u64 s] w fun e w' => e = .returned (.tuple #[]) ∧ Chg w w' bz oz (oz + n) ∧ Arr .u64 B w' bz oz n ∧
      num B w' bz oz n = num B w bx ox n / 2 ^ s := by
  have hmz' : n ≤ 9223372036854775807 := hmz
  clear hmz
  go_enter Tryz.func140, Tryz.ntmps140
  go_wp2
  go_loopw [6, 7] (fun c i wr => ∃ k d x : Nat, k + d = n ∧ x < B ∧ i = .int .i64 ((k : Int) - 1) ∧ c = .int .u64 (lo (x * 2 ^ (64 - s)) : Nat) ∧ Chg w wr bz (oz + k) (oz + n) ∧ Arr .u64 B wr bz oz n ∧
      x % 2 ^ s = num B w bx (ox + k) d % 2 ^ s ∧ num B wr bz (oz + k) d = num B w bx (ox + k) d / 2 ^ s)
    (fun _ i _ => (intOf i + 1).toNat)
  case atStart => exact ⟨n, 0, 0, by omega, B_pos, by go_num, by simp [lo], Chg.refl _ _ _ _, hz, by simp [num_zero], by simp [num_zero]⟩
  case round =>
    obtain ⟨k, d, x, hk, hxB, rfl, rfl, hch, har, hmod, hnum⟩ := hrel
    by_cases h0 : k = 0
    · subst h0
      obtain rfl : d = n := by omega
      go_wp2
      go_end0
      exact ⟨rfl, by simpa using hch, har, by simpa using hnum⟩
    · obtain ⟨j, rfl⟩ : ∃ j, k = j + 1 := ⟨k - 1, by omega⟩
      obtain rfl := hsz (by omega)
      obtain rfl := hsx (by omega)
      have he : ((j + 1 : Nat) : Int) - 1 = (j : Int) := by omega
      rw [he]
      have hzk := arr_cell har (i := j) (by omega)
      have exk : wr.cell? ⟨bx, ox + j, none⟩ = w.cell? ⟨bx, ox + j, none⟩ := hch.cellAt (hx.lt (by omega)) (by have := hap (by omega); omega)
      have hxk : wr.cell? ⟨bx, ox + j, none⟩ = some (.int .u64 ((word w bx (ox + j) : Nat) : Int)) := exk.trans (arr_cell hx (by omega))
      have hfk : wr.frozen? ⟨bz, oz + j, none⟩ = false := (hch.free hf hz.lt) j (by omega)
      have hlt2 := arr_lt hx (i := j) (by omega)
      have hs0 : (0 : Int) ≤ 64 - (s : Int) := by omega
      have hs1 : (64 - (s : Int)).toNat = 64 - s := by omega
      have e1 := shr_nat (word w bx (ox + j)) s
      have e2 := shl_nat (word w bx (ox + j)) (64 - s)
      have e3 : bits .or .u64 ((word w bx (ox + j) / 2 ^ s : Nat) : Int) ((lo (x * 2 ^ (64 - s)) : Nat) : Int) = ((word w bx (ox + j) / 2 ^ s + 2 ^ (64 - s) * (num B w bx (ox + (j + 1)) d % 2 ^ s) : Nat) : Int) := by
        rw [shl_out (by omega), hmod]; exact shr_or (by omega) hlt2
      have l1 := down_lt (x := num B w bx (ox + (j + 1)) d) (s := s) (by omega) hlt2
      have hv := down_step (d := word w bx (ox + j)) (x := num B w bx (ox + (j + 1)) d) (s := s) (by omega)
      have hh : num B w bx (ox + j) (d + 1) = word w bx (ox + j) + B * num B w bx (ox + (j + 1)) d := num_head _ _ _ _
      rw [← hh, ← hnum] at hv
      have hm2 : word w bx (ox + j) % 2 ^ s = num B w bx (ox + j) (d + 1) % 2 ^ s := by
        rw [hh, show B = 2 ^ s * 2 ^ (64 - s) by rw [Nat.mul_comm, two_pow_split (by omega)]; rfl, Nat.mul_assoc, Nat.add_mul_mod_self_left]
      have HV : Hid _ := hv
      have HM : Hid _ := hm2
      have E1 : Hid _ := e1
      have E2 : Hid _ := e2
      have E3 : Hid _ := e3
      have L1 : Hid _ := l1
      clear hv hm2 e1 e2 e3 l1 hh hmod hnum exk he
      go_wp2
      rw [E1.out, E2.out, E3.out]
      go_roundw
      case rel =>
        refine ⟨j, d + 1, _, by omega, hlt2, by go_num, rfl, (hch.mono (by omega) (Nat.le_refl _)).set (by omega) (by omega) _, har.set L1.out, HM.out, ?_⟩
        rw [HV.out, num_head, word_set_same (by rw [hzk]; rfl), num_set_other (by omega)]
        rfl
      case measure => simp [intOf]
end Go.Proofs.YtjlkplidpdhgbaaGreatDoor
