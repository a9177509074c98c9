/- A part of the proof: D0. -/
import Derived.Test.YtjlkplidpdhgbaaGreatDoorP09
import Derived.Test.YtjlkplidpdhgbaaGreatDoorP19
set_option linter.all false

namespace Go.Proofs.YtjlkplidpdhgbaaGreatDoor
open Go Go.Proofs Go.RowKit Go.Rad

/-- Words stay words. -/
structure Keep (w w' : World) : Prop where
  size : w.heap.size ≤ w'.heap.size
  u64 : ∀ b i y, w.cell? ⟨b, i, none⟩ = some (.int .u64 y) → w'.cell? ⟨b, i, none⟩ = some (.int .u64 y)
theorem Keep.refl (w : World) : Keep w w := ⟨Nat.le_refl _, fun _ _ _ h => h⟩
theorem Keep.trans {a b c : World} (h : Keep a b) (k : Keep b c) : Keep a c := ⟨Nat.le_trans h.size k.size, fun _ _ _ e => k.u64 _ _ _ (h.u64 _ _ _ e)⟩
theorem Keep.drew {a b : World} (h : Keep a b) : Keep a b.drew := ⟨h.size, h.u64⟩
theorem Keep.of_below {w w' : World} (h : Below w.heap.size w w') : Keep w w' := ⟨h.size, fun b i y e => (h.cell (p := ⟨b, i, none⟩) (block_lt e)).trans e⟩
theorem Keep.word {w w' : World} (h : Keep w w') {β b i : Nat} (e : w.cell? ⟨b, i, none⟩ = some (.int .u64 ((word w b i : Nat) : Int)) ∧ word w b i < β) :
    w'.cell? ⟨b, i, none⟩ = some (.int .u64 ((word w b i : Nat) : Int)) ∧ word w' b i = word w b i := by
  have h1 := h.u64 _ _ _ e.1
  exact ⟨h1, word_of_cell (h1.trans e.1.symm)⟩
theorem Mag.keep {w w' : World} {v : Value} {x n : Nat} (h : Mag w v x n) (k : Keep w w') : Mag w' v x n := by
  obtain ⟨ao, b, o, c, hv, hs, hc, ha, hx, hn⟩ := h
  refine ⟨ao, b, o, c, hv, hs, hc, fun i hi => ?_, ?_, ?_⟩
  · obtain ⟨h1, h2⟩ := k.word (ha i hi)
    rw [h2]; exact ⟨h1, (ha i hi).2⟩
  · rw [← hx]; exact num_congr fun i hi => (k.word (ha i hi)).2
  · rcases hn with h0 | h0
    · exact .inl h0
    · by_cases hz : n = 0
      · exact .inl hz
      · right; rw [(k.word (ha (n - 1) (by omega))).2]; exact h0
theorem IsInt.keep {w w' : World} {v : Value} {z : Int} (h : IsInt w v z) (k : Keep w w') : IsInt w' v z := by
  rcases h with h | ⟨s, a, n, c, m, hv, hm, hz⟩
  · exact .inl h
  · exact .inr ⟨s, a, n, c, m, hv, hm.keep k, hz⟩

/-- A variable of two cells, which may be written. -/
structure FB (w : World) (b : Nat) (u0 u1 : Value) : Prop where
  lt : b < w.heap.size
  c0 : w.cell? ⟨b, 0, none⟩ = some u0
  c1 : w.cell? ⟨b, 1, none⟩ = some u1
  f0 : w.frozen? ⟨b, 0, none⟩ = false
  f1 : w.frozen? ⟨b, 1, none⟩ = false
theorem FB.step {w w' : World} {b C : Nat} {u0 u1 : Value} (h : FB w b u0 u1) (hb : Below C w w') (hC : b < C) : FB w' b u0 u1 :=
  ⟨Nat.lt_of_lt_of_le h.lt hb.size, (World.cell?_of_block (hb.block b hC)).trans h.c0, (World.cell?_of_block (hb.block b hC)).trans h.c1,
    (World.frozen?_of_block (hb.block b hC)).trans h.f0, (World.frozen?_of_block (hb.block b hC)).trans h.f1⟩
theorem FB.below {w w' : World} {b : Nat} {u0 u1 : Value} (h : FB w b u0 u1) (hb : Below w.heap.size w w') : FB w' b u0 u1 := h.step hb h.lt
theorem FB.mk0 (w : World) (u0 u1 : Value) (T : TypeId) : FB (w.alloc (Obj.cells #[u0, u1] T)) w.heap.size u0 u1 := ⟨by simp, by simp [go_sem], by simp [go_sem], by simp [go_sem], by simp [go_sem]⟩
theorem FB.alloc {w : World} {b : Nat} {u0 u1 : Value} (h : FB w b u0 u1) (X : Obj) : FB (w.alloc X) b u0 u1 := h.below (bel1 _ _)
theorem FB.set {w : World} {b : Nat} {u0 u1 : Value} (h : FB w b u0 u1) (v0 v1 : Value) : FB ((w.setCell ⟨b, 0, none⟩ v0).setCell ⟨b, 1, none⟩ v1) b v0 v1 := by
  refine ⟨by simp; exact h.lt, ?_, ?_, ?_, ?_⟩
  · rw [cell_other (.inr (by omega)), cell_same h.c0]
  · rw [cell_same (u := u1) (by rw [cell_other (.inr (by omega))]; exact h.c1)]
  · rw [World.frozen?_setCell, World.frozen?_setCell]; exact h.f0
  · rw [World.frozen?_setCell, World.frozen?_setCell]; exact h.f1
theorem FB.other {w : World} {b c : Nat} {u0 u1 : Value} (h : FB w b u0 u1) (v0 v1 : Value) (hc : b ≠ c) : FB ((w.setCell ⟨c, 0, none⟩ v0).setCell ⟨c, 1, none⟩ v1) b u0 u1 := by
  refine ⟨by simp; exact h.lt, ?_, ?_, ?_, ?_⟩
  · rw [cell_other (.inl hc), cell_other (.inl hc)]; exact h.c0
  · rw [cell_other (.inl hc), cell_other (.inl hc)]; exact h.c1
  · rw [World.frozen?_setCell, World.frozen?_setCell]; exact h.f0
  · rw [World.frozen?_setCell, World.frozen?_setCell]; exact h.f1
/-- What is written into a variable of type Int changes no word. -/
theorem FB.keep {w : World} {b : Nat} {x : Int} {a : Option Addr} {n c : Nat} (h : FB w b (.int .i64 x) (.slice a n c)) (v0 v1 : Value) : Keep w ((w.setCell ⟨b, 0, none⟩ v0).setCell ⟨b, 1, none⟩ v1) := by
  refine ⟨by simp, fun p i y e => ?_⟩
  by_cases hp : p = b
  · subst hp
    have h0 : i ≠ 0 := fun h0 => by rw [h0, h.c0] at e; simp at e
    have h1 : i ≠ 1 := fun h1 => by rw [h1, h.c1] at e; simp at e
    rw [cell_other (.inr h1), cell_other (.inr h0)]; exact e
  · rw [cell_other (.inl hp), cell_other (.inl hp)]; exact e
theorem FB.keepF {w : World} {b : Nat} {x y : Int} (h : FB w b (.int .i64 x) (.int .i64 y)) (v0 v1 : Value) : Keep w ((w.setCell ⟨b, 0, none⟩ v0).setCell ⟨b, 1, none⟩ v1) := by
  refine ⟨by simp, fun p i y e => ?_⟩
  by_cases hp : p = b
  · subst hp
    have h0 : i ≠ 0 := fun h0 => by rw [h0, h.c0] at e; simp at e
    have h1 : i ≠ 1 := fun h1 => by rw [h1, h.c1] at e; simp at e
    rw [cell_other (.inr h1), cell_other (.inr h0)]; exact e
  · rw [cell_other (.inl hp), cell_other (.inl hp)]; exact e
theorem FB.drew {w : World} {b : Nat} {u0 u1 : Value} (h : FB w b u0 u1) : FB w.drew b u0 u1 := ⟨h.lt, h.c0, h.c1, h.f0, h.f1⟩
theorem bel_drew (w : World) : Below w.heap.size w w.drew := (Below.refl _ _).drew
theorem below_set2 {W : Nat} {w0 w : World} {b : Nat} (h : Below W w0 w) (hb : W ≤ b) (v0 v1 : Value) : Below W w0 ((w.setCell ⟨b, 0, none⟩ v0).setCell ⟨b, 1, none⟩ v1) :=
  (h.setCell (p := ⟨b, 0, none⟩) hb v0).setCell (p := ⟨b, 1, none⟩) hb v1
/-- A variable of type Int that holds a number. -/
def IV (w : World) (b : Nat) (z : Int) : Prop := ∃ s a n c, FB w b (.int .i64 s) (.slice a n c) ∧ IsInt w (.agg #[.int .i64 s, .slice a n c]) z
theorem IV.below {w w' : World} {b : Nat} {z : Int} (h : IV w b z) (hb : Below w.heap.size w w') : IV w' b z := by
  obtain ⟨s, a, n, c, h1, h2⟩ := h
  exact ⟨s, a, n, c, h1.below hb, h2.below hb⟩
theorem IV.drew {w : World} {b : Nat} {z : Int} (h : IV w b z) : IV w.drew b z := h.below (bel_drew _)
/-- A number is stored in a variable. -/
theorem IV.set {w : World} {b : Nat} {z x s : Int} {a a' : Option Addr} {n c n' c' : Nat} (h : FB w b (.int .i64 x) (.slice a' n' c')) (hz : IsInt w (.agg #[.int .i64 s, .slice a n c]) z) :
    IV ((w.setCell ⟨b, 0, none⟩ (.int .i64 s)).setCell ⟨b, 1, none⟩ (.slice a n c)) b z := ⟨s, a, n, c, h.set _ _, hz.keep (h.keep _ _)⟩
theorem IV.other {w : World} {b p : Nat} {z x : Int} {a' : Option Addr} {n' c' : Nat} (h : IV w b z) (hp : FB w p (.int .i64 x) (.slice a' n' c')) (hc : b ≠ p) (v0 v1 : Value) :
    IV ((w.setCell ⟨p, 0, none⟩ v0).setCell ⟨p, 1, none⟩ v1) b z := by
  obtain ⟨s, a, n, c, h1, h2⟩ := h
  exact ⟨s, a, n, c, h1.other _ _ hc, h2.keep (hp.keep _ _)⟩
theorem fb1 (w : World) (a0 a1 : Value) (T1 : TypeId) : Below w.heap.size w (w.alloc (Obj.cells #[a0, a1] T1)) ∧ FB (w.alloc (Obj.cells #[a0, a1] T1)) w.heap.size a0 a1 := ⟨bel1 _ _, FB.mk0 _ _ _ _⟩
theorem fb2 (w : World) (a0 a1 b0 b1 : Value) (T1 T2 : TypeId) {w1 : World} (h : w1 = (w.alloc (Obj.cells #[a0, a1] T1)).alloc (Obj.cells #[b0, b1] T2)) :
    Below w.heap.size w w1 ∧ FB w1 w.heap.size a0 a1 ∧ FB w1 (w.heap.size + 1) b0 b1 := by
  subst h
  exact ⟨bel2 _ _ _, (FB.mk0 _ _ _ _).alloc _, by simpa using (FB.mk0 (w.alloc _) _ _ _)⟩
theorem fb3 (w : World) (a0 a1 b0 b1 c0 c1 : Value) (T1 T2 T3 : TypeId) {w1 : World} (h : w1 = ((w.alloc (Obj.cells #[a0, a1] T1)).alloc (Obj.cells #[b0, b1] T2)).alloc (Obj.cells #[c0, c1] T3)) :
    Below w.heap.size w w1 ∧ FB w1 w.heap.size a0 a1 ∧ FB w1 (w.heap.size + 1) b0 b1 ∧ FB w1 (w.heap.size + 1 + 1) c0 c1 := by
  subst h
  exact ⟨bel3 _ _ _ _, ((FB.mk0 _ _ _ _).alloc _).alloc _, by simpa using ((FB.mk0 (w.alloc _) _ _ _).alloc _), by simpa using (FB.mk0 ((w.alloc _).alloc _) _ _ _)⟩
theorem fb4 (w : World) (a0 a1 b0 b1 c0 c1 d0 d1 : Value) (T1 T2 T3 T4 : TypeId) {w1 : World}
    (h : w1 = (((w.alloc (Obj.cells #[a0, a1] T1)).alloc (Obj.cells #[b0, b1] T2)).alloc (Obj.cells #[c0, c1] T3)).alloc (Obj.cells #[d0, d1] T4)) :
    Below w.heap.size w w1 ∧ FB w1 w.heap.size a0 a1 ∧ FB w1 (w.heap.size + 1) b0 b1 ∧ FB w1 (w.heap.size + 1 + 1) c0 c1 ∧ FB w1 (w.heap.size + 1 + 1 + 1) d0 d1 := by
  subst h
  exact ⟨(bel3 _ _ _ _).alloc (by simp; omega) _, (((FB.mk0 _ _ _ _).alloc _).alloc _).alloc _, by simpa using (((FB.mk0 (w.alloc _) _ _ _).alloc _).alloc _), by simpa using ((FB.mk0 ((w.alloc _).alloc _) _ _ _).alloc _), by simpa using (FB.mk0 (((w.alloc _).alloc _).alloc _) _ _ _)⟩
end Go.Proofs.YtjlkplidpdhgbaaGreatDoor
