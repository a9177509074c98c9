/- A part of the proof: FBase, FBits, Pr1. -/
import Derived.Test.YtffdemplaodbcaaDoorProg
import Derived.WalkKit
import Derived.Test.YtffdemplaodbcaaDoorP00
import Derived.Test.YtffdemplaodbcaaDoorP01
import Derived.Laws.Bits64b
import Derived.Test.YtffdemplaodbcaaDoorShelf
import Derived.KernelRfl
set_option linter.all false
namespace Go.Proofs.YtffdemplaodbcaaDoor
open Go Go.Proofs Go.RowKit Go.Rad

theorem mixed : Tryd.prog.follows .mixedOrders = true := by kernel_rfl
/-- The world by a letter, with what is known of it. -/
theorem wp_world {P : Program} {Q : Exit → Act → World → Prop} {a : Act} {w : World} {c : Code} (F : World → Prop) (hF : F w) (h : ∀ w1, F w1 → c.wp P Q a w1) : c.wp P Q a w := h w hF
theorem bel1 (w : World) (X : Obj) : Below w.heap.size w (w.alloc X) := (Below.refl _ _).alloc (Nat.le_refl _) _
theorem bel2 (w : World) (X Y : Obj) : Below w.heap.size w ((w.alloc X).alloc Y) := (bel1 w X).alloc (by simp) _
theorem bel3 (w : World) (X Y Z : Obj) : Below w.heap.size w (((w.alloc X).alloc Y).alloc Z) := (bel2 w X Y).alloc (by simp; omega) _
theorem bel_drew (w : World) : Below w.heap.size w w.drew := (Below.refl _ _).drew
/-- A variable of two cells, which may be written. -/
structure FB (w : World) (b : Nat) (u0 u1 : Value) : Prop where
  lt : b < w.heap.size
  c0 : w.cell? ⟨b, 0, none⟩ = some u0
  c1 : w.cell? ⟨b, 1, none⟩ = some u1
  f0 : w.frozen? ⟨b, 0, none⟩ = false
  f1 : w.frozen? ⟨b, 1, none⟩ = false
theorem FB.step {w w' : World} {b C : Nat} {u0 u1 : Value} (h : FB w b u0 u1) (hb : Below C w w') (hC : b < C) : FB w' b u0 u1 :=
  ⟨Nat.lt_of_lt_of_le h.lt hb.size, (World.cell?_of_block (hb.block b hC)).trans h.c0, (World.cell?_of_block (hb.block b hC)).trans h.c1,
    (World.frozen?_of_block (hb.block b hC)).trans h.f0, (World.frozen?_of_block (hb.block b hC)).trans h.f1⟩
theorem FB.below {w w' : World} {b : Nat} {u0 u1 : Value} (h : FB w b u0 u1) (hb : Below w.heap.size w w') : FB w' b u0 u1 := h.step hb h.lt
theorem FB.mk0 (w : World) (u0 u1 : Value) (T : TypeId) : FB (w.alloc (Obj.cells #[u0, u1] T)) w.heap.size u0 u1 := ⟨by simp, by simp [go_sem], by simp [go_sem], by simp [go_sem], by simp [go_sem]⟩
theorem FB.alloc {w : World} {b : Nat} {u0 u1 : Value} (h : FB w b u0 u1) (X : Obj) : FB (w.alloc X) b u0 u1 := h.below (bel1 _ _)
theorem FB.set {w : World} {b : Nat} {u0 u1 : Value} (h : FB w b u0 u1) (v0 v1 : Value) : FB ((w.setCell ⟨b, 0, none⟩ v0).setCell ⟨b, 1, none⟩ v1) b v0 v1 := by
  refine ⟨by simp; exact h.lt, ?_, ?_, ?_, ?_⟩
  · rw [cell_other (.inr (by omega)), cell_same h.c0]
  · rw [cell_same (u := u1) (by rw [cell_other (.inr (by omega))]; exact h.c1)]
  · rw [World.frozen?_setCell, World.frozen?_setCell]; exact h.f0
  · rw [World.frozen?_setCell, World.frozen?_setCell]; exact h.f1
theorem FB.other {w : World} {b c : Nat} {u0 u1 : Value} (h : FB w b u0 u1) (v0 v1 : Value) (hc : b ≠ c) : FB ((w.setCell ⟨c, 0, none⟩ v0).setCell ⟨c, 1, none⟩ v1) b u0 u1 := by
  refine ⟨by simp; exact h.lt, ?_, ?_, ?_, ?_⟩
  · rw [cell_other (.inl hc), cell_other (.inl hc)]; exact h.c0
  · rw [cell_other (.inl hc), cell_other (.inl hc)]; exact h.c1
  · rw [World.frozen?_setCell, World.frozen?_setCell]; exact h.f0
  · rw [World.frozen?_setCell, World.frozen?_setCell]; exact h.f1
theorem FB.drew {w : World} {b : Nat} {u0 u1 : Value} (h : FB w b u0 u1) : FB w.drew b u0 u1 := ⟨h.lt, h.c0, h.c1, h.f0, h.f1⟩
theorem below_set2 {W : Nat} {w0 w : World} {b : Nat} (h : Below W w0 w) (hb : W ≤ b) (v0 v1 : Value) : Below W w0 ((w.setCell ⟨b, 0, none⟩ v0).setCell ⟨b, 1, none⟩ v1) :=
  (h.setCell (p := ⟨b, 0, none⟩) hb v0).setCell (p := ⟨b, 1, none⟩) hb v1
theorem fb1 (w : World) (a0 a1 : Value) (T1 : TypeId) : Below w.heap.size w (w.alloc (Obj.cells #[a0, a1] T1)) ∧ FB (w.alloc (Obj.cells #[a0, a1] T1)) w.heap.size a0 a1 := ⟨bel1 _ _, FB.mk0 _ _ _ _⟩
theorem fb2 (w : World) (a0 a1 b0 b1 : Value) (T1 T2 : TypeId) {w1 : World} (h : w1 = (w.alloc (Obj.cells #[a0, a1] T1)).alloc (Obj.cells #[b0, b1] T2)) :
    Below w.heap.size w w1 ∧ FB w1 w.heap.size a0 a1 ∧ FB w1 (w.heap.size + 1) b0 b1 := by
  subst h
  exact ⟨bel2 _ _ _, (FB.mk0 _ _ _ _).alloc _, by simpa using (FB.mk0 (w.alloc _) _ _ _)⟩
theorem fb3 (w : World) (a0 a1 b0 b1 c0 c1 : Value) (T1 T2 T3 : TypeId) {w1 : World} (h : w1 = ((w.alloc (Obj.cells #[a0, a1] T1)).alloc (Obj.cells #[b0, b1] T2)).alloc (Obj.cells #[c0, c1] T3)) :
    Below w.heap.size w w1 ∧ FB w1 w.heap.size a0 a1 ∧ FB w1 (w.heap.size + 1) b0 b1 ∧ FB w1 (w.heap.size + 1 + 1) c0 c1 := by
  subst h
  exact ⟨bel3 _ _ _ _, ((FB.mk0 _ _ _ _).alloc _).alloc _, by simpa using ((FB.mk0 (w.alloc _) _ _ _).alloc _), by simpa using (FB.mk0 ((w.alloc _).alloc _) _ _ _)⟩
theorem fb4 (w : World) (a0 a1 b0 b1 c0 c1 d0 d1 : Value) (T1 T2 T3 T4 : TypeId) {w1 : World}
    (h : w1 = (((w.alloc (Obj.cells #[a0, a1] T1)).alloc (Obj.cells #[b0, b1] T2)).alloc (Obj.cells #[c0, c1] T3)).alloc (Obj.cells #[d0, d1] T4)) :
    Below w.heap.size w w1 ∧ FB w1 w.heap.size a0 a1 ∧ FB w1 (w.heap.size + 1) b0 b1 ∧ FB w1 (w.heap.size + 1 + 1) c0 c1 ∧ FB w1 (w.heap.size + 1 + 1 + 1) d0 d1 := by
  subst h
  exact ⟨(bel3 _ _ _ _).alloc (by simp; omega) _, (((FB.mk0 _ _ _ _).alloc _).alloc _).alloc _, by simpa using (((FB.mk0 (w.alloc _) _ _ _).alloc _).alloc _), by simpa using ((FB.mk0 ((w.alloc _).alloc _) _ _ _).alloc _), by simpa using (FB.mk0 (((w.alloc _).alloc _).alloc _) _ _ _)⟩
/-- The numbers modulo p, and p p. -/
abbrev FV (p q : Int) : Value := .agg #[.int .i64 p, .int .i64 q]
theorem ret_int {x y : Int} (h : x = y) : Ending.returned (.int .i64 x) = Ending.returned (.int .i64 y) := by rw [h]
theorem ret_bool {x y : Bool} (h : x = y) : Ending.returned (.bool x) = Ending.returned (.bool y) := by rw [h]
theorem sq_lt {x y : Int} (h0 : 0 ≤ x) (hx : x < 2147483648) (h1 : 0 ≤ y) (hy : y < 2147483648) : 0 ≤ x * y ∧ x * y < 4611686018427387904 := by
  refine ⟨Int.mul_nonneg h0 h1, ?_⟩
  have h2 := Int.mul_le_mul (show x ≤ 2147483647 by omega) (show y ≤ 2147483647 by omega) h1 (by omega)
  omega
theorem wrap_in {x : Int} (h0 : 0 ≤ x) (h : x < 9223372036854775808) : wrap64 x = x := by unfold wrap64; omega
set_option maxRecDepth 10000 in
theorem fieldOf_any (w : World) (p q : Int) (h0 : 0 ≤ p) (hp : p < 2147483648) (hq : q = p * p) :
    Calls Tryd.prog 31 #[.int .i64 p] w fun e w' => e = .returned (FV p q) ∧ Below w.heap.size w w' := by
  have h1 := sq_lt h0 hp h0 hp
  have h2 : wrap64 (p * p) = p * p := wrap_in h1.1 (by omega)
  subst hq
  go_enter Tryd.func31, Tryd.ntmps31
  go_wp2
  refine bodyPost_ret (v := FV p (p * p)) (by simp [results, go_sem, loadVar]) rfl ?_
  exact ⟨rfl, bel1 _ _⟩
set_option maxRecDepth 10000 in
theorem least_any (w : World) (p q a : Int) (h0 : 0 < p) (hp : p < 2147483648) (ha0 : 0 ≤ a) (ha : a < 9223372036854775808) :
    Calls Tryd.prog 56 #[FV p q, .int .i64 a] w fun e w' => e = .returned (.int .i64 (a % p)) ∧ Below w.heap.size w w' := by
  have h2 := Int.emod_nonneg a (show p ≠ 0 by omega)
  have h3 := Int.emod_lt_of_pos a h0
  have h4 : wrap64 (a % p) = a % p := wrap_in h2 (by omega)
  go_enter Tryd.func56, Tryd.ntmps56
  go_wp2
  go_ret
  exact ⟨rfl, bel1 _ _⟩
set_option maxRecDepth 10000 in
theorem opposite_any (w : World) (p q a : Int) (hp : p < 2147483648) (h0 : 0 ≤ a) (ha : a < p) :
    Calls Tryd.prog 59 #[FV p q, .int .i64 a] w fun e w' => e = .returned (.int .i64 (-a % p)) ∧ Below w.heap.size w w' := by
  go_enter Tryd.func59, Tryd.ntmps59
  go_wp2
  · have h : (a == 0) = true := by assumption
    have h0 : a = 0 := by simpa using h
    go_ret
    exact ⟨ret_int (by rw [h0]; simp), bel1 _ _⟩
  · have h : (a == 0) = false := by assumption
    have h0 : a ≠ 0 := by simpa using h
    go_ret
    exact ⟨ret_int (by rw [← Int.add_emod_left, Int.emod_eq_of_lt (by omega) (by omega)]; omega), bel1 _ _⟩
end Go.Proofs.YtffdemplaodbcaaDoor
namespace Go.Proofs.YtffdemplaodbcaaDoor
open Go Go.Proofs Go.RowKit Go.Rad

def B : Nat := 18446744073709551616
/-- math/bits' table for 64 bits. -/
def dB (j : Nat) : Nat := [0, 1, 56, 2, 57, 49, 28, 3, 61, 58, 42, 50, 38, 29, 17, 4, 62, 47, 59, 36, 45, 43, 51, 22, 53, 39, 33, 30, 24, 18, 12, 5, 63, 55, 48, 27, 60, 41, 37, 16, 46, 35, 44, 21, 52, 32, 23, 11, 54, 26, 40, 15, 34, 20, 31, 10, 25, 14, 19, 9, 13, 8, 7, 6].getD j 0
def TabB (w : World) : Prop := ∀ j : Nat, j < 64 → w.cell? ⟨1, j, none⟩ = some (.int .u8 ((dB j : Nat) : Int))
theorem dB_is : ∀ k, k < 64 → dB (2 ^ k * 285870213051353865 % 18446744073709551616 / 288230376151711744) = k := by
  intro k hk
  have : (List.range 64).all (fun k => dB (2 ^ k * 285870213051353865 % 18446744073709551616 / 288230376151711744) == k) = true := by kernel_rfl
  exact eq_of_beq (List.all_eq_true.1 this k (List.mem_range.2 hk))
theorem odd_and (m p : Nat) : (2 * m + 1) &&& (2 * p + 1) = 2 * (m &&& p) + 1 := by
  apply Nat.eq_of_testBit_eq
  intro i
  cases i with
  | zero => simp [Nat.testBit_zero, Nat.and_mod_two_eq_one] <;> omega
  | succ i =>
    rw [Nat.testBit_and, Nat.testBit_succ, Nat.testBit_succ, Nat.testBit_succ, show (2 * m + 1) / 2 = m by omega, show (2 * p + 1) / 2 = p by omega, show (2 * (m &&& p) + 1) / 2 = m &&& p by omega, Nat.testBit_and]
theorem and_compl {m j : Nat} (h : m < 2 ^ j) : m &&& (2 ^ j - (m + 1)) = 0 := by
  apply Nat.eq_of_testBit_eq
  intro i
  rw [Nat.testBit_and, Nat.testBit_two_pow_sub_succ h, Nat.zero_testBit]
  cases m.testBit i <;> simp
theorem low_bit {k m : Nat} (hk : k < 64) (hm : 2 ^ k * (2 * m + 1) < 2 ^ 64) : (2 ^ k * (2 * m + 1)) &&& (2 ^ 64 - 2 ^ k * (2 * m + 1)) = 2 ^ k := by
  obtain ⟨j, hj⟩ : ∃ j, 64 = k + (j + 1) := ⟨63 - k, by omega⟩
  have e : (2 : Nat) ^ 64 = 2 ^ k * (2 * 2 ^ j) := by rw [hj, Nat.pow_add, Nat.pow_succ, Nat.mul_comm (2 ^ j) 2]
  rw [e] at hm ⊢
  have hk0 : 0 < 2 ^ k := Nat.pow_pos (by decide)
  have hm2 : 2 * m + 1 < 2 * 2 ^ j := Nat.lt_of_mul_lt_mul_left hm
  have e2 : 2 ^ k * (2 * 2 ^ j) - 2 ^ k * (2 * m + 1) = 2 ^ k * (2 * (2 ^ j - (m + 1)) + 1) := by
    rw [← Nat.mul_sub]; congr 1; omega
  rw [e2, Nat.mul_comm _ (2 * m + 1), Nat.mul_comm _ (2 * (2 ^ j - (m + 1)) + 1), ← Nat.shiftLeft_eq, ← Nat.shiftLeft_eq, ← Nat.shiftLeft_and_distrib, odd_and, and_compl (by omega), Nat.shiftLeft_eq]
  simp
theorem odd_part : ∀ (x : Nat), 0 < x → ∃ k m, x = 2 ^ k * (2 * m + 1) := by
  intro x
  induction x using Nat.strongRecOn with
  | _ x ih =>
    intro h
    rcases Nat.mod_two_eq_zero_or_one x with h2 | h2
    · obtain ⟨k, m, e⟩ := ih (x / 2) (by omega) (by omega)
      refine ⟨k + 1, m, ?_⟩
      rw [Nat.pow_succ, Nat.mul_assoc, Nat.mul_comm 2, ← Nat.mul_assoc, ← e]; omega
    · exact ⟨0, x / 2, by simp; omega⟩

set_option maxRecDepth 10000 in
theorem trailingZeros_any (k m : Nat) (hm : 2 ^ k * (2 * m + 1) < B) (w : World) (ht : TabB w) : Calls Tryd.prog 101 #[.int .u64 ((2 ^ k * (2 * m + 1) : Nat) : Int)] w fun e w' => e = .returned (.int .i64 k) ∧ w' = w := by
  have hk : k < 64 := by
    refine Classical.byContradiction fun hk => ?_
    have h1 : 2 ^ 64 ≤ 2 ^ k := Nat.pow_le_pow_right (by decide) (by omega)
    have h2 := Nat.le_mul_of_pos_right (2 ^ k) (show 0 < 2 * m + 1 by omega)
    unfold B at hm
    omega
  have hand := low_bit hk hm
  have htab := dB_is k hk
  have hkk := ht k hk
  have hp : 2 ^ k < B := Nat.lt_of_le_of_lt (Nat.le_mul_of_pos_right (2 ^ k) (show 0 < 2 * m + 1 by omega)) hm
  have hk0 : 0 < 2 ^ k := Nat.pow_pos (by decide)
  have hx0 : 0 < 2 ^ k * (2 * m + 1) := Nat.mul_pos hk0 (by omega)
  generalize 2 ^ k * (2 * m + 1) = x at *
  generalize 2 ^ k = p at *
  obtain ⟨q, hq⟩ : ∃ q, q = p * 285870213051353865 % 18446744073709551616 := ⟨_, rfl⟩
  obtain ⟨r, hr⟩ : ∃ r, r = q / 288230376151711744 := ⟨_, rfl⟩
  rw [← hq, ← hr] at htab
  have t1 : IntKind.u64.wrap (-(x : Int)) = ((2 ^ 64 - x : Nat) : Int) := by
    rw [IntKind.wrap_u64]; unfold B at hm; omega
  have t2 : bits .and .u64 (x : Int) ((2 ^ 64 - x : Nat) : Int) = (p : Int) := by
    rw [bits_and_u64_nat _ _ hm (by omega), hand]
  have t3 : IntKind.u64.wrap ((p : Int) * 285870213051353865) = (q : Int) := by
    rw [IntKind.wrap_u64]; omega
  have t4 : (q : Int) / 288230376151711744 = (r : Int) := by omega
  have hr64 : r < 64 := by omega
  have hcell := ht r hr64
  rw [htab] at hcell
  clear hq hr hand hp htab ht hkk
  have h0 : ¬ (x : Int) = 0 := by omega
  have r1 : (0 : Int) ≤ (r : Int) ∧ (r : Int) < 64 := by omega
  have t5 : IntKind.i64.wrap (k : Int) = (k : Int) := by rw [IntKind.wrap_i64]; omega
  go_enter Tryd.func101, Tryd.ntmps101
  go_wp2
  go_ret
  exact ⟨rfl, rfl⟩

set_option maxRecDepth 10000 in
/-- The twos in x. -/
theorem twos_any (k m : Nat) (hm : 2 ^ k * (2 * m + 1) < B) (w : World) (ht : TabB w) : Calls Tryd.prog 78 #[.int .u64 ((2 ^ k * (2 * m + 1) : Nat) : Int)] w fun e w' => e = .returned (.int .i64 k) ∧ w' = w := by
  have C := trailingZeros_any k m hm w ht
  go_enter Tryd.func78, Tryd.ntmps78
  go_wp2_with (go_at_call 101; refine C.mono ?_; rintro e w' ⟨rfl, rfl⟩)
  go_ret
  exact ⟨rfl, rfl⟩
end Go.Proofs.YtffdemplaodbcaaDoor
/- Primes, and Miller's way to tell them: plain arithmetic, nothing of the program. -/
namespace Rad

def Prm (n : Nat) : Prop := 2 ≤ n ∧ ∀ d, d ∣ n → d = 1 ∨ d = n
theorem Prm.two {p : Nat} (h : Prm p) : 2 ≤ p := h.1
theorem Prm.cop {p a : Nat} (h : Prm p) (ha : ¬ p ∣ a) : Nat.gcd p a = 1 := by
  rcases h.2 _ (Nat.gcd_dvd_left p a) with h1 | h1
  · exact h1
  · exact absurd (h1 ▸ Nat.gcd_dvd_right p a) ha
theorem Prm.mul {p a b : Nat} (h : Prm p) (hd : p ∣ a * b) : p ∣ a ∨ p ∣ b := by
  by_cases ha : p ∣ a
  · exact .inl ha
  · exact .inr (Nat.Coprime.dvd_of_dvd_mul_left (h.cop ha) hd)
theorem Prm.pow {p a : Nat} (h : Prm p) : ∀ {k : Nat}, p ∣ a ^ k → p ∣ a
  | 0, hd => by rw [Nat.pow_zero] at hd; have := Nat.le_of_dvd (by decide) hd; have := h.two; omega
  | k + 1, hd => by
    rw [Nat.pow_succ] at hd
    rcases h.mul hd with h1 | h1
    · exact h.pow h1
    · exact h1
/-- Whatever is 2 or more has a prime that divides it. -/
theorem exists_prm : ∀ n : Nat, 2 ≤ n → ∃ p, Prm p ∧ p ∣ n := by
  intro n
  induction n using Nat.strongRecOn with
  | ind n ih =>
    intro hn
    by_cases h : ∀ d, d ∣ n → d = 1 ∨ d = n
    · exact ⟨n, ⟨hn, h⟩, Nat.dvd_refl n⟩
    · obtain ⟨d, hd⟩ := Classical.not_forall.1 h
      have hd1 : d ∣ n := Classical.byContradiction fun hc => hd fun hh => absurd hh hc
      have hd2 : d ≠ 1 ∧ d ≠ n := ⟨fun e => hd fun _ => .inl e, fun e => hd fun _ => .inr e⟩
      have hle := Nat.le_of_dvd (by omega) hd1
      have h0 : d ≠ 0 := fun e => by rw [e] at hd1; have := Nat.eq_zero_of_zero_dvd hd1; omega
      obtain ⟨p, hp, hpd⟩ := ih d (by omega) (by omega)
      exact ⟨p, hp, Nat.dvd_trans hpd hd1⟩

/-! Fermat's little theorem -/
def ch : Nat → Nat → Nat
  | _, 0 => 1
  | 0, _ + 1 => 0
  | n + 1, k + 1 => ch n k + ch n (k + 1)
theorem ch_zero (n : Nat) : ch n 0 = 1 := by cases n <;> rfl
theorem ch_big : ∀ n k, n < k → ch n k = 0
  | 0, k + 1, _ => rfl
  | n + 1, k + 1, h => by show ch n k + ch n (k + 1) = 0; rw [ch_big n k (by omega), ch_big n (k + 1) (by omega)]
theorem ch_self : ∀ n, ch n n = 1
  | 0 => rfl
  | n + 1 => by show ch n n + ch n (n + 1) = 1; rw [ch_self n, ch_big n (n + 1) (by omega)]
theorem ch_mul : ∀ n k, (k + 1) * ch (n + 1) (k + 1) = (n + 1) * ch n k
  | 0, 0 => rfl
  | 0, k + 1 => by show (k + 1 + 1) * (ch 0 (k + 1) + ch 0 (k + 1 + 1)) = (0 + 1) * ch 0 (k + 1); rw [ch_big 0 (k + 1) (by omega), ch_big 0 (k + 1 + 1) (by omega)]; simp
  | n + 1, 0 => by
    have := ch_mul n 0
    show (0 + 1) * (ch (n + 1) 0 + ch (n + 1) (0 + 1)) = (n + 1 + 1) * ch (n + 1) 0
    rw [ch_zero, Nat.zero_add, Nat.one_mul]
    rw [Nat.zero_add, Nat.one_mul, ch_zero] at this
    omega
  | n + 1, k + 1 => by
    have h1 := ch_mul n k
    have h2 := ch_mul n (k + 1)
    have e1 : ch (n + 1 + 1) (k + 1 + 1) = ch (n + 1) (k + 1) + ch (n + 1) (k + 1 + 1) := rfl
    have e2 : ch (n + 1) (k + 1) = ch n k + ch n (k + 1) := rfl
    rw [e1, Nat.mul_add, h2]
    have e3 : (k + 1 + 1) * ch (n + 1) (k + 1) = (n + 1) * ch n k + ch (n + 1) (k + 1) := by rw [Nat.add_mul (k + 1) 1, h1, Nat.one_mul]
    rw [e3, Nat.add_mul (n + 1) 1 (ch (n + 1) (k + 1)), Nat.one_mul]
    conv => rhs; rw [e2]
    rw [e2, Nat.mul_add]
    omega
def sm : Nat → (Nat → Nat) → Nat
  | 0, _ => 0
  | n + 1, f => sm n f + f n
theorem sm_succ (f : Nat → Nat) : ∀ n, sm (n + 1) f = f 0 + sm n (fun k => f (k + 1))
  | 0 => by simp [sm]
  | n + 1 => by
    show sm (n + 1) f + f (n + 1) = f 0 + (sm n (fun k => f (k + 1)) + f (n + 1))
    rw [sm_succ f n, Nat.add_assoc]
theorem sm_add (f g : Nat → Nat) : ∀ n, sm n (fun k => f k + g k) = sm n f + sm n g
  | 0 => rfl
  | n + 1 => by simp only [sm, sm_add f g n]; omega
theorem sm_mul (a : Nat) (f : Nat → Nat) : ∀ n, sm n (fun k => f k * a) = sm n f * a
  | 0 => by simp [sm]
  | n + 1 => by simp only [sm, sm_mul a f n, Nat.add_mul]
theorem sm_dvd {p : Nat} {f : Nat → Nat} : ∀ {n}, (∀ k, k < n → p ∣ f k) → p ∣ sm n f
  | 0, _ => Nat.dvd_zero p
  | n + 1, h => Nat.dvd_add (sm_dvd fun k hk => h k (by omega)) (h n (by omega))
theorem binom (a : Nat) : ∀ n, (a + 1) ^ n = sm (n + 1) (fun k => ch n k * a ^ k)
  | 0 => by simp [sm, ch]
  | n + 1 => by
    have e1 : sm (n + 1 + 1) (fun k => ch (n + 1) k * a ^ k) = 1 + sm (n + 1) (fun k => ch n k * a ^ k * a + ch n (k + 1) * a ^ (k + 1)) := by
      rw [sm_succ]
      simp only [ch_zero, Nat.pow_zero, Nat.mul_one]
      congr 2
      funext k
      show (ch n k + ch n (k + 1)) * a ^ (k + 1) = _
      rw [Nat.add_mul]
      congr 1
      rw [Nat.pow_succ, Nat.mul_assoc]
    have e2 : 1 + sm (n + 1) (fun k => ch n (k + 1) * a ^ (k + 1)) = sm (n + 1) (fun k => ch n k * a ^ k) := by
      have h := sm_succ (fun k => ch n k * a ^ k) (n + 1)
      simp only [ch_zero, Nat.pow_zero, Nat.mul_one] at h
      rw [← h]
      show sm (n + 1) _ + ch n (n + 1) * a ^ (n + 1) = _
      rw [ch_big n (n + 1) (by omega), Nat.zero_mul, Nat.add_zero]
    rw [e1, sm_add, sm_mul, ← binom a n, Nat.pow_succ, Nat.mul_add, Nat.mul_one]
    have e3 := binom a n
    omega
theorem fermat {p : Nat} (h : Prm p) : ∀ a : Nat, a ^ p % p = a % p
  | 0 => by have := h.two; rw [Nat.zero_pow (by omega)]
  | a + 1 => by
    have h2 := h.two
    have ih := fermat h a
    obtain ⟨q, rfl⟩ : ∃ q, p = q + 1 := ⟨p - 1, by omega⟩
    have e : (a + 1) ^ (q + 1) = 1 + sm q (fun k => ch (q + 1) (k + 1) * a ^ (k + 1)) + a ^ (q + 1) := by
      rw [binom]
      show sm (q + 1) _ + ch (q + 1) (q + 1) * a ^ (q + 1) = _
      rw [sm_succ, ch_self, ch_zero, Nat.pow_zero, Nat.one_mul, Nat.one_mul]
    have hd : (q + 1) ∣ sm q (fun k => ch (q + 1) (k + 1) * a ^ (k + 1)) := by
      refine sm_dvd fun k hk => Nat.dvd_trans ?_ (Nat.dvd_mul_right _ _)
      have h3 : (q + 1) ∣ (k + 1) * ch (q + 1) (k + 1) := by rw [ch_mul]; exact Nat.dvd_mul_right _ _
      rcases h.mul h3 with h4 | h4
      · have := Nat.le_of_dvd (by omega) h4; omega
      · exact h4
    obtain ⟨t, ht⟩ := hd
    rw [e, ht, Nat.add_right_comm, Nat.add_mul_mod_self_left, Nat.add_mod, ih, ← Nat.add_mod, Nat.add_comm]
theorem fermat1 {p a : Nat} (h : Prm p) (ha : ¬ p ∣ a) : a ^ (p - 1) % p = 1 := by
  have h2 := h.two
  obtain ⟨q, rfl⟩ : ∃ q, p = q + 1 := ⟨p - 1, by omega⟩
  rw [Nat.add_sub_cancel]
  have h1 := fermat h a
  have ha0 : 0 < a := Nat.pos_of_ne_zero fun e => ha (e ▸ Nat.dvd_zero _)
  have hp : 0 < a ^ q := Nat.pow_pos ha0
  have hge : a ≤ a ^ (q + 1) := by rw [Nat.pow_succ]; exact Nat.le_mul_of_pos_left _ hp
  have hd : (q + 1) ∣ a ^ (q + 1) - a := Nat.dvd_of_mod_eq_zero (Nat.sub_mod_eq_zero_of_mod_eq h1)
  have e : a ^ (q + 1) - a = a * (a ^ q - 1) := by rw [Nat.pow_succ, Nat.mul_sub, Nat.mul_one, Nat.mul_comm]
  rw [e] at hd
  rcases h.mul hd with h3 | h3
  · exact absurd h3 ha
  · obtain ⟨c, hc⟩ := h3
    have h4 : a ^ q = 1 + (q + 1) * c := by omega
    rw [h4, Nat.add_mul_mod_self_left]; exact Nat.mod_eq_of_lt (by omega)

/-! Powers that are 1 -/
theorem pw_mul {p a x : Nat} (hp : 2 ≤ p) (h : a ^ x % p = 1) (k : Nat) : a ^ (x * k) % p = 1 := by
  rw [Nat.pow_mul, Nat.pow_mod, h, Nat.one_pow]; exact Nat.mod_eq_of_lt (by omega)
theorem pw_add {p a x : Nat} (h : a ^ x % p = 1) (y : Nat) : a ^ (x + y) % p = a ^ y % p := by
  rw [Nat.pow_add, Nat.mul_mod, h, Nat.one_mul, Nat.mod_mod]
theorem pw_gcd {p a : Nat} (hp : 2 ≤ p) : ∀ x y, a ^ x % p = 1 → a ^ y % p = 1 → a ^ Nat.gcd x y % p = 1 := by
  intro x y
  induction x, y using Nat.gcd.induction with
  | H0 n => intro _ h; rw [Nat.gcd_zero_left]; exact h
  | H1 m n h0 ih =>
    intro h1 h2
    rw [Nat.gcd_rec]
    refine ih ?_ h1
    have h3 := pw_add (pw_mul hp h1 (n / m)) (n % m)
    rw [Nat.div_add_mod] at h3
    rw [← h3]; exact h2
/-- -1 to an odd power. -/
theorem neg_odd {p x : Nat} (hp : 3 ≤ p) (h : (x + 1) % p = 0) : ∀ k, (x ^ (2 * k) % p = 1 ∧ (x ^ (2 * k + 1) + 1) % p = 0)
  | 0 => by
    rw [Nat.mul_zero, Nat.pow_zero, Nat.zero_add, Nat.pow_one]
    exact ⟨Nat.mod_eq_of_lt (by omega), h⟩
  | k + 1 => by
    obtain ⟨h1, h2⟩ := neg_odd hp h k
    have hxp := Nat.mod_add_div x p
    obtain ⟨c, hc⟩ := Nat.dvd_of_mod_eq_zero h
    have hsq : x ^ 2 % p = 1 := by
      have hc0 : 0 < c := Nat.pos_of_ne_zero fun e => by rw [e, Nat.mul_zero] at hc; omega
      have e : x ^ 2 = 1 + p * (c * (p * c) - 2 * c) := by
        have e1 : x = p * c - 1 := by omega
        have e2 : p * c * (p * c) ≥ 2 * (p * c) := Nat.mul_le_mul_right _ (by have := Nat.le_mul_of_pos_right p hc0; omega)
        have e3 : x ^ 2 + 2 * (p * c) = 1 + p * c * (p * c) := by
          have : x + 1 = p * c := hc
          rw [← this]; grind
        have e4 : p * (c * (p * c) - 2 * c) = p * c * (p * c) - 2 * (p * c) := by
          rw [Nat.mul_sub, ← Nat.mul_assoc, ← Nat.mul_assoc p 2 c, Nat.mul_comm p 2, Nat.mul_assoc 2 p c]
        omega
      rw [e, Nat.add_mul_mod_self_left]; exact Nat.mod_eq_of_lt (by omega)
    have g1 : x ^ (2 * (k + 1)) % p = 1 := by
      rw [Nat.mul_add, Nat.mul_one, Nat.pow_add, Nat.mul_mod, h1, hsq, Nat.one_mul]; exact Nat.mod_eq_of_lt (by omega)
    refine ⟨g1, ?_⟩
    rw [Nat.pow_succ, Nat.add_mod, Nat.mul_mod, g1, Nat.one_mul, Nat.mod_mod, ← Nat.add_mod]
    exact h
theorem odd_pow_neg {p x e : Nat} (hp : 3 ≤ p) (h : (x + 1) % p = 0) (he : e % 2 = 1) : (x ^ e + 1) % p = 0 := by
  obtain ⟨k, rfl⟩ : ∃ k, e = 2 * k + 1 := ⟨e / 2, by omega⟩
  exact (neg_odd hp h k).2
theorem sq_neg {p x : Nat} (hp : 3 ≤ p) (h : (x + 1) % p = 0) : x ^ 2 % p = 1 := (neg_odd hp h 1).1
/-- Where the odd parts part. -/
theorem gcd_odd {d t e : Nat} (hd : d % 2 = 1) : Nat.gcd d (2 ^ t * e) ∣ e := by
  have h1 : Nat.gcd d (2 ^ t * e) ∣ 2 ^ t * e := Nat.gcd_dvd_right _ _
  have h2 : Nat.Coprime (Nat.gcd d (2 ^ t * e)) (2 ^ t) := by
    refine Nat.Coprime.pow_right t ?_
    have h3 : Nat.gcd (Nat.gcd d (2 ^ t * e)) 2 ∣ 2 := Nat.gcd_dvd_right _ _
    have h4 : Nat.gcd (Nat.gcd d (2 ^ t * e)) 2 ∣ d := Nat.dvd_trans (Nat.gcd_dvd_left _ _) (Nat.gcd_dvd_left _ _)
    have h5 := Nat.le_of_dvd (by decide) h3
    have h6 : Nat.gcd (Nat.gcd d (2 ^ t * e)) 2 ≠ 0 := fun e0 => by rw [e0] at h3; have := Nat.eq_zero_of_zero_dvd h3; omega
    have h7 : Nat.gcd (Nat.gcd d (2 ^ t * e)) 2 ≠ 2 := fun e0 => by rw [e0] at h4; omega
    show Nat.gcd _ 2 = 1
    omega
  exact Nat.Coprime.dvd_of_dvd_mul_left h2 h1
theorem odd_unique : ∀ {s t d e : Nat}, 2 ^ s * d = 2 ^ t * e → d % 2 = 1 → e % 2 = 1 → s = t ∧ d = e
  | 0, 0, d, e, h, _, _ => by simpa using h
  | 0, t + 1, d, e, h, hd, _ => by
    rw [Nat.pow_zero, Nat.one_mul, Nat.pow_succ, Nat.mul_comm (2 ^ t) 2, Nat.mul_assoc] at h; omega
  | s + 1, 0, d, e, h, _, he => by
    rw [Nat.pow_zero, Nat.one_mul, Nat.pow_succ, Nat.mul_comm (2 ^ s) 2, Nat.mul_assoc] at h; omega
  | s + 1, t + 1, d, e, h, hd, he => by
    rw [Nat.pow_succ, Nat.pow_succ, Nat.mul_comm (2 ^ s) 2, Nat.mul_assoc, Nat.mul_comm (2 ^ t) 2, Nat.mul_assoc] at h
    obtain ⟨h1, h2⟩ := odd_unique (s := s) (t := t) (show 2 ^ s * d = 2 ^ t * e by omega) hd he
    exact ⟨by omega, h2⟩

/-! Miller's test -/
/-- n passes to the base a. -/
def SP (n a : Nat) : Prop := ∃ s d, n - 1 = 2 ^ s * d ∧ d % 2 = 1 ∧ (a ^ d % n = 1 ∨ ∃ i, i < s ∧ a ^ (2 ^ i * d) % n = n - 1)
/-- The first power of 2 that makes 1 of a's odd part's power. -/
def Lv (p a j : Nat) : Prop := ∃ t e, p - 1 = 2 ^ t * e ∧ e % 2 = 1 ∧ j ≤ t ∧ a ^ (2 ^ j * e) % p = 1 ∧ ∀ i, i < j → a ^ (2 ^ i * e) % p ≠ 1
theorem mod_dvd {p n x y : Nat} (h : p ∣ n) (e : x % n = y % n) : x % p = y % p := by
  rw [← Nat.mod_mod_of_dvd x h, e, Nat.mod_mod_of_dvd y h]
/-- All primes that divide n have one level, if n passes. -/
theorem SP.level {n a : Nat} (h : SP n a) (hn : 2 ≤ n) : ∃ j, ∀ p, Prm p → p ∣ n → 3 ≤ p → ¬ p ∣ a → Lv p a j := by
  obtain ⟨s, d, h1, h2, h3⟩ := h
  have dec : ∀ p, Prm p → 3 ≤ p → ∃ t e, p - 1 = 2 ^ t * e ∧ e % 2 = 1 := by
    intro p _ hp
    have key : ∀ m : Nat, 0 < m → ∃ t e, m = 2 ^ t * e ∧ e % 2 = 1 := by
      intro m
      induction m using Nat.strongRecOn with
      | ind m ih =>
        intro hm
        rcases Nat.mod_two_eq_zero_or_one m with h0 | h0
        · obtain ⟨t, e, h4, h5⟩ := ih (m / 2) (by omega) (by omega)
          exact ⟨t + 1, e, by rw [Nat.pow_succ, Nat.mul_comm (2 ^ t) 2, Nat.mul_assoc, ← h4]; omega, h5⟩
        · exact ⟨0, m, by simp, h0⟩
    exact key _ (by omega)
  rcases h3 with h3 | ⟨i, hi, h3⟩
  · refine ⟨0, fun p hp hpn hp3 hpa => ?_⟩
    obtain ⟨t, e, h4, h5⟩ := dec p hp hp3
    have g1 : a ^ d % p = 1 := by
      have := mod_dvd hpn (show a ^ d % n = 1 % n by rw [h3]; exact (Nat.mod_eq_of_lt (by omega)).symm)
      rw [this]; exact Nat.mod_eq_of_lt (by omega)
    have g2 := fermat1 hp hpa
    rw [h4] at g2
    have g3 := pw_gcd hp.two _ _ g1 g2
    obtain ⟨c, hc⟩ := gcd_odd (d := d) (t := t) (e := e) h2
    refine ⟨t, e, h4, h5, Nat.zero_le _, ?_, fun i hi => by omega⟩
    rw [Nat.pow_zero, Nat.one_mul, hc]
    exact pw_mul hp.two g3 c
  · refine ⟨i + 1, fun p hp hpn hp3 hpa => ?_⟩
    obtain ⟨t, e, h4, h5⟩ := dec p hp hp3
    have g1 : (a ^ (2 ^ i * d) + 1) % p = 0 := by
      have h6 : (a ^ (2 ^ i * d) + 1) % n = 0 := by
        rw [Nat.add_mod, h3]
        rcases Nat.eq_or_lt_of_le hn with h7 | h7
        · subst h7; rfl
        · rw [Nat.mod_eq_of_lt (show 1 < n by omega), show n - 1 + 1 = n by omega, Nat.mod_self]
      exact Nat.mod_eq_zero_of_dvd (Nat.dvd_trans hpn (Nat.dvd_of_mod_eq_zero h6))
    have g2 := fermat1 hp hpa
    rw [h4] at g2
    have hsq : (a ^ (2 ^ (i + 1))) ^ d % p = 1 := by
      have h6 := sq_neg hp3 g1
      rw [← Nat.pow_mul] at h6
      rw [← Nat.pow_mul, Nat.pow_succ, show 2 ^ i * 2 * d = 2 ^ i * d * 2 by rw [Nat.mul_assoc, Nat.mul_comm 2 d, Nat.mul_assoc]]
      exact h6
    have hbt : (a ^ (2 ^ (i + 1))) ^ (2 ^ t * e) % p = 1 := by
      rw [← Nat.pow_mul, Nat.mul_comm]
      exact pw_mul hp.two g2 _
    have g3 := pw_gcd hp.two _ _ hsq hbt
    obtain ⟨c, hc⟩ := gcd_odd (d := d) (t := t) (e := e) h2
    have g4 : a ^ (2 ^ (i + 1) * e) % p = 1 := by
      rw [Nat.pow_mul, hc]
      exact pw_mul hp.two g3 c
    have g5 : ∀ k, k < i + 1 → a ^ (2 ^ k * e) % p ≠ 1 := by
      intro k hk hc1
      have h6 : (a ^ (2 ^ i)) ^ e % p = 1 := by
        obtain ⟨m, rfl⟩ : ∃ m, i = k + m := ⟨i - k, by omega⟩
        rw [← Nat.pow_mul, Nat.pow_add, Nat.mul_right_comm]
        exact pw_mul hp.two hc1 _
      have h7 : ((a ^ (2 ^ i)) ^ d + 1) % p = 0 := by rw [← Nat.pow_mul]; exact g1
      have h8 := odd_pow_neg hp3 h7 h5
      rw [← Nat.pow_mul, Nat.mul_comm d e, Nat.pow_mul] at h8
      have h9 : ((a ^ (2 ^ i)) ^ e) ^ d % p = 1 := by
        rw [Nat.pow_mod, h6, Nat.one_pow]; exact Nat.mod_eq_of_lt (by omega)
      rw [Nat.add_mod, h9, Nat.mod_eq_of_lt (show 1 < p by omega), Nat.mod_eq_of_lt (show 1 + 1 < p by omega)] at h8
      omega
    refine ⟨t, e, h4, h5, ?_, g4, g5⟩
    rcases Nat.lt_or_ge t (i + 1) with h6 | h6
    · exfalso
      obtain ⟨m, rfl⟩ : ∃ m, i = t + m := ⟨i - t, by omega⟩
      exact g5 t (by omega) g2
    · exact h6
/-- A prime passes to every base that it does not divide. -/
theorem Prm.sp {p a : Nat} (h : Prm p) (hp : 3 ≤ p) (ha : ¬ p ∣ a) {s d : Nat} (hs : p - 1 = 2 ^ s * d) (hd : d % 2 = 1) : a ^ d % p = 1 ∨ ∃ i, i < s ∧ a ^ (2 ^ i * d) % p = p - 1 := by
  have key : ∀ j, j ≤ s → a ^ (2 ^ j * d) % p = 1 → a ^ d % p = 1 ∨ ∃ i, i < j ∧ a ^ (2 ^ i * d) % p = p - 1 := by
    intro j
    induction j with
    | zero => intro _ h1; left; rw [Nat.pow_zero, Nat.one_mul] at h1; exact h1
    | succ j ih =>
      intro hj h1
      obtain ⟨X, hX⟩ : ∃ X, a ^ (2 ^ j * d) % p = X := ⟨_, rfl⟩
      have hXl : X < p := by rw [← hX]; exact Nat.mod_lt _ (by omega)
      have h2 : X * X % p = 1 := by
        rw [← hX, ← Nat.mul_mod, ← Nat.pow_add, show 2 ^ j * d + 2 ^ j * d = 2 ^ (j + 1) * d by rw [Nat.pow_succ]; grind]
        exact h1
      have hX0 : X ≠ 0 := fun e => by rw [e] at h2; simp at h2
      have h3 : p ∣ (X - 1) * (X + 1) := by
        have h4 : p ∣ X * X - 1 := Nat.dvd_of_mod_eq_zero (Nat.sub_mod_eq_zero_of_mod_eq (by rw [h2]; exact (Nat.mod_eq_of_lt (by omega)).symm))
        have e : (X - 1) * (X + 1) = X * X - 1 := by
          obtain ⟨y, rfl⟩ : ∃ y, X = y + 1 := ⟨X - 1, by omega⟩
          rw [Nat.add_sub_cancel]
          have : (y + 1) * (y + 1) = y * (y + 1 + 1) + 1 := by grind
          omega
        rw [e]; exact h4
      rcases h.mul h3 with h5 | h5
      · have h6 : X = 1 := by
          rcases Nat.eq_zero_or_pos (X - 1) with h7 | h7
          · omega
          · have := Nat.le_of_dvd h7 h5; omega
        rw [h6] at hX
        rcases ih (by omega) hX with h7 | ⟨i, h7, h8⟩
        · exact .inl h7
        · exact .inr ⟨i, by omega, h8⟩
      · have := Nat.le_of_dvd (by omega) h5
        clear ih
        exact .inr ⟨j, Nat.lt_succ_self j, hX.trans (by omega)⟩
  have h0 := fermat1 h ha
  rw [hs] at h0
  exact key s (Nat.le_refl _) h0
end Rad
