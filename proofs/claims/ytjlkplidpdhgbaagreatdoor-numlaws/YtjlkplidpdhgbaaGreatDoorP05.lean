/- A part of the proof: Pm3. -/
import Derived.Test.YtjlkplidpdhgbaaGreatDoorP02
set_option linter.all false

/- The arithmetic of three products of halves. -/
namespace Rad
/-- The middle: one product of differences. -/
theorem middle_add {x0 x1 y0 y1 : Nat} (h : (x0 < x1 ∧ y1 ≤ y0) ∨ (x1 ≤ x0 ∧ y0 < y1)) {a b : Nat} (ha : a = if x0 < x1 then x1 - x0 else x0 - x1) (hb : b = if y0 < y1 then y1 - y0 else y0 - y1) :
    x0 * y0 + x1 * y1 + a * b = x0 * y1 + x1 * y0 := by
  rcases h with ⟨h1, h2⟩ | ⟨h1, h2⟩
  · rw [if_pos h1] at ha; rw [if_neg (by omega)] at hb
    obtain ⟨d, rfl⟩ := Nat.exists_eq_add_of_le (Nat.le_of_lt h1)
    obtain ⟨e, rfl⟩ := Nat.exists_eq_add_of_le h2
    rw [Nat.add_sub_cancel_left] at ha hb
    subst ha
    subst hb
    simp only [Nat.mul_add, Nat.add_mul]; omega
  · rw [if_neg (by omega)] at ha; rw [if_pos h2] at hb
    obtain ⟨d, rfl⟩ := Nat.exists_eq_add_of_le h1
    obtain ⟨e, rfl⟩ := Nat.exists_eq_add_of_le (Nat.le_of_lt h2)
    rw [Nat.add_sub_cancel_left] at ha hb
    subst ha
    subst hb
    simp only [Nat.mul_add, Nat.add_mul]; omega
theorem middle_sub {x0 x1 y0 y1 : Nat} (h : (x0 < x1 ∧ y0 < y1) ∨ (x1 ≤ x0 ∧ y1 ≤ y0)) {a b : Nat} (ha : a = if x0 < x1 then x1 - x0 else x0 - x1) (hb : b = if y0 < y1 then y1 - y0 else y0 - y1) :
    x0 * y0 + x1 * y1 = x0 * y1 + x1 * y0 + a * b := by
  rcases h with ⟨h1, h2⟩ | ⟨h1, h2⟩
  · rw [if_pos h1] at ha; rw [if_pos h2] at hb
    obtain ⟨d, rfl⟩ := Nat.exists_eq_add_of_le (Nat.le_of_lt h1)
    obtain ⟨e, rfl⟩ := Nat.exists_eq_add_of_le (Nat.le_of_lt h2)
    rw [Nat.add_sub_cancel_left] at ha hb
    subst ha
    subst hb
    simp only [Nat.mul_add, Nat.add_mul]; omega
  · rw [if_neg (by omega)] at ha; rw [if_neg (by omega)] at hb
    obtain ⟨d, rfl⟩ := Nat.exists_eq_add_of_le h1
    obtain ⟨e, rfl⟩ := Nat.exists_eq_add_of_le h2
    rw [Nat.add_sub_cancel_left] at ha hb
    subst ha
    subst hb
    simp only [Nat.mul_add, Nat.add_mul]; omega

theorem mul_lt_pow {β a b m n : Nat} (ha : a < β ^ m) (hb : b < β ^ n) : a * b < β ^ (m + n) := by
  rw [Nat.pow_add]
  rcases Nat.eq_zero_or_pos b with h | h
  · subst h; rw [Nat.mul_zero]; exact Nat.mul_pos (by omega) (by omega)
  · exact Nat.lt_of_lt_of_le (Nat.mul_lt_mul_of_pos_right ha h) (Nat.mul_le_mul_left _ (Nat.le_of_lt hb))

/-- The middle has few words. -/
theorem middle_words {β x0 x1 y0 y1 q l k mid : Nat} (hβ : 2 ≤ β) (h0 : x0 < β ^ q) (h1 : x1 < β ^ l) (g0 : y0 < β ^ q) (g1 : y1 < β ^ l) (hm : mid = x0 * y1 + x1 * y0)
    (hk : k = 0 ∨ β ^ (k - 1) ≤ mid) : k ≤ q + l + 1 := by
  have a1 := mul_lt_pow h0 g1
  have a2 := mul_lt_pow h1 g0
  rw [Nat.add_comm l q] at a2
  have a3 := pow_dbl hβ (q + l)
  rcases hk with h | h
  · omega
  · rcases Nat.lt_or_ge (q + l + 1) k with h2 | h2
    · have h3 : β ^ (q + l + 1) ≤ β ^ (k - 1) := Nat.pow_le_pow_right (by omega) (by omega)
      omega
    · exact h2

/-- All together. -/
theorem halves_sum {β x0 x1 y0 y1 q l zl zu zu' c mid : Nat} (h0 : x0 < β ^ q) (h1 : x1 < β ^ l) (g0 : y0 < β ^ q) (g1 : y1 < β ^ l)
    (hm : mid = x0 * y1 + x1 * y0) (ht : zl + β ^ q * zu = x0 * y0 + β ^ (2 * q) * (x1 * y1)) (ha : zu' + β ^ (q + 2 * l) * c = zu + mid) :
    zl + β ^ q * zu' = (x0 + β ^ q * x1) * (y0 + β ^ q * y1) := by
  have e1 : (x0 + β ^ q * x1) * (y0 + β ^ q * y1) = x0 * y0 + β ^ (2 * q) * (x1 * y1) + β ^ q * mid := by
    have : β ^ (2 * q) = β ^ q * β ^ q := by rw [← Nat.pow_add]; congr 1; omega
    rw [this, hm]
    generalize β ^ q = p
    simp only [Nat.mul_add, Nat.add_mul]
    have e2 : p * x1 * (p * y1) = p * p * (x1 * y1) := by rw [Nat.mul_mul_mul_comm]
    have e3 : x0 * (p * y1) = p * (x0 * y1) := Nat.mul_left_comm _ _ _
    have e4 : p * x1 * y0 = p * (x1 * y0) := Nat.mul_assoc _ _ _
    omega
  have e5 : β ^ q * zu' + β ^ q * (β ^ (q + 2 * l) * c) = β ^ q * zu + β ^ q * mid := by rw [← Nat.mul_add, ha, Nat.mul_add]
  have e6 : β ^ q * (β ^ (q + 2 * l) * c) = β ^ (q + l + (q + l)) * c := by rw [← Nat.mul_assoc, ← Nat.pow_add]; congr 2; omega
  have b1 : x0 + β ^ q * x1 < β ^ (q + l) := by
    rw [Nat.pow_add]
    have : β ^ q * (x1 + 1) ≤ β ^ q * β ^ l := Nat.mul_le_mul_left _ h1
    rw [Nat.mul_add] at this; omega
  have b2 : y0 + β ^ q * y1 < β ^ (q + l) := by
    rw [Nat.pow_add]
    have : β ^ q * (y1 + 1) ≤ β ^ q * β ^ l := Nat.mul_le_mul_left _ g1
    rw [Nat.mul_add] at this; omega
  have b3 := mul_lt_pow b1 b2
  rcases Nat.eq_zero_or_pos c with hc | hc
  · subst hc
    rw [Nat.mul_zero, Nat.mul_zero] at e5
    omega
  · exfalso
    have := Nat.mul_le_mul_left (β ^ (q + l + (q + l))) hc
    rw [e6] at e5
    omega
end Rad
