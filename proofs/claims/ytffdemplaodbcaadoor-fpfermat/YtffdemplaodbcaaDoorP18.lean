/- A part of the proof: FA. -/
import Derived.Test.YtffdemplaodbcaaDoorP16
set_option linter.all false
namespace Go.Proofs.YtffdemplaodbcaaDoor
open Go Go.Proofs Go.RowKit Go.Rad

/-- What Euclid's way keeps: b is t times a, before is was times a, modulo p. -/
structure Euc (p a b be t was : Int) : Prop where
  ex : ∃ T W σ : Int, t = σ * T ∧ was = -σ * W ∧ (σ = 1 ∨ σ = -1) ∧ 1 ≤ T ∧ 0 ≤ W ∧ T * be + W * b = p
  b1 : 1 ≤ b
  lt : b < be
  e1 : ∃ k, a * t = b + k * p
  e2 : ∃ k, a * was = be + k * p
  g : Int.gcd b be = 1
theorem Euc.start {p a : Int} (h1 : 1 ≤ a) (h2 : a < p) (h3 : Int.gcd a p = 1) : Euc p a a p 1 0 :=
  ⟨⟨1, 0, 1, by omega, by omega, .inl rfl, by omega, by omega, by omega⟩, h1, h2, ⟨0, by omega⟩, ⟨-1, by omega⟩, h3⟩
theorem Euc.bounds {p a b be t was : Int} (h : Euc p a b be t was) : -p < t ∧ t < p ∧ -p ≤ was ∧ was ≤ p ∧ be ≤ p ∧ t ≠ 0 := by
  obtain ⟨⟨T, W, σ, ht, hw, hs, hT, hW, he⟩, h1, h2, -, -, -⟩ := h
  have g1 : T * 2 ≤ T * be := Int.mul_le_mul_of_nonneg_left (by omega) (by omega)
  have g2 : W * 1 ≤ W * b := Int.mul_le_mul_of_nonneg_left h1 hW
  have g3 : 1 * be ≤ T * be := Int.mul_le_mul_of_nonneg_right hT (by omega)
  have g4 : 0 ≤ W * b := Int.mul_nonneg hW (by omega)
  rcases hs with rfl | rfl <;> omega
theorem Euc.step {p a b be t was : Int} (h : Euc p a b be t was) (hb : 1 < b) : Euc p a (be - be / b * b) b (was - be / b * t) t ∧ -p ≤ be / b * t ∧ be / b * t ≤ p ∧ 0 ≤ be / b * b ∧ be / b * b ≤ be ∧ 0 ≤ be / b ∧ be / b ≤ be := by
  have hbd := h.bounds
  obtain ⟨⟨T, W, σ, ht, hw, hs, hT, hW, he⟩, h1, h2, ⟨k1, e1⟩, ⟨k2, e2⟩, hg⟩ := h
  obtain ⟨q, hq⟩ : ∃ q, be / b = q := ⟨_, rfl⟩
  have hmod := Int.emod_add_mul_ediv be b
  have hm0 := Int.emod_nonneg be (show b ≠ 0 by omega)
  have hm1 := Int.emod_lt_of_pos be (show 0 < b by omega)
  rw [hq] at hmod
  have hq0 : 0 ≤ q := by rw [← hq]; exact Int.ediv_nonneg (by omega) (by omega)
  have hr : be - q * b = be % b := by rw [Int.mul_comm q b]; omega
  have hqb : 0 ≤ q * b := Int.mul_nonneg hq0 (by omega)
  have hqle : q ≤ q * b := by
    have := Int.mul_le_mul_of_nonneg_left (show 1 ≤ b by omega) hq0
    omega
  have hg2 : Int.gcd (be % b) b = 1 := by
    rw [← hg, Int.gcd_comm b be]
    conv => rhs; rw [← Int.emod_add_mul_ediv be b]
    rw [hq, Int.gcd_add_mul_left_left]
  have hr1 : be % b ≠ 0 := fun h0 => by
    rw [h0, Int.gcd_zero_left] at hg2
    omega
  have eT : (W + q * T) * b + T * (be - q * b) = p := by
    rw [← he]; grind
  have hqT : 0 ≤ q * T := Int.mul_nonneg hq0 (by omega)
  have hle : q * T ≤ p := by
    have g1 : (W + q * T) * 1 ≤ (W + q * T) * b := Int.mul_le_mul_of_nonneg_left (by omega) (by omega)
    have g2 : 0 ≤ T * (be - q * b) := Int.mul_nonneg (by omega) (by omega)
    omega
  rw [hq]
  refine ⟨⟨⟨W + q * T, T, -σ, ?_, ?_, by omega, ?_, by omega, eT⟩, by omega, by omega, ⟨k2 - q * k1, ?_⟩, ⟨k1, e1⟩, by rw [hr]; exact hg2⟩, ?_, ?_, hqb, by omega, hq0, by omega⟩
  · rw [hw, ht]; grind
  · rw [ht]; grind
  · have hq1 : 1 ≤ q := by
      rcases Int.lt_or_le 0 q with h | h
      · omega
      · have : q = 0 := by omega
        rw [this] at hmod; omega
    have := Int.mul_le_mul_of_nonneg_left hT hq0
    omega
  · have e3 : a * (was - q * t) = a * was - q * (a * t) := by grind
    rw [e3, e1, e2]; grind
  · rcases hs with rfl | rfl
    · rw [ht, Int.one_mul]; omega
    · rw [ht]; grind
  · rcases hs with rfl | rfl
    · rw [ht, Int.one_mul]; omega
    · rw [ht]; grind
/-- 1 over a. -/
inductive InvPost (w : World) (p a : Int) (e : Ending) (w' : World) : Prop
  | mk (r : Int) (he : e = .returned (.int .i64 r)) (h0 : 0 < r) (h1 : r < p) (h : ∃ k, a * r = 1 + k * p) (hb : Below w.heap.size w w')
set_option maxRecDepth 10000 in
set_option maxHeartbeats 1000000 in
theorem inverse_any (w : World) (p q a : Int) (hp : p < 2147483648) (h1 : 1 ≤ a) (h2 : a < p) (hg : Int.gcd a p = 1) :
    Calls Tryd.prog 58 #[FV p q, .int .i64 a] w fun e w' => InvPost w p a e w' := by
  have HS : Hid (Euc p a a p 1 0) := Euc.start h1 h2 hg
  clear hg
  go_enter Tryd.func58, Tryd.ntmps58
  go_wp2
  go_quiet (fail)
  go_wp2
  refine wp_world (fun w1 => Below w.heap.size w w1 ∧ w.heap.size < w1.heap.size ∧ w1.cell? ⟨w.heap.size, 0, none⟩ = some (.int .i64 p)) ⟨(bel1 w _).trans ⟨rfl, rfl, rfl, Nat.le_refl _, fun _ _ => rfl⟩, by show w.heap.size < (w.alloc (Obj.cells #[.int .i64 p, .int .i64 q] 53)).heap.size; simp, by show (w.alloc (Obj.cells #[.int .i64 p, .int .i64 q] 53)).cell? ⟨w.heap.size, 0, none⟩ = _; simp [go_sem]⟩ ?_
  rintro w1 ⟨hB1, hl1, c0⟩
  have HB1 : Hid (Below w.heap.size w w1) := hB1
  clear hB1
  go_loopw [5, 6, 7, 8] (fun bv ev tv wv wr => ∃ b be t was : Int, bv = .int .i64 b ∧ ev = .int .i64 be ∧ tv = .int .i64 t ∧ wv = .int .i64 was ∧ Euc p a b be t was ∧ wr = w1) (fun bv _ _ _ _ => (Lib.intOf bv).toNat)
  case atStart => exact ⟨a, p, 1, 0, rfl, rfl, rfl, rfl, HS.out, rfl⟩
  case round =>
    obtain ⟨b, be, t, was, rfl, rfl, rfl, rfl, hE, rfl⟩ := hrel
    have hbd := hE.bounds
    have hb1 := hE.b1
    have hlt := hE.lt
    have HE : Hid (Euc p a b be t was) := hE
    clear hE
    by_cases hb : 1 < b
    · obtain ⟨g1, g2, g3, g4, g5, g6, g7⟩ := HE.out.step hb
      have G1 : Hid _ := g1
      have hb0 := g1.b1
      have hbl := g1.lt
      obtain ⟨k1, hk1⟩ : ∃ x, be / b = x := ⟨_, rfl⟩
      rw [hk1] at g1 g2 g3 g4 g5 g6 g7 G1 hb0 hbl
      have hbd2 := g1.bounds
      obtain ⟨k2, hk2⟩ : ∃ x, k1 * b = x := ⟨_, rfl⟩
      obtain ⟨k3, hk3⟩ : ∃ x, k1 * t = x := ⟨_, rfl⟩
      rw [hk2] at g4 g5 hb0 hbl G1
      rw [hk3] at g2 g3 hbd2 G1
      have hw1 : wrap64 (k1 * b) = k2 := by rw [hk2]; unfold wrap64; omega
      have hw2 : wrap64 (k1 * t) = k3 := by rw [hk3]; unfold wrap64; omega
      have HK : Hid (k1 * b = k2 ∧ k1 * t = k3) := ⟨hk2, hk3⟩
      clear hk2 hk3 g1
      go_wp2
      refine ⟨⟨_, _, _, _, rfl, rfl, rfl, rfl, G1.out, by first | rfl | trivial⟩, by simp only [Lib.intOf]; omega⟩
    · have hb1' : b = 1 := by omega
      have HB : Hid (b = 1) := hb1'
      obtain ⟨k, hk⟩ := HE.out.e1
      have HEK : Hid (a * t = b + k * p) := hk
      clear hk hb1'
      by_cases ht : t < 0
      · have hw1 : wrap64 (t + p) = t + p := by unfold wrap64; omega
        go_wp2
        refine bodyPost_ret (v := .int .i64 (t + p)) (by simp [results, go_sem, loadVar]) rfl ?_
        exact .mk (t + p) rfl (by omega) (by omega) ⟨k + a, by rw [Int.mul_add, HEK.out, HB.out, Int.add_mul]; omega⟩ HB1.out
      · go_wp2
        refine bodyPost_ret (v := .int .i64 t) (by simp [results, go_sem, loadVar]) rfl ?_
        exact .mk t rfl (by omega) (by omega) ⟨k, by rw [HEK.out, HB.out]⟩ HB1.out
end Go.Proofs.YtffdemplaodbcaaDoor
