/- A part of the proof: Pm10, Pm12. -/
set_option linter.all false

/- Several steps of Euclid's way at once, told from the first bits (Lehmer, Collins): plain arithmetic, nothing of the program. -/
namespace Rad
/-- What holds of a turn ahead of each of its steps: A0 and B0 are the first bits of X and Y. -/
structure TInv (X Y A0 B0 a b p q r s u v σ : Int) : Prop where
  sg : σ = 1 ∨ σ = -1
  ea : a = -σ * (r * A0 - s * B0)
  eb : b = σ * (u * A0 - v * B0)
  det : r * v - s * u = -σ
  ba : b ≤ a
  b0 : 0 ≤ b
  p0 : 0 ≤ p
  q0 : 0 ≤ q
  r0 : 0 ≤ r
  s0 : 0 ≤ s
  u0 : 0 ≤ u
  v1 : 1 ≤ v
  sv : s ≤ v
  uv : u ≤ v
  ru : r + u ≤ s + v
  pm : p ≤ 4294967296
  qm : q ≤ 4294967296
  rm : r ≤ 4294967296
  sm : s ≤ 4294967296
  st : (p = 0 ∧ q = 0 ∧ r = 1 ∧ s = 0 ∧ u = 0 ∧ v = 1 ∧ σ = -1) ∨ (p = 1 ∧ q = 0 ∧ r = 0 ∧ s = 1 ∧ σ = 1) ∨
    (1 ≤ q ∧ 1 ≤ s ∧ p * s - q * r = σ ∧ 0 < σ * (s * Y - r * X) ∧ σ * (s * Y - r * X) < σ * (p * X - q * Y) ∧ σ * (p * X - q * Y) ≤ Y)

theorem TInv.start {X Y A0 B0 : Int} (h : B0 ≤ A0) (hb : 0 ≤ B0) : TInv X Y A0 B0 A0 B0 0 0 1 0 0 1 (-1) := by
  constructor <;> first | omega | simp

theorem TInv.cof {X Y A0 B0 a b p q r s u v σ : Int} (h : TInv X Y A0 B0 a b p q r s u v σ) : v * a + s * b = A0 := by
  have h1 := h.ea; have h2 := h.eb; have h3 := h.det
  rcases h.sg with rfl | rfl <;> grind

theorem mul_le_of {a b c d : Int} (h1 : a ≤ b) (h2 : c ≤ d) (h3 : 0 ≤ a) (h4 : 0 ≤ d) : a * c ≤ b * d := by
  refine Int.le_trans (Int.mul_le_mul_of_nonneg_left h2 h3) (Int.mul_le_mul_of_nonneg_right h1 h4)

theorem TInv.vsmall {X Y A0 B0 a b p q r s u v σ : Int} (h : TInv X Y A0 B0 a b p q r s u v σ) (hA : A0 < 18446744073709551616) (c1 : v ≤ b) : v < 4294967296 := by
  have h1 := h.cof
  have h2 := h.v1; have h3 := h.ba; have h4 := h.s0
  have h5 : v * v ≤ v * a := Int.mul_le_mul_of_nonneg_left (by omega) (by omega)
  have h6 : 0 ≤ s * b := Int.mul_nonneg h4 (by omega)
  refine Int.not_le.1 fun h7 => ?_
  have h8 : 4294967296 * 4294967296 ≤ v * v := mul_le_of h7 h7 (by decide) (by omega)
  omega

theorem err_lo {u v x0 y0 U σ : Int} (hs : σ = 1 ∨ σ = -1) (hu : 0 ≤ u) (uv : u ≤ v) (hx : 0 ≤ x0) (hx' : x0 < U) (hy : 0 ≤ y0) (hy' : y0 < U) : -(v * (U - 1)) ≤ σ * (u * x0 - v * y0) := by
  have h1 : u * x0 ≤ v * (U - 1) := mul_le_of uv (by omega) hu (by omega)
  have h2 : v * y0 ≤ v * (U - 1) := Int.mul_le_mul_of_nonneg_left (by omega) (by omega)
  have h3 : 0 ≤ u * x0 := Int.mul_nonneg hu hx
  have h4 : 0 ≤ v * y0 := Int.mul_nonneg (by omega) hy
  rcases hs with rfl | rfl <;> omega

theorem TInv.step {X Y A0 B0 a b p q r s u v σ U x0 y0 k : Int} (h : TInv X Y A0 B0 a b p q r s u v σ) (hA : A0 < 18446744073709551616)
    (hX : X = A0 * U + x0) (hY : Y = B0 * U + y0) (hx : 0 ≤ x0) (hx' : x0 < U) (hy : 0 ≤ y0) (hy' : y0 < U)
    (c1 : v ≤ b) (c2 : s + v ≤ a - b) (hk : k = a / b) : TInv X Y A0 B0 b (a - k * b) r s u v (r + k * u) (s + k * v) (-σ) := by
  have hv := h.vsmall hA c1
  have h0 := h.v1; have hb0 : 0 < b := by omega
  have hk1 : 1 ≤ k := by
    rw [hk]; exact (Int.le_ediv_iff_mul_le hb0).2 (by have := h.ba; omega)
  have hm : 0 ≤ a - k * b ∧ a - k * b ≤ b := by
    have e := Int.emod_add_mul_ediv a b
    have e1 := Int.emod_nonneg a (show b ≠ 0 by omega)
    have e2 := Int.emod_lt_of_pos a hb0
    rw [← hk, Int.mul_comm] at e
    omega
  have hku : 0 ≤ k * u := Int.mul_nonneg (by omega) h.u0
  have hkv : v ≤ k * v := by have := Int.mul_le_mul_of_nonneg_right hk1 (show 0 ≤ v by omega); omega
  have hkk : k * u - u ≤ k * v - v := by
    have := Int.mul_le_mul_of_nonneg_left h.uv (show 0 ≤ k - 1 by omega)
    rw [Int.sub_mul, Int.sub_mul] at this; omega
  obtain ⟨sg, ea, eb, det, ba, b0, p0, q0, r0, s0, u0, v1, sv, uv, ru, pm, qm, rm, sm, st⟩ := h
  have hU : 0 < U := by omega
  have e1 := err_lo sg u0 uv hx hx' hy hy'
  have e2 : -((s + v) * (U - 1)) ≤ -σ * ((r + u) * x0 - (s + v) * y0) := err_lo (by omega) (by omega) ru hx hx' hy hy'
  have e3 : v * U ≤ b * U := Int.mul_le_mul_of_nonneg_right c1 (by omega)
  have e4 : (s + v) * U ≤ (a - b) * U := Int.mul_le_mul_of_nonneg_right c2 (by omega)
  have i1 : σ * (u * X - v * Y) = b * U + σ * (u * x0 - v * y0) := by rw [eb, hX, hY]; grind
  have i2 : -σ * (r * X - s * Y) - σ * (u * X - v * Y) = (a - b) * U + -σ * ((r + u) * x0 - (s + v) * y0) := by
    rw [ea, eb, hX, hY]; grind
  have i3 : v * U - v * (U - 1) = v := by grind
  have i4 : (s + v) * U - (s + v) * (U - 1) = s + v := by grind
  refine ⟨by omega, ?_, ?_, ?_, hm.2, hm.1, r0, s0, u0, by omega, by omega, by omega, by omega, by omega, by omega, rm, sm, by omega, by omega, ?_⟩
  · rw [eb]; grind
  · rw [ea, eb]; grind
  · grind
  · have n1 : -σ * (v * Y - u * X) = σ * (u * X - v * Y) := by grind
    rcases st with ⟨rfl, rfl, rfl, rfl, rfl, rfl, rfl⟩ | ⟨rfl, rfl, rfl, rfl, rfl⟩ | ⟨q1, s1, d, y1, y2, y3⟩
    · refine .inr (.inl ⟨rfl, rfl, rfl, rfl, rfl⟩)
    · refine .inr (.inr ⟨by omega, by omega, by grind, ?_, ?_, by grind⟩)
      · rw [n1]; omega
      · rw [n1]; omega
    · refine .inr (.inr ⟨by omega, by omega, by grind, ?_, ?_, by grind⟩)
      · rw [n1]; omega
      · rw [n1]; omega
/-- What the new cofactors are at most. -/
theorem TInv.fits {X Y A0 B0 a b p q r s u v σ : Int} (h : TInv X Y A0 B0 a b p q r s u v σ) (hb : 0 < b) : v ≤ A0 ∧ s ≤ A0 := by
  have h1 := h.cof
  have h2 := h.ba
  have h3 : v * 1 ≤ v * a := Int.mul_le_mul_of_nonneg_left (by omega) (by have := h.v1; omega)
  have h4 : s * 1 ≤ s * b := Int.mul_le_mul_of_nonneg_left (by omega) h.s0
  have h5 : 0 ≤ s * b := Int.mul_nonneg h.s0 (by omega)
  have h6 : 0 ≤ v * a := Int.mul_nonneg (by have := h.v1; omega) (by omega)
  omega
/-- The new ones, where the old rest was not 0. -/
theorem TInv.fits2 {X Y A0 B0 a b p q r s u v σ k : Int} (h : TInv X Y A0 B0 a b p q r s u v σ) (hb : 0 < b) (hk : k = a / b) : s + k * v ≤ A0 ∧ r + k * u ≤ s + k * v ∧ k * v ≤ A0 ∧ k * u ≤ A0 ∧ 0 ≤ k * u ∧ 0 ≤ k * v ∧ k * b ≤ a ∧ 1 ≤ k := by
  have h1 := h.cof
  have hk1 : 1 ≤ k := by
    rw [hk]; exact (Int.le_ediv_iff_mul_le hb).2 (by have := h.ba; omega)
  have e := Int.emod_add_mul_ediv a b
  have e1 := Int.emod_nonneg a (show b ≠ 0 by omega)
  rw [← hk, Int.mul_comm] at e
  have h0 := h.v1; have hs := h.s0
  have i1 : (s + k * v) * b ≤ A0 := by
    have : v * (k * b) ≤ v * a := Int.mul_le_mul_of_nonneg_left (by omega) (by omega)
    grind
  have hkv : v ≤ k * v := by have := Int.mul_le_mul_of_nonneg_right hk1 (show 0 ≤ v by omega); omega
  have i2 : (s + k * v) * 1 ≤ (s + k * v) * b := Int.mul_le_mul_of_nonneg_left (by omega) (by omega)
  have hkk : k * u - u ≤ k * v - v := by
    have := Int.mul_le_mul_of_nonneg_left h.uv (show 0 ≤ k - 1 by omega)
    rw [Int.sub_mul, Int.sub_mul] at this; omega
  have hu : 0 ≤ k * u := Int.mul_nonneg (by omega) h.u0
  have := h.ru; have := h.r0; have := h.uv
  omega
/-- What a turn is good for. -/
inductive TurnOk (X Y p q r s : Nat) (odd : Bool) : Prop
  | none (h : q = 0)
  | mk (hq : 0 < q) (hb : p ≤ 4294967296 ∧ q ≤ 4294967296 ∧ r ≤ 4294967296 ∧ s ≤ 4294967296) (x y : Nat)
    (e : odd = false → p * X = q * Y + x ∧ s * Y = r * X + y ∧ p * s = q * r + 1)
    (o : odd = true → q * Y = p * X + x ∧ r * X = s * Y + y ∧ q * r = p * s + 1)
    (h0 : 0 < y) (h1 : y < x) (h2 : x ≤ Y)
theorem TInv.done {X Y p q r s : Nat} {A0 B0 a b u v σ : Int} {odd : Bool} (hσ : σ = if odd then -1 else 1) (h : TInv X Y A0 B0 a b p q r s u v σ) : TurnOk X Y p q r s odd := by
  obtain ⟨sg, ea, eb, det, ba, b0, p0, q0, r0, s0, u0, v1, sv, uv, ru, pm, qm, rm, sm, st⟩ := h
  rcases st with ⟨-, h, -⟩ | ⟨-, h, -⟩ | ⟨q1, s1, d, y1, y2, y3⟩
  · exact .none (by omega)
  · exact .none (by omega)
  · have hp : ((p * X : Nat) : Int) = (p : Int) * X := Int.natCast_mul ..
    have hq : ((q * Y : Nat) : Int) = (q : Int) * Y := Int.natCast_mul ..
    have hr : ((r * X : Nat) : Int) = (r : Int) * X := Int.natCast_mul ..
    have hs : ((s * Y : Nat) : Int) = (s : Int) * Y := Int.natCast_mul ..
    have hps : ((p * s : Nat) : Int) = (p : Int) * s := Int.natCast_mul ..
    have hqr : ((q * r : Nat) : Int) = (q : Int) * r := Int.natCast_mul ..
    rw [← hp, ← hq, ← hr, ← hs] at *
    rw [← hps, ← hqr] at d
    cases odd
    · have : σ = 1 := by simpa using hσ
      subst this
      refine .mk (by omega) (by omega) (p * X - q * Y) (s * Y - r * X) (fun _ => by omega) (fun h => by cases h) (by omega) (by omega) (by omega)
    · have : σ = -1 := by simpa using hσ
      subst this
      refine .mk (by omega) (by omega) (q * Y - p * X) (r * X - s * Y) (fun h => by cases h) (fun _ => by omega) (by omega) (by omega) (by omega)
end Rad

/- The first bits of a number: plain arithmetic. -/
namespace Rad
theorem top_split {X low P x1 x2 H G β : Nat} (hX : X = low + P * (x2 + β * x1)) (hl : low < P) (hHG : H * G = β) (hG : 0 < G) :
    X = (x1 * H + x2 / G) * (P * G) + (low + P * (x2 % G)) ∧ low + P * (x2 % G) < P * G := by
  have e := Nat.div_add_mod x2 G
  have h1 : (x1 * H + x2 / G) * (P * G) = P * (β * x1) + P * (G * (x2 / G)) := by
    rw [Nat.add_mul, ← hHG]
    congr 1
    · simp only [Nat.mul_comm, Nat.mul_left_comm]
    · simp only [Nat.mul_comm, Nat.mul_left_comm]
  refine ⟨?_, ?_⟩
  · rw [h1, hX]
    conv => lhs; rw [← e]
    simp only [Nat.mul_add]
    omega
  · have h2 : x2 % G + 1 ≤ G := Nat.mod_lt _ hG
    have h3 := Nat.mul_le_mul_left P h2
    rw [Nat.mul_add] at h3
    omega
theorem lead_lf {X Y lx ly W x1 y1 : Nat} (hX : X = lx + W * x1) (hY : Y = ly + W * y1) (hlx : lx < W) (h : Y ≤ X) : y1 ≤ x1 := by
  refine Nat.le_of_not_lt fun h1 => ?_
  have h2 := Nat.mul_le_mul_left W (show x1 + 1 ≤ y1 from h1)
  rw [Nat.mul_add] at h2
  omega
theorem lead_lf' {X Y x0 y0 U A0 B0 : Nat} (hX : X = A0 * U + x0) (hY : Y = B0 * U + y0) (hlx : x0 < U) (h : Y ≤ X) : B0 ≤ A0 := by
  refine lead_lf (lx := x0) (ly := y0) (W := U) (X := X) (Y := Y) ?_ ?_ hlx h
  · rw [hX, Nat.mul_comm]; omega
  · rw [hY, Nat.mul_comm]; omega
theorem TInv.vs_le {X Y A0 B0 a b p q r s u v σ : Int} (h : TInv X Y A0 B0 a b p q r s u v σ) (hb : 1 ≤ b) : v + s ≤ A0 := by
  have h1 := h.cof
  have h2 := h.ba
  have h3 : v * 1 ≤ v * a := Int.mul_le_mul_of_nonneg_left (by omega) (by have := h.v1; omega)
  have h4 : s * 1 ≤ s * b := Int.mul_le_mul_of_nonneg_left (by omega) h.s0
  omega
/-- What stands ahead of a step of turnOf, in plain numbers. -/
structure TN (X Y A0 B0 a b p q r s u v : Nat) (odd : Bool) : Prop where
  inv : TInv X Y A0 B0 a b p q r s u v (if odd then -1 else 1)
  A : A0 < 18446744073709551616
  a1 : 1 ≤ a
  ex : ∃ U x0 y0 : Nat, X = A0 * U + x0 ∧ Y = B0 * U + y0 ∧ x0 < U ∧ y0 < U
theorem TN.facts {X Y A0 B0 a b p q r s u v : Nat} {odd : Bool} (h : TN X Y A0 B0 a b p q r s u v odd) : b ≤ a ∧ a < 18446744073709551616 ∧ 1 ≤ v ∧ r < 4294967297 ∧ s < 4294967297 ∧ (v ≤ b → s + v < 18446744073709551616 ∧ v < 4294967296) ∧ v < 18446744073709551616 ∧ u < 18446744073709551616 := by
  have h0 := h.inv
  have ha := h.A
  have a1 := h.a1
  have h1 := h0.ba; have h2 := h0.v1; have h3 := h0.rm; have h4 := h0.sm
  have h5 := h0.cof
  have h6 : (a : Int) * 1 ≤ a * v := Int.mul_le_mul_of_nonneg_left (by omega) (by omega)
  have h7 : 0 ≤ (s : Int) * b := Int.mul_nonneg (by omega) (by omega)
  have h9 : (v : Int) * 1 ≤ v * a := Int.mul_le_mul_of_nonneg_left (by omega) (by omega)
  rw [Int.mul_comm (a : Int) v] at h6
  have huv := h0.uv
  refine ⟨by omega, by omega, by omega, by omega, by omega, fun hv => ?_, by omega, by omega⟩
  have h8 := h0.vsmall (by omega) (by omega)
  omega
theorem TN.step {X Y A0 B0 a b p q r s u v : Nat} {odd : Bool} (h : TN X Y A0 B0 a b p q r s u v odd) (c1 : v ≤ b) (c2 : s + v ≤ a - b) :
    TN X Y A0 B0 b (a % b) r s u v (r + a / b * u) (s + a / b * v) (!odd) ∧ a / b * b ≤ a ∧ a - a / b * b = a % b ∧ a % b < b ∧ r + a / b * u < 18446744073709551616 ∧ s + a / b * v < 18446744073709551616 ∧
      a / b * u < 18446744073709551616 ∧ a / b * v < 18446744073709551616 ∧ a / b < 18446744073709551616 := by
  have hff := h.facts
  obtain ⟨inv, A, a1, U, x0, y0, hX, hY, hx, hy⟩ := h
  have hv1 := inv.v1
  have hba := inv.ba
  have hb0 : 0 < b := by omega
  obtain ⟨k, hk⟩ : ∃ k, a / b = k := ⟨_, rfl⟩
  have hk' : (k : Int) = (a : Int) / (b : Int) := by rw [← hk]; exact Int.natCast_ediv a b
  have hs := inv.step (U := U) (x0 := x0) (y0 := y0) (k := k) (by omega) (by rw [hX]; simp) (by rw [hY]; simp) (by omega) (by omega) (by omega) (by omega) (by omega) (by omega) hk'
  have hf := inv.fits2 (k := k) (by omega) hk'
  have hdm := Nat.div_add_mod a b
  have hml := Nat.mod_lt a hb0
  rw [hk, Nat.mul_comm] at hdm
  have c1 : ((k * u : Nat) : Int) = (k : Int) * u := Int.natCast_mul ..
  have c2 : ((k * v : Nat) : Int) = (k : Int) * v := Int.natCast_mul ..
  have c3 : ((k * b : Nat) : Int) = (k : Int) * b := Int.natCast_mul ..
  rw [← c1, ← c2, ← c3] at hf
  rw [← c1, ← c2, ← c3] at hs
  have hkk : k ≤ k * b := Nat.le_mul_of_pos_right k hb0
  have e1 : ((a % b : Nat) : Int) = (a : Int) - ((k * b : Nat) : Int) := by omega
  have e2 : ((r + k * u : Nat) : Int) = (r : Int) + ((k * u : Nat) : Int) := by omega
  have e3 : ((s + k * v : Nat) : Int) = (s : Int) + ((k * v : Nat) : Int) := by omega
  rw [hk]
  refine ⟨⟨?_, A, hb0, U, x0, y0, hX, hY, hx, hy⟩, by omega, by omega, hml, by omega, by omega, by omega, by omega, by omega⟩
  rw [e1, e2, e3]
  have e4 : (if (!odd) = true then -1 else 1 : Int) = -(if odd = true then -1 else 1 : Int) := by cases odd <;> rfl
  rw [e4]
  exact hs
theorem TN.done {X Y A0 B0 a b p q r s u v : Nat} {odd : Bool} (h : TN X Y A0 B0 a b p q r s u v odd) : TurnOk X Y p q r s odd := h.inv.done rfl
theorem TN.start {X Y A0 B0 U x0 y0 : Nat} (hX : X = A0 * U + x0) (hY : Y = B0 * U + y0) (hx : x0 < U) (hy : y0 < U) (h : Y ≤ X) (hA : A0 < 18446744073709551616) (h0 : 0 < A0) :
    TN X Y A0 B0 A0 B0 0 0 1 0 0 1 true :=
  ⟨TInv.start (by have := lead_lf' hX hY hx h; omega) (by omega), hA, h0, U, x0, y0, hX, hY, hx, hy⟩
end Rad
