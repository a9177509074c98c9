/- A part of the proof: Pr3. -/
import Derived.Test.YtffdemplaodbcaaDoorP04
set_option linter.all false
/- What the reckonings of Pr2 mean for primes above 2^15, and below. -/
namespace Rad

theorem fall_dvd {a r : Nat} (hr : Nat.gcd r 210 = 1) : ∀ k, a ≤ r → r < a + k → r ∣ fall a k
  | 0, h1, h2 => by omega
  | k + 1, h1, h2 => by
    have e : fall a (k + 1) = fall a k * cond (Nat.beq (Nat.gcd (a + k) 210) 1) (a + k) 1 := rfl
    rw [e]
    rcases Nat.eq_or_lt_of_le (show r ≤ a + k by omega) with h3 | h3
    · rw [← h3, hr]; exact Nat.dvd_mul_left _ _
    · exact Nat.dvd_trans (fall_dvd hr k h1 h3) (Nat.dvd_mul_right _ _)
theorem fall_prm {p a : Nat} (hp : Prm p) (ha : 0 < a) : ∀ k, p ∣ fall a k → p < a + k
  | 0, h => by
    have := Nat.le_of_dvd (by decide) (show p ∣ 1 from h)
    have := hp.two; omega
  | k + 1, h => by
    have e : fall a (k + 1) = fall a k * cond (Nat.beq (Nat.gcd (a + k) 210) 1) (a + k) 1 := rfl
    rw [e] at h
    rcases hp.mul h with h1 | h1
    · have := fall_prm hp ha k h1; omega
    · cases hb : Nat.beq (Nat.gcd (a + k) 210) 1 with
      | true => rw [hb, cond_true] at h1; have := Nat.le_of_dvd (by omega) h1; omega
      | false => rw [hb, cond_false] at h1; have := Nat.le_of_dvd (by decide) h1; have := hp.two; omega
theorem facB_dvd {r : Nat} (hr : Nat.gcd r 210 = 1) (h0 : 1 ≤ r) : ∀ k, r ≤ 256 * k → r ∣ facB k
  | 0, h => by omega
  | k + 1, h => by
    have e : facB (k + 1) = facB k * fall (256 * k + 1) 256 := rfl
    rw [e]
    rcases Nat.lt_or_ge (256 * k) r with h3 | h3
    · exact Nat.dvd_trans (fall_dvd hr 256 (by omega) (by omega)) (Nat.dvd_mul_left _ _)
    · exact Nat.dvd_trans (facB_dvd hr h0 k h3) (Nat.dvd_mul_right _ _)
theorem facB_prm {p : Nat} (hp : Prm p) : ∀ k, p ∣ facB k → p ≤ 256 * k
  | 0, h => by
    have := Nat.le_of_dvd (by decide) (show p ∣ 1 from h)
    have := hp.two; omega
  | k + 1, h => by
    have e : facB (k + 1) = facB k * fall (256 * k + 1) 256 := rfl
    rw [e] at h
    rcases hp.mul h with h1 | h1
    · have := facB_prm hp k h1; omega
    · have := fall_prm hp (by omega) 256 h1; omega
theorem facM_eq (k : Nat) : facM k = 210 * k := rfl
theorem fac_eq : fac = 210 * facB 128 := by unfold fac; rw [facM_eq]
theorem prm_two : Prm 2 := by
  refine ⟨by decide, fun d hd => ?_⟩
  have h1 := Nat.le_of_dvd (by decide) hd
  have h2 : d ≠ 0 := fun h0 => by
    rw [h0] at hd
    have := Nat.eq_zero_of_zero_dvd hd
    omega
  omega
theorem fac_dvd {r : Nat} (hp : Prm r) (h : r ≤ 32768) : r ∣ fac := by
  rw [fac_eq]
  rcases hp.2 _ (Nat.gcd_dvd_left r 210) with h1 | h1
  · exact Nat.dvd_trans (facB_dvd h1 (by have := hp.two; omega) 128 (by omega)) (Nat.dvd_mul_left _ _)
  · exact Nat.dvd_trans (h1 ▸ Nat.gcd_dvd_right r 210) (Nat.dvd_mul_right _ _)
theorem fac_not {p : Nat} (hp : Prm p) (h : 32768 < p) : ¬ p ∣ fac := by
  intro hd
  rw [fac_eq] at hd
  rcases hp.mul hd with h1 | h1
  · have := Nat.le_of_dvd (by decide) h1; omega
  · have := facB_prm hp 128 h1; omega
theorem one_dvd {p a c : Nat} (hp : 2 ≤ p) (h : a ^ c % p = 1) : p ∣ a ^ c - 1 :=
  Nat.dvd_of_mod_eq_zero (Nat.sub_mod_eq_zero_of_mod_eq (h.trans (Nat.mod_eq_of_lt (by omega)).symm))
theorem gA_dvd {p c : Nat} (hp : 2 ≤ p) (h2 : 2 ^ c % p = 1) (h3 : 3 ^ c % p = 1) (h5 : 5 ^ c % p = 1) (h7 : 7 ^ c % p = 1) : p ∣ gA c := by
  have g1 : p ∣ Nat.gcd (2 ^ c - 1) (3 ^ c - 1) := Nat.dvd_gcd (one_dvd hp h2) (one_dvd hp h3)
  have g2 : p ∣ Nat.gcd (Nat.gcd (2 ^ c - 1) (3 ^ c - 1)) ((5 ^ c - 1) % Nat.gcd (2 ^ c - 1) (3 ^ c - 1)) := Nat.dvd_gcd g1 ((Nat.dvd_mod_iff g1).2 (one_dvd hp h5))
  exact Nat.dvd_gcd g2 ((Nat.dvd_mod_iff g2).2 (one_dvd hp h7))
theorem strip_dvd {p F : Nat} (hp : Prm p) (hF : ¬ p ∣ F) : ∀ f g, p ∣ g → p ∣ strip F f g
  | 0, g, h => h
  | f + 1, g, h => by
    have e : strip F (f + 1) g = cond (Nat.beq (Nat.gcd g (F % g)) 1) g (strip F f (g / Nat.gcd g (F % g))) := rfl
    rw [e]
    cases hb : Nat.beq (Nat.gcd g (F % g)) 1 with
    | true => exact h
    | false =>
      rw [cond_false]
      refine strip_dvd hp hF f _ ?_
      have h1 : Nat.gcd g (F % g) ∣ g := Nat.gcd_dvd_left _ _
      have h2 : Nat.gcd g (F % g) * (g / Nat.gcd g (F % g)) = g := Nat.mul_div_cancel' h1
      rw [← h2] at h
      rcases hp.mul h with h3 | h3
      · exact absurd (Nat.dvd_trans h3 ((Nat.dvd_mod_iff h1).1 (Nat.gcd_dvd_right _ _))) hF
      · exact h3
theorem okR_at {m r a : Nat} : ∀ k i, okR m r a k = true → i < k → (a + i) ∣ r → fails (m * (a + i)) = true
  | 0, i, _, h, _ => by omega
  | k + 1, i, h, hi, hd => by
    have e : cond (Nat.beq (r % (a + k)) 0) (cond (fails (m * (a + k))) (okR m r a k) false) (okR m r a k) = true := h
    have hk : okR m r a k = true := by
      cases hb : Nat.beq (r % (a + k)) 0 with
      | true => rw [hb, cond_true] at e; exact (cond_yes e rfl).2
      | false => rw [hb, cond_false] at e; exact e
    rcases Nat.eq_or_lt_of_le (show i ≤ k by omega) with h1 | h1
    · subst h1
      rw [beq_yes (Nat.mod_eq_zero_of_dvd hd), cond_true] at e
      exact (cond_yes e rfl).1
    · exact okR_at k i hk h1 hd
theorem okB_at {m r a : Nat} : ∀ k i, okB m r a k = true → i < 256 * k → (a + i) ∣ r → fails (m * (a + i)) = true
  | 0, i, _, h, _ => by omega
  | k + 1, i, h, hi, hd => by
    have e : cond (okR m r (a + 256 * k) 256) (okB m r a k) false = true := h
    obtain ⟨h1, h2⟩ := cond_yes e rfl
    rcases Nat.lt_or_ge i (256 * k) with h3 | h3
    · exact okB_at k i h2 h3 hd
    · have e2 : a + i = a + 256 * k + (i - 256 * k) := by omega
      rw [e2] at hd ⊢
      exact okR_at 256 _ h1 (by omega) hd
theorem okC_at {m r p : Nat} (h : okC fac m r = true) (hp : Prm p) (hb : 32768 < p) (hd : p ∣ r) (hm : 0 < m) (hL : m * p ≤ 1073741824) : fails (m * p) = true := by
  have e : cond (Nat.beq (Nat.gcd r (fac % r)) 1) (cond (Nat.beq r 1) true (cond (Nat.ble 1073741824 r) (okB m r 32769 (1073741824 / m / 256)) (cond (Nat.ble (m * r) 1073741824) (fails (m * r)) true))) false = true := h
  obtain ⟨h1, h2⟩ := cond_yes e rfl
  have hq : ∀ q, Prm q → q ∣ r → 32768 < q := by
    intro q hq hqr
    rcases Nat.lt_or_ge 32768 q with h3 | h3
    · exact h3
    · exfalso
      have h4 : q ∣ Nat.gcd r (fac % r) := Nat.dvd_gcd hqr ((Nat.dvd_mod_iff hqr).2 (fac_dvd hq h3))
      rw [Nat.eq_of_beq_eq_true h1] at h4
      have := Nat.le_of_dvd (by decide) h4
      have := hq.two; omega
  have hr1 : r ≠ 1 := fun h3 => by rw [h3] at hd; have := Nat.le_of_dvd (by decide) hd; omega
  rw [beq_no hr1, cond_false] at h2
  obtain ⟨k, hk⟩ := hd
  have hk0 : 0 < k := Nat.pos_of_ne_zero fun h3 => by
    rw [h3, Nat.mul_zero] at hk
    have := hq 2 prm_two (hk ▸ Nat.dvd_zero 2)
    omega
  cases hc : Nat.ble 1073741824 r with
  | true =>
    rw [hc, cond_true] at h2
    have h3 : p ≤ 1073741824 / m := (Nat.le_div_iff_mul_le hm).2 (by rw [Nat.mul_comm]; exact hL)
    have h4 := okB_at _ (p - 32769) h2 (by have := Nat.div_add_mod (1073741824 / m) 256; have := Nat.mod_lt (1073741824 / m) (show 256 > 0 by decide); omega) (by rw [show 32769 + (p - 32769) = p by omega]; exact ⟨k, hk⟩)
    rw [show 32769 + (p - 32769) = p by omega] at h4
    exact h4
  | false =>
    rw [hc, cond_false] at h2
    have hr : r < 1073741824 := by
      rcases Nat.lt_or_ge r 1073741824 with h3 | h3
      · exact h3
      · rw [Nat.ble_eq_true_of_le h3] at hc; cases hc
    have hk1 : k = 1 := by
      rcases Nat.lt_or_ge k 2 with h3 | h3
      · omega
      · exfalso
        obtain ⟨q, hq1, hq2⟩ := exists_prm k h3
        have h4 := hq q hq1 (by rw [hk]; exact Nat.dvd_trans hq2 (Nat.dvd_mul_left k p))
        have h5 := Nat.le_of_dvd hk0 hq2
        have h6 : 32769 * 32769 ≤ p * k := Nat.mul_le_mul (by omega) (by omega)
        omega
    have hrp : r = p := by rw [hk, hk1, Nat.mul_one]
    rw [hrp, Nat.ble_eq_true_of_le hL, cond_true] at h2
    exact h2
theorem allA_at {F c : Nat} : ∀ k j, allA F c k = true → j < k → okA F (c + 2 * j) = true
  | 0, j, _, h => by omega
  | k + 1, j, h, hj => by
    have e : cond (okA F (c + 2 * k)) (allA F c k) false = true := h
    obtain ⟨h1, h2⟩ := cond_yes e rfl
    rcases Nat.eq_or_lt_of_le (show j ≤ k by omega) with h3 | h3
    · subst h3; exact h1
    · exact allA_at k j h2 h3
/-- Primes above 2^15. -/
theorem okA_at {c p : Nat} (h : okA fac c = true) (hg : Nat.gcd (c + 1) 105 = 1) (hp : Prm p) (hb : 32768 < p) (hL : (c + 1) * p ≤ 1073741824)
    (h2 : 2 ^ c % p = 1) (h3 : 3 ^ c % p = 1) (h5 : 5 ^ c % p = 1) (h7 : 7 ^ c % p = 1) : fails ((c + 1) * p) = true := by
  have e : cond (Nat.beq (Nat.gcd (c + 1) 105) 1) (okC fac (c + 1) (strip fac 40 (gA c))) true = true := h
  rw [hg, show Nat.beq 1 1 = true from rfl, cond_true] at e
  exact okC_at e hp hb (strip_dvd hp (fac_not hp hb) 40 _ (gA_dvd hp.two h2 h3 h5 h7)) (by omega) hL

/-! Primes up to 2^15: their classes -/
def ascf : Nat → List Nat → Bool
  | _, [] => true
  | b, x :: xs => cond (Nat.ble b x) (ascf x xs) false
theorem ascf_at : ∀ (l : List Nat) (b : Nat), ascf b l = true → (∀ x ∈ l, b ≤ x) ∧ List.Pairwise (· ≤ ·) l
  | [], b, _ => ⟨fun x hx => absurd hx List.not_mem_nil, .nil⟩
  | y :: l, b, h => by
    have e : cond (Nat.ble b y) (ascf y l) false = true := h
    obtain ⟨h1, h2⟩ := cond_yes e rfl
    obtain ⟨h3, h4⟩ := ascf_at l y h2
    have h5 := Nat.le_of_ble_eq_true h1
    refine ⟨fun x hx => ?_, List.pairwise_cons.2 ⟨h3, h4⟩⟩
    rcases List.mem_cons.1 hx with h6 | h6
    · omega
    · have := h3 x h6; omega
def look (s : Nat) : List (Nat × List Nat) → List Nat
  | [] => []
  | (k, v) :: t => cond (Nat.beq k s) v (look s t)
def memb (q : Nat) : List Nat → Bool
  | [] => false
  | x :: xs => cond (Nat.beq x q) true (memb q xs)
theorem memb_at {q : Nat} : ∀ l, memb q l = true → q ∈ l
  | [], h => Bool.noConfusion h
  | x :: xs, h => by
    have e : cond (Nat.beq x q) true (memb q xs) = true := h
    cases hb : Nat.beq x q with
    | true => rw [Nat.eq_of_beq_eq_true hb]; exact List.mem_cons_self
    | false => rw [hb, cond_false] at e; exact List.mem_cons_of_mem _ (memb_at xs e)
def comp (q : Nat) : List Nat → Bool
  | [] => false
  | d :: ds => cond (Nat.ble q d) false (cond (Nat.beq (Nat.mod q d) 0) true (comp q ds))
theorem comp_at {q : Nat} (hq : Prm q) : ∀ l, (∀ x ∈ l, 2 ≤ x) → comp q l = false
  | [], _ => rfl
  | d :: ds, h => by
    show cond (Nat.ble q d) false (cond (Nat.beq (q % d) 0) true (comp q ds)) = false
    have hd := h d List.mem_cons_self
    cases hb : Nat.ble q d with
    | true => rfl
    | false =>
      rw [cond_false]
      have h1 : q % d ≠ 0 := fun h2 => by
        rcases hq.2 d (Nat.dvd_of_mod_eq_zero h2) with h3 | h3
        · omega
        · rw [← h3, Nat.ble_eq_true_of_le (Nat.le_refl d)] at hb; cases hb
      rw [beq_no h1, cond_false]
      exact comp_at hq ds fun x hx => h x (List.mem_cons_of_mem _ hx)
def smalls : List Nat := [3, 5, 7, 11, 13, 17, 19, 23, 29, 31, 37, 41, 43, 47, 53, 59, 61, 67, 71, 73, 79, 83, 89, 97, 101, 103, 107, 109, 113, 127, 131, 137, 139, 149, 151, 157, 163, 167, 173, 179, 181]
def cov (T : List (Nat × List Nat)) (q : Nat) : Bool := cond (comp q smalls) true (memb q (look (sig q) T))
def covR (T : List (Nat × List Nat)) (a : Nat) : Nat → Bool
  | 0 => true
  | k + 1 => cond (cov T (Nat.add a (Nat.mul 2 k))) (covR T a k) false
theorem covR_at {T : List (Nat × List Nat)} {a : Nat} : ∀ k j, covR T a k = true → j < k → cov T (a + 2 * j) = true
  | 0, j, _, h => by omega
  | k + 1, j, h, hj => by
    have e : cond (cov T (a + 2 * k)) (covR T a k) false = true := h
    obtain ⟨h1, h2⟩ := cond_yes e rfl
    rcases Nat.eq_or_lt_of_le (show j ≤ k by omega) with h3 | h3
    · subst h3; exact h1
    · exact covR_at k j h2 h3
theorem cov_at {T : List (Nat × List Nat)} {q : Nat} (h : cov T q = true) (hq : Prm q) : q ∈ look (sig q) T := by
  have e : cond (comp q smalls) true (memb q (look (sig q) T)) = true := h
  rw [comp_at hq smalls (by decide), cond_false] at e
  exact memb_at _ e
def goT : List (Nat × List Nat) → Bool
  | [] => true
  | (_, v) :: t => cond (ascf 2 v) (cond (go v 1 0) (goT t) false) false
theorem goT_at {s : Nat} : ∀ T, goT T = true → (look s T = [] ∨ ascf 2 (look s T) = true ∧ go (look s T) 1 0 = true)
  | [], _ => .inl rfl
  | (k, v) :: t, h => by
    have e : cond (ascf 2 v) (cond (go v 1 0) (goT t) false) false = true := h
    obtain ⟨h1, h2⟩ := cond_yes e rfl
    obtain ⟨h3, h4⟩ := cond_yes h2 rfl
    have e2 : look s ((k, v) :: t) = cond (Nat.beq k s) v (look s t) := rfl
    rw [e2]
    cases Nat.beq k s with
    | true => exact .inr ⟨h1, h3⟩
    | false => exact goT_at t h4
theorem goT_append : ∀ S T, goT S = true → goT T = true → goT (S ++ T) = true
  | [], T, _, h => h
  | (k, v) :: S, T, h, ht => by
    have e : cond (ascf 2 v) (cond (go v 1 0) (goT S) false) false = true := h
    obtain ⟨h1, h2⟩ := cond_yes e rfl
    obtain ⟨h3, h4⟩ := cond_yes h2 rfl
    show cond (ascf 2 v) (cond (go v 1 0) (goT (S ++ T)) false) false = true
    rw [h1, h3, goT_append S T h4 ht]; rfl
/-- Four bases tell primes up to 2^30. -/
theorem miller_of {T : List (Nat × List Nat)} (hT : goT T = true) (hcov : ∀ q, Prm q → 7 < q → q ≤ 32768 → q ∈ look (sig q) T) (hA : ∀ c, 10 ≤ c → c < 32768 → c % 2 = 0 → okA fac c = true)
    {n : Nat} (hn : 7 < n) (hL : n ≤ 1073741824) (n2 : ¬ 2 ∣ n) (n3 : ¬ 3 ∣ n) (n5 : ¬ 5 ∣ n) (n7 : ¬ 7 ∣ n) (s2 : SP n 2) (s3 : SP n 3) (s5 : SP n 5) (s7 : SP n 7) : Prm n := by
  refine Classical.byContradiction fun hnp => ?_
  have hq7 : ∀ q, Prm q → q ∣ n → 7 < q := by
    intro q hq hd
    have h2 := hq.two
    rcases Nat.lt_or_ge 7 q with h | h
    · exact h
    · exfalso
      have h4 : q ≠ 4 := fun e => by rw [e] at hd; exact n2 (Nat.dvd_trans (by decide) hd)
      have h6 : q ≠ 6 := fun e => by rw [e] at hd; exact n2 (Nat.dvd_trans (by decide) hd)
      have e2 : q ≠ 2 := fun e => n2 (e ▸ hd)
      have e3 : q ≠ 3 := fun e => n3 (e ▸ hd)
      have e5 : q ≠ 5 := fun e => n5 (e ▸ hd)
      have e7 : q ≠ 7 := fun e => n7 (e ▸ hd)
      omega
  have hnd : ∀ q a, 7 < q → 0 < a → a ≤ 7 → ¬ q ∣ a := fun q a h1 h2 h3 h4 => by have := Nat.le_of_dvd h2 h4; omega
  by_cases hbig : ∃ p, Prm p ∧ p ∣ n ∧ 32768 < p
  · obtain ⟨p, hp, ⟨m, hm⟩, hb⟩ := hbig
    have hm0 : m ≠ 0 := fun e => by rw [e] at hm; omega
    have hm1 : m ≠ 1 := fun e => by rw [e, Nat.mul_one] at hm; exact hnp (hm ▸ hp)
    have hmd : m ∣ n := ⟨p, by rw [hm, Nat.mul_comm]⟩
    have hmL : m < 32768 := by
      rcases Nat.lt_or_ge m 32768 with h | h
      · exact h
      · have : 32769 * 32768 ≤ p * m := Nat.mul_le_mul (by omega) h
        omega
    obtain ⟨c, rfl⟩ : ∃ c, m = c + 1 := ⟨m - 1, by omega⟩
    have hodd : c % 2 = 0 := by
      rcases Nat.mod_two_eq_zero_or_one c with h | h
      · exact h
      · exact absurd (Nat.dvd_trans (Nat.dvd_of_mod_eq_zero (by omega)) hmd) n2
    have hc10 : 10 ≤ c := by
      obtain ⟨q, hq, hqd⟩ := exists_prm (c + 1) (by omega)
      have h1 := hq7 q hq (Nat.dvd_trans hqd hmd)
      have h2 := Nat.le_of_dvd (by omega) hqd
      have h8 : c ≠ 8 := fun e => by
        rw [e] at hmd; exact n3 (Nat.dvd_trans (by decide) hmd)
      omega
    have hg : Nat.gcd (c + 1) 105 = 1 := by
      rcases Nat.lt_or_ge (Nat.gcd (c + 1) 105) 2 with h | h
      · have : Nat.gcd (c + 1) 105 ≠ 0 := fun e => by have := Nat.eq_zero_of_gcd_eq_zero_right e; omega
        omega
      · obtain ⟨q, hq, hqd⟩ := exists_prm _ h
        have h1 := hq7 q hq (Nat.dvd_trans (Nat.dvd_trans hqd (Nat.gcd_dvd_left _ _)) hmd)
        have h2 : q ∣ 3 * (5 * 7) := Nat.dvd_trans hqd (Nat.gcd_dvd_right _ _)
        rcases hq.mul h2 with h3 | h3
        · have := Nat.le_of_dvd (by decide) h3; omega
        · rcases hq.mul h3 with h4 | h4
          · have := Nat.le_of_dvd (by decide) h4; omega
          · have := Nat.le_of_dvd (by decide) h4; omega
    have hpw : ∀ a, SP n a → 0 < a → a ≤ 7 → a ^ c % p = 1 := by
      intro a hs ha0 ha7
      have h1 := (sp_of (by omega) hL hs).2
      have h2 : a ^ (n - 1) % p = 1 := by
        have := mod_dvd (p := p) (n := n) ⟨c + 1, hm⟩ (h1.trans (Nat.mod_eq_of_lt (show 1 < n by omega)).symm)
        rw [this]; exact Nat.mod_eq_of_lt (by omega)
      have h3 := fermat1 hp (hnd p a (by omega) ha0 ha7)
      have h4 := pw_add (pw_mul hp.two h3 (c + 1)) c
      have e : (p - 1) * (c + 1) + c = n - 1 := by
        obtain ⟨r, rfl⟩ : ∃ r, p = r + 1 := ⟨p - 1, by omega⟩
        rw [hm, Nat.add_sub_cancel, Nat.add_mul r 1, Nat.one_mul]; omega
      rw [e] at h4
      rw [← h4]; exact h2
    have h9 := okA_at (hA c hc10 (by omega) hodd) hg hp hb (by rw [Nat.mul_comm, ← hm]; exact hL) (hpw 2 s2 (by decide) (by decide)) (hpw 3 s3 (by decide) (by decide)) (hpw 5 s5 (by decide) (by decide)) (hpw 7 s7 (by decide) (by decide))
    rw [Nat.mul_comm, ← hm] at h9
    exact fails_not (by omega) hL h9 ⟨s2, s3, s5, s7⟩
  · have hsm : ∀ q, Prm q → q ∣ n → q ≤ 32768 := fun q hq hd => Nat.le_of_not_lt fun h => hbig ⟨q, hq, hd, h⟩
    obtain ⟨j2, l2⟩ := s2.level (by omega)
    obtain ⟨j3, l3⟩ := s3.level (by omega)
    obtain ⟨j5, l5⟩ := s5.level (by omega)
    obtain ⟨j7, l7⟩ := s7.level (by omega)
    obtain ⟨s, hs⟩ : ∃ s, s = j2 + 16 * (j3 + 16 * (j5 + 16 * j7)) := ⟨_, rfl⟩
    have hsig : ∀ q, Prm q → q ∣ n → sig q = s := by
      intro q hq hd
      have h7 := hq7 q hq hd
      have hle := hsm q hq hd
      have e : sig q = lev q 2 + 16 * (lev q 3 + 16 * (lev q 5 + 16 * lev q 7)) := rfl
      rw [e, lev_eq hq.two (by omega) (l2 q hq hd (by omega) (hnd q 2 h7 (by decide) (by decide))), lev_eq hq.two (by omega) (l3 q hq hd (by omega) (hnd q 3 h7 (by decide) (by decide))),
        lev_eq hq.two (by omega) (l5 q hq hd (by omega) (hnd q 5 h7 (by decide) (by decide))), lev_eq hq.two (by omega) (l7 q hq hd (by omega) (hnd q 7 h7 (by decide) (by decide))), hs]
    have hin : ∀ q, Prm q → q ∣ n → q ∈ look s T := fun q hq hd => hsig q hq hd ▸ hcov q hq (hq7 q hq hd) (hsm q hq hd)
    obtain ⟨c, hc⟩ := prods_of _ n (by omega) hin
    have hc2 : 2 ≤ c := by
      rcases Nat.lt_or_ge c 2 with h | h
      · exfalso
        rcases (show c = 0 ∨ c = 1 by omega) with h0 | h0
        · have := hc.zero h0; omega
        · exact hnp (hc.one h0)
      · exact h
    rcases goT_at (s := s) T hT with h1 | ⟨h1, h2⟩
    · rw [h1] at hc
      cases hc
      omega
    · obtain ⟨h3, h4⟩ := ascf_at _ 2 h1
      have h5 := go_at _ 1 0 h2 h4 h3 (by decide) n c hc (by omega) (by omega)
      rw [Nat.one_mul] at h5
      exact fails_not (by omega) hL h5 ⟨s2, s3, s5, s7⟩
end Rad
