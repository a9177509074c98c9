/- A part of the proof: Tx, Tx2, Pm1, Mem. -/
import Derived.Lib.ItoaMem
import Derived.Lib.AtoiAll
import Derived.Lib.ParseIntB
import Derived.WalkKit
set_option linter.all false

/- Texts of numbers: plain lists of bytes. -/
namespace Rad
open Go

abbrev IsDg (b : UInt8) : Prop := 48 ≤ b.toNat ∧ b.toNat ≤ 57
/-- How many digits a text begins with. -/
def runD : List UInt8 → Nat
  | [] => 0
  | b :: r => if IsDg b then runD r + 1 else 0
/-- The number that digits make. -/
def dvalF (acc : Nat) (l : List UInt8) : Nat := l.foldl (fun a b => a * 10 + (b.toNat - 48)) acc
def dval (l : List UInt8) : Nat := dvalF 0 l
/-- The length of the longest beginning with which some number begins. -/
def wlen : List UInt8 → Nat
  | [] => 0
  | b :: r => if b = 45 then 1 + (if r.head? = some 48 then 0 else runD r) else if b = 48 then 1 else runD (b :: r)
/-- The digits of a number's text. -/
def digs : List UInt8 → List UInt8
  | [] => []
  | b :: r => if b = 45 then r else b :: r
/-- A number's text. -/
abbrev Valid (l : List UInt8) : Prop := wlen l = l.length ∧ digs l ≠ []
/-- The number that a text tells. -/
def val (l : List UInt8) : Int := if l.head? = some 45 then -(dval (digs l) : Int) else (dval (digs l) : Int)

theorem runD_le : ∀ l, runD l ≤ l.length
  | [] => Nat.le_refl _
  | b :: r => by unfold runD; have := runD_le r; split <;> simp <;> omega
theorem runD_all : ∀ {l : List UInt8}, runD l = l.length → ∀ b ∈ l, IsDg b
  | [], _, b, hb => by simp at hb
  | c :: r, h, b, hb => by
    unfold runD at h
    split at h
    · rename_i hc
      rcases List.mem_cons.1 hb with rfl | h1
      · exact hc
      · exact runD_all (by simpa using h) b h1
    · simp at h
theorem runD_of_all : ∀ {l : List UInt8}, (∀ b ∈ l, IsDg b) → runD l = l.length
  | [], _ => rfl
  | c :: r, h => by
    unfold runD
    rw [if_pos (h c List.mem_cons_self), runD_of_all fun b hb => h b (List.mem_cons_of_mem _ hb)]
    rfl
theorem runD_at : ∀ {l : List UInt8} {i : Nat} (h : i < l.length), i < runD l → IsDg l[i]
  | b :: r, i, h, hi => by
    by_cases hb : IsDg b
    · have e : runD (b :: r) = runD r + 1 := by rw [runD, if_pos hb]
      rw [e] at hi
      cases i with
      | zero => exact hb
      | succ i => exact runD_at (l := r) (by simpa using h) (by omega)
    · have e : runD (b :: r) = 0 := by rw [runD, if_neg hb]
      omega
theorem runD_stop : ∀ {l : List UInt8} (h : runD l < l.length), ¬ IsDg l[runD l]
  | b :: r, h => by
    by_cases hb : IsDg b
    · have e : runD (b :: r) = runD r + 1 := by rw [runD, if_pos hb]
      simp only [e] at h ⊢
      exact runD_stop (l := r) (by simpa using h)
    · have e : runD (b :: r) = 0 := by rw [runD, if_neg hb]
      simp only [e]
      exact hb
/-- The run, by its places. -/
theorem runD_eq {l : List UInt8} {n : Nat} (hn : n ≤ l.length) (h1 : ∀ i (h : i < l.length), i < n → IsDg l[i]) (h2 : ∀ (h : n < l.length), ¬ IsDg l[n]) : runD l = n := by
  rcases Nat.lt_trichotomy (runD l) n with h | h | h
  · exact absurd (h1 (runD l) (by omega) h) (runD_stop (by omega))
  · exact h
  · have := runD_le l
    exact absurd (runD_at (by omega) h) (h2 (by omega))

theorem dvalF_append (acc : Nat) (l m : List UInt8) : dvalF acc (l ++ m) = dvalF (dvalF acc l) m := by unfold dvalF; rw [List.foldl_append]
theorem dvalF_acc (acc : Nat) (l : List UInt8) : dvalF acc l = acc * 10 ^ l.length + dval l := by
  induction l generalizing acc with
  | nil => simp [dvalF, dval]
  | cons b r ih =>
    have e1 : dvalF acc (b :: r) = dvalF (acc * 10 + (b.toNat - 48)) r := rfl
    have e2 : dval (b :: r) = dvalF (0 * 10 + (b.toNat - 48)) r := rfl
    rw [e1, e2, ih, ih (0 * 10 + (b.toNat - 48)), List.length_cons, Nat.pow_succ, Nat.add_mul, Nat.zero_mul, Nat.zero_add, Nat.mul_assoc, Nat.mul_comm 10]
    omega
theorem dval_append (l m : List UInt8) : dval (l ++ m) = dval l * 10 ^ m.length + dval m := by
  show dvalF 0 (l ++ m) = _
  rw [dvalF_append, dvalF_acc]; rfl
theorem dval_cons (b : UInt8) (r : List UInt8) : dval (b :: r) = (b.toNat - 48) * 10 ^ r.length + dval r := by
  have : dval (b :: r) = dvalF (0 * 10 + (b.toNat - 48)) r := rfl
  rw [this, dvalF_acc]; simp
theorem dval_lt : ∀ {l : List UInt8}, (∀ b ∈ l, IsDg b) → dval l < 10 ^ l.length
  | [], _ => by decide
  | b :: r, h => by
    have h1 := dval_lt fun c hc => h c (List.mem_cons_of_mem _ hc)
    have h2 := h b List.mem_cons_self
    rw [dval_cons, List.length_cons, Nat.pow_succ]
    have h3 : (b.toNat - 48) * 10 ^ r.length ≤ 9 * 10 ^ r.length := Nat.mul_le_mul_right _ (by unfold IsDg at h2; omega)
    omega
theorem dval_ge {b : UInt8} {r : List UInt8} (hb : IsDg b) (h0 : b ≠ 48) : 10 ^ r.length ≤ dval (b :: r) := by
  rw [dval_cons]
  have h1 : 1 ≤ b.toNat - 48 := by
    unfold IsDg at hb
    have : b.toNat ≠ 48 := fun h => h0 (UInt8.toNat_inj.1 h)
    omega
  have := Nat.mul_le_mul_right (10 ^ r.length) h1
  omega
theorem decDigits_snoc {l : List UInt8} {b : UInt8} (h : Lib.decDigits (dval l) = l) (hp : 0 < dval l) (hb : IsDg b) : Lib.decDigits (dval (l ++ [b])) = l ++ [b] := by
  have e : dval (l ++ [b]) = dval l * 10 + (b.toNat - 48) := by rw [dval_append, dval_cons]; simp [dval, dvalF]
  unfold IsDg at hb
  rw [e, Lib.decDigits, dif_neg (by omega), show (dval l * 10 + (b.toNat - 48)) / 10 = dval l by omega, show (dval l * 10 + (b.toNat - 48)) % 10 = b.toNat - 48 by omega, h, show 48 + (b.toNat - 48) = b.toNat by omega]
  simp
/-- Digits, the first not 0, are the numeral of their number. -/
theorem decDigits_dval {b : UInt8} {r : List UInt8} (h0 : b ≠ 48) (h : ∀ c ∈ b :: r, IsDg c) : Lib.decDigits (dval (b :: r)) = b :: r := by
  have key : ∀ n (m : List UInt8), m.length = n → (∀ c ∈ m, IsDg c) → Lib.decDigits (dval (b :: m)) = b :: m := by
    intro n
    induction n with
    | zero =>
      intro m hm _
      obtain rfl := List.length_eq_zero_iff.1 hm
      have hb := h b List.mem_cons_self
      unfold IsDg at hb
      have e : dval [b] = b.toNat - 48 := by rw [dval_cons]; simp [dval, dvalF]
      rw [e, Lib.decDigits, dif_pos (by omega), show 48 + (b.toNat - 48) = b.toNat by omega]
      simp
    | succ n ih =>
      intro m hm hall
      have hne : m ≠ [] := by intro e; rw [e] at hm; simp at hm
      have hsplit := List.dropLast_concat_getLast hne
      have h1 := ih m.dropLast (by rw [List.length_dropLast]; omega) (fun c hc => hall c (List.dropLast_subset _ hc))
      rw [← hsplit, ← List.cons_append]
      refine decDigits_snoc h1 ?_ (hall _ (List.getLast_mem hne))
      exact Nat.lt_of_lt_of_le (Nat.pow_pos (by decide)) (dval_ge (h b List.mem_cons_self) h0)
  exact key _ r rfl fun c hc => h c (List.mem_cons_of_mem _ hc)
theorem parseUint10_digits : ∀ (l : List UInt8) (acc : Nat), (∀ b ∈ l, IsDg b) → dvalF acc l < 18446744073709551616 → Lib.parseUint10 acc l = .ok (dvalF acc l)
  | [], acc, _, _ => rfl
  | c :: r, acc, h, hl => by
    have hc := h c List.mem_cons_self
    have e : dvalF acc (c :: r) = dvalF (acc * 10 + (c.toNat - 48)) r := rfl
    rw [e] at hl ⊢
    have h1 : acc * 10 + (c.toNat - 48) ≤ dvalF (acc * 10 + (c.toNat - 48)) r := by
      rw [dvalF_acc]
      have := Nat.le_mul_of_pos_right (acc * 10 + (c.toNat - 48)) (Nat.pow_pos (show 0 < 10 by decide) (n := r.length))
      omega
    unfold Lib.parseUint10
    rw [if_pos (show 48 ≤ c.toNat ∧ c.toNat ≤ 57 from hc), if_neg (by omega), if_neg (by omega)]
    exact parseUint10_digits r _ (fun b hb => h b (List.mem_cons_of_mem _ hb)) hl
theorem parseUintM_digits : ∀ (l : List UInt8) (M acc : Nat), (∀ b ∈ l, IsDg b) → dvalF acc l ≤ M → M < 18446744073709551616 → Lib.parseUintM M acc l = .ok (dvalF acc l)
  | [], M, acc, _, _, _ => rfl
  | c :: r, M, acc, h, hl, hM => by
    have hc := h c List.mem_cons_self
    have e : dvalF acc (c :: r) = dvalF (acc * 10 + (c.toNat - 48)) r := rfl
    rw [e] at hl ⊢
    have h1 : acc * 10 + (c.toNat - 48) ≤ dvalF (acc * 10 + (c.toNat - 48)) r := by
      rw [dvalF_acc]
      have := Nat.le_mul_of_pos_right (acc * 10 + (c.toNat - 48)) (Nat.pow_pos (show 0 < 10 by decide) (n := r.length))
      omega
    unfold Lib.parseUintM
    rw [if_pos (show 48 ≤ c.toNat ∧ c.toNat ≤ 57 from hc), if_neg (by omega), if_neg (by omega)]
    exact parseUintM_digits r M _ (fun b hb => h b (List.mem_cons_of_mem _ hb)) hl hM

theorem digs_neg (r : List UInt8) : digs (45 :: r) = r := by simp [digs]
theorem digs_pos {b : UInt8} (hb : b ≠ 45) (r : List UInt8) : digs (b :: r) = b :: r := by simp [digs, hb]
theorem wlen_neg (r : List UInt8) : wlen (45 :: r) = 1 + (if r.head? = some 48 then 0 else runD r) := by simp [wlen]
theorem wlen_zero (r : List UInt8) : wlen (48 :: r) = 1 := by simp [wlen]
theorem wlen_pos {b : UInt8} (hb : b ≠ 45) (h0 : b ≠ 48) (r : List UInt8) : wlen (b :: r) = runD (b :: r) := by simp [wlen, hb, h0]
/-- What a number's text is made of. -/
theorem Valid.cases {l : List UInt8} (h : Valid l) : (∃ b r, digs l = b :: r ∧ (∀ c ∈ b :: r, IsDg c) ∧ (b = 48 → r = [] ∧ l = [48])) ∧ (l = digs l ∧ l.head? ≠ some 45 ∨ l = 45 :: digs l) := by
  obtain ⟨h1, h2⟩ := h
  cases l with
  | nil => simp [digs] at h2
  | cons b r =>
    by_cases hb : b = 45
    · subst hb
      rw [digs_neg] at h2 ⊢
      refine ⟨?_, .inr rfl⟩
      cases r with
      | nil => simp at h2
      | cons c r =>
        rw [wlen_neg] at h1
        by_cases hc : c = 48
        · subst hc; simp at h1
        · rw [if_neg (by simpa using hc)] at h1
          refine ⟨c, r, rfl, runD_all (by simp at h1 ⊢; omega), fun e => absurd e hc⟩
    · rw [digs_pos hb]
      refine ⟨⟨b, r, rfl, ?_, fun e => ?_⟩, .inl ⟨rfl, by simpa using hb⟩⟩
      · by_cases h0 : b = 48
        · subst h0
          rw [wlen_zero] at h1
          have hr : r = [] := List.length_eq_zero_iff.1 (by simpa using h1.symm)
          subst hr
          intro c hc
          simp at hc; subst hc
          exact ⟨by decide, by decide⟩
        · rw [wlen_pos hb h0] at h1
          exact runD_all h1
      · subst e
        rw [wlen_zero] at h1
        have hr : r = [] := List.length_eq_zero_iff.1 (by simpa using h1.symm)
        subst hr
        exact ⟨rfl, rfl⟩
theorem Valid.digits {l : List UInt8} (h : Valid l) : ∀ c ∈ digs l, IsDg c := by
  obtain ⟨⟨b, r, hd, hall, _⟩, _⟩ := h.cases
  rw [hd]; exact hall
theorem Valid.val_abs {l : List UInt8} : (val l).natAbs = dval (digs l) := by unfold val; split <;> simp
/-- What is read is written so. -/
theorem Valid.back {l : List UInt8} (h : Valid l) : Lib.itoa (val l) = l := by
  obtain ⟨⟨b, r, hd, hall, h0⟩, hs⟩ := h.cases
  rcases hs with ⟨he, hh⟩ | he
  · have e : val l = ((dval (digs l) : Nat) : Int) := by unfold val; rw [if_neg hh]
    rw [e, Lib.itoa_nonneg]
    by_cases hb : b = 48
    · obtain ⟨_, hl⟩ := h0 hb
      subst hl
      have : dval (digs [48]) = 0 := by decide
      rw [this, Lib.decDigits_one (by decide)]; rfl
    · rw [hd, decDigits_dval hb hall, ← hd]; exact he.symm
  · have e : val l = -((dval (digs l) : Nat) : Int) := by unfold val; rw [if_pos (by rw [he]; rfl)]
    have hb : b ≠ 48 := fun hb => by
      have := (h0 hb).2
      rw [this] at he
      simp [digs] at he
    have hp : 0 < dval (digs l) := by
      rw [hd]
      exact Nat.lt_of_lt_of_le (Nat.pow_pos (by decide)) (dval_ge (hall b List.mem_cons_self) hb)
    rw [e, Lib.itoa_neg _ hp, hd, decDigits_dval hb hall, ← hd]; exact he.symm
end Rad

namespace Rad
open Go

theorem dg_not_sign {c : UInt8} (h : IsDg c) : ¬ c.toNat = 43 ∧ ¬ c.toNat = 45 := by unfold IsDg at h; omega
theorem parseMag_digits {d : List UInt8} (h0 : d ≠ []) (h : ∀ b ∈ d, IsDg b) (hl : d.length ≤ 19) : Lib.parseMag d = .ok (dval d) := by
  unfold Lib.parseMag
  rw [if_neg h0]
  refine parseUint10_digits d 0 h ?_
  have h1 : dvalF 0 d < 10 ^ d.length := dval_lt h
  have h2 : 10 ^ d.length ≤ 10 ^ 19 := Nat.pow_le_pow_right (by decide) hl
  omega
theorem pu_ok {d : List UInt8} (h0 : d ≠ []) (h : ∀ b ∈ d, IsDg b) (hl : d.length ≤ 19) : Lib.parseUintB 64 d = .ok (dval d) := by
  unfold Lib.parseUintB
  rw [if_neg h0]
  have h1 : dvalF 0 d < 10 ^ d.length := dval_lt h
  have h2 : 10 ^ d.length ≤ 10 ^ 19 := Nat.pow_le_pow_right (by decide) hl
  exact parseUintM_digits d _ 0 h (by omega) (by decide)
theorem atoi_ok {l : List UInt8} (h : Valid l) (hl : (digs l).length ≤ 18) : Lib.atoiAll l = .ok (val l) := by
  have hd := h.digits
  have hv : dval (digs l) < 1000000000000000000 := by
    have h1 := dval_lt hd
    have h2 : 10 ^ (digs l).length ≤ 10 ^ 18 := Nat.pow_le_pow_right (by decide) hl
    omega
  have hp := parseMag_digits h.2 hd (by omega)
  obtain ⟨⟨b, r, hbr, _, _⟩, hs⟩ := h.cases
  have hb : IsDg b := hd b (by rw [hbr]; exact List.mem_cons_self)
  have hns := dg_not_sign hb
  rcases hs with ⟨he, hh⟩ | he
  · have e : val l = ((dval (digs l) : Nat) : Int) := by unfold val; rw [if_neg hh]
    rw [e]
    have he2 : l = b :: r := by rw [he]; exact hbr
    rw [← he] at hp
    rw [he] at he2 ⊢
    rw [← he] at he2 ⊢
    rw [he2] at hp ⊢
    unfold Lib.atoiAll
    simp only [hns.1, hns.2, or_self, if_false, hp]
    have e3 : digs (b :: r) = b :: r := by rw [← he2]; exact he.symm
    rw [hbr] at hv
    rw [e3]
    rw [if_neg (by omega)]
    simp
  · have e : val l = -((dval (digs l) : Nat) : Int) := by unfold val; rw [if_pos (by rw [he]; rfl)]
    rw [e]
    rw [he]
    unfold Lib.atoiAll
    simp only [digs_neg]
    have h45 : (45 : UInt8).toNat = 45 := rfl
    simp only [h45, or_true, if_true, hp]
    simp only [not_true, false_and, if_false, true_and]
    rw [if_neg (by omega)]
/-- One chunk of digits read. -/
theorem chunk_step {W D : Nat} {t : List UInt8} {n V : Nat} (hn : n ≤ t.length) (h0 : W = 0 ∨ n = 19) (h : W * 10 ^ t.length + dval t = V) (hD : D = dval (t.take n)) :
    (W * 10000000000000000000 + D) * 10 ^ (t.drop n).length + dval (t.drop n) = V := by
  have e := dval_append (t.take n) (t.drop n)
  rw [List.take_append_drop] at e
  have hl : t.length = n + (t.drop n).length := by rw [List.length_drop]; omega
  rw [e, hl] at h
  rw [hD, ← h, Nat.add_mul, Nat.add_assoc]
  congr 1
  rcases h0 with h0 | h0
  · rw [h0]; simp
  · rw [h0, Nat.pow_add, ← Nat.mul_assoc]
end Rad

/- Numbers written in places of a base: the value of a function's first n places. Plain arithmetic, nothing of the program. -/
namespace Rad

/-- The value of the places f 0, .., f (n-1) in base β. -/
def vs (β : Nat) (f : Nat → Nat) : Nat → Nat
  | 0 => 0
  | n + 1 => vs β f n + β ^ n * f n

theorem vs_zero (β : Nat) (f : Nat → Nat) : vs β f 0 = 0 := rfl
theorem vs_succ (β : Nat) (f : Nat → Nat) (n : Nat) : vs β f (n + 1) = vs β f n + β ^ n * f n := rfl

theorem vs_congr {β : Nat} {f g : Nat → Nat} : ∀ {n : Nat}, (∀ i, i < n → f i = g i) → vs β f n = vs β g n
  | 0, _ => rfl
  | n + 1, h => by rw [vs_succ, vs_succ, vs_congr (n := n) (fun i hi => h i (by omega)), h n (by omega)]

theorem vs_add (β : Nat) (f : Nat → Nat) (n : Nat) : ∀ m, vs β f (n + m) = vs β f n + β ^ n * vs β (fun i => f (n + i)) m
  | 0 => by simp [vs_zero]
  | m + 1 => by
    rw [← Nat.add_assoc, vs_succ, vs_add β f n m, vs_succ, Nat.mul_add, Nat.pow_add, Nat.mul_assoc, Nat.add_assoc]

theorem vs_lt {β : Nat} {f : Nat → Nat} : ∀ {n : Nat}, (∀ i, i < n → f i < β) → vs β f n < β ^ n
  | 0, _ => by simp [vs_zero]
  | n + 1, h => by
    have h1 := vs_lt (n := n) (fun i hi => h i (by omega))
    have h2 : f n + 1 ≤ β := h n (by omega)
    have h3 := Nat.mul_le_mul_left (β ^ n) h2
    rw [vs_succ, Nat.pow_succ]
    rw [Nat.mul_add] at h3
    omega

theorem vs_one (β : Nat) (f : Nat → Nat) : vs β f 1 = f 0 := by simp [vs]

/-- The lowest place apart. -/
theorem vs_head (β : Nat) (f : Nat → Nat) (n : Nat) : vs β f (n + 1) = f 0 + β * vs β (fun i => f (i + 1)) n := by
  rw [Nat.add_comm n 1, vs_add, vs_one, Nat.pow_one]
  congr 2
  exact vs_congr fun i _ => by rw [Nat.add_comm]

theorem vs_mod {β : Nat} {f : Nat → Nat} {n m : Nat} (h : ∀ i, i < m → f i < β) (hm : m ≤ n) : vs β f n % β ^ m = vs β f m := by
  obtain ⟨k, rfl⟩ := Nat.exists_eq_add_of_le hm
  rw [vs_add, Nat.add_mul_mod_self_left, Nat.mod_eq_of_lt (vs_lt h)]

theorem vs_div {β : Nat} {f : Nat → Nat} {n m : Nat} (h : ∀ i, i < m → f i < β) (hm : m ≤ n) (hβ : 0 < β) :
    vs β f n / β ^ m = vs β (fun i => f (m + i)) (n - m) := by
  obtain ⟨k, rfl⟩ := Nat.exists_eq_add_of_le hm
  rw [vs_add, Nat.add_mul_div_left _ _ (Nat.pow_pos hβ), Nat.div_eq_of_lt (vs_lt h), Nat.zero_add, Nat.add_sub_cancel_left]

/-- The places of a number are its own. -/
theorem vs_digit {β : Nat} {f : Nat → Nat} {n : Nat} (h : ∀ i, i < n → f i < β) (hβ : 0 < β) {i : Nat} (hi : i < n) : vs β f n / β ^ i % β = f i := by
  rw [vs_div (fun j hj => h j (by omega)) (by omega) hβ]
  obtain ⟨k, hk⟩ : ∃ k, n - i = k + 1 := ⟨n - i - 1, by omega⟩
  rw [hk, vs_head, Nat.add_mul_mod_self_left, Nat.add_zero, Nat.mod_eq_of_lt (h i hi)]

theorem vs_inj {β : Nat} {f g : Nat → Nat} {n : Nat} (hf : ∀ i, i < n → f i < β) (hg : ∀ i, i < n → g i < β) (hβ : 0 < β) (h : vs β f n = vs β g n) :
    ∀ i, i < n → f i = g i := fun i hi => by
  rw [← vs_digit hf hβ hi, ← vs_digit hg hβ hi, h]

theorem vs_zeros {β : Nat} {f : Nat → Nat} : ∀ {n : Nat}, (∀ i, i < n → f i = 0) → vs β f n = 0
  | 0, _ => rfl
  | n + 1, h => by rw [vs_succ, vs_zeros (n := n) (fun i hi => h i (by omega)), h n (by omega)]; simp

theorem vs_le {β : Nat} {f : Nat → Nat} {n m : Nat} (h : n ≤ m) : vs β f n ≤ vs β f m := by
  obtain ⟨k, rfl⟩ := Nat.exists_eq_add_of_le h
  rw [vs_add]; omega

/-- Zeros on top say nothing. -/
theorem vs_top {β : Nat} {f : Nat → Nat} {n m : Nat} (h : n ≤ m) (hz : ∀ i, n ≤ i → i < m → f i = 0) : vs β f m = vs β f n := by
  obtain ⟨k, rfl⟩ := Nat.exists_eq_add_of_le h
  rw [vs_add, vs_zeros (fun i hi => hz (n + i) (by omega) (by omega))]; omega

theorem vs_ge {β : Nat} {f : Nat → Nat} {n : Nat} (hn : 0 < n) (h : f (n - 1) ≠ 0) : β ^ (n - 1) ≤ vs β f n := by
  obtain ⟨k, rfl⟩ : ∃ k, n = k + 1 := ⟨n - 1, by omega⟩
  rw [vs_succ]
  simp only [Nat.add_sub_cancel] at h ⊢
  have : β ^ k * 1 ≤ β ^ k * f k := Nat.mul_le_mul_left _ (by omega)
  omega

theorem vs_pos {β : Nat} {f : Nat → Nat} {n : Nat} (hβ : 0 < β) (hn : 0 < n) (h : f (n - 1) ≠ 0) : 0 < vs β f n :=
  Nat.lt_of_lt_of_le (Nat.pow_pos hβ) (vs_ge hn h)

theorem vs_eq_zero {β : Nat} {f : Nat → Nat} {n : Nat} (hβ : 0 < β) (h : vs β f n = 0) : ∀ i, i < n → f i = 0 := by
  intro i hi
  have h1 : vs β f (i + 1) ≤ vs β f n := vs_le (by omega)
  rw [vs_succ] at h1
  have h2 : β ^ i * f i = 0 := by omega
  rcases Nat.mul_eq_zero.1 h2 with h3 | h3
  · exact absurd h3 (Nat.ne_of_gt (Nat.pow_pos hβ))
  · exact h3

/-- One place turned. -/
theorem vs_set {β : Nat} {f g : Nat → Nat} {n i : Nat} (hi : i < n) (h : ∀ j, j < n → j ≠ i → g j = f j) :
    vs β g n + β ^ i * f i = vs β f n + β ^ i * g i := by
  obtain ⟨k, rfl⟩ : ∃ k, n = i + (k + 1) := ⟨n - i - 1, by omega⟩
  rw [vs_add β g i (k + 1), vs_add β f i (k + 1), vs_head, vs_head, vs_congr (f := g) (g := f) (n := i) (fun j hj => h j (by omega) (by omega)),
    vs_congr (f := fun j => g (i + (j + 1))) (g := fun j => f (i + (j + 1))) (n := k) (fun j hj => h _ (by omega) (by omega))]
  simp only [Nat.add_zero, Nat.mul_add]
  omega

/-- Which of two numbers of as many places is the greater, by the highest place in which they differ. -/
theorem vs_lt_of_place {β : Nat} {f g : Nat → Nat} {n i : Nat} (hf : ∀ j, j < n → f j < β) (hi : i < n) (hlt : f i < g i) (he : ∀ j, i < j → j < n → f j = g j) :
    vs β f n < vs β g n := by
  obtain ⟨k, rfl⟩ : ∃ k, n = (i + 1) + k := ⟨n - i - 1, by omega⟩
  rw [vs_add β f (i + 1) k, vs_add β g (i + 1) k, vs_congr (f := fun j => f (i + 1 + j)) (g := fun j => g (i + 1 + j)) (n := k) (fun j hj => he _ (by omega) (by omega)), vs_succ, vs_succ]
  have h1 := vs_lt (β := β) (f := f) (n := i) (fun j hj => hf j (by omega))
  have h2 := Nat.mul_le_mul_left (β ^ i) (show f i + 1 ≤ g i from hlt)
  rw [Nat.mul_add] at h2
  omega

end Rad

namespace Go.Rad
open Go Go.RowKit

/-- The number in a cell (0, if there is none). -/
def word (w : World) (b i : Nat) : Nat :=
  match w.cell? ⟨b, i, none⟩ with
  | some (.int _ x) => x.toNat
  | _ => 0

/-- n cells from o on in block b hold numbers of kind k below β. -/
def Arr (k : IntKind) (β : Nat) (w : World) (b o n : Nat) : Prop :=
  ∀ i, i < n → w.cell? ⟨b, o + i, none⟩ = some (.int k ((word w b (o + i) : Nat) : Int)) ∧ word w b (o + i) < β

/-- They may be written. -/
def Free (w : World) (b o n : Nat) : Prop := ∀ i, i < n → w.frozen? ⟨b, o + i, none⟩ = false

/-- The number that they make. -/
def num (β : Nat) (w : World) (b o n : Nat) : Nat := _root_.Rad.vs β (fun i => word w b (o + i)) n

theorem word_of_cell {w w' : World} {b i b' i' : Nat} (h : w'.cell? ⟨b', i', none⟩ = w.cell? ⟨b, i, none⟩) : word w' b' i' = word w b i := by
  unfold word; rw [h]

theorem word_eq {w : World} {b i : Nat} {k : IntKind} {x : Nat} (h : w.cell? ⟨b, i, none⟩ = some (.int k (x : Int))) : word w b i = x := by
  unfold word; rw [h]; simp

theorem cell_other {w : World} {b i c j : Nat} {v : Value} (h : c ≠ b ∨ j ≠ i) : (w.setCell ⟨b, i, none⟩ v).cell? ⟨c, j, none⟩ = w.cell? ⟨c, j, none⟩ :=
  World.cell?_setCell_other w _ _ v (by simp only [ne_eq, Addr.mk.injEq, not_and]; omega)
theorem cell_same {w : World} {b i : Nat} {v u : Value} (h : w.cell? ⟨b, i, none⟩ = some u) : (w.setCell ⟨b, i, none⟩ v).cell? ⟨b, i, none⟩ = some v :=
  World.cell?_setCell_same w _ v h

theorem arr_cell {k : IntKind} {β : Nat} {w : World} {b o n : Nat} (h : Arr k β w b o n) {i : Nat} (hi : i < n) :
    w.cell? ⟨b, o + i, none⟩ = some (.int k ((word w b (o + i) : Nat) : Int)) := (h i hi).1
theorem arr_lt {k : IntKind} {β : Nat} {w : World} {b o n : Nat} (h : Arr k β w b o n) {i : Nat} (hi : i < n) : word w b (o + i) < β := (h i hi).2

theorem Arr.sub {k : IntKind} {β : Nat} {w : World} {b o n : Nat} (h : Arr k β w b o n) {d m : Nat} (hm : d + m ≤ n) : Arr k β w b (o + d) m := by
  intro i hi
  have := h (d + i) (by omega)
  rwa [← Nat.add_assoc] at this
theorem Free.sub {w : World} {b o n : Nat} (h : Free w b o n) {d m : Nat} (hm : d + m ≤ n) : Free w b (o + d) m := by
  intro i hi
  have := h (d + i) (by omega)
  rwa [← Nat.add_assoc] at this

theorem num_lt {k : IntKind} {β : Nat} {w : World} {b o n : Nat} (h : Arr k β w b o n) : num β w b o n < β ^ n :=
  _root_.Rad.vs_lt fun i hi => (h i hi).2
theorem num_zero (β : Nat) (w : World) (b o : Nat) : num β w b o 0 = 0 := rfl
theorem num_succ (β : Nat) (w : World) (b o n : Nat) : num β w b o (n + 1) = num β w b o n + β ^ n * word w b (o + n) := rfl
theorem num_add (β : Nat) (w : World) (b o n m : Nat) : num β w b o (n + m) = num β w b o n + β ^ n * num β w b (o + n) m := by
  unfold num
  rw [_root_.Rad.vs_add]
  simp only [Nat.add_assoc]
theorem num_congr {β : Nat} {w w' : World} {b o b' o' n : Nat} (h : ∀ i, i < n → word w' b' (o' + i) = word w b (o + i)) : num β w' b' o' n = num β w b o n :=
  _root_.Rad.vs_congr h

/-- ONLY THE CELLS FROM lo TO hi OF BLOCK b HAVE TURNED (and there may be new blocks). -/
structure Chg (w w' : World) (b lo hi : Nat) : Prop where
  os : w'.os = w.os
  tape : w'.tape = w.tape
  output : w'.output = w.output
  size : w.heap.size ≤ w'.heap.size
  block : ∀ k, k < w.heap.size → k ≠ b → w'.heap[k]? = w.heap[k]?
  cell : ∀ i, i < lo ∨ hi ≤ i → w'.cell? ⟨b, i, none⟩ = w.cell? ⟨b, i, none⟩
  froz : ∀ i, w'.frozen? ⟨b, i, none⟩ = w.frozen? ⟨b, i, none⟩

theorem Chg.refl (w : World) (b lo hi : Nat) : Chg w w b lo hi := ⟨rfl, rfl, rfl, Nat.le_refl _, fun _ _ _ => rfl, fun _ _ => rfl, fun _ => rfl⟩
theorem Chg.mono {w w' : World} {b lo hi lo' hi' : Nat} (h : Chg w w' b lo hi) (h1 : lo' ≤ lo) (h2 : hi ≤ hi') : Chg w w' b lo' hi' :=
  ⟨h.os, h.tape, h.output, h.size, h.block, fun i hi => h.cell i (by omega), h.froz⟩
theorem Chg.trans {a w w' : World} {b lo hi : Nat} (h : Chg a w b lo hi) (k : Chg w w' b lo hi) : Chg a w' b lo hi :=
  ⟨k.os.trans h.os, k.tape.trans h.tape, k.output.trans h.output, Nat.le_trans h.size k.size,
    fun i hi hb => (k.block i (Nat.lt_of_lt_of_le hi h.size) hb).trans (h.block i hi hb), fun i hi => (k.cell i hi).trans (h.cell i hi), fun i => (k.froz i).trans (h.froz i)⟩
theorem Chg.set {a w : World} {b lo hi : Nat} (h : Chg a w b lo hi) {i : Nat} (hi1 : lo ≤ i) (hi2 : i < hi) (v : Value) : Chg a (w.setCell ⟨b, i, none⟩ v) b lo hi :=
  h.trans ⟨rfl, rfl, rfl, by simp, fun k _ hb => Below.heap_setCell _ _ _ _ hb,
    fun j hj => cell_other (by omega), fun _ => World.frozen?_setCell _ _ _ _⟩
theorem Chg.drew {a w : World} {b lo hi : Nat} (h : Chg a w b lo hi) : Chg a w.drew b lo hi := ⟨h.os, h.tape, h.output, h.size, h.block, h.cell, h.froz⟩
theorem Chg.below {w w' : World} {b lo hi base : Nat} (h : Chg w w' b lo hi) (h1 : base ≤ b) (h2 : base ≤ w.heap.size) : Below base w w' :=
  ⟨h.os, h.tape, h.output, h.size, fun k hk => h.block k (by omega) (by omega)⟩
theorem Chg.cellAt {w w' : World} {b lo hi : Nat} (h : Chg w w' b lo hi) {c i : Nat} (hc : c < w.heap.size) (ho : c ≠ b ∨ i < lo ∨ hi ≤ i) :
    w'.cell? ⟨c, i, none⟩ = w.cell? ⟨c, i, none⟩ := by
  by_cases hcb : c = b
  · subst hcb; exact h.cell i (by omega)
  · exact World.cell?_of_block (w := w) (h.block c hc hcb)
theorem Chg.frozAt {w w' : World} {b lo hi : Nat} (h : Chg w w' b lo hi) {c i : Nat} (hc : c < w.heap.size) : w'.frozen? ⟨c, i, none⟩ = w.frozen? ⟨c, i, none⟩ := by
  by_cases hcb : c = b
  · subst hcb; exact h.froz i
  · exact World.frozen?_of_block (w := w) (h.block c hc hcb)
/-- A row that the change does not meet. -/
theorem Chg.arr {w w' : World} {b lo hi : Nat} (h : Chg w w' b lo hi) {k : IntKind} {β c o n : Nat} (ha : Arr k β w c o n) (hc : 0 < n → c < w.heap.size)
    (hap : 0 < n → c ≠ b ∨ o + n ≤ lo ∨ hi ≤ o) : Arr k β w' c o n := by
  intro i hi
  have e := h.cellAt (hc (by omega)) (show c ≠ b ∨ o + i < lo ∨ _ ≤ o + i by have := hap (by omega); omega)
  rw [word_of_cell e, e]
  exact ha i hi
theorem Chg.num {w w' : World} {b lo hi : Nat} (h : Chg w w' b lo hi) {β c o n : Nat} (hc : 0 < n → c < w.heap.size) (hap : 0 < n → c ≠ b ∨ o + n ≤ lo ∨ hi ≤ o) : num β w' c o n = num β w c o n :=
  num_congr fun _ _ => word_of_cell (h.cellAt (hc (by omega)) (by have := hap (by omega); omega))
theorem Chg.free {w w' : World} {b lo hi : Nat} (h : Chg w w' b lo hi) {c o n : Nat} (hf : Free w c o n) (hc : 0 < n → c < w.heap.size) : Free w' c o n :=
  fun i hi => (h.frozAt (hc (by omega))).trans (hf i hi)

theorem block_lt {w : World} {b i : Nat} {v : Value} (h : w.cell? ⟨b, i, none⟩ = some v) : b < w.heap.size := by
  unfold World.cell? at h
  rcases Nat.lt_or_ge b w.heap.size with h1 | h1
  · exact h1
  · simp [Array.getElem?_eq_none h1] at h
theorem Arr.lt {k : IntKind} {β : Nat} {w : World} {b o n : Nat} (h : Arr k β w b o n) : 0 < n → b < w.heap.size := fun hn => block_lt (h 0 hn).1

/-- One cell written. -/
theorem word_set_same {w : World} {b i : Nat} {k : IntKind} {x : Nat} (h : (w.cell? ⟨b, i, none⟩).isSome = true) : word (w.setCell ⟨b, i, none⟩ (.int k (x : Int))) b i = x := by
  obtain ⟨u, hu⟩ := Option.isSome_iff_exists.1 h
  exact word_eq (cell_same hu)
theorem word_set_other {w : World} {b i c j : Nat} {v : Value} (h : c ≠ b ∨ j ≠ i) : word (w.setCell ⟨b, i, none⟩ v) c j = word w c j :=
  word_of_cell (cell_other (by omega))
theorem Arr.set {k : IntKind} {β : Nat} {w : World} {b o n : Nat} (h : Arr k β w b o n) {i x : Nat} (hx : x < β) : Arr k β (w.setCell ⟨b, o + i, none⟩ (.int k (x : Int))) b o n := by
  intro j hj
  by_cases hji : j = i
  · subst hji
    have h1 := (h j hj).1
    have h2 : word (w.setCell ⟨b, o + j, none⟩ (.int k (x : Int))) b (o + j) = x := word_set_same (by rw [h1]; rfl)
    rw [h2]
    exact ⟨cell_same h1, hx⟩
  · have e : (w.setCell ⟨b, o + i, none⟩ (.int k (x : Int))).cell? ⟨b, o + j, none⟩ = w.cell? ⟨b, o + j, none⟩ :=
      cell_other (by omega)
    rw [word_of_cell e, e]
    exact h j hj
theorem Arr.set' {k : IntKind} {β : Nat} {w : World} {b o n : Nat} (h : Arr k β w b o n) {c i : Nat} {v : Value} (hc : c ≠ b ∨ i < o ∨ o + n ≤ i) : Arr k β (w.setCell ⟨c, i, none⟩ v) b o n := by
  intro j hj
  have e : (w.setCell ⟨c, i, none⟩ v).cell? ⟨b, o + j, none⟩ = w.cell? ⟨b, o + j, none⟩ :=
    cell_other (by omega)
  rw [word_of_cell e, e]
  exact h j hj
theorem num_set_other {β : Nat} {w : World} {b o n c i : Nat} {v : Value} (hc : c ≠ b ∨ i < o ∨ o + n ≤ i) : num β (w.setCell ⟨c, i, none⟩ v) b o n = num β w b o n :=
  num_congr fun j hj => word_set_other (by omega)
end Go.Rad
