/- A part of the proof: Tx, Tx2, Row, W36. -/
import Derived.Lib.ItoaMem
import Derived.Lib.AtoiAll
import Derived.Lib.ParseIntB
import Derived.Test.YtjlkplidpdhgbaaGreatDoorP00
import Derived.Test.YtjlkplidpdhgbaaGreatDoorP01
import Derived.Deep.AppendLies
import Derived.Test.YtjlkplidpdhgbaaGreatDoorP02
import Derived.WalkSpells
set_option linter.all false

/- Texts of numbers: plain lists of bytes. -/
namespace Rad
open Go

abbrev IsDg (b : UInt8) : Prop := 48 ≤ b.toNat ∧ b.toNat ≤ 57
/-- How many digits a text begins with. -/
def runD : List UInt8 → Nat
  | [] => 0
  | b :: r => if IsDg b then runD r + 1 else 0
/-- The number that digits make. -/
def dvalF (acc : Nat) (l : List UInt8) : Nat := l.foldl (fun a b => a * 10 + (b.toNat - 48)) acc
def dval (l : List UInt8) : Nat := dvalF 0 l
/-- The length of the longest beginning with which some number begins. -/
def wlen : List UInt8 → Nat
  | [] => 0
  | b :: r => if b = 45 then 1 + (if r.head? = some 48 then 0 else runD r) else if b = 48 then 1 else runD (b :: r)
/-- The digits of a number's text. -/
def digs : List UInt8 → List UInt8
  | [] => []
  | b :: r => if b = 45 then r else b :: r
/-- A number's text. -/
abbrev Valid (l : List UInt8) : Prop := wlen l = l.length ∧ digs l ≠ []
/-- The number that a text tells. -/
def val (l : List UInt8) : Int := if l.head? = some 45 then -(dval (digs l) : Int) else (dval (digs l) : Int)

theorem runD_le : ∀ l, runD l ≤ l.length
  | [] => Nat.le_refl _
  | b :: r => by unfold runD; have := runD_le r; split <;> simp <;> omega
theorem runD_all : ∀ {l : List UInt8}, runD l = l.length → ∀ b ∈ l, IsDg b
  | [], _, b, hb => by simp at hb
  | c :: r, h, b, hb => by
    unfold runD at h
    split at h
    · rename_i hc
      rcases List.mem_cons.1 hb with rfl | h1
      · exact hc
      · exact runD_all (by simpa using h) b h1
    · simp at h
theorem runD_of_all : ∀ {l : List UInt8}, (∀ b ∈ l, IsDg b) → runD l = l.length
  | [], _ => rfl
  | c :: r, h => by
    unfold runD
    rw [if_pos (h c List.mem_cons_self), runD_of_all fun b hb => h b (List.mem_cons_of_mem _ hb)]
    rfl
theorem runD_at : ∀ {l : List UInt8} {i : Nat} (h : i < l.length), i < runD l → IsDg l[i]
  | b :: r, i, h, hi => by
    by_cases hb : IsDg b
    · have e : runD (b :: r) = runD r + 1 := by rw [runD, if_pos hb]
      rw [e] at hi
      cases i with
      | zero => exact hb
      | succ i => exact runD_at (l := r) (by simpa using h) (by omega)
    · have e : runD (b :: r) = 0 := by rw [runD, if_neg hb]
      omega
theorem runD_stop : ∀ {l : List UInt8} (h : runD l < l.length), ¬ IsDg l[runD l]
  | b :: r, h => by
    by_cases hb : IsDg b
    · have e : runD (b :: r) = runD r + 1 := by rw [runD, if_pos hb]
      simp only [e] at h ⊢
      exact runD_stop (l := r) (by simpa using h)
    · have e : runD (b :: r) = 0 := by rw [runD, if_neg hb]
      simp only [e]
      exact hb
/-- The run, by its places. -/
theorem runD_eq {l : List UInt8} {n : Nat} (hn : n ≤ l.length) (h1 : ∀ i (h : i < l.length), i < n → IsDg l[i]) (h2 : ∀ (h : n < l.length), ¬ IsDg l[n]) : runD l = n := by
  rcases Nat.lt_trichotomy (runD l) n with h | h | h
  · exact absurd (h1 (runD l) (by omega) h) (runD_stop (by omega))
  · exact h
  · have := runD_le l
    exact absurd (runD_at (by omega) h) (h2 (by omega))

theorem dvalF_append (acc : Nat) (l m : List UInt8) : dvalF acc (l ++ m) = dvalF (dvalF acc l) m := by unfold dvalF; rw [List.foldl_append]
theorem dvalF_acc (acc : Nat) (l : List UInt8) : dvalF acc l = acc * 10 ^ l.length + dval l := by
  induction l generalizing acc with
  | nil => simp [dvalF, dval]
  | cons b r ih =>
    have e1 : dvalF acc (b :: r) = dvalF (acc * 10 + (b.toNat - 48)) r := rfl
    have e2 : dval (b :: r) = dvalF (0 * 10 + (b.toNat - 48)) r := rfl
    rw [e1, e2, ih, ih (0 * 10 + (b.toNat - 48)), List.length_cons, Nat.pow_succ, Nat.add_mul, Nat.zero_mul, Nat.zero_add, Nat.mul_assoc, Nat.mul_comm 10]
    omega
theorem dval_append (l m : List UInt8) : dval (l ++ m) = dval l * 10 ^ m.length + dval m := by
  show dvalF 0 (l ++ m) = _
  rw [dvalF_append, dvalF_acc]; rfl
theorem dval_cons (b : UInt8) (r : List UInt8) : dval (b :: r) = (b.toNat - 48) * 10 ^ r.length + dval r := by
  have : dval (b :: r) = dvalF (0 * 10 + (b.toNat - 48)) r := rfl
  rw [this, dvalF_acc]; simp
theorem dval_lt : ∀ {l : List UInt8}, (∀ b ∈ l, IsDg b) → dval l < 10 ^ l.length
  | [], _ => by decide
  | b :: r, h => by
    have h1 := dval_lt fun c hc => h c (List.mem_cons_of_mem _ hc)
    have h2 := h b List.mem_cons_self
    rw [dval_cons, List.length_cons, Nat.pow_succ]
    have h3 : (b.toNat - 48) * 10 ^ r.length ≤ 9 * 10 ^ r.length := Nat.mul_le_mul_right _ (by unfold IsDg at h2; omega)
    omega
theorem dval_ge {b : UInt8} {r : List UInt8} (hb : IsDg b) (h0 : b ≠ 48) : 10 ^ r.length ≤ dval (b :: r) := by
  rw [dval_cons]
  have h1 : 1 ≤ b.toNat - 48 := by
    unfold IsDg at hb
    have : b.toNat ≠ 48 := fun h => h0 (UInt8.toNat_inj.1 h)
    omega
  have := Nat.mul_le_mul_right (10 ^ r.length) h1
  omega
theorem decDigits_snoc {l : List UInt8} {b : UInt8} (h : Lib.decDigits (dval l) = l) (hp : 0 < dval l) (hb : IsDg b) : Lib.decDigits (dval (l ++ [b])) = l ++ [b] := by
  have e : dval (l ++ [b]) = dval l * 10 + (b.toNat - 48) := by rw [dval_append, dval_cons]; simp [dval, dvalF]
  unfold IsDg at hb
  rw [e, Lib.decDigits, dif_neg (by omega), show (dval l * 10 + (b.toNat - 48)) / 10 = dval l by omega, show (dval l * 10 + (b.toNat - 48)) % 10 = b.toNat - 48 by omega, h, show 48 + (b.toNat - 48) = b.toNat by omega]
  simp
/-- Digits, the first not 0, are the numeral of their number. -/
theorem decDigits_dval {b : UInt8} {r : List UInt8} (h0 : b ≠ 48) (h : ∀ c ∈ b :: r, IsDg c) : Lib.decDigits (dval (b :: r)) = b :: r := by
  have key : ∀ n (m : List UInt8), m.length = n → (∀ c ∈ m, IsDg c) → Lib.decDigits (dval (b :: m)) = b :: m := by
    intro n
    induction n with
    | zero =>
      intro m hm _
      obtain rfl := List.length_eq_zero_iff.1 hm
      have hb := h b List.mem_cons_self
      unfold IsDg at hb
      have e : dval [b] = b.toNat - 48 := by rw [dval_cons]; simp [dval, dvalF]
      rw [e, Lib.decDigits, dif_pos (by omega), show 48 + (b.toNat - 48) = b.toNat by omega]
      simp
    | succ n ih =>
      intro m hm hall
      have hne : m ≠ [] := by intro e; rw [e] at hm; simp at hm
      have hsplit := List.dropLast_concat_getLast hne
      have h1 := ih m.dropLast (by rw [List.length_dropLast]; omega) (fun c hc => hall c (List.dropLast_subset _ hc))
      rw [← hsplit, ← List.cons_append]
      refine decDigits_snoc h1 ?_ (hall _ (List.getLast_mem hne))
      exact Nat.lt_of_lt_of_le (Nat.pow_pos (by decide)) (dval_ge (h b List.mem_cons_self) h0)
  exact key _ r rfl fun c hc => h c (List.mem_cons_of_mem _ hc)
theorem parseUint10_digits : ∀ (l : List UInt8) (acc : Nat), (∀ b ∈ l, IsDg b) → dvalF acc l < 18446744073709551616 → Lib.parseUint10 acc l = .ok (dvalF acc l)
  | [], acc, _, _ => rfl
  | c :: r, acc, h, hl => by
    have hc := h c List.mem_cons_self
    have e : dvalF acc (c :: r) = dvalF (acc * 10 + (c.toNat - 48)) r := rfl
    rw [e] at hl ⊢
    have h1 : acc * 10 + (c.toNat - 48) ≤ dvalF (acc * 10 + (c.toNat - 48)) r := by
      rw [dvalF_acc]
      have := Nat.le_mul_of_pos_right (acc * 10 + (c.toNat - 48)) (Nat.pow_pos (show 0 < 10 by decide) (n := r.length))
      omega
    unfold Lib.parseUint10
    rw [if_pos (show 48 ≤ c.toNat ∧ c.toNat ≤ 57 from hc), if_neg (by omega), if_neg (by omega)]
    exact parseUint10_digits r _ (fun b hb => h b (List.mem_cons_of_mem _ hb)) hl
theorem parseUintM_digits : ∀ (l : List UInt8) (M acc : Nat), (∀ b ∈ l, IsDg b) → dvalF acc l ≤ M → M < 18446744073709551616 → Lib.parseUintM M acc l = .ok (dvalF acc l)
  | [], M, acc, _, _, _ => rfl
  | c :: r, M, acc, h, hl, hM => by
    have hc := h c List.mem_cons_self
    have e : dvalF acc (c :: r) = dvalF (acc * 10 + (c.toNat - 48)) r := rfl
    rw [e] at hl ⊢
    have h1 : acc * 10 + (c.toNat - 48) ≤ dvalF (acc * 10 + (c.toNat - 48)) r := by
      rw [dvalF_acc]
      have := Nat.le_mul_of_pos_right (acc * 10 + (c.toNat - 48)) (Nat.pow_pos (show 0 < 10 by decide) (n := r.length))
      omega
    unfold Lib.parseUintM
    rw [if_pos (show 48 ≤ c.toNat ∧ c.toNat ≤ 57 from hc), if_neg (by omega), if_neg (by omega)]
    exact parseUintM_digits r M _ (fun b hb => h b (List.mem_cons_of_mem _ hb)) hl hM

theorem digs_neg (r : List UInt8) : digs (45 :: r) = r := by simp [digs]
theorem digs_pos {b : UInt8} (hb : b ≠ 45) (r : List UInt8) : digs (b :: r) = b :: r := by simp [digs, hb]
theorem wlen_neg (r : List UInt8) : wlen (45 :: r) = 1 + (if r.head? = some 48 then 0 else runD r) := by simp [wlen]
theorem wlen_zero (r : List UInt8) : wlen (48 :: r) = 1 := by simp [wlen]
theorem wlen_pos {b : UInt8} (hb : b ≠ 45) (h0 : b ≠ 48) (r : List UInt8) : wlen (b :: r) = runD (b :: r) := by simp [wlen, hb, h0]
/-- What a number's text is made of. -/
theorem Valid.cases {l : List UInt8} (h : Valid l) : (∃ b r, digs l = b :: r ∧ (∀ c ∈ b :: r, IsDg c) ∧ (b = 48 → r = [] ∧ l = [48])) ∧ (l = digs l ∧ l.head? ≠ some 45 ∨ l = 45 :: digs l) := by
  obtain ⟨h1, h2⟩ := h
  cases l with
  | nil => simp [digs] at h2
  | cons b r =>
    by_cases hb : b = 45
    · subst hb
      rw [digs_neg] at h2 ⊢
      refine ⟨?_, .inr rfl⟩
      cases r with
      | nil => simp at h2
      | cons c r =>
        rw [wlen_neg] at h1
        by_cases hc : c = 48
        · subst hc; simp at h1
        · rw [if_neg (by simpa using hc)] at h1
          refine ⟨c, r, rfl, runD_all (by simp at h1 ⊢; omega), fun e => absurd e hc⟩
    · rw [digs_pos hb]
      refine ⟨⟨b, r, rfl, ?_, fun e => ?_⟩, .inl ⟨rfl, by simpa using hb⟩⟩
      · by_cases h0 : b = 48
        · subst h0
          rw [wlen_zero] at h1
          have hr : r = [] := List.length_eq_zero_iff.1 (by simpa using h1.symm)
          subst hr
          intro c hc
          simp at hc; subst hc
          exact ⟨by decide, by decide⟩
        · rw [wlen_pos hb h0] at h1
          exact runD_all h1
      · subst e
        rw [wlen_zero] at h1
        have hr : r = [] := List.length_eq_zero_iff.1 (by simpa using h1.symm)
        subst hr
        exact ⟨rfl, rfl⟩
theorem Valid.digits {l : List UInt8} (h : Valid l) : ∀ c ∈ digs l, IsDg c := by
  obtain ⟨⟨b, r, hd, hall, _⟩, _⟩ := h.cases
  rw [hd]; exact hall
theorem Valid.val_abs {l : List UInt8} : (val l).natAbs = dval (digs l) := by unfold val; split <;> simp
/-- What is read is written so. -/
theorem Valid.back {l : List UInt8} (h : Valid l) : Lib.itoa (val l) = l := by
  obtain ⟨⟨b, r, hd, hall, h0⟩, hs⟩ := h.cases
  rcases hs with ⟨he, hh⟩ | he
  · have e : val l = ((dval (digs l) : Nat) : Int) := by unfold val; rw [if_neg hh]
    rw [e, Lib.itoa_nonneg]
    by_cases hb : b = 48
    · obtain ⟨_, hl⟩ := h0 hb
      subst hl
      have : dval (digs [48]) = 0 := by decide
      rw [this, Lib.decDigits_one (by decide)]; rfl
    · rw [hd, decDigits_dval hb hall, ← hd]; exact he.symm
  · have e : val l = -((dval (digs l) : Nat) : Int) := by unfold val; rw [if_pos (by rw [he]; rfl)]
    have hb : b ≠ 48 := fun hb => by
      have := (h0 hb).2
      rw [this] at he
      simp [digs] at he
    have hp : 0 < dval (digs l) := by
      rw [hd]
      exact Nat.lt_of_lt_of_le (Nat.pow_pos (by decide)) (dval_ge (hall b List.mem_cons_self) hb)
    rw [e, Lib.itoa_neg _ hp, hd, decDigits_dval hb hall, ← hd]; exact he.symm
end Rad

namespace Rad
open Go

theorem dg_not_sign {c : UInt8} (h : IsDg c) : ¬ c.toNat = 43 ∧ ¬ c.toNat = 45 := by unfold IsDg at h; omega
theorem parseMag_digits {d : List UInt8} (h0 : d ≠ []) (h : ∀ b ∈ d, IsDg b) (hl : d.length ≤ 19) : Lib.parseMag d = .ok (dval d) := by
  unfold Lib.parseMag
  rw [if_neg h0]
  refine parseUint10_digits d 0 h ?_
  have h1 : dvalF 0 d < 10 ^ d.length := dval_lt h
  have h2 : 10 ^ d.length ≤ 10 ^ 19 := Nat.pow_le_pow_right (by decide) hl
  omega
theorem pu_ok {d : List UInt8} (h0 : d ≠ []) (h : ∀ b ∈ d, IsDg b) (hl : d.length ≤ 19) : Lib.parseUintB 64 d = .ok (dval d) := by
  unfold Lib.parseUintB
  rw [if_neg h0]
  have h1 : dvalF 0 d < 10 ^ d.length := dval_lt h
  have h2 : 10 ^ d.length ≤ 10 ^ 19 := Nat.pow_le_pow_right (by decide) hl
  exact parseUintM_digits d _ 0 h (by omega) (by decide)
theorem atoi_ok {l : List UInt8} (h : Valid l) (hl : (digs l).length ≤ 18) : Lib.atoiAll l = .ok (val l) := by
  have hd := h.digits
  have hv : dval (digs l) < 1000000000000000000 := by
    have h1 := dval_lt hd
    have h2 : 10 ^ (digs l).length ≤ 10 ^ 18 := Nat.pow_le_pow_right (by decide) hl
    omega
  have hp := parseMag_digits h.2 hd (by omega)
  obtain ⟨⟨b, r, hbr, _, _⟩, hs⟩ := h.cases
  have hb : IsDg b := hd b (by rw [hbr]; exact List.mem_cons_self)
  have hns := dg_not_sign hb
  rcases hs with ⟨he, hh⟩ | he
  · have e : val l = ((dval (digs l) : Nat) : Int) := by unfold val; rw [if_neg hh]
    rw [e]
    have he2 : l = b :: r := by rw [he]; exact hbr
    rw [← he] at hp
    rw [he] at he2 ⊢
    rw [← he] at he2 ⊢
    rw [he2] at hp ⊢
    unfold Lib.atoiAll
    simp only [hns.1, hns.2, or_self, if_false, hp]
    have e3 : digs (b :: r) = b :: r := by rw [← he2]; exact he.symm
    rw [hbr] at hv
    rw [e3]
    rw [if_neg (by omega)]
    simp
  · have e : val l = -((dval (digs l) : Nat) : Int) := by unfold val; rw [if_pos (by rw [he]; rfl)]
    rw [e]
    rw [he]
    unfold Lib.atoiAll
    simp only [digs_neg]
    have h45 : (45 : UInt8).toNat = 45 := rfl
    simp only [h45, or_true, if_true, hp]
    simp only [not_true, false_and, if_false, true_and]
    rw [if_neg (by omega)]
/-- One chunk of digits read. -/
theorem chunk_step {W D : Nat} {t : List UInt8} {n V : Nat} (hn : n ≤ t.length) (h0 : W = 0 ∨ n = 19) (h : W * 10 ^ t.length + dval t = V) (hD : D = dval (t.take n)) :
    (W * 10000000000000000000 + D) * 10 ^ (t.drop n).length + dval (t.drop n) = V := by
  have e := dval_append (t.take n) (t.drop n)
  rw [List.take_append_drop] at e
  have hl : t.length = n + (t.drop n).length := by rw [List.length_drop]; omega
  rw [e, hl] at h
  rw [hD, ← h, Nat.add_mul, Nat.add_assoc]
  congr 1
  rcases h0 with h0 | h0
  · rw [h0]; simp
  · rw [h0, Nat.pow_add, ← Nat.mul_assoc]
end Rad

/- Rows of numbers that a call makes by append: lists of numbers. No program. -/
namespace Go.Rad
open Go Go.RowKit

/-- The number that places make, the lowest first. -/
def lv (β : Nat) : List Nat → Nat
  | [] => 0
  | x :: r => x + β * lv β r
theorem lv_append (β : Nat) (xs ys : List Nat) : lv β (xs ++ ys) = lv β xs + β ^ xs.length * lv β ys := by
  induction xs with
  | nil => simp [lv]
  | cons x r ih => simp only [List.cons_append, lv, ih, List.length_cons, Nat.pow_succ, Nat.mul_add]; rw [Nat.mul_comm (β ^ r.length) β, Nat.mul_assoc]; omega
theorem lv_snoc (β : Nat) (xs : List Nat) (x : Nat) : lv β (xs ++ [x]) = lv β xs + β ^ xs.length * x := by rw [lv_append]; simp [lv]
theorem lv_lt {β : Nat} (hβ : 0 < β) : ∀ {xs : List Nat}, (∀ x ∈ xs, x < β) → lv β xs < β ^ xs.length
  | [], _ => by simp [lv]
  | x :: r, h => by
    have h1 := lv_lt hβ (xs := r) (fun y hy => h y (List.mem_cons_of_mem _ hy))
    have h2 := h x List.mem_cons_self
    have h3 := Nat.mul_le_mul_left β h1
    simp only [lv, List.length_cons, Nat.pow_succ]
    rw [Nat.mul_comm (β ^ r.length) β]
    rw [Nat.mul_succ] at h3
    omega

/-- A row of the call's own that holds these numbers (v nil where there are none; or a slice of its own). -/
def RowN (k : IntKind) (e : TypeId) (w : World) (base : Nat) (v : Value) (xs : List Nat) : Prop :=
  w.ownsRow base e 1 v xs.length (xs.map fun (x : Nat) => Value.int k (x : Int))
theorem RowN.hid {k : IntKind} {e : TypeId} {w : World} {base : Nat} {v : Value} {xs : List Nat} (h : RowN k e w base v xs) : Hid (RowN k e w base v xs) := h
theorem RowN.nil (k : IntKind) (e : TypeId) (w : World) (base : Nat) : RowN k e w base (.slice none 0 0) [] := World.ownsRow_nil _ _ _ _
theorem RowN.form {k : IntKind} {e : TypeId} {w : World} {base : Nat} {v : Value} {xs : List Nat} (h : RowN k e w base v xs) :
    ∃ ao c, v = .slice ao xs.length c ∧ xs.length ≤ c ∧ c ≤ maxLen ∧ ((ao = none ∧ xs.length = 0 ∧ c = 0) ∨ ∃ b, ao = some ⟨b, 0, none⟩ ∧ base ≤ b ∧ b < w.heap.size) := by
  rcases h.2 with ⟨hv, h0⟩ | ⟨g, cap, cur, hv, hb, hg, hc, hm, _⟩
  · exact ⟨none, 0, by rw [hv, h0], by omega, by unfold maxLen; omega, .inl ⟨rfl, h0, rfl⟩⟩
  · exact ⟨_, cap, hv, hc, hm, .inr ⟨g, rfl, hb, (Array.getElem?_eq_some_iff.1 hg).1⟩⟩
theorem RowN.cell {k : IntKind} {e : TypeId} {w : World} {base b n c : Nat} {xs : List Nat} (h : RowN k e w base (.slice (some ⟨b, 0, none⟩) n c) xs) {i : Nat} (hi : i < xs.length) :
    w.cell? ⟨b, i, none⟩ = some (.int k ((xs[i] : Nat) : Int)) := by
  obtain ⟨_, _, he, _⟩ := h.form
  obtain ⟨_, rfl, _⟩ := Value.slice.inj he
  rw [World.ownsRow.cellAt h i (by omega)]
  simp [hi]
theorem RowN.free {k : IntKind} {e : TypeId} {w : World} {base b n c : Nat} {xs : List Nat} (h : RowN k e w base (.slice (some ⟨b, 0, none⟩) n c) xs) (i : Nat) : w.frozen? ⟨b, i, none⟩ = false := by
  obtain ⟨_, _, he, _⟩ := h.form
  obtain ⟨_, rfl, _⟩ := Value.slice.inj he
  exact World.ownsRow.frozenAt h i
/-- Nothing below a number that lies above the row is turned: the row stays. -/
theorem RowN.keep {k : IntKind} {e : TypeId} {w w' : World} {base B : Nat} {v : Value} {xs : List Nat} (h : RowN k e w base v xs) (hb : Below B w w') (hB : ∀ b, v.ownBlock = some b → b < B) : RowN k e w' base v xs := by
  refine ⟨h.1, ?_⟩
  rcases h.2 with h0 | ⟨g, cap, cur, hv, hg0, hg, rest⟩
  · exact .inl h0
  · exact .inr ⟨g, cap, cur, hv, hg0, (hb.block g (hB g (by rw [hv]; rfl))).trans hg, rest⟩
theorem RowN.own_lt {k : IntKind} {e : TypeId} {w : World} {base : Nat} {v : Value} {xs : List Nat} (h : RowN k e w base v xs) : ∀ b, v.ownBlock = some b → base ≤ b ∧ b < w.heap.size := World.ownsRow.lt h
theorem RowN.below {k : IntKind} {e : TypeId} {w w' : World} {base : Nat} {v : Value} {xs : List Nat} (h : RowN k e w base v xs) (hb : Below w.heap.size w w') : RowN k e w' base v xs :=
  h.keep hb fun b hv => (h.own_lt b hv).2
theorem RowN.mono {k : IntKind} {e : TypeId} {w : World} {base base' : Nat} {v : Value} {xs : List Nat} (h : RowN k e w base v xs) (hb : base' ≤ base) : RowN k e w base' v xs := by
  refine ⟨h.1, ?_⟩
  rcases h.2 with h0 | ⟨g, cap, cur, hv, hg0, hg, rest⟩
  · exact .inl h0
  · exact .inr ⟨g, cap, cur, hv, by omega, hg, rest⟩
/-- One number written. -/
theorem RowN.set {k : IntKind} {e : TypeId} {w : World} {base b n c : Nat} {xs : List Nat} (h : RowN k e w base (.slice (some ⟨b, 0, none⟩) n c) xs) (i x : Nat) :
    RowN k e (w.setCell ⟨b, i, none⟩ (.int k (x : Int))) base (.slice (some ⟨b, 0, none⟩) n c) (xs.set i x) := by
  obtain ⟨_, _, he, _⟩ := h.form
  obtain ⟨_, rfl, _⟩ := Value.slice.inj he
  have h1 := (World.ownsRow.stored h i (.int k (x : Int))).1
  unfold RowN
  rw [List.length_set, List.map_set]
  exact h1
/-- As a row that is read. -/
theorem RowN.arr {k : IntKind} {e : TypeId} {w : World} {base β : Nat} {v : Value} {xs : List Nat} (h : RowN k e w base v xs) (hx : ∀ x ∈ xs, x < β) :
    ∃ ao b c, v = .slice ao xs.length c ∧ Sl ao b 0 xs.length ∧ xs.length ≤ c ∧ c ≤ maxLen ∧ Arr k β w b 0 xs.length ∧ num β w b 0 xs.length = lv β xs ∧ Free w b 0 xs.length ∧ (0 < xs.length → base ≤ b) ∧ (∀ i (hi : i < xs.length), word w b i = xs[i]) := by
  obtain ⟨ao, c, hv, hc, hm, ha⟩ := h.form
  rcases ha with ⟨rfl, h0, rfl⟩ | ⟨b, rfl, hb, hlt⟩
  · have : xs = [] := List.eq_nil_of_length_eq_zero h0
    subst this
    exact ⟨none, 0, 0, hv, fun h => by simp at h, Nat.le_refl _, hm, fun i hi => by simp at hi, rfl, fun i hi => by simp at hi, fun h => by simp at h, fun i hi => by simp at hi⟩
  · subst hv
    have hw : ∀ i (hi : i < xs.length), word w b i = xs[i] := fun i hi => word_eq (h.cell hi)
    have hA : Arr k β w b 0 xs.length := fun i hi => by
      rw [Nat.zero_add, hw i hi]; exact ⟨h.cell hi, hx _ (List.getElem_mem hi)⟩
    refine ⟨_, b, c, rfl, Sl.mk _ _ _, hc, hm, hA, ?_, fun i _ => h.free _, fun _ => hb, hw⟩
    have key : ∀ n, n ≤ xs.length → num β w b 0 n = lv β (xs.take n) := by
      intro n
      induction n with
      | zero => intro _; rfl
      | succ n ih =>
        intro hn
        rw [num_succ, ih (by omega), List.take_succ_eq_append_getElem (by omega), lv_snoc, List.length_take, Nat.min_eq_left (by omega), Nat.zero_add, hw n (by omega)]
    rw [key _ (Nat.le_refl _), List.take_length]

/-- append of one number. -/
theorem wpList_appendN {P : Program} {w : World} {ops : Array Oper} {rest : List Oper} {o : Oper} {a : Act} {Q : Exit → Act → World → Prop} (k : IntKind) (e : TypeId) (hgd : o.guard = none) (s x : Operand) (t : TypeId)
    (ho : o.op = .call { callee := .builtin .append, args := #[s, x], argTypes := #[t, t] })
    (ht : P.underlying t = some (.slice e)) (bytes : Nat) (hi : (P.info? e).map (fun i => (i.zero, i.size, i.bytes)) = some (some (.int k 0), 1, bytes)) (hb1 : bytes ≤ 8)
    (base : Nat) (v : Value) (xs : List Nat) (hs : a.eval s = v) (hown : RowN k e w base v xs) (g7 m7 y : Nat) (hx : a.eval x = .slice (some ⟨g7, 0, none⟩) 1 m7) (hc : w.cell? ⟨g7, 0, none⟩ = some (.int k (y : Int)))
    (hlen : xs.length ≤ 1099511627776) (hbase : base ≤ w.heap.size)
    (h : ∀ v' w', RowN k e w' base v' (xs ++ [y]) → Below base w w' → (∀ b, v'.ownBlock = some b → v.ownBlock = some b ∨ b = w.heap.size) → w.grownBy w' v.ownBlock → wpList P ops Q rest (a.put o.dst v') w') : wpList P ops Q (o :: rest) a w := by
  obtain ⟨i, hi0, hi1⟩ := Option.map_eq_some_iff.1 hi
  simp only [Prod.mk.injEq] at hi1
  obtain ⟨z0, z1, z2⟩ := hi1
  have hown' : w.ownsRow base e 1 v xs.length (xs.map fun (x : Nat) => Value.int k (x : Int)) := hown
  refine wpList_append_lies w hgd s x t ho base e i (.int k 0) 1 bytes ht hi0 z0 z1 z2 rfl (by omega) v xs.length _ hs hown' ⟨g7, 0, none⟩ 1 m7 [.int k (y : Int)] hx rfl ?_ ?_ (by omega) (by unfold maxLen; omega) ?_ hbase w.heap.size rfl ?_
  · intro j u hj
    match j, hj with
    | 0, hj =>
      have hju : Value.int k (y : Int) = u := Option.some.inj hj
      rw [← hju]; exact hc
  · intro u hu; simp at hu; subst hu; rfl
  · calc (xs.length + 1) * bytes ≤ (xs.length + 1) * 8 := Nat.mul_le_mul_left _ hb1
      _ ≤ 140737488355328 := by omega
  · intro g cap w' hrow hgr hor hlt
    refine h _ w' (by unfold RowN; rw [List.length_append, List.map_append]; exact hrow) ?_ (fun b hb => ?_) hgr
    · exact (Below.refl _ _).grown hgr hbase fun b hb => (hown.own_lt b hb).1
    · have : g = b := Option.some.inj hb
      subst this; exact hor

/-- make([]T, 0, c). -/
theorem wpList_makeCapN {P : Program} {w : World} {ops : Array Oper} {rest : List Oper} {o : Oper} {a : Act} {Q : Exit → Act → World → Prop} (k : IntKind) (e : TypeId)
    (hg : o.guard = none) (l c : Operand) (t : TypeId) (hop : o.op = Op.makeSlice t l c) (ht : P.underlying t = some (.slice e)) (bytes : Nat)
    (hi : (P.info? e).map (fun i => (i.zero, i.size, i.bytes)) = some (some (.int k 0), 1, bytes)) (hb1 : bytes ≤ 8) (kl kc : IntKind) (C : Int) (n : Nat) (hl : a.eval l = .int kl 0) (hc : a.eval c = .int kc C) (hC : C = (n : Int)) (hn : n ≤ 1099511627776) (base : Nat) (hbase : base ≤ w.heap.size)
    (hK : ∀ w', RowN k e w' base (.slice (some ⟨w.heap.size, 0, none⟩) 0 n) [] → Below w.heap.size w w' → wpList P ops Q rest (a.put o.dst (.slice (some ⟨w.heap.size, 0, none⟩) 0 n)) w') :
    wpList P ops Q (o :: rest) a w := by
  obtain ⟨i, hi0, hi1⟩ := Option.map_eq_some_iff.1 hi
  simp only [Prod.mk.injEq] at hi1
  obtain ⟨z0, z1, z2⟩ := hi1
  subst hC
  refine wpList_plain hg fun K hK' => ?_
  have hbn : i.bytes * n ≤ 8 * n := Nat.mul_le_mul_right _ (by omega)
  have hrun := run_make (P := P) w t e i (.int k 0) ht hi0 z0 kl kc 0 n (by omega) (by omega) (by rw [← Int.natCast_mul]; exact (show ((i.bytes * n : Nat) : Int) ≤ 281474976710656 by omega)) (by omega)
  unfold Oper.wp
  simp [execOp, hop, hl, hc, hrun, Result.andThen]
  refine hK' _ _ (hK _ ?_ ((Below.refl _ _).alloc (Nat.le_refl _) _))
  exact World.ownsRow_made w _ n hbase (by unfold maxLen; omega) (by simp [madeCells, z1])
end Go.Rad

namespace Go.Proofs.YtjlkplidpdhgbaaGreatDoor
open Go Go.Proofs Go.RowKit Go.Rad

theorem ba_empty {s : ByteArray} (h : s.size = 0) : s.toList.isEmpty = true := by
  rw [ByteArray.toList_eq, List.isEmpty_iff]
  exact List.eq_nil_of_length_eq_zero (by simpa using h)
theorem ba_full {s : ByteArray} (h : 0 < s.size) : s.toList.isEmpty = false := by
  rw [ByteArray.toList_eq, ← Bool.not_eq_true, List.isEmpty_iff]
  intro h2
  have h3 : s.data.toList.length = 0 := by rw [h2]; rfl
  have h4 : s.data.toList.length = s.size := by simp
  omega
theorem ba_head {s : ByteArray} (h : 0 < s.size) : s.data.toList.head? = some s[0] := by
  have h2 : 0 < s.data.toList.length := by simpa using h
  rw [List.head?_eq_getElem?, List.getElem?_eq_getElem h2]
  rfl
theorem u8_ne {b : UInt8} {n : Nat} (hn : n < 256) (h : ¬ b = UInt8.ofNat n) : ¬ (b.toNat : Int) = (n : Int) := by
  intro h2
  apply h
  apply UInt8.toNat_inj.1
  simp
  omega
/-- The length of the longest beginning that is digits of which the first is not 0. -/
def dl (l : List UInt8) : Nat := if l.head? = some 48 then 0 else _root_.Rad.runD l
set_option maxRecDepth 10000 in
set_option maxHeartbeats 1000000 in
theorem digitsLen_any (w : World) (s : ByteArray) (hs : s.size ≤ 9223372036854775806) :
    Calls Tryz.prog 96 #[.string s] w fun e w' => e = .returned (.int .i64 (dl s.data.toList : Nat)) ∧ w' = w := by
  have hlen : s.data.toList.length = s.size := by simp
  obtain ⟨r, hr⟩ : ∃ r, dl s.data.toList = r := ⟨_, rfl⟩
  rw [hr]
  by_cases h0 : s.size = 0
  · have e1 := ba_empty h0
    have : s.data.toList = [] := List.eq_nil_of_length_eq_zero (by omega)
    rw [this] at hr
    obtain rfl : r = 0 := hr.symm
    clear hr hlen this
    go_enter Tryz.func96, Tryz.ntmps96
    go_wp2
    have e2 : (s.size : Int) = 0 := by omega
    go_loop [13] (fun i => i = .int .i64 0) (fun i => 0)
    case atStart => rfl
    case round =>
      obtain rfl := hrel
      go_wp2
      go_ret
      exact ⟨rfl, rfl⟩
  · have e2 : 0 < s.size := by omega
    have e1 := ba_full e2
    have eh := ba_head e2
    by_cases h1 : s[0] = 48
    · have e3 : (s[0].toNat : Int) = 48 := by rw [h1]; rfl
      have : r = 0 := by rw [← hr]; unfold dl; rw [eh, h1]; rfl
      subst this
      clear hr hlen eh
      go_enter Tryz.func96, Tryz.ntmps96
      go_wp2
      go_ret
      exact ⟨rfl, rfl⟩
    · have e3 : ¬ (s[0].toNat : Int) = 48 := u8_ne (n := 48) (by decide) h1
      have hR : r = _root_.Rad.runD s.data.toList := by rw [← hr]; unfold dl; rw [eh, if_neg]; intro h; exact h1 (Option.some.inj h)
      have hle : r ≤ s.size := by rw [hR, ← hlen]; exact _root_.Rad.runD_le _
      have hdg : Hid (∀ i (h : i < s.size), i < r → 48 ≤ (s[i].toNat : Int) ∧ (s[i].toNat : Int) ≤ 57) := fun i h hi => by
        have := _root_.Rad.runD_at (l := s.data.toList) (i := i) (by omega) (by omega)
        unfold _root_.Rad.IsDg at this
        have e : s.data.toList[i]'(by omega) = s[i] := rfl
        rw [e] at this
        omega
      have hst : Hid (∀ (h : r < s.size), ((s[r].toNat : Int) < 48 ∨ 57 < (s[r].toNat : Int))) := fun h => by
        have := _root_.Rad.runD_stop (l := s.data.toList) (by omega)
        unfold _root_.Rad.IsDg at this
        have e : s.data.toList[_root_.Rad.runD s.data.toList]'(by omega) = s[r] := by subst hR; rfl
        rw [e] at this
        omega
      clear hR hr hlen eh
      go_enter Tryz.func96, Tryz.ntmps96
      go_wp2
      go_loop [13] (fun i => ∃ i' : Nat, i' ≤ r ∧ i = .int .i64 (i' : Int)) (fun i => s.size - (intOf i).toNat)
      case atStart => exact ⟨0, by omega, rfl⟩
      case round =>
        obtain ⟨i, hi, rfl⟩ := hrel
        by_cases hie : i = r
        · subst hie
          by_cases his : i = s.size
          · have c1 : ¬ (i : Int) < (s.size : Int) := by omega
            go_wp2
            go_ret
            exact ⟨rfl, rfl⟩
          · have c1 : (i : Int) < (s.size : Int) := by omega
            have c2 : i < s.size := by omega
            rcases hst.out c2 with h | h
            · go_wp2
              go_ret
              exact ⟨rfl, rfl⟩
            · have h' : ¬ (s[i].toNat : Int) < 48 := by omega
              go_wp2
              go_ret
              exact ⟨rfl, rfl⟩
        · have c1 : (i : Int) < (s.size : Int) := by omega
          have c2 : i < s.size := by omega
          obtain ⟨h1, h2⟩ := hdg.out i c2 (by omega)
          have h1' : ¬ (s[i].toNat : Int) < 48 := by omega
          have h2' : ¬ 57 < (s[i].toNat : Int) := by omega
          go_wp2
          exact ⟨⟨i + 1, by omega, by go_num⟩, by simp [intOf]; omega⟩
end Go.Proofs.YtjlkplidpdhgbaaGreatDoor
