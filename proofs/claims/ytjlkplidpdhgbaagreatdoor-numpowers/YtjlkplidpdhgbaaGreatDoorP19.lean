/- A part of the proof: Pm6, D2, D3a. -/
import Derived.Test.YtjlkplidpdhgbaaGreatDoorP10
import Derived.Test.YtjlkplidpdhgbaaGreatDoorP15
import Derived.Test.YtjlkplidpdhgbaaGreatDoorP14
import Derived.Test.YtjlkplidpdhgbaaGreatDoorP11
import Derived.Test.YtjlkplidpdhgbaaGreatDoorP02
import Derived.Deep.Cut
import Derived.Deep.CutRange
set_option linter.all false

/- Roots by Newton's way: plain arithmetic, nothing of the program. -/
namespace Rad

theorem amgm_int (x r : Int) (hx : 0 ≤ x) (hr : 0 ≤ r) : ∀ j : Nat, ((j : Int) + 1) * r * x ^ j ≤ j * x ^ (j + 1) + r ^ (j + 1)
  | 0 => by simp [Int.pow_succ]
  | j + 1 => by
    have h := Int.mul_le_mul_of_nonneg_left (amgm_int x r hx hr j) hr
    have hp : 0 ≤ x ^ j := Int.pow_nonneg hx
    have hs : 0 ≤ (x - r) * (x - r) := by
      rcases Int.le_total x r with h1 | h1
      · exact Int.mul_nonneg_of_nonpos_of_nonpos (by omega) (by omega)
      · exact Int.mul_nonneg (by omega) (by omega)
    have hm := Int.mul_nonneg (Int.mul_nonneg (show (0 : Int) ≤ j + 1 by omega) hp) hs
    have e1 : x ^ (j + 1) = x ^ j * x := Int.pow_succ _ _
    have e2 : x ^ (j + 1 + 1) = x ^ j * x * x := by rw [Int.pow_succ, Int.pow_succ]
    have e3 : r ^ (j + 1 + 1) = r ^ (j + 1) * r := Int.pow_succ _ _
    rw [e1] at h
    rw [e1, e2, e3]
    push_cast
    generalize x ^ j = X at *
    generalize r ^ (j + 1) = R at *
    generalize (j : Int) = J at *
    grind

theorem amgm (x r j : Nat) : (j + 1) * r * x ^ j ≤ j * x ^ (j + 1) + r ^ (j + 1) := by
  have h := amgm_int x r (by omega) (by omega) j
  exact_mod_cast h

/-- r is the k-th root of a, rounded down. -/
def IsRt (k a r : Nat) : Prop := r ^ k ≤ a ∧ a < (r + 1) ^ k

theorem newton_ge {k a r x : Nat} (hk : 0 < k) (hx : 0 < x) (h : r ^ k ≤ a) : r ≤ ((k - 1) * x + a / x ^ (k - 1)) / k := by
  obtain ⟨j, rfl⟩ : ∃ j, k = j + 1 := ⟨k - 1, by omega⟩
  rw [Nat.add_sub_cancel]
  rw [Nat.le_div_iff_mul_le hk]
  have h1 := amgm x r j
  rcases Nat.lt_or_ge (j * x) (r * (j + 1)) with h2 | h2
  · obtain ⟨d, hd⟩ := Nat.exists_eq_add_of_lt h2
    have h3 : d + 1 ≤ a / x ^ j := by
      rw [Nat.le_div_iff_mul_le (Nat.pow_pos hx)]
      refine Nat.le_trans ?_ h
      have e : x ^ (j + 1) = x ^ j * x := Nat.pow_succ ..
      rw [e] at h1
      have e2 : (j + 1) * r * x ^ j = (j * x + d + 1) * x ^ j := by rw [← hd, Nat.mul_comm r]
      rw [e2] at h1
      have e3 : (j * x + d + 1) * x ^ j = j * (x ^ j * x) + (d + 1) * x ^ j := by
        rw [Nat.add_assoc, Nat.add_mul, Nat.mul_assoc, Nat.mul_comm x]
      omega
    omega
  · exact Nat.le_trans h2 (Nat.le_add_right _ _)

theorem newton_stop {k a r x : Nat} (hk : 0 < k) (hx : 0 < x) (hr : a < (r + 1) ^ k) (hy : x ≤ ((k - 1) * x + a / x ^ (k - 1)) / k) : x ≤ r := by
  obtain ⟨j, rfl⟩ : ∃ j, k = j + 1 := ⟨k - 1, by omega⟩
  rw [Nat.add_sub_cancel, Nat.le_div_iff_mul_le hk] at hy
  have h1 : x ≤ a / x ^ j := by
    have : x * (j + 1) = j * x + x := by rw [Nat.mul_add, Nat.mul_comm, Nat.mul_one]
    omega
  rw [Nat.le_div_iff_mul_le (Nat.pow_pos hx)] at h1
  have h2 : x ^ (j + 1) ≤ a := by rw [Nat.pow_succ, Nat.mul_comm]; exact h1
  have h3 := Nat.lt_of_le_of_lt h2 hr
  rcases Nat.lt_or_ge r x with h4 | h4
  · exact absurd (Nat.pow_le_pow_left (show r + 1 ≤ x from h4) (j + 1)) (Nat.not_le_of_lt h3)
  · exact h4

theorem isRt_exists {k : Nat} (hk : 0 < k) : ∀ a : Nat, ∃ r, IsRt k a r
  | 0 => ⟨0, by rw [Nat.zero_pow hk]; exact Nat.le_refl _, Nat.pow_pos (by omega)⟩
  | a + 1 => by
    obtain ⟨r, h1, h2⟩ := isRt_exists hk a
    rcases Nat.lt_or_ge (a + 1) ((r + 1) ^ k) with h3 | h3
    · exact ⟨r, by omega, h3⟩
    · exact ⟨r + 1, h3, Nat.lt_of_le_of_lt h2 (Nat.pow_lt_pow_left (by omega) (by omega))⟩

theorem IsRt.lt_of {k a r x : Nat} (h : IsRt k a r) (hx : a < x ^ k) : r < x := by
  rcases Nat.lt_or_ge r x with h4 | h4
  · exact h4
  · exact absurd (Nat.le_trans (Nat.pow_le_pow_left h4 k) h.1) (Nat.not_le_of_lt hx)
theorem IsRt.le_of {k a r x : Nat} (h : IsRt k a r) (hx : x ^ k ≤ a) : x ≤ r := by
  rcases Nat.lt_or_ge r x with h4 | h4
  · exact absurd (Nat.le_trans (Nat.pow_le_pow_left (show r + 1 ≤ x from h4) k) hx) (Nat.not_le_of_lt h.2)
  · exact h4
theorem IsRt.unique {k a r s : Nat} (h : IsRt k a r) (g : IsRt k a s) : r = s := Nat.le_antisymm (g.le_of h.1) (h.le_of g.1)

/-- The start of Newton's way. -/
theorem start_gt {k s a r : Nat} (h : IsRt k (a / 2 ^ (k * s)) r) : a < ((r + 1) * 2 ^ s) ^ k := by
  have h2 := h.2
  rw [Nat.div_lt_iff_lt_mul (Nat.pow_pos (by decide))] at h2
  rw [Nat.mul_pow, ← Nat.pow_mul, Nat.mul_comm s k]
  exact h2
theorem start_le {k s a r : Nat} (hk : 0 < k) (h : IsRt k (a / 2 ^ (k * s)) r) (ha : 0 < a / 2 ^ (k * s)) : 0 < r ∧ (r + 1) * 2 ^ s ≤ 2 * a := by
  have hr : 0 < r := by
    rcases Nat.eq_zero_or_pos r with h0 | h0
    · have := h.2; rw [h0, Nat.zero_add, Nat.one_pow] at this; omega
    · exact h0
  refine ⟨hr, ?_⟩
  have h1 : (r * 2 ^ s) ^ k ≤ a := by
    rw [Nat.mul_pow, ← Nat.pow_mul, Nat.mul_comm s k]
    exact Nat.le_trans (Nat.mul_le_mul_right _ h.1) (Nat.div_mul_le_self _ _)
  have h2 : r * 2 ^ s ≤ (r * 2 ^ s) ^ k := Nat.le_self_pow (by omega) _
  have h3 : (r + 1) * 2 ^ s ≤ 2 * r * 2 ^ s := Nat.mul_le_mul_right _ (by omega)
  rw [Nat.mul_assoc] at h3
  omega
theorem isRt_one {k a : Nat} (h1 : 0 < a) (h2 : a < 2 ^ k) : IsRt k a 1 := ⟨by rw [Nat.one_pow]; exact h1, h2⟩
end Rad

namespace Go.Proofs.YtjlkplidpdhgbaaGreatDoor
open Go Go.Proofs Go.RowKit Go.Rad

/-- How long a magnitude is in bits. -/
theorem bitLen_mag (w : World) (v : Value) (x n : Nat) (hx : Mag w v x n) (hn : 0 < n) (hl : n ≤ 35184372088832) :
    Calls Tryz.prog 118 #[v] w fun e w' => ∃ bl : Nat, e = .returned (.int .i64 (bl : Int)) ∧ w' = w ∧ 0 < bl ∧ 2 ^ (bl - 1) ≤ x ∧ x < 2 ^ bl ∧ bl ≤ 64 * n := by
  obtain ⟨b, o, c, rfl, hc, ha, hnum, ht⟩ := hx.row hn
  refine (bitLen_any w b o n c hn hc hl ha).mono ?_
  rintro e w' ⟨L, rfl, hw, hL, h64⟩
  obtain ⟨m, rfl⟩ : ∃ m, n = m + 1 := ⟨n - 1, by omega⟩
  rw [Nat.add_sub_cancel] at hL ⊢
  have e2 : num B w b o (m + 1) = num B w b o m + B ^ m * word w b (o + m) := num_succ _ _ _ _ _
  have hlow : num B w b o m < B ^ m := num_lt (ha.sub (d := 0) (m := m) (by omega))
  have hB : B ^ m = 2 ^ (64 * m) := by rw [Nat.pow_mul]; rfl
  rw [hnum, hB] at e2
  rw [hB] at hlow
  rw [Nat.add_sub_cancel] at ht
  rcases hL with ⟨h1, _⟩ | ⟨h1, h2, h3⟩
  · exact absurd h1 ht
  · refine ⟨64 * m + L, rfl, hw, by omega, ?_, ?_, by omega⟩
    · rw [show 64 * m + L - 1 = 64 * m + (L - 1) by omega, Nat.pow_add, e2]
      exact Nat.le_trans (Nat.mul_le_mul_left _ h2) (Nat.le_add_left _ _)
    · rw [Nat.pow_add, e2]
      have h4 := Nat.mul_le_mul_left (2 ^ (64 * m)) (show word w b (o + m) + 1 ≤ 2 ^ L from h3)
      rw [Nat.mul_add] at h4
      omega

set_option maxRecDepth 10000 in
set_option maxHeartbeats 2000000 in
theorem timesTwoTo_any (w : World) (va : Value) (a : Int) (m : Nat) (ha : IsInt w va a) (h0 : 0 ≤ a) (hb : a.natAbs < B ^ 200) (hm : m ≤ 1000000) :
    Calls Tryz.prog 119 #[va, .int .i64 m] w fun e w' => ∃ v, e = .returned v ∧ Below w.heap.size w w' ∧ IsInt w' v (a * (2 ^ m : Nat)) := by
  obtain ⟨s, ao, n, c, rfl⟩ := ha.form
  have HA : Hid (IsInt w (.agg #[.int .i64 s, .slice ao n c]) a) := ha
  have HB : Hid _ := hb
  have HE : Hid (sgn false (a.natAbs * 2 ^ m) = a * (2 ^ m : Nat)) := by
    show _ = _
    obtain ⟨k, rfl⟩ : ∃ k : Nat, a = (k : Int) := ⟨a.natAbs, by omega⟩
    rw [sgn_pos, Int.natAbs_natCast, Int.natCast_mul]
  clear ha hb h0
  go_enter Tryz.func119, Tryz.ntmps119
  go_upto_region 1 with fail
  refine wp_world (fun w1 => Below w.heap.size w w1 ∧ FB w1 w.heap.size (.int .i64 s) (.slice ao n c) ∧ FB w1 (w.heap.size + 1) (.int .i64 0) (.slice none 0 0)) (fb2 w _ _ _ _ _ _ rfl) ?_
  rintro w1 ⟨hB1, F2, F4⟩
  obtain ⟨l2, k20, k21, -, -⟩ := id F2
  have HF4 : Hid _ := F4
  have HB1 : Hid _ := hB1
  clear F2 F4 hB1
  go_wp2_with (go_at_call 77; fail)
  refine (magnitude_any w1 _ a (IsInt.below HA.out HB1.out)).mono ?_
  rintro e w2 ⟨v2, n2, rfl, hb2, hm2⟩
  have hn2 : n2 ≤ 200 := hm2.len_le HB.out
  clear l2 k20 k21
  go_wp2_with (go_at_call 136; fail)
  refine (shiftLeft_any w2 v2 _ n2 m hm2 (by omega) (by unfold maxLen; omega)).mono ?_
  rintro e w3 ⟨v3, n3, rfl, hb3, hm3, -⟩
  go_wp2_with (go_at_call 76; fail)
  refine (signed_any w3 false v3 _ n3 hm3).mono ?_
  rintro e w4 ⟨v4, rfl, hb4, hm4⟩
  rw [HE.out] at hm4
  obtain ⟨s5, a5, n5, c5, rfl⟩ := hm4.form
  have F4 := ((HF4.out.below hb2).below hb3).below hb4
  have hb := ((HB1.out.trans (hb2.mono HB1.out.size)).trans (hb3.mono (Nat.le_trans HB1.out.size hb2.size))).trans (hb4.mono (Nat.le_trans (Nat.le_trans HB1.out.size hb2.size) hb3.size))
  have HW : Hid _ := below_set2 hb (show w.heap.size ≤ w.heap.size + 1 by omega) (.int .i64 s5) (.slice a5 n5 c5)
  have HI : Hid (IsInt _ _ _) := hm4.keep (F4.keep (.int .i64 s5) (.slice a5 n5 c5))
  obtain ⟨l4, k40, k41, p40, p41⟩ := F4
  clear hm4 hb hb2 hb3 hb4 hm2 hm3
  go_wp2
  refine bodyPost_ret (v := .agg #[.int .i64 s5, .slice a5 n5 c5]) (by simp [results, go_sem, loadVar, World.cell?_setCell_same, World.cell?_setCell_other, *]; try rfl) rfl ?_
  exact ⟨_, rfl, HW.out, HI.out⟩
end Go.Proofs.YtjlkplidpdhgbaaGreatDoor

namespace Go.Proofs.YtjlkplidpdhgbaaGreatDoor
open Go Go.Proofs Go.RowKit Go.Rad

/-- A variable of type Int made in a region: not yet written, or holding z. -/
def NV (w1 : World) (st : Bool) (z : Int) (v : Value) (w : World) : Prop :=
  ∃ b : Nat, v = .pointer (some ⟨b, 0, none⟩) ∧ w1.heap.size ≤ b ∧ ∃ s a n c, FB w b (.int .i64 s) (.slice a n c) ∧ (st = true → IsInt w (.agg #[.int .i64 s, .slice a n c]) z)
theorem NV.below {w1 w w' : World} {st : Bool} {z : Int} {v : Value} (h : NV w1 st z v w) (hb : Below w.heap.size w w') : NV w1 st z v w' := by
  obtain ⟨b, hv, hb1, s, a, n, c, hf, hi⟩ := h
  exact ⟨b, hv, hb1, s, a, n, c, hf.below hb, fun e => (hi e).below hb⟩
/-- A region that makes two variables of type Int and writes z1 and z2 into them. -/
structure TwoV (w1 : World) (z1 z2 : Int) (Lp Lq Ls Lt : Bool) (xp xq : Value) (w : World) : Prop where
  bel : Below w1.heap.size w1 w
  p : Lp = true → NV w1 Ls z1 xp w
  q : Lq = true → NV w1 Lt z2 xq w
  apart : Lp = true → Lq = true → xp ≠ xq
theorem TwoV.start (w1 : World) (z1 z2 : Int) (xp xq : Value) : TwoV w1 z1 z2 false false false false xp xq w1.drew :=
  ⟨bel_drew _, fun h => (by cases h), fun h => (by cases h), fun h => (by cases h)⟩
theorem TwoV.below {w1 : World} {z1 z2 : Int} {Lp Lq Ls Lt : Bool} {xp xq : Value} {w w' : World} (h : TwoV w1 z1 z2 Lp Lq Ls Lt xp xq w) (hb : Below w.heap.size w w') : TwoV w1 z1 z2 Lp Lq Ls Lt xp xq w' :=
  ⟨h.bel.trans (hb.mono h.bel.size), fun e => (h.p e).below hb, fun e => (h.q e).below hb, h.apart⟩
theorem NV.new (w1 w : World) (z : Int) (hs : w1.heap.size ≤ w.heap.size) : NV w1 false z (.pointer (some ⟨w.heap.size, 0, none⟩)) (w.alloc (Obj.cells #[.int .i64 0, .slice none 0 0] 24)) :=
  ⟨_, rfl, hs, 0, none, 0, 0, FB.mk0 _ _ _ _, fun h => (by cases h)⟩
theorem NV.ne_new {w1 w : World} {st : Bool} {z : Int} {v : Value} (h : NV w1 st z v w) : v ≠ .pointer (some ⟨w.heap.size, 0, none⟩) := by
  obtain ⟨b, rfl, hb1, s, a, n, c, hf, hi⟩ := h
  intro e
  have := hf.lt
  simp only [Value.pointer.injEq, Option.some.injEq, Addr.mk.injEq] at e
  omega
theorem TwoV.allocP {w1 : World} {z1 z2 : Int} {Lp Lq Lt : Bool} {xp xq : Value} {w : World} (h : TwoV w1 z1 z2 Lp Lq false Lt xp xq w) :
    TwoV w1 z1 z2 true Lq false Lt (.pointer (some ⟨w.heap.size, 0, none⟩)) xq (w.alloc (Obj.cells #[.int .i64 0, .slice none 0 0] 24)) :=
  ⟨h.bel.trans ((bel1 _ _).mono h.bel.size), fun _ => NV.new _ _ _ h.bel.size, fun e => (h.q e).below (bel1 _ _), fun _ e => (h.q e).ne_new.symm⟩
theorem TwoV.allocQ {w1 : World} {z1 z2 : Int} {Lp Lq Ls : Bool} {xp xq : Value} {w : World} (h : TwoV w1 z1 z2 Lp Lq Ls false xp xq w) :
    TwoV w1 z1 z2 Lp true Ls false xp (.pointer (some ⟨w.heap.size, 0, none⟩)) (w.alloc (Obj.cells #[.int .i64 0, .slice none 0 0] 24)) :=
  ⟨h.bel.trans ((bel1 _ _).mono h.bel.size), fun e => (h.p e).below (bel1 _ _), fun _ => NV.new _ _ _ h.bel.size, fun e _ => (h.p e).ne_new⟩
theorem NV.stored {w1 w : World} {st : Bool} {z : Int} {b : Nat} (h : NV w1 st z (.pointer (some ⟨b, 0, none⟩)) w) {s : Int} {a : Option Addr} {n c : Nat} (hz : IsInt w (.agg #[.int .i64 s, .slice a n c]) z) :
    NV w1 true z (.pointer (some ⟨b, 0, none⟩)) ((w.setCell ⟨b, 0, none⟩ (.int .i64 s)).setCell ⟨b, 1, none⟩ (.slice a n c)) := by
  obtain ⟨b', hv, hb1, s', a', n', c', hf, hi⟩ := h
  simp only [Value.pointer.injEq, Option.some.injEq, Addr.mk.injEq, and_true] at hv
  subst hv
  exact ⟨_, rfl, hb1, s, a, n, c, hf.set _ _, fun _ => hz.keep (hf.keep _ _)⟩
theorem NV.kept {w1 w : World} {st st' : Bool} {z z' : Int} {b : Nat} {v : Value} (h : NV w1 st z v w) (hp : NV w1 st' z' (.pointer (some ⟨b, 0, none⟩)) w) (hne : v ≠ .pointer (some ⟨b, 0, none⟩)) (v0 v1 : Value) :
    NV w1 st z v ((w.setCell ⟨b, 0, none⟩ v0).setCell ⟨b, 1, none⟩ v1) := by
  obtain ⟨b1, rfl, hb1, s, a, n, c, hf, hi⟩ := h
  obtain ⟨b2, hv, hb2, s', a', n', c', hf', hi'⟩ := hp
  simp only [Value.pointer.injEq, Option.some.injEq, Addr.mk.injEq, and_true] at hv
  subst hv
  have hbb : b1 ≠ b := fun e => hne (by rw [e])
  exact ⟨_, rfl, hb1, s, a, n, c, hf.other _ _ hbb, fun e => (hi e).keep (hf'.keep _ _)⟩
theorem NV.ge {w1 w : World} {st : Bool} {z : Int} {b : Nat} (h : NV w1 st z (.pointer (some ⟨b, 0, none⟩)) w) : w1.heap.size ≤ b ∧ ∃ s a n c, FB w b (.int .i64 s) (.slice a n c) := by
  obtain ⟨b', hv, hb1, s', a', n', c', hf, hi⟩ := h
  simp only [Value.pointer.injEq, Option.some.injEq, Addr.mk.injEq, and_true] at hv
  subst hv
  exact ⟨hb1, _, _, _, _, hf⟩
theorem NV.keep {w1 w : World} {st : Bool} {z : Int} {b : Nat} (h : NV w1 st z (.pointer (some ⟨b, 0, none⟩)) w) (v0 v1 : Value) : Keep w ((w.setCell ⟨b, 0, none⟩ v0).setCell ⟨b, 1, none⟩ v1) := by
  obtain ⟨_, s, a, n, c, hf⟩ := h.ge
  exact hf.keep _ _
theorem TwoV.storeP {w1 : World} {z1 z2 : Int} {Lq Ls Lt : Bool} {b : Nat} {xq : Value} {w : World} (h : TwoV w1 z1 z2 true Lq Ls Lt (.pointer (some ⟨b, 0, none⟩)) xq w) {s : Int} {a : Option Addr} {n c : Nat}
    (hz : IsInt w (.agg #[.int .i64 s, .slice a n c]) z1) : TwoV w1 z1 z2 true Lq true Lt (.pointer (some ⟨b, 0, none⟩)) xq ((w.setCell ⟨b, 0, none⟩ (.int .i64 s)).setCell ⟨b, 1, none⟩ (.slice a n c)) := by
  have hp := h.p rfl
  exact ⟨below_set2 h.bel hp.ge.1 _ _, fun _ => hp.stored hz, fun e => (h.q e).kept hp (fun e' => h.apart rfl e e'.symm) _ _, h.apart⟩
theorem TwoV.storeQ {w1 : World} {z1 z2 : Int} {Lp Ls Lt : Bool} {b : Nat} {xp : Value} {w : World} (h : TwoV w1 z1 z2 Lp true Ls Lt xp (.pointer (some ⟨b, 0, none⟩)) w) {s : Int} {a : Option Addr} {n c : Nat}
    (hz : IsInt w (.agg #[.int .i64 s, .slice a n c]) z2) : TwoV w1 z1 z2 Lp true Ls true xp (.pointer (some ⟨b, 0, none⟩)) ((w.setCell ⟨b, 0, none⟩ (.int .i64 s)).setCell ⟨b, 1, none⟩ (.slice a n c)) := by
  have hq := h.q rfl
  exact ⟨below_set2 h.bel hq.ge.1 _ _, fun e => (h.p e).kept hq (h.apart e rfl) _ _, fun _ => hq.stored hz, h.apart⟩
theorem TwoV.atPut {w1 : World} {z1 z2 : Int} {Lp Lq Ls Lt : Bool} {w : World} {fr : Act} {d tp tq : Nat} {v : Value} (hp : d ≠ tp) (hq : d ≠ tq)
    (h : TwoV w1 z1 z2 Lp Lq Ls Lt (fr.eval (.tmp tp)) (fr.eval (.tmp tq)) w) : TwoV w1 z1 z2 Lp Lq Ls Lt ((fr.put (some d) v).eval (.tmp tp)) ((fr.put (some d) v).eval (.tmp tq)) w := by
  rw [eval_put_other hp, eval_put_other hq]; exact h
theorem eval_put9 {a : Act} {d t : Nat} {v : Value} (h : d ≠ t) : (a.put (some d) v).eval (.tmp t) = a.eval (.tmp t) := eval_put_other h
end Go.Proofs.YtjlkplidpdhgbaaGreatDoor
