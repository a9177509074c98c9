/- A part of the proof: Draw4, Tx6, Pm13. -/
import Derived.Test.YtjlkplidpdhgbaaGreatDoorP19
import Derived.Test.YtjlkplidpdhgbaaGreatDoorP38
set_option linter.all false

namespace Go.Rad
open Go Go.RowKit
/-- A guarded operation whose guard was not reckoned. -/
theorem stpU {P : Program} {ops : List Oper} {Q : Exit → Act → World → Prop} {o : Oper} {a : Act} {w : World} {K : Act → World → Prop} {E : Prop} {j : Nat} {b : Bool} {d : Nat} (hg : o.guard = some (j, b)) (hd : dstOf ops j = some d)
    (hv : a.tmps[d]?.getD undef = undef) (h : E) : if Region.wanted o (yielded ops.toArray a.tmps) = true then o.wp P a w K Q else E := by
  have hy : yielded ops.toArray a.tmps j = none := by
    unfold yielded
    unfold dstOf at hd
    have : (ops.toArray[j]?.bind (·.dst)) = some d := by simpa using hd
    rw [this]
    cases h2 : a.tmps[d]? with
    | none => simp [h2]
    | some u => rw [h2] at hv; simp at hv; subst hv; simp [h2, undef]
  rw [if_neg]
  · exact h
  · simp [Region.wanted, hg, hy]
end Go.Rad

/- The text of a number is read as that number. -/
namespace Rad
open Go
theorem dg_of_digit {d : Nat} (hd : d ≤ 9) : (UInt8.ofNat (48 + d)).toNat = 48 + d := by
  rw [UInt8.toNat_ofNat']; omega
theorem decD : ∀ n : Nat, (∀ b ∈ Lib.decDigits n, IsDg b) ∧ dval (Lib.decDigits n) = n ∧ (0 < n → ∃ b r, Lib.decDigits n = b :: r ∧ b ≠ 48) ∧ Lib.decDigits n ≠ [] ∧ (∀ L, 0 < L → n < 10 ^ L → (Lib.decDigits n).length ≤ L) := by
  intro n
  induction n using Nat.strongRecOn with
  | ind n ih =>
    by_cases h : n < 10
    · have e : Lib.decDigits n = [UInt8.ofNat (48 + n)] := Lib.decDigits_one h
      have ed := dg_of_digit (d := n) (by omega)
      rw [e]
      refine ⟨?_, ?_, ?_, by simp, ?_⟩
      · intro b hb
        rw [List.mem_singleton] at hb
        rw [hb]; unfold IsDg; rw [ed]; omega
      · rw [dval_cons, ed]; simp [dval, dvalF]
      · intro hp
        refine ⟨_, [], rfl, fun hq => ?_⟩
        have := congrArg UInt8.toNat hq
        rw [ed] at this
        change 48 + n = 48 at this
        omega
      · intro L hL _; simp; omega
    · have hn : n = n / 10 * 10 + n % 10 := by omega
      obtain ⟨h1, h2, h3, h4, h5⟩ := ih (n / 10) (by omega)
      have ed := dg_of_digit (d := n % 10) (by omega)
      have e : Lib.decDigits n = Lib.decDigits (n / 10) ++ [UInt8.ofNat (48 + n % 10)] := by
        have := dec_snoc (x := n / 10) (d := n % 10) (by omega) (by omega)
        rwa [← hn] at this
      rw [e]
      refine ⟨?_, ?_, ?_, by simp, ?_⟩
      · intro b hb
        rcases List.mem_append.1 hb with hb | hb
        · exact h1 b hb
        · rw [List.mem_singleton] at hb
          rw [hb]; unfold IsDg; rw [ed]; omega
      · rw [dval_snoc, h2, ed]; omega
      · intro _
        obtain ⟨b, r, hb, hb0⟩ := h3 (by omega)
        exact ⟨b, r ++ [UInt8.ofNat (48 + n % 10)], by rw [hb]; rfl, hb0⟩
      · intro L hL hlt
        obtain ⟨M, rfl⟩ : ∃ M, L = M + 1 := ⟨L - 1, by omega⟩
        have hM : 0 < M := by
          rcases Nat.eq_zero_or_pos M with h0 | h0
          · rw [h0] at hlt; omega
          · exact h0
        have := h5 M hM (by rw [Nat.div_lt_iff_lt_mul (by decide)]; rw [Nat.pow_succ] at hlt; exact hlt)
        rw [List.length_append]; simp; omega
theorem valid_pos {b : UInt8} {r : List UInt8} (h : ∀ c ∈ b :: r, IsDg c) (h0 : b = 48 → r = []) : Valid (b :: r) ∧ digs (b :: r) = b :: r ∧ (b :: r).head? ≠ some 45 := by
  have hb := h b List.mem_cons_self
  have hb45 : b ≠ 45 := fun e => by rw [e] at hb; exact absurd hb (by decide)
  have hd := digs_pos hb45 r
  refine ⟨⟨?_, by rw [hd]; simp⟩, hd, by simpa using hb45⟩
  by_cases hb48 : b = 48
  · rw [h0 hb48, hb48]; rfl
  · rw [wlen_pos hb45 hb48]; exact runD_of_all h
/-- The text of a number. -/
theorem itoa_back (z : Int) : Valid (Lib.itoa z) ∧ val (Lib.itoa z) = z ∧ (∀ L, 0 < L → z.natAbs < 10 ^ L → (digs (Lib.itoa z)).length ≤ L) := by
  rcases Int.lt_or_le z 0 with hz | hz
  · obtain ⟨n, rfl⟩ : ∃ n : Nat, z = -(n : Int) := ⟨z.natAbs, by omega⟩
    have hn : 0 < n := by omega
    obtain ⟨h1, h2, h3, h4, h5⟩ := decD n
    obtain ⟨b, r, hb, hb0⟩ := h3 hn
    rw [Lib.itoa_neg _ hn]
    have hd := digs_neg (Lib.decDigits n)
    have hh : (45 :: Lib.decDigits n).head? = some 45 := rfl
    refine ⟨⟨?_, by rw [hd]; exact h4⟩, ?_, ?_⟩
    · rw [wlen_neg, hb, if_neg (by simpa using hb0), ← hb, runD_of_all h1]; simp; omega
    · unfold val; rw [if_pos hh, hd, h2]
    · intro L hL hlt; rw [hd]; exact h5 L hL (by simpa using hlt)
  · obtain ⟨n, rfl⟩ : ∃ n : Nat, z = (n : Int) := ⟨z.natAbs, by omega⟩
    obtain ⟨h1, h2, h3, h4, h5⟩ := decD n
    rw [Lib.itoa_nonneg]
    obtain ⟨b, r, hb, hb0⟩ : ∃ b r, Lib.decDigits n = b :: r ∧ (b = 48 → r = []) := by
      rcases Nat.eq_zero_or_pos n with h0 | h0
      · subst h0; exact ⟨_, [], Lib.decDigits_one (by decide), fun _ => rfl⟩
      · obtain ⟨b, r, hb, hb0⟩ := h3 h0; exact ⟨b, r, hb, fun e => absurd e hb0⟩
    rw [hb] at h1 h2 h5 ⊢
    obtain ⟨v1, v2, v3⟩ := valid_pos h1 hb0
    refine ⟨v1, ?_, ?_⟩
    · unfold val; rw [if_neg v3, v2, h2]
    · intro L hL hlt; rw [v2]; exact h5 L hL (by simpa using hlt)
end Rad

/- How long sums and products of three numbers are: plain arithmetic. -/
namespace Rad
theorem bd_mono {β L M n : Nat} (h0 : 2 ≤ β) (h : n < β ^ L) (hl : L ≤ M) : n < β ^ M := Nat.lt_of_lt_of_le h (Nat.pow_le_pow_right (by omega) hl)
theorem bd_add {β L : Nat} {x y : Int} (h0 : 2 ≤ β) (hx : x.natAbs < β ^ L) (hy : y.natAbs < β ^ L) : (x + y).natAbs < β ^ (L + 1) ∧ (x - y).natAbs < β ^ (L + 1) := by
  have h := Nat.mul_le_mul_left (β ^ L) h0
  have e : β ^ (L + 1) = β ^ L * β := Nat.pow_succ ..
  rw [e]
  omega
theorem bd_mul {β L M : Nat} {x y : Int} (hx : x.natAbs < β ^ L) (hy : y.natAbs < β ^ M) : (x * y).natAbs < β ^ (L + M) := by
  rw [Int.natAbs_mul, Nat.pow_add]
  exact Nat.mul_lt_mul'' hx hy
structure LawB (β : Nat) (x y z : Int) : Prop where
  xy : (x + y).natAbs < β ^ 54
  xz : (x * z).natAbs < β ^ 106
  yz : (y * z).natAbs < β ^ 106
  xty : (x * y).natAbs < β ^ 106
  xyz : ((x + y) * z).natAbs < β ^ 107
  xmy : (x - y).natAbs < β ^ 54
  y54 : y.natAbs < β ^ 54
  x54 : x.natAbs < β ^ 54
  z54 : z.natAbs < β ^ 54
  xmyy : (x - y + y).natAbs < β ^ 55
  xtyz : (x * y * z).natAbs < β ^ 159
  ypz : (y + z).natAbs < β ^ 54
  xpyz : (x + (y + z)).natAbs < β ^ 55
  x9 : x.natAbs < β ^ 159
  y9 : y.natAbs < β ^ 159
  z9 : z.natAbs < β ^ 159
  xz9 : (x * z).natAbs < β ^ 159
  yz9 : (y * z).natAbs < β ^ 159
  o9 : (0 : Int).natAbs < β ^ 159
  gz : ((Int.gcd z 0 : Nat) : Int).natAbs < β ^ 53
  g53 : ((Int.gcd x y : Nat) : Int).natAbs < β ^ 53
  gxz : ((Int.gcd (x * z) (y * z) : Nat) : Int).natAbs < β ^ 106
theorem gcd_le_max (a b : Int) : Int.gcd a b ≤ max a.natAbs b.natAbs := by
  by_cases h : a = 0
  · subst h; rw [Int.gcd_zero_left]; omega
  · have := Nat.le_of_dvd (show 0 < a.natAbs by omega) (Nat.gcd_dvd_left a.natAbs b.natAbs)
    have e : Int.gcd a b = Nat.gcd a.natAbs b.natAbs := rfl
    omega
theorem gcd_bd {β L : Nat} {a b : Int} (ha : a.natAbs < β ^ L) (hb : b.natAbs < β ^ L) : ((Int.gcd a b : Nat) : Int).natAbs < β ^ L := by
  have := gcd_le_max a b
  rw [Int.natAbs_natCast]
  omega
theorem law_bounds {β : Nat} {x y z : Int} (h0 : 2 ≤ β) (hx : x.natAbs < β ^ 53) (hy : y.natAbs < β ^ 53) (hz : z.natAbs < β ^ 53) : LawB β x y z := by
  have h00 : (0 : Int).natAbs < β ^ 53 := Nat.pow_pos (by omega)
  have hxy := bd_add h0 hx hy
  have hyz := bd_add h0 hy hz
  have y54 := bd_mono h0 hy (show 53 ≤ 54 by decide)
  have x54 := bd_mono h0 hx (show 53 ≤ 54 by decide)
  have z54 := bd_mono h0 hz (show 53 ≤ 54 by decide)
  have mxz := bd_mul hx hz
  have myz := bd_mul hy hz
  have mxy := bd_mul hx hy
  exact ⟨hxy.1, mxz, myz, mxy, bd_mul hxy.1 hz, hxy.2, y54, x54, z54, (bd_add h0 hxy.2 y54).1, bd_mul mxy hz, hyz.1, (bd_add h0 x54 hyz.1).1,
    bd_mono h0 hx (by decide), bd_mono h0 hy (by decide), bd_mono h0 hz (by decide), bd_mono h0 mxz (by decide), bd_mono h0 myz (by decide), bd_mono h0 h00 (by decide), gcd_bd hz h00, gcd_bd hx hy, gcd_bd mxz myz⟩
end Rad
