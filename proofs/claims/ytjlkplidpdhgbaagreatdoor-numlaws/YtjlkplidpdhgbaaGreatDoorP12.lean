/- A part of the proof: W9, Pm4. -/
import Derived.Test.YtjlkplidpdhgbaaGreatDoorP03
import Derived.Laws.Bits64b
import Derived.Test.YtjlkplidpdhgbaaGreatDoorP00
set_option linter.all false

namespace Go.Proofs.YtjlkplidpdhgbaaGreatDoor
open Go Go.Proofs Go.RowKit Go.Rad

theorem two_pow_split {s : Nat} (hs : s ≤ 64) : 2 ^ (64 - s) * 2 ^ s = 18446744073709551616 := by
  rw [← Nat.pow_add, show 64 - s + s = 64 by omega]
theorem wrap_u64_nat (n : Nat) : IntKind.u64.wrap ((n : Nat) : Int) = ((lo n : Nat) : Int) := by
  rw [IntKind.wrap_u64]; unfold lo; omega
theorem shl_nat (d s : Nat) : IntKind.u64.wrap ((d : Int) * 2 ^ s) = ((lo (d * 2 ^ s) : Nat) : Int) := by
  rw [← wrap_u64_nat, Int.natCast_mul, Int.natCast_pow] <;> rfl
theorem shr_nat (d s : Nat) : (d : Int) / 2 ^ s = ((d / 2 ^ s : Nat) : Int) := by
  rw [Int.natCast_ediv, Int.natCast_pow]; rfl
/-- The low word of a shift, and what is shifted in. -/
theorem lo_shl {d s : Nat} (hs : s ≤ 64) : lo (d * 2 ^ s) = 2 ^ s * (d % 2 ^ (64 - s)) := by
  unfold lo
  rw [← two_pow_split hs, Nat.mul_mod_mul_right, Nat.mul_comm]
theorem hi_shl {d s : Nat} (hs : s ≤ 64) : hi (d * 2 ^ s) = d / 2 ^ (64 - s) := by
  unfold hi
  rw [← two_pow_split hs, Nat.mul_div_mul_right _ _ (Nat.pow_pos (by decide))]
theorem shl_or {d s c : Nat} (hs : s ≤ 64) (hc : c < 2 ^ s) :
    bits .or .u64 (IntKind.u64.wrap ((d : Int) * 2 ^ s)) (c : Int) = ((lo (d * 2 ^ s) + c : Nat) : Int) := by
  have h1 : 2 ^ s ≤ 2 ^ 64 := Nat.pow_le_pow_right (by decide) hs
  rw [shl_nat, bits_or_u64_nat _ _ (lo_lt _) (by omega), lo_shl hs, ← Nat.two_pow_add_eq_or_of_lt hc]
theorem shl_or_lt {d s c : Nat} (hs : s ≤ 64) (hc : c < 2 ^ s) : lo (d * 2 ^ s) + c < B := by
  rw [lo_shl hs]
  have h1 : d % 2 ^ (64 - s) < 2 ^ (64 - s) := Nat.mod_lt _ (Nat.pow_pos (by decide))
  have h2 := two_pow_split hs
  have h3 := Nat.mul_le_mul_left (2 ^ s) (show d % 2 ^ (64 - s) + 1 ≤ 2 ^ (64 - s) from h1)
  rw [Nat.mul_add, Nat.mul_comm (2 ^ s) (2 ^ (64 - s)), h2] at h3
  unfold B
  omega
theorem hi_shl_lt {d s : Nat} (hs : s ≤ 64) (hd : d < B) : d / 2 ^ (64 - s) < 2 ^ s := by
  refine Nat.div_lt_of_lt_mul ?_
  rw [two_pow_split hs]; exact hd
/-- One word of a shift upwards. -/
theorem up_step {k x d c r p e f : Nat} (h : r + B ^ k * c = x * p) (he : e + B * f = d * p + c) : r + B ^ k * e + B ^ (k + 1) * f = (x + B ^ k * d) * p := by
  have h2 : B ^ (k + 1) * f = B ^ k * (B * f) := by rw [Nat.pow_succ, Nat.mul_assoc]
  have h3 : B ^ k * (e + B * f) = B ^ k * (d * p + c) := by rw [he]
  rw [Nat.mul_add, Nat.mul_add] at h3
  have h4 : (x + B ^ k * d) * p = x * p + B ^ k * (d * p) := by rw [Nat.add_mul, Nat.mul_assoc]
  rw [h2, h4]
  omega

set_option maxRecDepth 10000 in
set_option maxHeartbeats 1000000 in
theorem moveUp_any (w : World) (az ax : Option Addr) (bz oz nz cz bx ox nx cx s : Nat) (hsz : Sl az bz oz nz) (hsx : Sl ax bx ox nx) (hz : Arr .u64 B w bz oz nz) (hf : Free w bz oz nz)
    (hx : Arr .u64 B w bx ox nx) (hn : nz = nx + 1) (hap : 0 < nx → bz ≠ bx ∨ ox + nx ≤ oz ∨ oz + nz ≤ ox) (hmz : nz ≤ maxLen) (hs : s < 64) :
    Calls Tryz.prog 137 #[.slice az nz cz, .slice ax nx cx, .int .u64 s] w fun e w' => e = .returned (.tuple #[]) ∧ Chg w w' bz oz (oz + nz) ∧ Arr .u64 B w' bz oz nz ∧
      num B w' bz oz nz = num B w bx ox nx * 2 ^ s := by
  subst hn
  have hmz' : nx + 1 ≤ 9223372036854775807 := hmz
  clear hmz
  go_enter Tryz.func137, Tryz.ntmps137
  go_wp2
  go_loopw [6, 11] (fun c i wr => ∃ k cc : Nat, k ≤ nx ∧ cc < 2 ^ s ∧ i = .int .i64 k ∧ c = .int .u64 cc ∧ Chg w wr bz oz (oz + k) ∧ Arr .u64 B wr bz oz (nx + 1) ∧
      num B wr bz oz k + B ^ k * cc = num B w bx ox k * 2 ^ s)
    (fun _ i _ => nx - (intOf i).toNat)
  case atStart => exact ⟨0, 0, by omega, Nat.pow_pos (by decide), rfl, rfl, Chg.refl _ _ _ _, hz, by simp [num_zero]⟩
  case round =>
    obtain ⟨k, cc, hk, hcc, rfl, rfl, hch, har, hnum⟩ := hrel
    obtain rfl := hsz (by omega)
    by_cases hlt : k < nx
    · obtain rfl := hsx (by omega)
      have hzk := arr_cell har (i := k) (by omega)
      have exk : wr.cell? ⟨bx, ox + k, none⟩ = w.cell? ⟨bx, ox + k, none⟩ := hch.cellAt (hx.lt (by omega)) (by have := hap (by omega); omega)
      have hxk : wr.cell? ⟨bx, ox + k, none⟩ = some (.int .u64 ((word w bx (ox + k) : Nat) : Int)) := exk.trans (arr_cell hx hlt)
      have hfk : wr.frozen? ⟨bz, oz + k, none⟩ = false := (hch.free hf hz.lt) k (by omega)
      have hs0 : (0 : Int) ≤ 64 - (s : Int) := by omega
      have hs1 : (64 - (s : Int)).toNat = 64 - s := by omega
      have hlt2 := arr_lt hx hlt
      have e1 := shl_or (d := word w bx (ox + k)) (s := s) (c := cc) (by omega) hcc
      have e2 := shr_nat (word w bx (ox + k)) (64 - s)
      have l1 := shl_or_lt (d := word w bx (ox + k)) (s := s) (c := cc) (by omega) hcc
      have l2 := hi_shl_lt (s := s) (by omega) hlt2
      have hstep := up_step (p := 2 ^ s) (e := lo (word w bx (ox + k) * 2 ^ s) + cc) (f := word w bx (ox + k) / 2 ^ (64 - s)) hnum
        (by rw [← hi_shl (by omega), Nat.add_right_comm, lo_hi])
      have H0 : num B wr bz oz k + B ^ k * (lo (word w bx (ox + k) * 2 ^ s) + cc) + B ^ (k + 1) * (word w bx (ox + k) / 2 ^ (64 - s)) = num B w bx ox (k + 1) * 2 ^ s := by
        rw [num_succ]; exact hstep
      have H : Hid _ := H0
      have E1 : Hid _ := e1
      have E2 : Hid _ := e2
      have L1 : Hid _ := l1
      have L2 : Hid _ := l2
      clear hnum exk hstep H0 e1 e2 l1 l2 hcc
      go_wp2
      rw [E1.out, E2.out]
      go_roundw
      case rel =>
        exact ⟨k + 1, _, by omega, L2.out, by go_num, rfl, (hch.mono (Nat.le_refl _) (by omega)).set (by omega) (by omega) _, har.set L1.out, by rw [num_store har (by omega)]; exact H.out⟩
      case measure => simp [intOf]; omega
    · obtain rfl : k = nx := by omega
      have hzk := arr_cell har (i := k) (by omega)
      have hfk : wr.frozen? ⟨bz, oz + k, none⟩ = false := (hch.free hf hz.lt) k (by omega)
      have H : Hid _ := hnum
      have C : Hid _ := hcc
      clear hnum hcc
      have hcB : cc < B := by
        have h1 := C.out
        have h2 : 2 ^ s ≤ 2 ^ 64 := Nat.pow_le_pow_right (by decide) (by omega)
        unfold B; omega
      go_wp2
      go_end0
      exact ⟨rfl, (hch.mono (Nat.le_refl _) (by omega)).set (by omega) (by omega) _, har.set hcB, by rw [num_store har (by omega)]; exact H.out⟩

/-- One word of a shift downwards: x stands above d; r is what x leaves. -/
theorem down_step {d x s : Nat} (hs : s ≤ 64) : (d + B * x) / 2 ^ s = (d / 2 ^ s + 2 ^ (64 - s) * (x % 2 ^ s)) + B * (x / 2 ^ s) := by
  have hp : 0 < 2 ^ s := Nat.pow_pos (by decide)
  have hB : B = 2 ^ s * 2 ^ (64 - s) := by rw [Nat.mul_comm, two_pow_split hs]; rfl
  have hx := Nat.mod_add_div x (2 ^ s)
  have e : d + B * x = d + 2 ^ s * (2 ^ (64 - s) * x) := by rw [hB, Nat.mul_assoc]
  rw [e, Nat.add_mul_div_left _ _ hp]
  have e2 : 2 ^ (64 - s) * x = 2 ^ (64 - s) * (x % 2 ^ s) + B * (x / 2 ^ s) := by
    conv => lhs; rw [← hx, Nat.mul_add, ← Nat.mul_assoc]
    rw [hB, Nat.mul_comm (2 ^ (64 - s)) (2 ^ s)]
  rw [e2]
  generalize B * (x / 2 ^ s) = u
  omega
theorem down_lt {d x s : Nat} (hs : s ≤ 64) (hd : d < B) : d / 2 ^ s + 2 ^ (64 - s) * (x % 2 ^ s) < B := by
  have h2 := two_pow_split hs
  have h1 : d / 2 ^ s < 2 ^ (64 - s) := Nat.div_lt_of_lt_mul (by rw [Nat.mul_comm, h2]; exact hd)
  have h3 : x % 2 ^ s < 2 ^ s := Nat.mod_lt _ (Nat.pow_pos (by decide))
  have h4 := Nat.mul_le_mul_left (2 ^ (64 - s)) (show x % 2 ^ s + 1 ≤ 2 ^ s from h3)
  rw [Nat.mul_add, h2, Nat.mul_one] at h4
  exact Nat.lt_of_lt_of_le (by rw [Nat.add_comm]; exact Nat.add_lt_add_left h1 _) h4
theorem shr_or {d x s : Nat} (hs : s ≤ 64) (hd : d < B) :
    bits .or .u64 ((d / 2 ^ s : Nat) : Int) ((2 ^ (64 - s) * (x % 2 ^ s) : Nat) : Int) = ((d / 2 ^ s + 2 ^ (64 - s) * (x % 2 ^ s) : Nat) : Int) := by
  have h2 := two_pow_split hs
  have h1 : d / 2 ^ s < 2 ^ (64 - s) := Nat.div_lt_of_lt_mul (by rw [Nat.mul_comm, h2]; exact hd)
  have h3 := down_lt (x := x) hs hd
  unfold B at h3
  rw [bits_or_u64_nat _ _ (Nat.lt_of_le_of_lt (Nat.le_add_right _ _) h3) (Nat.lt_of_le_of_lt (Nat.le_add_left _ _) h3), Nat.or_comm, ← Nat.two_pow_add_eq_or_of_lt h1, Nat.add_comm]
/-- What is shifted out at the low end, at the high end. -/
theorem shl_out {x s : Nat} (hs : s ≤ 64) : lo (x * 2 ^ (64 - s)) = 2 ^ (64 - s) * (x % 2 ^ s) := by
  have := lo_shl (d := x) (s := 64 - s) (by omega)
  rwa [show 64 - (64 - s) = s by omega] at this
theorem num_head (w : World) (b o n : Nat) : num B w b o (n + 1) = word w b o + B * num B w b (o + 1) n := by
  unfold num
  rw [_root_.Rad.vs_head]
  simp only [Nat.add_zero]
  congr 2
  exact _root_.Rad.vs_congr fun i _ => by rw [show o + 1 + i = o + (i + 1) by omega]

set_option maxRecDepth 10000 in
set_option maxHeartbeats 1000000 in
/-- moveDown: z may be x itself. -/
theorem moveDown_any (w : World) (az ax : Option Addr) (bz oz n cz bx ox cx s : Nat) (hsz : Sl az bz oz n) (hsx : Sl ax bx ox n) (hz : Arr .u64 B w bz oz n) (hf : Free w bz oz n)
    (hx : Arr .u64 B w bx ox n) (hap : 0 < n → bz ≠ bx ∨ ox + n ≤ oz ∨ oz + n ≤ ox ∨ ox = oz) (hmz : n ≤ maxLen) (hs : s < 64) :
    Calls Tryz.prog 140 #[.slice az n cz, .slice ax n cx, .int .u64 s] w fun e w' => e = .returned (.tuple #[]) ∧ Chg w w' bz oz (oz + n) ∧ Arr .u64 B w' bz oz n ∧
      num B w' bz oz n = num B w bx ox n / 2 ^ s := by
  have hmz' : n ≤ 9223372036854775807 := hmz
  clear hmz
  go_enter Tryz.func140, Tryz.ntmps140
  go_wp2
  go_loopw [6, 7] (fun c i wr => ∃ k d x : Nat, k + d = n ∧ x < B ∧ i = .int .i64 ((k : Int) - 1) ∧ c = .int .u64 (lo (x * 2 ^ (64 - s)) : Nat) ∧ Chg w wr bz (oz + k) (oz + n) ∧ Arr .u64 B wr bz oz n ∧
      x % 2 ^ s = num B w bx (ox + k) d % 2 ^ s ∧ num B wr bz (oz + k) d = num B w bx (ox + k) d / 2 ^ s)
    (fun _ i _ => (intOf i + 1).toNat)
  case atStart => exact ⟨n, 0, 0, by omega, B_pos, by go_num, by simp [lo], Chg.refl _ _ _ _, hz, by simp [num_zero], by simp [num_zero]⟩
  case round =>
    obtain ⟨k, d, x, hk, hxB, rfl, rfl, hch, har, hmod, hnum⟩ := hrel
    by_cases h0 : k = 0
    · subst h0
      obtain rfl : d = n := by omega
      go_wp2
      go_end0
      exact ⟨rfl, by simpa using hch, har, by simpa using hnum⟩
    · obtain ⟨j, rfl⟩ : ∃ j, k = j + 1 := ⟨k - 1, by omega⟩
      obtain rfl := hsz (by omega)
      obtain rfl := hsx (by omega)
      have he : ((j + 1 : Nat) : Int) - 1 = (j : Int) := by omega
      rw [he]
      have hzk := arr_cell har (i := j) (by omega)
      have exk : wr.cell? ⟨bx, ox + j, none⟩ = w.cell? ⟨bx, ox + j, none⟩ := hch.cellAt (hx.lt (by omega)) (by have := hap (by omega); omega)
      have hxk : wr.cell? ⟨bx, ox + j, none⟩ = some (.int .u64 ((word w bx (ox + j) : Nat) : Int)) := exk.trans (arr_cell hx (by omega))
      have hfk : wr.frozen? ⟨bz, oz + j, none⟩ = false := (hch.free hf hz.lt) j (by omega)
      have hlt2 := arr_lt hx (i := j) (by omega)
      have hs0 : (0 : Int) ≤ 64 - (s : Int) := by omega
      have hs1 : (64 - (s : Int)).toNat = 64 - s := by omega
      have e1 := shr_nat (word w bx (ox + j)) s
      have e2 := shl_nat (word w bx (ox + j)) (64 - s)
      have e3 : bits .or .u64 ((word w bx (ox + j) / 2 ^ s : Nat) : Int) ((lo (x * 2 ^ (64 - s)) : Nat) : Int) = ((word w bx (ox + j) / 2 ^ s + 2 ^ (64 - s) * (num B w bx (ox + (j + 1)) d % 2 ^ s) : Nat) : Int) := by
        rw [shl_out (by omega), hmod]; exact shr_or (by omega) hlt2
      have l1 := down_lt (x := num B w bx (ox + (j + 1)) d) (s := s) (by omega) hlt2
      have hv := down_step (d := word w bx (ox + j)) (x := num B w bx (ox + (j + 1)) d) (s := s) (by omega)
      have hh : num B w bx (ox + j) (d + 1) = word w bx (ox + j) + B * num B w bx (ox + (j + 1)) d := num_head _ _ _ _
      rw [← hh, ← hnum] at hv
      have hm2 : word w bx (ox + j) % 2 ^ s = num B w bx (ox + j) (d + 1) % 2 ^ s := by
        rw [hh, show B = 2 ^ s * 2 ^ (64 - s) by rw [Nat.mul_comm, two_pow_split (by omega)]; rfl, Nat.mul_assoc, Nat.add_mul_mod_self_left]
      have HV : Hid _ := hv
      have HM : Hid _ := hm2
      have E1 : Hid _ := e1
      have E2 : Hid _ := e2
      have E3 : Hid _ := e3
      have L1 : Hid _ := l1
      clear hv hm2 e1 e2 e3 l1 hh hmod hnum exk he
      go_wp2
      rw [E1.out, E2.out, E3.out]
      go_roundw
      case rel =>
        refine ⟨j, d + 1, _, by omega, hlt2, by go_num, rfl, (hch.mono (by omega) (Nat.le_refl _)).set (by omega) (by omega) _, har.set L1.out, HM.out, ?_⟩
        rw [HV.out, num_head, word_set_same (by rw [hzk]; rfl), num_set_other (by omega)]
        rfl
      case measure => simp [intOf]
end Go.Proofs.YtjlkplidpdhgbaaGreatDoor

/- A digit of a quotient, guessed by the divisor's upper half. -/
namespace Rad
/-- What the guess keeps: y is y1 h + y0, the number is u h + d. -/
structure Guess (h y1 y0 u d q r : Nat) : Prop where
  sum : q * y1 + r = u
  ge : (u * h + d) / (y1 * h + y0) ≤ q
  le : q ≤ h + 1
theorem guess_start {h y1 y0 u d : Nat} (hy : h ≤ 2 * y1) (h0 : y0 < h) (hd : d < h) (hu : u < y1 * h + y0) : Guess h y1 y0 u d (u / y1) (u % y1) := by
  have hp : 0 < y1 := by omega
  have e : u / y1 * y1 + u % y1 = u := by rw [Nat.mul_comm]; exact Nat.div_add_mod u y1
  have hm := Nat.mod_lt u hp
  refine ⟨e, ?_, ?_⟩
  · refine Nat.le_of_lt_succ ((Nat.div_lt_iff_lt_mul (by have := Nat.mul_pos hp (show 0 < h by omega); omega)).2 ?_)
    have h1 : u + 1 ≤ (u / y1 + 1) * y1 := by rw [Nat.add_mul]; omega
    have h2 := Nat.mul_le_mul_right h h1
    have h3 : (u / y1 + 1) * y1 * h ≤ (u / y1 + 1) * (y1 * h + y0) := by rw [Nat.mul_assoc, Nat.mul_add]; omega
    have h4 : (u + 1) * h = u * h + h := by rw [Nat.add_mul]; omega
    show u * h + d < (u / y1).succ * (y1 * h + y0)
    have : (u / y1).succ = u / y1 + 1 := rfl
    rw [this]; omega
  · refine Nat.le_of_lt_succ ((Nat.div_lt_iff_lt_mul hp).2 ?_)
    show u < (h + 1).succ * y1
    have h1 : (h + 1).succ * y1 = y1 * h + 2 * y1 := by
      rw [show (h + 1).succ = h + 2 from rfl, Nat.add_mul, Nat.mul_comm h y1]
    omega
theorem guess_lt {h y1 y0 u d : Nat} (hd : d < h) (hu : u < y1 * h + y0) : (u * h + d) / (y1 * h + y0) < h := by
  refine (Nat.div_lt_iff_lt_mul (by omega)).2 ?_
  have h1 := Nat.mul_le_mul_right h (show u + 1 ≤ y1 * h + y0 from hu)
  rw [Nat.add_mul, Nat.mul_comm (y1 * h + y0) h] at h1
  omega
/-- Too great: one less. -/
theorem Guess.step {h y1 y0 u d q r : Nat} (g : Guess h y1 y0 u d q r) (hd : d < h) (hu : u < y1 * h + y0) (hc : h ≤ q ∨ h * r + d < q * y0) :
    0 < q ∧ Guess h y1 y0 u d (q - 1) (r + y1) := by
  have hlt : (u * h + d) / (y1 * h + y0) < q := by
    rcases hc with hc | hc
    · exact Nat.lt_of_lt_of_le (guess_lt hd hu) hc
    · refine (Nat.div_lt_iff_lt_mul (by omega)).2 ?_
      have e : u * h = q * y1 * h + h * r := by rw [← g.sum, Nat.add_mul, Nat.mul_comm r h]
      rw [e, Nat.mul_add, ← Nat.mul_assoc]; omega
  have hq : 0 < q := Nat.lt_of_le_of_lt (Nat.zero_le _) hlt
  obtain ⟨p, rfl⟩ : ∃ p, q = p + 1 := ⟨q - 1, by omega⟩
  have hs := g.sum
  have hl := g.le
  rw [Nat.add_mul, Nat.one_mul] at hs
  refine ⟨by omega, ?_, by omega, by omega⟩
  rw [Nat.add_sub_cancel]; omega
/-- Not too great: it is the quotient. -/
theorem Guess.done {h y1 y0 u d q r : Nat} (g : Guess h y1 y0 u d q r) (hp : 0 < y1 * h + y0) (hc : q * y0 ≤ h * r + d) : q = (u * h + d) / (y1 * h + y0) := by
  refine Nat.le_antisymm ?_ g.ge
  refine (Nat.le_div_iff_mul_le hp).2 ?_
  have e : u * h = q * y1 * h + h * r := by rw [← g.sum, Nat.add_mul, Nat.mul_comm r h]
  rw [e, Nat.mul_add, ← Nat.mul_assoc]; omega
/-- What is left has run over: it is not too great. -/
theorem Guess.over {h y1 y0 u d q r : Nat} (g : Guess h y1 y0 u d q r) (hp : 0 < y1 * h + y0) (h0 : y0 < h) (hq : q ≤ h) (hr : h ≤ r) : q = (u * h + d) / (y1 * h + y0) := by
  refine g.done hp ?_
  have h1 := Nat.mul_le_mul hq (Nat.le_of_lt h0)
  have h2 := Nat.mul_le_mul_left h hr
  omega
/-- Two digits. -/
theorem two_digits {h u d1 d0 y : Nat} :
    (u * (h * h) + d1 * h + d0) / y = (u * h + d1) / y * h + ((u * h + d1) % y * h + d0) / y ∧ (u * (h * h) + d1 * h + d0) % y = ((u * h + d1) % y * h + d0) % y := by
  have e : u * (h * h) + d1 * h + d0 = ((u * h + d1) % y * h + d0) + y * ((u * h + d1) / y * h) := by
    have h1 : (u * h + d1) * h = ((u * h + d1) % y + y * ((u * h + d1) / y)) * h := by rw [Nat.mod_add_div]
    rw [Nat.add_mul, Nat.add_mul, Nat.mul_assoc, Nat.mul_assoc] at h1
    omega
  rcases Nat.eq_zero_or_pos y with h0 | h0
  · subst h0
    simp only [Nat.div_zero, Nat.mod_zero, Nat.zero_mul, Nat.zero_add, Nat.add_zero, true_and]
    rw [Nat.add_mul, Nat.mul_assoc]
  · refine ⟨?_, ?_⟩
    · rw [e, Nat.add_mul_div_left _ _ h0, Nat.add_comm]
    · rw [e, Nat.add_mul_mod_self_left]
end Rad
