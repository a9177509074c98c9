/- A part of the proof: W16, W17, Pm2, W3, W4, W5. -/
import Derived.Test.YtjlkplidpdhgbaaGreatDoorP01
import Derived.WalkSpells
import Derived.Test.YtjlkplidpdhgbaaGreatDoorP00
set_option linter.all false

namespace Go.Proofs.YtjlkplidpdhgbaaGreatDoor
open Go Go.Proofs Go.RowKit Go.Rad

set_option maxRecDepth 10000 in
theorem sizeOf_any (s : Int) (h1 : -9223372036854775808 ≤ s) (h2 : s ≤ 9223372036854775807) (w : World) :
    Calls Tryz.prog 84 #[.int .i64 s] w fun e w' => e = .returned (.int .u64 (s.natAbs : Int)) ∧ w' = w := by
  go_enter Tryz.func84, Tryz.ntmps84
  by_cases hs : s < 0
  · go_wp2
    go_ret
    exact ⟨ret_int (by rw [IntKind.wrap_u64, IntKind.wrap_u64]; omega), rfl⟩
  · go_wp2
    go_ret
    exact ⟨ret_int (by omega), rfl⟩
theorem one_mag (w : World) (x : Nat) (h0 : ¬ x = 0) (h : x < B) : Mag (w.alloc (.cells #[.int .u64 (x : Int)] 98)) (.slice (some ⟨w.heap.size, 0, none⟩) 1 1) x 1 := by
  have hc : (w.alloc (.cells #[.int .u64 (x : Int)] 98)).cell? ⟨w.heap.size, 0, none⟩ = some (.int .u64 (x : Int)) := by
    rw [World.cell?_alloc_at (w := w) _ _ w.heap.size 0 rfl]; rfl
  have hw := word_eq hc
  refine ⟨_, w.heap.size, 0, 1, rfl, Sl.mk _ _ _, Nat.le_refl _, fun i hi => ?_, ?_, .inr ?_⟩
  · obtain rfl : i = 0 := by omega
    rw [Nat.zero_add, hw]; exact ⟨hc, h⟩
  · rw [num_succ, num_zero, Nat.zero_add, hw]; simp
  · rw [show 0 + (1 - 1) = 0 from rfl, hw]; exact h0

set_option maxRecDepth 10000 in
theorem magnitude_small (s : Int) (h1 : -9223372036854775808 ≤ s) (h2 : s ≤ 9223372036854775807) (w : World) :
    Calls Tryz.prog 77 #[.agg #[.int .i64 s, .slice none 0 0]] w fun e w' => ∃ v n, e = .returned v ∧ Below w.heap.size w w' ∧ Mag w' v s.natAbs n ∧ n ≤ 1 := by
  have qT : ∀ (w : World) (a : Option Addr) (n c : Nat), (binOp .neq 22 (.slice a n c) (.slice none 0 0)).run Tryz.prog w = .ok (.bool (!a.isNone)) w := fun w a n c => run_neq_slice_nil_any w 22 98 a n c 0 0 Tryz.underlying22
  by_cases hs : s = 0
  · subst hs
    go_enter Tryz.func77, Tryz.ntmps77
    go_wp2
    go_ret
    exact ⟨_, 0, rfl, (Below.refl _ _).alloc (Nat.le_refl _) _, mag_nil _, by omega⟩
  · have hn0 : ¬ s.natAbs = 0 := by omega
    have hlt : s.natAbs < B := by unfold B; omega
    go_enter Tryz.func77, Tryz.ntmps77
    go_wp2_with (go_at_call 84; refine (sizeOf_any s h1 h2 _).mono ?_; rintro e w' ⟨rfl, rfl⟩)
    go_ret
    refine ⟨_, 1, rfl, ((Below.refl _ _).alloc (Nat.le_refl _) _).alloc (by simp) _, ?_, Nat.le_refl _⟩
    have := one_mag (w.alloc (.cells #[.int .i64 s, .slice none 0 0] 24)) s.natAbs hn0 hlt
    have e : (w.alloc (.cells #[.int .i64 s, .slice none 0 0] 24)).heap.size = w.heap.size + 1 := by simp
    rw [e] at this
    exact this

/-- A number, and the value that it is kept in: small ones in a word, long ones by sign and magnitude. -/
def IsInt (w : World) (v : Value) (z : Int) : Prop :=
  (v = .agg #[.int .i64 z, .slice none 0 0] ∧ -9223372036854775808 ≤ z ∧ z ≤ 9223372036854775807) ∨
  ∃ (s : Int) (a : Addr) (n c m : Nat), v = .agg #[.int .i64 s, .slice (some a) n c] ∧ Mag w (.slice (some a) n c) m n ∧ (s = 1 ∧ z = (m : Int) ∧ 9223372036854775807 < z ∨ s = -1 ∧ z = -(m : Int) ∧ z < -9223372036854775808)

set_option maxRecDepth 10000 in
theorem magnitude_any (w : World) (v : Value) (z : Int) (hv : IsInt w v z) :
    Calls Tryz.prog 77 #[v] w fun e w' => ∃ v n, e = .returned v ∧ Below w.heap.size w w' ∧ Mag w' v z.natAbs n := by
  rcases hv with ⟨rfl, h1, h2⟩ | ⟨s, a, n, c, m, rfl, hm, hs⟩
  · refine (magnitude_small z h1 h2 w).mono ?_
    rintro e w' ⟨v, n, h1, h2, h3, _⟩
    exact ⟨v, n, h1, h2, h3⟩
  · have qT : ∀ (w : World) (a : Option Addr) (n c : Nat), (binOp .neq 22 (.slice a n c) (.slice none 0 0)).run Tryz.prog w = .ok (.bool (!a.isNone)) w := fun w a n c => run_neq_slice_nil_any w 22 98 a n c 0 0 Tryz.underlying22
    have hz : z.natAbs = m := by omega
    rw [hz]
    have hB : Below w.heap.size w (w.alloc (Obj.cells #[Value.int IntKind.i64 s, Value.slice (some a) n c] 24)) := (Below.refl _ _).alloc (Nat.le_refl _) _
    have HM := hm.below hB
    have HM' : Hid _ := HM
    clear HM hm hs hz
    go_enter Tryz.func77, Tryz.ntmps77
    go_wp2
    go_ret
    exact ⟨_, n, rfl, hB, HM'.out⟩
end Go.Proofs.YtjlkplidpdhgbaaGreatDoor

namespace Go.Proofs.YtjlkplidpdhgbaaGreatDoor
open Go Go.Proofs Go.RowKit Go.Rad

def sgn (neg : Bool) (m : Nat) : Int := if neg then -(m : Int) else (m : Int)

theorem sgn_pos (m : Nat) : sgn false m = (m : Int) := rfl
theorem sgn_neg (m : Nat) : sgn true m = -(m : Int) := rfl

set_option maxRecDepth 10000 in
set_option maxHeartbeats 1000000 in
theorem signed_any (w : World) (neg : Bool) (v : Value) (m n : Nat) (hv : Mag w v m n) :
    Calls Tryz.prog 76 #[.bool neg, v] w fun e w' => ∃ v, e = .returned v ∧ Below w.heap.size w w' ∧ IsInt w' v (sgn neg m) := by
  have HV := hv
  obtain ⟨a, b, o, c, rfl, hs, hc, ha, hn, hr⟩ := hv
  by_cases h0 : n = 0
  · subst h0
    have hm : m = 0 := by rw [← hn]; rfl
    subst hm
    clear hn hr ha HV
    go_enter Tryz.func76, Tryz.ntmps76
    go_wp2
    refine bodyPost_ret (v := .agg #[.int .i64 0, .slice none 0 0]) (by simp [results, go_sem, loadVar]) rfl ?_
    exact ⟨_, rfl, (Below.refl _ _).alloc (Nat.le_refl _) _, .inl ⟨by unfold sgn; cases neg <;> rfl, by unfold sgn; cases neg <;> simp, by unfold sgn; cases neg <;> simp⟩⟩
  · obtain rfl := hs (by omega)
    have hb : b < w.heap.size := ha.lt (by omega)
    have hB : ∀ X, Below w.heap.size w (w.alloc X) := fun X => (Below.refl _ _).alloc (Nat.le_refl _) _
    by_cases h1 : n = 1
    · subst h1
      have hcell := arr_cell ha (i := 0) (by omega)
      have hlt := arr_lt ha (i := 0) (by omega)
      rw [num_succ, num_zero, Nat.zero_add, Nat.pow_zero, Nat.one_mul, Nat.add_zero] at hn
      rw [Nat.add_zero, hn] at hcell hlt
      have HV' : Hid _ := HV
      have HB : Hid _ := hB
      clear hn hr ha HV hB
      unfold B at hlt
      cases neg
      · by_cases h2 : (m : Int) ≤ 9223372036854775807
        · have t1 : IntKind.i64.wrap (m : Int) = (m : Int) := by rw [IntKind.wrap_i64]; omega
          go_enter Tryz.func76, Tryz.ntmps76
          go_wp2
          refine bodyPost_ret (v := .agg #[.int .i64 (m : Int), .slice none 0 0]) (by simp [results, go_sem, loadVar]) rfl ?_
          exact ⟨_, rfl, HB.out _, .inl ⟨by rw [sgn_pos], by rw [sgn_pos]; omega, by rw [sgn_pos]; omega⟩⟩
        · go_enter Tryz.func76, Tryz.ntmps76
          go_wp2
          refine bodyPost_ret (v := .agg #[.int .i64 1, .slice (some ⟨b, o, none⟩) 1 c]) (by simp [results, go_sem, loadVar]) rfl ?_
          exact ⟨_, rfl, HB.out _, .inr ⟨1, _, 1, c, m, rfl, Mag.below HV'.out (HB.out _), .inl ⟨rfl, sgn_pos m, by rw [sgn_pos]; omega⟩⟩⟩
      · by_cases h2 : (m : Int) ≤ 9223372036854775808
        · have t1 : IntKind.i64.wrap (-IntKind.i64.wrap (m : Int)) = -(m : Int) := by rw [IntKind.wrap_i64, IntKind.wrap_i64]; omega
          go_enter Tryz.func76, Tryz.ntmps76
          go_wp2
          refine bodyPost_ret (v := .agg #[.int .i64 (-(m : Int)), .slice none 0 0]) (by simp [results, go_sem, loadVar]; have t2 := t1; simp only [IntKind.wrap_i64, go_sem] at t2 ⊢; simp only [wrap64] at *; omega) rfl ?_
          exact ⟨_, rfl, HB.out _, .inl ⟨by rw [sgn_neg], by rw [sgn_neg]; omega, by rw [sgn_neg]; omega⟩⟩
        · have h3 : ¬ (m : Int) ≤ 9223372036854775807 := by omega
          go_enter Tryz.func76, Tryz.ntmps76
          go_wp2
          refine bodyPost_ret (v := .agg #[.int .i64 (-1), .slice (some ⟨b, o, none⟩) 1 c]) (by simp [results, go_sem, loadVar]) rfl ?_
          exact ⟨_, rfl, HB.out _, .inr ⟨-1, _, 1, c, m, rfl, Mag.below HV'.out (HB.out _), .inr ⟨rfl, sgn_neg m, by rw [sgn_neg]; omega⟩⟩⟩
    · have hge := HV.ge (by omega)
      have h5 : B ≤ B ^ (n - 1) := Nat.le_self_pow (by omega) B
      have h6 : B ≤ m := Nat.le_trans h5 hge
      unfold B at h6
      have HV' : Hid _ := HV
      have HB : Hid _ := hB
      clear hn hr ha HV hB hge h5
      have z1 : ¬ (n : Int) = 0 := by omega
      have z2 : ¬ (n : Int) = 1 := by omega
      cases neg
      · go_enter Tryz.func76, Tryz.ntmps76
        go_wp2
        refine bodyPost_ret (v := .agg #[.int .i64 1, .slice (some ⟨b, o, none⟩) n c]) (by simp [results, go_sem, loadVar]) rfl ?_
        exact ⟨_, rfl, HB.out _, .inr ⟨1, _, n, c, m, rfl, Mag.below HV'.out (HB.out _), .inl ⟨rfl, sgn_pos m, by rw [sgn_pos]; omega⟩⟩⟩
      · go_enter Tryz.func76, Tryz.ntmps76
        go_wp2
        refine bodyPost_ret (v := .agg #[.int .i64 (-1), .slice (some ⟨b, o, none⟩) n c]) (by simp [results, go_sem, loadVar]) rfl ?_
        exact ⟨_, rfl, HB.out _, .inr ⟨-1, _, n, c, m, rfl, Mag.below HV'.out (HB.out _), .inr ⟨rfl, sgn_neg m, by rw [sgn_neg]; omega⟩⟩⟩
end Go.Proofs.YtjlkplidpdhgbaaGreatDoor

/- Plain arithmetic over any base. -/
namespace Rad
theorem pow_dbl {β : Nat} (hβ : 2 ≤ β) (n : Nat) : β ^ n + β ^ n ≤ β ^ (n + 1) := by
  rw [Nat.pow_succ, ← Nat.mul_two]
  exact Nat.mul_le_mul_left _ hβ
theorem sum_fits {β z c a b n : Nat} (hβ : 2 ≤ β) (h : z + β ^ (n + 1) * c = a + b) (ha : a < β ^ n) (hb : b < β ^ n) : z = a + b := by
  have h1 := pow_dbl hβ n
  rcases Nat.eq_zero_or_pos c with h0 | h0
  · subst h0; simpa using h
  · have := Nat.mul_le_mul_left (β ^ (n + 1)) h0
    omega
theorem diff_fits {β z c a b n : Nat} (h : z + b = a + β ^ n * c) (hz : z < β ^ n) (hle : b ≤ a) : z = a - b := by
  rcases Nat.eq_zero_or_pos c with h0 | h0
  · subst h0; rw [Nat.mul_zero] at h; omega
  · have := Nat.mul_le_mul_left (β ^ n) h0
    omega
end Rad

namespace Go.Proofs.YtjlkplidpdhgbaaGreatDoor
open Go Go.Proofs Go.RowKit Go.Rad

/-- One word of a sum, with its carry. -/
theorem add_step {k z x d e c r : Nat} (h : r + B ^ k * c = z + x) : r + B ^ k * lo (d + e + c) + B ^ (k + 1) * hi (d + e + c) = (z + B ^ k * d) + (x + B ^ k * e) := by
  have h1 := lo_hi (d + e + c)
  have h2 : B ^ (k + 1) * hi (d + e + c) = B ^ k * (B * hi (d + e + c)) := by rw [Nat.pow_succ, Nat.mul_assoc]
  rw [h2]
  have h3 : B ^ k * (lo (d + e + c) + B * hi (d + e + c)) = B ^ k * (d + e + c) := by rw [h1]
  rw [Nat.mul_add] at h3
  rw [Nat.mul_add, Nat.mul_add] at h3
  omega
theorem sub_step {k z x d e c r : Nat} (hd : d < B) (he : e < B) (hc : c ≤ 1) (h : r + x = z + B ^ k * c) :
    r + B ^ k * sb d e c + (x + B ^ k * e) = (z + B ^ k * d) + B ^ (k + 1) * bw d e c := by
  have h1 := sb_bw hd he hc
  have h2 : B ^ (k + 1) * bw d e c = B ^ k * (B * bw d e c) := by rw [Nat.pow_succ, Nat.mul_assoc]
  rw [h2]
  have h3 : B ^ k * (sb d e c + e + c) = B ^ k * (d + B * bw d e c) := by rw [h1]
  rw [Nat.mul_add, Nat.mul_add, Nat.mul_add] at h3
  omega

/-- What a store at place o + k leaves of the first k + 1 places. -/
theorem num_store {w : World} {b o n k x : Nat} (h : Arr .u64 B w b o n) (hk : k < n) :
    num B (w.setCell ⟨b, o + k, none⟩ (.int .u64 (x : Int))) b o (k + 1) = num B w b o k + B ^ k * x := by
  rw [num_succ, num_set_other (by omega), word_set_same (by rw [arr_cell h hk]; rfl)]

set_option maxRecDepth 10000 in
set_option maxHeartbeats 1000000 in
theorem addTo_any (w : World) (az ax : Option Addr) (bz oz nz cz bx ox nx cx : Nat) (hsz : Sl az bz oz nz) (hsx : Sl ax bx ox nx) (hz : Arr .u64 B w bz oz nz) (hf : Free w bz oz nz)
    (hx : Arr .u64 B w bx ox nx) (hn : nx ≤ nz) (hap : 0 < nx → bz ≠ bx ∨ ox + nx ≤ oz ∨ oz + nz ≤ ox) (hmz : nz ≤ maxLen) :
    Calls Tryz.prog 142 #[.slice az nz cz, .slice ax nx cx] w fun e w' => e = .returned (.tuple #[]) ∧ Chg w w' bz oz (oz + nz) ∧ Arr .u64 B w' bz oz nz ∧
      ∃ c, c ≤ 1 ∧ num B w' bz oz nz + B ^ nz * c = num B w bz oz nz + num B w bx ox nx := by
  unfold maxLen at hmz
  go_enter Tryz.func142, Tryz.ntmps142
  go_wp2
  go_loopw [4, 10] (fun c i wr => ∃ k cc : Nat, k ≤ nx ∧ cc ≤ 1 ∧ i = .int .i64 k ∧ c = .int .u64 cc ∧ Chg w wr bz oz (oz + k) ∧ Arr .u64 B wr bz oz nz ∧
      num B wr bz oz k + B ^ k * cc = num B w bz oz k + num B w bx ox k)
    (fun _ i _ => nx - (intOf i).toNat)
  case atStart => exact ⟨0, 0, by omega, by omega, rfl, rfl, Chg.refl _ _ _ _, hz, by simp [num_zero]⟩
  case round =>
    obtain ⟨k, cc, hk, hcc, rfl, rfl, hch, har, hnum⟩ := hrel
    by_cases hlt : k < nx
    · obtain rfl := hsz (by omega)
      obtain rfl := hsx (by omega)
      have hzk := arr_cell har (i := k) (by omega)
      have exk : wr.cell? ⟨bx, ox + k, none⟩ = w.cell? ⟨bx, ox + k, none⟩ := hch.cellAt (hx.lt (by omega)) (by have := hap (by omega); omega)
      have hxk : wr.cell? ⟨bx, ox + k, none⟩ = some (.int .u64 ((word w bx (ox + k) : Nat) : Int)) := exk.trans (arr_cell hx hlt)
      have hfk : wr.frozen? ⟨bz, oz + k, none⟩ = false := (hch.free hf hz.lt) k (by omega)
      have ezk : word wr bz (oz + k) = word w bz (oz + k) := word_of_cell (hch.cell _ (by omega))
      have h1 := add64 (word wr bz (oz + k)) (word w bx (ox + k)) cc wr hcc
      have hlt1 := arr_lt har (i := k) (by omega)
      have hlt2 := arr_lt hx hlt
      have hstep := add_step (d := word w bz (oz + k)) (e := word w bx (ox + k)) hnum
      have H : Hid (num B wr bz oz k + B ^ k * lo (word wr bz (oz + k) + word w bx (ox + k) + cc) + B ^ (k + 1) * hi (word wr bz (oz + k) + word w bx (ox + k) + cc) =
        num B w bz oz (k + 1) + num B w bx ox (k + 1)) := by rw [num_succ, num_succ, ezk]; exact hstep
      clear hnum hstep ezk exk
      go_wp2
      go_roundw
      case rel =>
        exact ⟨k + 1, _, by omega, hi_le_one hlt1 hlt2 hcc, by go_num, rfl, (hch.mono (Nat.le_refl _) (by omega)).set (by omega) (by omega) _, har.set (lo_lt _), by rw [num_store har (by omega)]; exact H.out⟩
      case measure => simp [intOf]; omega
    · have hkn : k = nx := by omega
      subst hkn
      go_wp2
      go_loopw [4, 7] (fun c i wr => ∃ m cc : Nat, k ≤ m ∧ m ≤ nz ∧ cc ≤ 1 ∧ i = .int .i64 m ∧ c = .int .u64 cc ∧ Chg w wr bz oz (oz + m) ∧ Arr .u64 B wr bz oz nz ∧
          num B wr bz oz m + B ^ m * cc = num B w bz oz m + num B w bx ox k)
        (fun _ i _ => nz - (intOf i).toNat)
      case atStart => exact ⟨k, cc, by omega, by omega, hcc, rfl, rfl, hch, har, hnum⟩
      case round =>
        clear hch har hnum hcc hlt
        obtain ⟨m, c2, hkm, hmn, hcc, rfl, rfl, hch, har, hnum⟩ := hrel
        by_cases hgo : c2 ≠ 0 ∧ m < nz
        · obtain ⟨hc0, hm⟩ := hgo
          obtain rfl := hsz (by omega)
          have hzk := arr_cell har (i := m) (by omega)
          have hfk : wr.frozen? ⟨bz, oz + m, none⟩ = false := (hch.free hf hz.lt) m (by omega)
          have ezk : word wr bz (oz + m) = word w bz (oz + m) := word_of_cell (hch.cell _ (by omega))
          have h1 := add64_y (word wr bz (oz + m)) c2 wr hcc
          have hlt1 := arr_lt har (i := m) (by omega)
          have hstep := add_step (d := word w bz (oz + m)) (e := 0) hnum
          have H0 : num B wr bz oz m + B ^ m * lo (word wr bz (oz + m) + c2) + B ^ (m + 1) * hi (word wr bz (oz + m) + c2) =
            num B w bz oz (m + 1) + num B w bx ox k := by rw [num_succ, ezk]; simpa using hstep
          have H : Hid _ := H0
          have hc0' : ¬ ((c2 : Nat) : Int) = 0 := by omega
          clear hnum hstep ezk H0 hc0
          go_wp2
          go_roundw
          case rel =>
            exact ⟨m + 1, _, by omega, by omega, by have := hi_le_one (y := 0) hlt1 B_pos hcc; simpa using this, by go_num, rfl, (hch.mono (Nat.le_refl _) (by omega)).set (by omega) (by omega) _, har.set (lo_lt _),
              by rw [num_store har (by omega)]; exact H.out⟩
          case measure => simp [intOf]; omega
        · have hfin : ∃ c, c ≤ 1 ∧ num B wr bz oz nz + B ^ nz * c = num B w bz oz nz + num B w bx ox k := by
            by_cases hm : m = nz
            · subst hm; exact ⟨c2, hcc, hnum⟩
            · have hc : c2 = 0 := by omega
              subst hc
              refine ⟨0, by omega, ?_⟩
              obtain ⟨d, rfl⟩ := Nat.exists_eq_add_of_le hmn
              rw [num_add, num_add, num_congr (w' := wr) (w := w) (o' := oz + m) (o := oz + m) (n := d) (fun i hi => word_of_cell (hch.cell _ (by omega)))]
              omega
          have hpost : Chg w wr bz oz (oz + nz) := hch.mono (Nat.le_refl _) (by omega)
          have Hf : Hid _ := hfin
          clear hfin hnum hch
          by_cases hm : m < nz
          · have hc : c2 = 0 := by omega
            subst hc
            clear hgo
            go_wp2
            go_end0
            exact ⟨rfl, hpost, har, Hf.out⟩
          · clear hgo
            go_wp2
            all_goals
              go_end0
              exact ⟨rfl, hpost, har, Hf.out⟩
end Go.Proofs.YtjlkplidpdhgbaaGreatDoor

namespace Go.Proofs.YtjlkplidpdhgbaaGreatDoor
open Go Go.Proofs Go.RowKit Go.Rad

set_option maxRecDepth 10000 in
set_option maxHeartbeats 1000000 in
theorem subFrom_any (w : World) (az ax : Option Addr) (bz oz nz cz bx ox nx cx : Nat) (hsz : Sl az bz oz nz) (hsx : Sl ax bx ox nx) (hz : Arr .u64 B w bz oz nz) (hf : Free w bz oz nz)
    (hx : Arr .u64 B w bx ox nx) (hn : nx ≤ nz) (hap : 0 < nx → bz ≠ bx ∨ ox + nx ≤ oz ∨ oz + nz ≤ ox) (hmz : nz ≤ maxLen) :
    Calls Tryz.prog 143 #[.slice az nz cz, .slice ax nx cx] w fun e w' => ∃ c : Nat, e = .returned (.int .u64 c) ∧ Chg w w' bz oz (oz + nz) ∧ Arr .u64 B w' bz oz nz ∧
      c ≤ 1 ∧ num B w' bz oz nz + num B w bx ox nx = num B w bz oz nz + B ^ nz * c := by
  unfold maxLen at hmz
  go_enter Tryz.func143, Tryz.ntmps143
  go_wp2
  go_loopw [5, 11] (fun c i wr => ∃ k cc : Nat, k ≤ nx ∧ cc ≤ 1 ∧ i = .int .i64 k ∧ c = .int .u64 cc ∧ Chg w wr bz oz (oz + k) ∧ Arr .u64 B wr bz oz nz ∧
      num B wr bz oz k + num B w bx ox k = num B w bz oz k + B ^ k * cc)
    (fun _ i _ => nx - (intOf i).toNat)
  case atStart => exact ⟨0, 0, by omega, by omega, rfl, rfl, Chg.refl _ _ _ _, hz, by simp [num_zero]⟩
  case round =>
    obtain ⟨k, cc, hk, hcc, rfl, rfl, hch, har, hnum⟩ := hrel
    by_cases hlt : k < nx
    · obtain rfl := hsz (by omega)
      obtain rfl := hsx (by omega)
      have hzk := arr_cell har (i := k) (by omega)
      have exk : wr.cell? ⟨bx, ox + k, none⟩ = w.cell? ⟨bx, ox + k, none⟩ := hch.cellAt (hx.lt (by omega)) (by have := hap (by omega); omega)
      have hxk : wr.cell? ⟨bx, ox + k, none⟩ = some (.int .u64 ((word w bx (ox + k) : Nat) : Int)) := exk.trans (arr_cell hx hlt)
      have hfk : wr.frozen? ⟨bz, oz + k, none⟩ = false := (hch.free hf hz.lt) k (by omega)
      have ezk : word wr bz (oz + k) = word w bz (oz + k) := word_of_cell (hch.cell _ (by omega))
      have h1 := sub64 (word wr bz (oz + k)) (word w bx (ox + k)) cc wr hcc
      have hlt1 := arr_lt har (i := k) (by omega)
      have hlt2 := arr_lt hx hlt
      have hstep := sub_step (ezk ▸ hlt1) hlt2 hcc hnum
      have H : Hid (num B wr bz oz k + B ^ k * sb (word wr bz (oz + k)) (word w bx (ox + k)) cc + num B w bx ox (k + 1) =
        num B w bz oz (k + 1) + B ^ (k + 1) * bw (word wr bz (oz + k)) (word w bx (ox + k)) cc) := by rw [num_succ, num_succ, ezk]; exact hstep
      clear hnum hstep ezk exk
      go_wp2
      go_roundw
      case rel =>
        exact ⟨k + 1, _, by omega, bw_le _ _ _, by go_num, rfl, (hch.mono (Nat.le_refl _) (by omega)).set (by omega) (by omega) _, har.set (sb_lt _ _ _), by rw [num_store har (by omega)]; exact H.out⟩
      case measure => simp [intOf]; omega
    · have hkn : k = nx := by omega
      subst hkn
      go_wp2
      go_loopw [5, 8] (fun c i wr => ∃ m cc : Nat, k ≤ m ∧ m ≤ nz ∧ cc ≤ 1 ∧ i = .int .i64 m ∧ c = .int .u64 cc ∧ Chg w wr bz oz (oz + m) ∧ Arr .u64 B wr bz oz nz ∧
          num B wr bz oz m + num B w bx ox k = num B w bz oz m + B ^ m * cc)
        (fun _ i _ => nz - (intOf i).toNat)
      case atStart => exact ⟨k, cc, by omega, by omega, hcc, rfl, rfl, hch, har, hnum⟩
      case round =>
        clear hch har hnum hcc hlt
        obtain ⟨m, c2, hkm, hmn, hcc, rfl, rfl, hch, har, hnum⟩ := hrel
        by_cases hgo : c2 ≠ 0 ∧ m < nz
        · obtain ⟨hc0, hm⟩ := hgo
          obtain rfl := hsz (by omega)
          have hzk := arr_cell har (i := m) (by omega)
          have hfk : wr.frozen? ⟨bz, oz + m, none⟩ = false := (hch.free hf hz.lt) m (by omega)
          have ezk : word wr bz (oz + m) = word w bz (oz + m) := word_of_cell (hch.cell _ (by omega))
          have h1 := sub64_y (word wr bz (oz + m)) c2 wr hcc
          have hlt1 := arr_lt har (i := m) (by omega)
          have hstep := sub_step (e := 0) (ezk ▸ hlt1) B_pos hcc hnum
          have H0 : num B wr bz oz m + B ^ m * sb (word wr bz (oz + m)) 0 c2 + num B w bx ox k =
            num B w bz oz (m + 1) + B ^ (m + 1) * bw (word wr bz (oz + m)) 0 c2 := by rw [num_succ, ezk]; simpa using hstep
          have H : Hid _ := H0
          have hc0' : ¬ ((c2 : Nat) : Int) = 0 := by omega
          clear hnum hstep ezk H0 hc0
          go_wp2
          go_roundw
          case rel =>
            exact ⟨m + 1, _, by omega, by omega, bw_le _ _ _, by go_num, rfl, (hch.mono (Nat.le_refl _) (by omega)).set (by omega) (by omega) _, har.set (sb_lt _ _ _),
              by rw [num_store har (by omega)]; exact H.out⟩
          case measure => simp [intOf]; omega
        · have hfin : num B wr bz oz nz + num B w bx ox k = num B w bz oz nz + B ^ nz * c2 := by
            by_cases hm : m = nz
            · subst hm; exact hnum
            · have hc : c2 = 0 := by omega
              subst hc
              obtain ⟨d, rfl⟩ := Nat.exists_eq_add_of_le hmn
              rw [num_add, num_add, num_congr (w' := wr) (w := w) (o' := oz + m) (o := oz + m) (n := d) (fun i hi => word_of_cell (hch.cell _ (by omega)))]
              omega
          have hpost : Chg w wr bz oz (oz + nz) := hch.mono (Nat.le_refl _) (by omega)
          have Hf : Hid _ := hfin
          clear hfin hnum hch
          by_cases hm : m < nz
          · have hc : c2 = 0 := by omega
            subst hc
            clear hgo
            go_wp2
            go_ret
            exact ⟨0, rfl, hpost, har, by omega, Hf.out⟩
          · clear hgo
            go_wp2
            all_goals
              go_ret
              first
                | exact ⟨_, rfl, hpost, har, hcc, Hf.out⟩
                | (obtain rfl : c2 = 0 := by omega
                   exact ⟨0, rfl, hpost, har, by omega, Hf.out⟩)
end Go.Proofs.YtjlkplidpdhgbaaGreatDoor

namespace Go.Proofs.YtjlkplidpdhgbaaGreatDoor
open Go Go.Proofs Go.RowKit Go.Rad

/-- One word of a product that is added: nothing runs over. -/
theorem mul_word {z x d c : Nat} (hz : z < B) (hx : x < B) (hd : d < B) (hc : c < B) :
    hi (lo (x * d + z) + c) ≤ 1 ∧ lo (hi (x * d + z) + hi (lo (x * d + z) + c)) < B ∧
    lo (lo (x * d + z) + c) + B * lo (hi (x * d + z) + hi (lo (x * d + z) + c)) = z + x * d + c := by
  have h1 : x * d ≤ (B - 1) * (B - 1) := Nat.mul_le_mul (by omega) (by omega)
  have h2 : (B - 1) * (B - 1) + B + B ≤ B * B + 1 := by decide
  have h3 : x * d + z + c < B * B := by omega
  have h4 := hi_lt h3
  refine ⟨?_, lo_lt _, ?_⟩ <;> (unfold lo hi B at *; generalize x * d = p at *; omega)
theorem mul_step {k z x d c r e f y u : Nat} (h : r + B ^ k * c = z + x * d) (hw : e + B * f = y + u * d + c) :
    r + B ^ k * e + B ^ (k + 1) * f = (z + B ^ k * y) + (x + B ^ k * u) * d := by
  have h2 : B ^ (k + 1) * f = B ^ k * (B * f) := by rw [Nat.pow_succ, Nat.mul_assoc]
  have h3 : B ^ k * (e + B * f) = B ^ k * (y + u * d + c) := by rw [hw]
  rw [Nat.mul_add, Nat.mul_add, Nat.mul_add] at h3
  have h4 : (x + B ^ k * u) * d = x * d + B ^ k * (u * d) := by rw [Nat.add_mul, Nat.mul_assoc]
  rw [h2, h4]
  omega

set_option maxRecDepth 10000 in
set_option maxHeartbeats 1000000 in
theorem addProduct_any (w : World) (az ax : Option Addr) (bz oz nz cz bx ox nx cx d : Nat) (hsz : Sl az bz oz nz) (hsx : Sl ax bx ox nx) (hz : Arr .u64 B w bz oz nz) (hf : Free w bz oz nz)
    (hx : Arr .u64 B w bx ox nx) (hn : nx ≤ nz) (hcz : nz ≤ cz) (hap : 0 < nx → bz ≠ bx ∨ ox + nx ≤ oz ∨ oz + nz ≤ ox) (hmz : nz ≤ maxLen) (hd : d < B) :
    Calls Tryz.prog 115 #[.slice az nz cz, .slice ax nx cx, .int .u64 d] w fun e w' => ∃ c : Nat, e = .returned (.int .u64 c) ∧ Chg w w' bz oz (oz + nx) ∧ Arr .u64 B w' bz oz nz ∧
      c < B ∧ num B w' bz oz nx + B ^ nx * c = num B w bz oz nx + num B w bx ox nx * d := by
  unfold maxLen at hmz
  go_enter Tryz.func115, Tryz.ntmps115
  go_wp2
  go_loopw [7, 19] (fun c i wr => ∃ k cc : Nat, k ≤ nx ∧ cc < B ∧ i = .int .i64 k ∧ c = .int .u64 cc ∧ Chg w wr bz oz (oz + k) ∧ Arr .u64 B wr bz oz nz ∧
      num B wr bz oz k + B ^ k * cc = num B w bz oz k + num B w bx ox k * d)
    (fun _ i _ => nx - (intOf i).toNat)
  case atStart => exact ⟨0, 0, by omega, B_pos, rfl, rfl, Chg.refl _ _ _ _, hz, by simp [num_zero]⟩
  case round =>
    obtain ⟨k, cc, hk, hcc, rfl, rfl, hch, har, hnum⟩ := hrel
    by_cases hlt : k < nx
    · obtain rfl := hsz (by omega)
      obtain rfl := hsx (by omega)
      have hzk := arr_cell har (i := k) (by omega)
      have exk : wr.cell? ⟨bx, ox + k, none⟩ = w.cell? ⟨bx, ox + k, none⟩ := hch.cellAt (hx.lt (by omega)) (by have := hap (by omega); omega)
      have hxk : wr.cell? ⟨bx, ox + k, none⟩ = some (.int .u64 ((word w bx (ox + k) : Nat) : Int)) := exk.trans (arr_cell hx hlt)
      have hfk : wr.frozen? ⟨bz, oz + k, none⟩ = false := (hch.free hf hz.lt) k (by omega)
      have ezk : word wr bz (oz + k) = word w bz (oz + k) := word_of_cell (hch.cell _ (by omega))
      have hlt1 := arr_lt har (i := k) (by omega)
      have hlt2 := arr_lt hx hlt
      obtain ⟨m1, m2, m3⟩ := mul_word hlt1 hlt2 hd hcc
      have h1 := add64_c (lo (word w bx (ox + k) * d + word wr bz (oz + k))) cc
      have h2 := add64_y (hi (word w bx (ox + k) * d + word wr bz (oz + k))) _ (wr.setCell ⟨bz, oz + k, none⟩ (.int .u64 (lo (lo (word w bx (ox + k) * d + word wr bz (oz + k)) + cc) : Nat))) m1
      have hstep := mul_step hnum (ezk ▸ m3)
      have H0 : num B wr bz oz k + B ^ k * lo (lo (word w bx (ox + k) * d + word wr bz (oz + k)) + cc) +
          B ^ (k + 1) * lo (hi (word w bx (ox + k) * d + word wr bz (oz + k)) + hi (lo (word w bx (ox + k) * d + word wr bz (oz + k)) + cc)) =
        num B w bz oz (k + 1) + num B w bx ox (k + 1) * d := by rw [num_succ, num_succ, ezk]; exact hstep
      have H : Hid _ := H0
      have M2 : Hid _ := m2
      clear hnum hstep exk H0 m3 m1 m2 ezk
      go_wp2_with (go_at_call 104; refine (mulAdd_any _ _ _ hlt2 hd hlt1 _).mono ?_; rintro e w' ⟨rfl, hw⟩; subst hw)
      go_roundw
      case rel =>
        exact ⟨k + 1, _, by omega, M2.out, by go_num, rfl, (hch.mono (Nat.le_refl _) (by omega)).set (by omega) (by omega) _, har.set (lo_lt _), by rw [num_store har (by omega)]; exact H.out⟩
      case measure => simp [intOf]; omega
    · have hkn : k = nx := by omega
      subst hkn
      go_wp2
      go_ret
      exact ⟨_, rfl, hch, har, hcc, hnum⟩
end Go.Proofs.YtjlkplidpdhgbaaGreatDoor
