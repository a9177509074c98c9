/- A part of the proof: Kar3, Kar5, W16, W17. -/
import Derived.Test.YtjlkplidpdhgbaaGreatDoorP06
import Derived.Test.YtjlkplidpdhgbaaGreatDoorP01
import Derived.Test.YtjlkplidpdhgbaaGreatDoorP02
import Derived.WalkSpells
set_option linter.all false

namespace Go.Proofs.YtjlkplidpdhgbaaGreatDoor
open Go Go.Proofs Go.RowKit Go.Rad

set_option maxRecDepth 10000 in
set_option maxHeartbeats 1000000 in
theorem mulHalves_small (f n : Nat) (h48 : n < 48) : MulHalves f n := by
  intro w bz oz cz bx ox cx byy oy cy br orr r cr hn hpos hen hcz hcx hcy hcr hcm hczm haz hfz hax hay har hfr d1 d2 d3 d4 d5 ar hsr
  have D1 := d1 (by omega) (by omega)
  have D2 := d2 (by omega) (by omega)
  have bz0 : bz < w.heap.size := haz.lt (by omega)
  have hzr : 0 < r → bz ≠ br ∨ oz + 2 * n ≤ orr ∨ orr + r ≤ oz := fun h => d3 (by omega) h
  clear d1 d2 d3 d4 d5
  obtain ⟨i98, hi0, hz0, hz1, hz2⟩ := info_parts info98
  go_enter Tryz.func145, Tryz.ntmps145
  go_wp2_with (first
    | (refine wpList_clearRow .u64 B B_pos rfl _ 22 rfl 98 i98 Tryz.underlying22 hi0 hz0 _ _ _ rfl bz oz (Sl.mk _ _ _) haz hfz ?_; intro w1 hcl)
    | (go_at_call 113; fail))
  have hz1 : num B w1 bz oz n = 0 := _root_.Rad.vs_zeros (fun i hi => hcl.zero i (by omega))
  refine (mulRows_any w1 _ _ _ bz oz (2 * n) cz bx ox n cx byy oy n cy (Sl.mk _ _ _) (Sl.mk _ _ _) (Sl.mk _ _ _) hcl.arr (hcl.chg.free hfz (fun _ => bz0))
    (hcl.chg.arr hax hax.lt (fun _ => by omega)) (hcl.chg.arr hay hay.lt (fun _ => by omega)) (by omega) hcz hczm hz1 (fun _ => by omega) (fun _ => by omega)).mono ?_
  rintro e w2 ⟨rfl, g1, g2, g3⟩
  have b1 : bz < w1.heap.size := Nat.lt_of_lt_of_le bz0 hcl.chg.size
  have K : Chg w w2 bz oz (oz + 2 * n) := hcl.chg.trans g1
  have hA : Arr .u64 B w2 br orr r := K.arr har har.lt (fun h => by have := hzr h; omega)
  have hS : ChgS w w2 (R2 bz oz (oz + 2 * n) br orr (orr + r)) := (K.toS (by omega)).mono fun k i _ h => by unfold R2; omega
  have e1 : num B w1 bx ox n = num B w bx ox n := hcl.chg.num hax.lt (fun _ => by omega)
  have e2 : num B w1 byy oy n = num B w byy oy n := hcl.chg.num hay.lt (fun _ => by omega)
  rw [e1, e2] at g3
  have G : Hid _ := g3
  clear g3 e1 e2 hz1
  go_wp2
  refine bodyPost_ret (results_none rfl _ _ _) rfl ?_
  exact ⟨rfl, hS, g2, hA, G.out⟩

/-- mulHalves, however long (f: how deep at most). -/
theorem mulHalves_any : ∀ (f n : Nat), MulHalves f n
  | 0, n => by
    by_cases h : n < 48
    · exact mulHalves_small 0 n h
    · intro w bz oz cz bx ox cx byy oy cy br orr r cr hn hpos hen
      exact absurd hen h
  | f + 1, n => by
    by_cases h : n < 48
    · exact mulHalves_small (f + 1) n h
    · exact mulHalves_step f (fun n => mulHalves_any f n) n h
end Go.Proofs.YtjlkplidpdhgbaaGreatDoor

namespace Go.Proofs.YtjlkplidpdhgbaaGreatDoor
open Go Go.Proofs Go.RowKit Go.Rad

/-- A slice that stands in a block of the newer ones. -/
def Fr (base : Nat) (v : Value) : Prop := ∀ b o n c : Nat, v = .slice (some ⟨b, o, none⟩) n c → base ≤ b
theorem Fr_nil (base : Nat) : Fr base (.slice none 0 0) := by
  intro b o n c h
  injection h with h1
  cases h1
theorem Fr_some (base o n c : Nat) : Fr base (.slice (some ⟨base, o, none⟩) n c) := by
  intro b o n c h
  injection h with h1
  injection h1 with h1
  injection h1 with h1
  omega
theorem front_at (w : World) (ao : Option Addr) (b o n c m : Nat) (hs : Sl ao b o n) (hc : n ≤ c) (hcm : n ≤ maxLen) (hmm : m ≤ maxLen) (ha : Arr .u64 B w b o n) :
    Calls Tryz.prog 86 #[.slice ao n c, .int .i64 m] w fun e w' => ∃ k, e = .returned (.slice ao k k) ∧ w' = w ∧ k ≤ m ∧ k ≤ n ∧ Mag w (.slice ao k k) (num B w b o (min m n)) k := by
  refine (front_any w ao b o n c m hs hc hcm hmm ha).mono ?_
  rintro e w' ⟨k, rfl, rfl, hk1, hk2, htop, hz⟩
  refine ⟨k, rfl, rfl, hk1, hk2, ao, b, o, k, rfl, fun h => hs (by omega), Nat.le_refl _, ?_, ?_, htop⟩
  · have := ha.sub (d := 0) (m := k) (by omega); simpa using this
  · exact (_root_.Rad.vs_top (by omega) (fun i h1 h2 => hz i h1 (by omega) (by omega))).symm

/-- What mulWords is asked, of a shorter number of m words at most, and what it leaves. -/
def MulW (m : Nat) : Prop :=
  ∀ (w : World) (vx vy : Value) (x nx y ny : Nat), Mag w vx x nx → Mag w vy y ny → (nx ≤ m ∨ ny ≤ m) → nx + ny ≤ 1099511627776 →
    Calls Tryz.prog 82 #[vx, vy] w fun e w' => ∃ v n, e = .returned v ∧ Below w.heap.size w w' ∧ Mag w' v (x * y) n ∧ n ≤ nx + ny ∧ Fr w.heap.size v
/-- What mulBlocks is asked, and what it leaves. -/
def MulB (m : Nat) : Prop :=
  ∀ (w : World) (bz nz cz bx ox nx cx : Nat) (ax : Option Addr) (vy : Value) (y ny : Nat), ny ≤ m → 48 ≤ ny → nx + ny ≤ 1099511627776 → nz = nx + ny → Mag w vy y ny →
    Sl ax bx ox nx → nx ≤ cx → Arr .u64 B w bx ox nx → Arr .u64 B w bz 0 nz → Free w bz 0 nz → nz ≤ cz → cz ≤ maxLen → num B w bz 0 nz = 0 → bz ≠ bx → (∀ b o c : Nat, vy = .slice (some ⟨b, o, none⟩) ny c → bz ≠ b) →
    Calls Tryz.prog 114 #[.slice (some ⟨bz, 0, none⟩) nz cz, .slice ax nx cx, vy] w fun e w' => e = .returned (.tuple #[]) ∧ Chg w w' bz 0 nz ∧ Arr .u64 B w' bz 0 nz ∧
      num B w' bz 0 nz = num B w bx ox nx * y

set_option maxRecDepth 10000 in
set_option maxHeartbeats 1000000 in
theorem mulWords_of (m : Nat) (hB : MulB m) : MulW m := by
  intro w vx vy x nx y ny hx hy hmm hl
  have MX := hx
  have MY := hy
  obtain ⟨ax, bx, ox, cx, rfl, hsx, hcx, hax, hnx, hrx⟩ := hx
  obtain ⟨ay, byy, oy, cy, rfl, hsy, hcy, hay, hny, hry⟩ := hy
  obtain ⟨i0, hi0, hz0, hz1, hz2⟩ := info_parts info98
  have HX : Hid (num B w bx ox nx = x) := hnx
  have HY : Hid (num B w byy oy ny = y) := hny
  clear hnx hny
  have hml : nx + ny ≤ maxLen := by unfold maxLen; omega
  by_cases hlt : nx < ny
  · by_cases h0 : nx = 0
    · subst h0
      go_enter Tryz.func82, Tryz.ntmps82
      go_wp2
      go_ret
      refine ⟨_, 0, rfl, Below.refl _ _, ?_, by omega, Fr_nil _⟩
      rw [← HX.out, num_zero, Nat.zero_mul]; exact mag_nil _
    · by_cases h48 : nx < 48
      · go_enter Tryz.func82, Tryz.ntmps82
        go_wp2_with (first
          | (at_make; refine wpList_makeRow .u64 B B_pos rfl _ _ 22 rfl 98 i0 Tryz.underlying22 hi0 hz0 hz1 .i64 .i64 _ _ (nx + ny) rfl rfl (by omega) (by omega) (by rw [hz2]; omega) hml ?_; intro w1 hm)
          | (go_at_call 113; fail)
          | (go_at_call 114; fail))
        have g : num B w1 byy oy ny * num B w1 bx ox nx = y * x := by
          rw [num_below hay hm.below, num_below hax hm.below, HY.out, HX.out]
        refine (mulRows_any w1 _ _ _ w.heap.size 0 (nx + ny) (nx + ny) byy oy ny cy bx ox nx cx (Sl.mk _ _ _) hsy hsx hm.arr hm.free (arr_below hay hm.below) (arr_below hax hm.below) (by omega) (Nat.le_refl _) hml
          (num_made hm _ (by omega)) (fun h => .inl (by have := hay.lt h; omega)) (fun h => .inl (by have := hax.lt h; omega))).mono ?_
        rintro e w2 ⟨rfl, g1, g2, g3⟩
        rw [g] at g3
        rw [Nat.zero_add] at g1
        have hb2 : Below w.heap.size w w2 := hm.below.trans (g1.below (Nat.le_refl _) (by have := hm.lt; omega))
        have HV : Hid (num B w2 w.heap.size 0 (nx + ny) = x * y) := by rw [g3]; exact Nat.mul_comm _ _
        clear g3 hm
        go_wp2_with (go_at_call 86; refine (front_at _ _ _ _ _ _ (nx + ny) (Sl.mk _ _ _) (Nat.le_refl _) hml hml g2).mono ?_; rintro e w' ⟨k, rfl, hw, hk1, hk2, hmg⟩; subst hw)
        go_ret
        rw [Nat.min_self, HV.out] at hmg
        exact ⟨_, k, rfl, hb2, hmg, hk1, Fr_some _ _ _ _⟩
      · go_enter Tryz.func82, Tryz.ntmps82
        go_wp2_with (first
          | (at_make; refine wpList_makeRow .u64 B B_pos rfl _ _ 22 rfl 98 i0 Tryz.underlying22 hi0 hz0 hz1 .i64 .i64 _ _ (nx + ny) rfl rfl (by omega) (by omega) (by rw [hz2]; omega) hml ?_; intro w1 hm)
          | (go_at_call 113; fail)
          | (go_at_call 114; fail))
        refine (hB w1 w.heap.size (nx + ny) (nx + ny) byy oy ny cy ay _ x nx (by omega) (by omega) (by omega) (by omega) (MX.below hm.below) hsy hcy (arr_below hay hm.below) hm.arr hm.free (Nat.le_refl _) hml
          (num_made hm _ (by omega)) (by have := hay.lt (by omega); omega) (fun b o c h => by
            have e := hsx (by omega)
            rw [e] at h
            injection h with h1 h2 h3
            injection h1 with h1
            injection h1 with h1
            have := hax.lt (by omega); omega)).mono ?_
        rintro e w2 ⟨rfl, g1, g2, g3⟩
        rw [num_below hay hm.below, HY.out] at g3
        have hb2 : Below w.heap.size w w2 := hm.below.trans (g1.below (Nat.le_refl _) (by have := hm.lt; omega))
        have HV : Hid (num B w2 w.heap.size 0 (nx + ny) = x * y) := by rw [g3]; exact Nat.mul_comm _ _
        clear g3 hm
        go_wp2_with (go_at_call 86; refine (front_at _ _ _ _ _ _ (nx + ny) (Sl.mk _ _ _) (Nat.le_refl _) hml hml g2).mono ?_; rintro e w' ⟨k, rfl, hw, hk1, hk2, hmg⟩; subst hw)
        go_ret
        rw [Nat.min_self, HV.out] at hmg
        exact ⟨_, k, rfl, hb2, hmg, hk1, Fr_some _ _ _ _⟩
  · by_cases h0 : ny = 0
    · subst h0
      go_enter Tryz.func82, Tryz.ntmps82
      go_wp2
      go_ret
      refine ⟨_, 0, rfl, Below.refl _ _, ?_, by omega, Fr_nil _⟩
      rw [← HY.out, num_zero, Nat.mul_zero]; exact mag_nil _
    · by_cases h48 : ny < 48
      · go_enter Tryz.func82, Tryz.ntmps82
        go_wp2_with (first
          | (at_make; refine wpList_makeRow .u64 B B_pos rfl _ _ 22 rfl 98 i0 Tryz.underlying22 hi0 hz0 hz1 .i64 .i64 _ _ (nx + ny) rfl rfl (by omega) (by omega) (by rw [hz2]; omega) hml ?_; intro w1 hm)
          | (go_at_call 113; fail)
          | (go_at_call 114; fail))
        have g : num B w1 bx ox nx * num B w1 byy oy ny = x * y := by
          rw [num_below hax hm.below, num_below hay hm.below, HX.out, HY.out]
        refine (mulRows_any w1 _ _ _ w.heap.size 0 (nx + ny) (nx + ny) bx ox nx cx byy oy ny cy (Sl.mk _ _ _) hsx hsy hm.arr hm.free (arr_below hax hm.below) (arr_below hay hm.below) (by omega) (Nat.le_refl _) hml
          (num_made hm _ (by omega)) (fun h => .inl (by have := hax.lt h; omega)) (fun h => .inl (by have := hay.lt h; omega))).mono ?_
        rintro e w2 ⟨rfl, g1, g2, g3⟩
        rw [g] at g3
        rw [Nat.zero_add] at g1
        have hb2 : Below w.heap.size w w2 := hm.below.trans (g1.below (Nat.le_refl _) (by have := hm.lt; omega))
        have HV : Hid (num B w2 w.heap.size 0 (nx + ny) = x * y) := g3
        clear g3 hm
        go_wp2_with (go_at_call 86; refine (front_at _ _ _ _ _ _ (nx + ny) (Sl.mk _ _ _) (Nat.le_refl _) hml hml g2).mono ?_; rintro e w' ⟨k, rfl, hw, hk1, hk2, hmg⟩; subst hw)
        go_ret
        rw [Nat.min_self, HV.out] at hmg
        exact ⟨_, k, rfl, hb2, hmg, hk1, Fr_some _ _ _ _⟩
      · go_enter Tryz.func82, Tryz.ntmps82
        go_wp2_with (first
          | (at_make; refine wpList_makeRow .u64 B B_pos rfl _ _ 22 rfl 98 i0 Tryz.underlying22 hi0 hz0 hz1 .i64 .i64 _ _ (nx + ny) rfl rfl (by omega) (by omega) (by rw [hz2]; omega) hml ?_; intro w1 hm)
          | (go_at_call 113; fail)
          | (go_at_call 114; fail))
        refine (hB w1 w.heap.size (nx + ny) (nx + ny) bx ox nx cx ax _ y ny (by omega) (by omega) (by omega) (by omega) (MY.below hm.below) hsx hcx (arr_below hax hm.below) hm.arr hm.free (Nat.le_refl _) hml
          (num_made hm _ (by omega)) (by have := hax.lt (by omega); omega) (fun b o c h => by
            have e := hsy (by omega)
            rw [e] at h
            injection h with h1 h2 h3
            injection h1 with h1
            injection h1 with h1
            have := hay.lt (by omega); omega)).mono ?_
        rintro e w2 ⟨rfl, g1, g2, g3⟩
        rw [num_below hax hm.below, HX.out] at g3
        have hb2 : Below w.heap.size w w2 := hm.below.trans (g1.below (Nat.le_refl _) (by have := hm.lt; omega))
        have HV : Hid (num B w2 w.heap.size 0 (nx + ny) = x * y) := g3
        clear g3 hm
        go_wp2_with (go_at_call 86; refine (front_at _ _ _ _ _ _ (nx + ny) (Sl.mk _ _ _) (Nat.le_refl _) hml hml g2).mono ?_; rintro e w' ⟨k, rfl, hw, hk1, hk2, hmg⟩; subst hw)
        go_ret
        rw [Nat.min_self, HV.out] at hmg
        exact ⟨_, k, rfl, hb2, hmg, hk1, Fr_some _ _ _ _⟩
end Go.Proofs.YtjlkplidpdhgbaaGreatDoor

namespace Go.Proofs.YtjlkplidpdhgbaaGreatDoor
open Go Go.Proofs Go.RowKit Go.Rad

set_option maxRecDepth 10000 in
theorem sizeOf_any (s : Int) (h1 : -9223372036854775808 ≤ s) (h2 : s ≤ 9223372036854775807) (w : World) :
    Calls Tryz.prog 84 #[.int .i64 s] w fun e w' => e = .returned (.int .u64 (s.natAbs : Int)) ∧ w' = w := by
  go_enter Tryz.func84, Tryz.ntmps84
  by_cases hs : s < 0
  · go_wp2
    go_ret
    exact ⟨ret_int (by rw [IntKind.wrap_u64, IntKind.wrap_u64]; omega), rfl⟩
  · go_wp2
    go_ret
    exact ⟨ret_int (by omega), rfl⟩
theorem one_mag (w : World) (x : Nat) (h0 : ¬ x = 0) (h : x < B) : Mag (w.alloc (.cells #[.int .u64 (x : Int)] 98)) (.slice (some ⟨w.heap.size, 0, none⟩) 1 1) x 1 := by
  have hc : (w.alloc (.cells #[.int .u64 (x : Int)] 98)).cell? ⟨w.heap.size, 0, none⟩ = some (.int .u64 (x : Int)) := by
    rw [World.cell?_alloc_at (w := w) _ _ w.heap.size 0 rfl]; rfl
  have hw := word_eq hc
  refine ⟨_, w.heap.size, 0, 1, rfl, Sl.mk _ _ _, Nat.le_refl _, fun i hi => ?_, ?_, .inr ?_⟩
  · obtain rfl : i = 0 := by omega
    rw [Nat.zero_add, hw]; exact ⟨hc, h⟩
  · rw [num_succ, num_zero, Nat.zero_add, hw]; simp
  · rw [show 0 + (1 - 1) = 0 from rfl, hw]; exact h0

set_option maxRecDepth 10000 in
theorem magnitude_small (s : Int) (h1 : -9223372036854775808 ≤ s) (h2 : s ≤ 9223372036854775807) (w : World) :
    Calls Tryz.prog 77 #[.agg #[.int .i64 s, .slice none 0 0]] w fun e w' => ∃ v n, e = .returned v ∧ Below w.heap.size w w' ∧ Mag w' v s.natAbs n ∧ n ≤ 1 := by
  have qT : ∀ (w : World) (a : Option Addr) (n c : Nat), (binOp .neq 22 (.slice a n c) (.slice none 0 0)).run Tryz.prog w = .ok (.bool (!a.isNone)) w := fun w a n c => run_neq_slice_nil_any w 22 98 a n c 0 0 Tryz.underlying22
  by_cases hs : s = 0
  · subst hs
    go_enter Tryz.func77, Tryz.ntmps77
    go_wp2
    go_ret
    exact ⟨_, 0, rfl, (Below.refl _ _).alloc (Nat.le_refl _) _, mag_nil _, by omega⟩
  · have hn0 : ¬ s.natAbs = 0 := by omega
    have hlt : s.natAbs < B := by unfold B; omega
    go_enter Tryz.func77, Tryz.ntmps77
    go_wp2_with (go_at_call 84; refine (sizeOf_any s h1 h2 _).mono ?_; rintro e w' ⟨rfl, rfl⟩)
    go_ret
    refine ⟨_, 1, rfl, ((Below.refl _ _).alloc (Nat.le_refl _) _).alloc (by simp) _, ?_, Nat.le_refl _⟩
    have := one_mag (w.alloc (.cells #[.int .i64 s, .slice none 0 0] 24)) s.natAbs hn0 hlt
    have e : (w.alloc (.cells #[.int .i64 s, .slice none 0 0] 24)).heap.size = w.heap.size + 1 := by simp
    rw [e] at this
    exact this

/-- A number, and the value that it is kept in: small ones in a word, long ones by sign and magnitude. -/
def IsInt (w : World) (v : Value) (z : Int) : Prop :=
  (v = .agg #[.int .i64 z, .slice none 0 0] ∧ -9223372036854775808 ≤ z ∧ z ≤ 9223372036854775807) ∨
  ∃ (s : Int) (a : Addr) (n c m : Nat), v = .agg #[.int .i64 s, .slice (some a) n c] ∧ Mag w (.slice (some a) n c) m n ∧ (s = 1 ∧ z = (m : Int) ∧ 9223372036854775807 < z ∨ s = -1 ∧ z = -(m : Int) ∧ z < -9223372036854775808)

set_option maxRecDepth 10000 in
theorem magnitude_any (w : World) (v : Value) (z : Int) (hv : IsInt w v z) :
    Calls Tryz.prog 77 #[v] w fun e w' => ∃ v n, e = .returned v ∧ Below w.heap.size w w' ∧ Mag w' v z.natAbs n := by
  rcases hv with ⟨rfl, h1, h2⟩ | ⟨s, a, n, c, m, rfl, hm, hs⟩
  · refine (magnitude_small z h1 h2 w).mono ?_
    rintro e w' ⟨v, n, h1, h2, h3, _⟩
    exact ⟨v, n, h1, h2, h3⟩
  · have qT : ∀ (w : World) (a : Option Addr) (n c : Nat), (binOp .neq 22 (.slice a n c) (.slice none 0 0)).run Tryz.prog w = .ok (.bool (!a.isNone)) w := fun w a n c => run_neq_slice_nil_any w 22 98 a n c 0 0 Tryz.underlying22
    have hz : z.natAbs = m := by omega
    rw [hz]
    have hB : Below w.heap.size w (w.alloc (Obj.cells #[Value.int IntKind.i64 s, Value.slice (some a) n c] 24)) := (Below.refl _ _).alloc (Nat.le_refl _) _
    have HM := hm.below hB
    have HM' : Hid _ := HM
    clear HM hm hs hz
    go_enter Tryz.func77, Tryz.ntmps77
    go_wp2
    go_ret
    exact ⟨_, n, rfl, hB, HM'.out⟩
end Go.Proofs.YtjlkplidpdhgbaaGreatDoor

namespace Go.Proofs.YtjlkplidpdhgbaaGreatDoor
open Go Go.Proofs Go.RowKit Go.Rad

def sgn (neg : Bool) (m : Nat) : Int := if neg then -(m : Int) else (m : Int)

theorem sgn_pos (m : Nat) : sgn false m = (m : Int) := rfl
theorem sgn_neg (m : Nat) : sgn true m = -(m : Int) := rfl

set_option maxRecDepth 10000 in
set_option maxHeartbeats 1000000 in
theorem signed_any (w : World) (neg : Bool) (v : Value) (m n : Nat) (hv : Mag w v m n) :
    Calls Tryz.prog 76 #[.bool neg, v] w fun e w' => ∃ v, e = .returned v ∧ Below w.heap.size w w' ∧ IsInt w' v (sgn neg m) := by
  have HV := hv
  obtain ⟨a, b, o, c, rfl, hs, hc, ha, hn, hr⟩ := hv
  by_cases h0 : n = 0
  · subst h0
    have hm : m = 0 := by rw [← hn]; rfl
    subst hm
    clear hn hr ha HV
    go_enter Tryz.func76, Tryz.ntmps76
    go_wp2
    refine bodyPost_ret (v := .agg #[.int .i64 0, .slice none 0 0]) (by simp [results, go_sem, loadVar]) rfl ?_
    exact ⟨_, rfl, (Below.refl _ _).alloc (Nat.le_refl _) _, .inl ⟨by unfold sgn; cases neg <;> rfl, by unfold sgn; cases neg <;> simp, by unfold sgn; cases neg <;> simp⟩⟩
  · obtain rfl := hs (by omega)
    have hb : b < w.heap.size := ha.lt (by omega)
    have hB : ∀ X, Below w.heap.size w (w.alloc X) := fun X => (Below.refl _ _).alloc (Nat.le_refl _) _
    by_cases h1 : n = 1
    · subst h1
      have hcell := arr_cell ha (i := 0) (by omega)
      have hlt := arr_lt ha (i := 0) (by omega)
      rw [num_succ, num_zero, Nat.zero_add, Nat.pow_zero, Nat.one_mul, Nat.add_zero] at hn
      rw [Nat.add_zero, hn] at hcell hlt
      have HV' : Hid _ := HV
      have HB : Hid _ := hB
      clear hn hr ha HV hB
      unfold B at hlt
      cases neg
      · by_cases h2 : (m : Int) ≤ 9223372036854775807
        · have t1 : IntKind.i64.wrap (m : Int) = (m : Int) := by rw [IntKind.wrap_i64]; omega
          go_enter Tryz.func76, Tryz.ntmps76
          go_wp2
          refine bodyPost_ret (v := .agg #[.int .i64 (m : Int), .slice none 0 0]) (by simp [results, go_sem, loadVar]) rfl ?_
          exact ⟨_, rfl, HB.out _, .inl ⟨by rw [sgn_pos], by rw [sgn_pos]; omega, by rw [sgn_pos]; omega⟩⟩
        · go_enter Tryz.func76, Tryz.ntmps76
          go_wp2
          refine bodyPost_ret (v := .agg #[.int .i64 1, .slice (some ⟨b, o, none⟩) 1 c]) (by simp [results, go_sem, loadVar]) rfl ?_
          exact ⟨_, rfl, HB.out _, .inr ⟨1, _, 1, c, m, rfl, Mag.below HV'.out (HB.out _), .inl ⟨rfl, sgn_pos m, by rw [sgn_pos]; omega⟩⟩⟩
      · by_cases h2 : (m : Int) ≤ 9223372036854775808
        · have t1 : IntKind.i64.wrap (-IntKind.i64.wrap (m : Int)) = -(m : Int) := by rw [IntKind.wrap_i64, IntKind.wrap_i64]; omega
          go_enter Tryz.func76, Tryz.ntmps76
          go_wp2
          refine bodyPost_ret (v := .agg #[.int .i64 (-(m : Int)), .slice none 0 0]) (by simp [results, go_sem, loadVar]; have t2 := t1; simp only [IntKind.wrap_i64, go_sem] at t2 ⊢; simp only [wrap64] at *; omega) rfl ?_
          exact ⟨_, rfl, HB.out _, .inl ⟨by rw [sgn_neg], by rw [sgn_neg]; omega, by rw [sgn_neg]; omega⟩⟩
        · have h3 : ¬ (m : Int) ≤ 9223372036854775807 := by omega
          go_enter Tryz.func76, Tryz.ntmps76
          go_wp2
          refine bodyPost_ret (v := .agg #[.int .i64 (-1), .slice (some ⟨b, o, none⟩) 1 c]) (by simp [results, go_sem, loadVar]) rfl ?_
          exact ⟨_, rfl, HB.out _, .inr ⟨-1, _, 1, c, m, rfl, Mag.below HV'.out (HB.out _), .inr ⟨rfl, sgn_neg m, by rw [sgn_neg]; omega⟩⟩⟩
    · have hge := HV.ge (by omega)
      have h5 : B ≤ B ^ (n - 1) := Nat.le_self_pow (by omega) B
      have h6 : B ≤ m := Nat.le_trans h5 hge
      unfold B at h6
      have HV' : Hid _ := HV
      have HB : Hid _ := hB
      clear hn hr ha HV hB hge h5
      have z1 : ¬ (n : Int) = 0 := by omega
      have z2 : ¬ (n : Int) = 1 := by omega
      cases neg
      · go_enter Tryz.func76, Tryz.ntmps76
        go_wp2
        refine bodyPost_ret (v := .agg #[.int .i64 1, .slice (some ⟨b, o, none⟩) n c]) (by simp [results, go_sem, loadVar]) rfl ?_
        exact ⟨_, rfl, HB.out _, .inr ⟨1, _, n, c, m, rfl, Mag.below HV'.out (HB.out _), .inl ⟨rfl, sgn_pos m, by rw [sgn_pos]; omega⟩⟩⟩
      · go_enter Tryz.func76, Tryz.ntmps76
        go_wp2
        refine bodyPost_ret (v := .agg #[.int .i64 (-1), .slice (some ⟨b, o, none⟩) n c]) (by simp [results, go_sem, loadVar]) rfl ?_
        exact ⟨_, rfl, HB.out _, .inr ⟨-1, _, n, c, m, rfl, Mag.below HV'.out (HB.out _), .inr ⟨rfl, sgn_neg m, by rw [sgn_neg]; omega⟩⟩⟩
end Go.Proofs.YtjlkplidpdhgbaaGreatDoor
