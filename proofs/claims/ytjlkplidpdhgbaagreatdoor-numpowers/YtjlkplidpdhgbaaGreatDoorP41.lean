/- A part of the proof: D5, Draw4, Tx6. -/
import Derived.Test.YtjlkplidpdhgbaaGreatDoorP26
import Derived.Test.YtjlkplidpdhgbaaGreatDoorP40
import Derived.Test.YtjlkplidpdhgbaaGreatDoorP29
import Derived.Deep.Cut
import Derived.Deep.CutRange
import Derived.Test.YtjlkplidpdhgbaaGreatDoorP09
import Derived.Test.YtjlkplidpdhgbaaGreatDoorP34
set_option linter.all false

namespace Go.Proofs.YtjlkplidpdhgbaaGreatDoor
open Go Go.Proofs Go.RowKit Go.Rad

theorem pval_B53 (l : List UInt8) : (pval l).natAbs < B ^ 53 := Nat.lt_of_lt_of_le (pval_lt l) (by unfold B; decide)
/-- What Pow answers. -/
structure PowOk (k a c z : Int) : Prop where
  range : k < 0 ∨ 200 < k → c = 7 ∧ z = 0
  ok : 0 ≤ k → k ≤ 200 → c = 0 ∧ z = a ^ k.toNat
inductive PowPost (w : World) (k a : Int) (e : Ending) (w' : World) : Prop
  | mk (v : Value) (c z : Int) (he : e = .returned (.tuple #[v, flt c 0])) (hb : Below w.heap.size w w') (hi : IsInt w' v z) (ok : PowOk k a c z)

set_option maxRecDepth 10000 in
set_option maxHeartbeats 2000000 in
theorem powI_any (w : World) (va : Value) (a k : Int) (ha : IsInt w va a) (hA : a.natAbs < B ^ 53) (hk1 : -9223372036854775808 ≤ k) (hk2 : k ≤ 9223372036854775807) :
    Calls Tryz.prog 30 #[va, .int .i64 k] w fun e w' => PowPost w k a e w' := by
  obtain ⟨s, ao, n, c, rfl⟩ := ha.form
  have HA : Hid (IsInt w (.agg #[.int .i64 s, .slice ao n c]) a) := ha
  have HB : Hid _ := hA
  clear ha hA
  go_enter Tryz.func30, Tryz.ntmps30
  go_upto_region 1 with fail
  refine wp_world (fun w1 => Below w.heap.size w w1 ∧ FB w1 w.heap.size (.int .i64 s) (.slice ao n c) ∧ FB w1 (w.heap.size + 1) (.int .i64 0) (.slice none 0 0) ∧ FB w1 (w.heap.size + 1 + 1) (.int .i64 0) (.int .i64 0)) (fb3 w _ _ _ _ _ _ _ _ _ rfl) ?_
  rintro w1 ⟨hB1, F2, F4, F5⟩
  have HF4 : Hid _ := F4
  have HF5 : Hid _ := F5
  have HB1 : Hid _ := hB1
  clear hB1
  by_cases h1 : k < 0 ∨ 200 < k
  · obtain ⟨l4, k40, k41, p40, p41⟩ := F4
    obtain ⟨l5, k50, k51, p50, p51⟩ := F5
    have hd := two_done HB1.out HF4.out HF5.out (show w.heap.size ≤ w.heap.size + 1 by omega) (show w.heap.size ≤ w.heap.size + 1 + 1 by omega) (by omega) (isInt_small w1 0 (by decide) (by decide)) 7 0
    have HD : Hid _ := hd
    have HO : Hid (PowOk k a 7 0) := ⟨fun _ => ⟨rfl, rfl⟩, fun h2 h3 => by omega⟩
    clear hd
    by_cases h2 : k < 0
    · clear h1
      go_wp2
      refine bodyPost_ret (v := .tuple #[.agg #[.int .i64 0, .slice none 0 0], .agg #[.int .i64 7, .int .i64 0]]) (by simp [results, go_sem, loadVar, World.cell?_setCell_same, World.cell?_setCell_other, *]; try rfl) rfl ?_
      exact .mk _ 7 0 rfl HD.out.1 HD.out.2 HO.out
    · have h3 : 200 < k := by omega
      clear h1
      go_wp2
      refine bodyPost_ret (v := .tuple #[.agg #[.int .i64 0, .slice none 0 0], .agg #[.int .i64 7, .int .i64 0]]) (by simp [results, go_sem, loadVar, World.cell?_setCell_same, World.cell?_setCell_other, *]; try rfl) rfl ?_
      exact .mk _ 7 0 rfl HD.out.1 HD.out.2 HO.out
  · have h2 : ¬ k < 0 := by omega
    have h3 : ¬ 200 < k := by omega
    obtain ⟨m, rfl⟩ : ∃ m : Nat, k = (m : Int) := ⟨k.toNat, by omega⟩
    have hm2 : m ≤ 200 := by omega
    clear h1 hk1 hk2
    obtain ⟨l2, k20, k21, -, -⟩ := F2
    clear F4 F5
    go_wp2_with (go_at_call 88; fail)
    refine (power_any w1 _ a 53 m (IsInt.below HA.out HB1.out) HB.out (by omega) (by omega) (by decide)).mono ?_
    rintro e w2 ⟨v2, rfl, hb2, hi2⟩
    obtain ⟨s7, a7, n7, c7, rfl⟩ := hi2.form
    have F4 := HF4.out.below hb2
    have F5 := HF5.out.below hb2
    have hB5 := HB1.out.trans (hb2.mono HB1.out.size)
    have hd := two_done hB5 F4 F5 (show w.heap.size ≤ w.heap.size + 1 by omega) (show w.heap.size ≤ w.heap.size + 1 + 1 by omega) (by omega) hi2 0 0
    have HD : Hid _ := hd
    clear l2 k20 k21 hb2 hi2 hB5 hd HF4 HF5
    obtain ⟨l4, k40, k41, p40, p41⟩ := F4
    obtain ⟨l5, k50, k51, p50, p51⟩ := F5
    go_wp2
    refine bodyPost_ret (v := .tuple #[.agg #[.int .i64 s7, .slice a7 n7 c7], .agg #[.int .i64 0, .int .i64 0]]) (by simp [results, go_sem, loadVar, World.cell?_setCell_same, World.cell?_setCell_other, *]; try rfl) rfl ?_
    exact .mk _ 0 _ rfl HD.out.1 HD.out.2 ⟨fun h => by omega, fun _ _ => ⟨rfl, rfl⟩⟩

/-- A variable of type Z that holds a number. -/
def ZV (w : World) (b : Nat) (z : Int) : Prop := ∃ s a n c, FB w b (.bool s) (.slice a n c) ∧ IsZ w (.agg #[.bool s, .slice a n c]) z
theorem ZV.below {w w' : World} {b : Nat} {z : Int} (h : ZV w b z) (hb : Below w.heap.size w w') : ZV w' b z := by
  obtain ⟨s, a, n, c, h1, h2⟩ := h
  exact ⟨s, a, n, c, h1.below hb, h2.below hb⟩
theorem ZV.set {w : World} {b : Nat} {z : Int} {x s : Bool} {a a' : Option Addr} {n c n' c' : Nat} (h : FB w b (.bool x) (.slice a' n' c')) (hz : IsZ w (.agg #[.bool s, .slice a n c]) z) :
    ZV ((w.setCell ⟨b, 0, none⟩ (.bool s)).setCell ⟨b, 1, none⟩ (.slice a n c)) b z := ⟨s, a, n, c, h.set _ _, hz.stored h.c0 h.c1 (by intro q; simp) (by intro q; simp)⟩
theorem ZV.other {w : World} {b p : Nat} {z : Int} {x : Bool} {a' : Option Addr} {n' c' : Nat} (h : ZV w b z) (hp : FB w p (.bool x) (.slice a' n' c')) (hc : b ≠ p) (v0 v1 : Value) :
    ZV ((w.setCell ⟨p, 0, none⟩ v0).setCell ⟨p, 1, none⟩ v1) b z := by
  obtain ⟨s, a, n, c, h1, h2⟩ := h
  exact ⟨s, a, n, c, h1.other _ _ hc, h2.stored hp.c0 hp.c1 (by intro q; simp) (by intro q; simp)⟩
set_option maxRecDepth 10000 in
set_option maxHeartbeats 2000000 in
theorem zAbs_any (w : World) (v : Value) (z : Int) (hz : IsZ w v z) :
    Calls Tryz.prog 33 #[v] w fun e w' => ∃ v, e = .returned v ∧ Below w.heap.size w w' ∧ IsZ w' v (z.natAbs : Int) := by
  obtain ⟨s, a, n, c, rfl⟩ := hz.form
  have HZ : Hid (IsZ w (.agg #[.bool s, .slice a n c]) z) := hz
  clear hz
  go_enter Tryz.func33, Tryz.ntmps33
  go_upto_region 1 with fail
  refine wp_world (fun w1 => Below w.heap.size w w1 ∧ FB w1 w.heap.size (.bool s) (.slice a n c) ∧ FB w1 (w.heap.size + 1) (.bool false) (.slice none 0 0)) (fb2 w _ _ _ _ _ _ rfl) ?_
  rintro w1 ⟨hB1, F1, F2⟩
  obtain ⟨l1, k10, k11, -, -⟩ := F1
  have HF2 : Hid _ := F2
  have HB1 : Hid _ := hB1
  clear F2 hB1
  go_wp2_with (go_at_call 73; fail)
  obtain ⟨dv, k, hv, ao, b, o, c', rfl, hs, hc, hcm, ha, hx, hn⟩ := IsZ.below HZ.out HB1.out
  simp only [Value.agg.injEq, Array.mk.injEq, List.cons.injEq, Value.bool.injEq, Value.slice.injEq, and_true] at hv
  obtain ⟨-, rfl, rfl, rfl⟩ := hv
  have CZ := zmade_any w1 false a b o n c z.natAbs hs hc hcm ha hx
  rw [sgn_pos] at CZ
  clear hs hc hcm ha hx hn l1 k10 k11
  refine CZ.mono ?_
  rintro e w2 ⟨v2, rfl, hb2, hi2⟩
  clear CZ
  obtain ⟨s7, a7, n7, c7, rfl⟩ := hi2.form
  have F2 := HF2.out.below hb2
  have hB5 := HB1.out.trans (hb2.mono HB1.out.size)
  have HW : Hid (Below w.heap.size w _) := below_set2 hB5 (show w.heap.size ≤ w.heap.size + 1 by omega) (.bool s7) (.slice a7 n7 c7)
  have HI : Hid (IsZ _ _ _) := hi2.stored (u1 := .bool s7) (u2 := .slice a7 n7 c7) F2.c0 F2.c1 (by intro q; simp) (by intro q; simp)
  clear hb2 hi2 hB5
  obtain ⟨l4, k40, k41, p40, p41⟩ := F2
  go_wp2
  refine bodyPost_ret (v := .agg #[.bool s7, .slice a7 n7 c7]) (by simp [results, go_sem, loadVar, World.cell?_setCell_same, World.cell?_setCell_other, *]; try rfl) rfl ?_
  exact ⟨_, rfl, HW.out, HI.out⟩

theorem zstep1 {N j i g : Nat} (h : j + i * g = N) : g % 2 = 1 → j + i + (i + i) * (g / 2) = N := by
  intro h1
  have h2 : g = 2 * (g / 2) + 1 := by omega
  rw [← h]
  conv => rhs; rw [h2]
  rw [Nat.mul_add, Nat.add_mul, Nat.mul_one, ← Nat.mul_assoc, Nat.mul_comm i 2, Nat.two_mul, Nat.add_mul]
  omega
theorem zstep0 {N j i g : Nat} (h : j + i * g = N) : g % 2 = 0 → j + (i + i) * (g / 2) = N := by
  intro h1
  have h2 : g = 2 * (g / 2) := by omega
  rw [← h]
  conv => rhs; rw [h2]
  rw [← Nat.mul_assoc, Nat.mul_comm i 2, Nat.two_mul]
set_option maxRecDepth 10000 in
set_option maxHeartbeats 2000000 in
theorem zPow_any (w : World) (v : Value) (z : Int) (N LX : Nat) (hz : IsZ w v z) (hb : (max 1 z.natAbs) ^ N < 10000 ^ LX) (hL : LX ≤ 268435456) (hN : N ≤ 1000000) :
    Calls Tryz.prog 32 #[v, .int .i64 N] w fun e w' => ∃ v, e = .returned v ∧ Below w.heap.size w w' ∧ IsZ w' v (z ^ N) := by
  obtain ⟨s, a, n, c, rfl⟩ := hz.form
  have HZ : Hid (IsZ w (.agg #[.bool s, .slice a n c]) z) := hz
  have HPB : Hid (∀ i, i ≤ N → (z ^ i).natAbs < 10000 ^ LX) := fun i hi => Nat.lt_of_le_of_lt (_root_.Rad.pow_abs_le z hi) hb
  clear hz hb
  go_enter Tryz.func32, Tryz.ntmps32
  go_upto_region 1 with fail
  refine wp_world (fun w1 => Below w.heap.size w w1 ∧ FB w1 w.heap.size (.bool s) (.slice a n c) ∧ FB w1 (w.heap.size + 1) (.bool false) (.slice none 0 0)) (fb2 w _ _ _ _ _ _ rfl) ?_
  rintro w1 ⟨hB1, F2, F4⟩
  have HF2 : Hid _ := F2
  have HF4 : Hid _ := F4
  have HB1 : Hid _ := hB1
  clear F2 F4 hB1
  go_wp2_with (go_at_call 17; fail)
  refine (zOf_any w1 1 (by decide) (by decide)).mono ?_
  rintro e w2 ⟨v2, rfl, hb2, hi2⟩
  obtain ⟨s5, a5, n5, c5, rfl⟩ := hi2.form
  have F2 := ((HF2.out.below hb2).alloc (Obj.cells #[.bool s5, .slice a5 n5 c5] 31))
  have F4 := ((HF4.out.below hb2).alloc (Obj.cells #[.bool s5, .slice a5 n5 c5] 31))
  have F5 := FB.mk0 w2 (.bool s5) (.slice a5 n5 c5) 31
  have hB2 := HB1.out.trans (hb2.mono HB1.out.size)
  have hB3 := hB2.trans ((bel1 w2 (Obj.cells #[.bool s5, .slice a5 n5 c5] 31)).mono hB2.size)
  have V2 : ZV _ w.heap.size z := ⟨_, _, _, _, F2, IsZ.below HZ.out hB3⟩
  have V5 : ZV _ w2.heap.size 1 := ⟨_, _, _, _, F5, hi2.below (bel1 _ _)⟩
  have h45 : w.heap.size + 1 < w2.heap.size := (HF4.out.below hb2).lt
  have HST : Hid _ := (⟨hB3, V2, F4, V5⟩ : Below w.heap.size w _ ∧ ZV _ w.heap.size z ∧ FB _ (w.heap.size + 1) _ _ ∧ ZV _ w2.heap.size 1)
  clear F2 F4 F5 hB2 hB3 V2 V5 hb2 hi2 HF2 HF4 HB1 HZ
  obtain ⟨b5, hb5⟩ : ∃ b5, w2.heap.size = b5 := ⟨_, rfl⟩
  rw [hb5] at HST h45
  go_wp2
  clear hb5
  go_loopg [1] N (fun g s1 wr => s1 = .int .i64 (g : Int) ∧ ∃ i j : Nat, 1 ≤ i ∧ j + i * g = N ∧ Below w.heap.size w wr ∧ ZV wr w.heap.size (z ^ i) ∧ FB wr (w.heap.size + 1) (.bool false) (.slice none 0 0) ∧ ZV wr b5 (z ^ j))
  case atStart => exact ⟨rfl, 1, 0, by omega, by omega, HST.out.1, by rw [Int.pow_succ, Int.pow_zero, Int.one_mul]; exact HST.out.2.1, HST.out.2.2.1, by rw [Int.pow_zero]; exact HST.out.2.2.2⟩
  case round =>
    clear HST
    obtain ⟨rfl, i, j, hi1, hij, hB, V2, F4, V5⟩ := hrel
    have HIJ : Hid _ := hij
    have hgi : gk ≤ i * gk := Nat.le_mul_of_pos_left gk hi1
    have hgN : gk ≤ N := by omega
    have hjN : j ≤ N := by omega
    have HB1 : Hid _ := hB
    have HV2 : Hid (ZV wr w.heap.size (z ^ i)) := V2
    have HV5 : Hid (ZV wr b5 (z ^ j)) := V5
    have HF4 : Hid _ := F4
    by_cases hg : gk = 0
    · subst hg
      rw [Nat.mul_zero, Nat.add_zero] at hij
      subst hij
      obtain ⟨s6, a6, n6, c6, F5, I5⟩ := V5
      have HW : Hid (Below w.heap.size w _) := below_set2 hB (show w.heap.size ≤ w.heap.size + 1 by omega) (.bool s6) (.slice a6 n6 c6)
      have HI : Hid (IsZ _ _ _) := I5.stored (u1 := .bool s6) (u2 := .slice a6 n6 c6) F4.c0 F4.c1 (by intro q; simp) (by intro q; simp)
      obtain ⟨l4, k40, k41, p40, p41⟩ := F4
      obtain ⟨l5, k50, k51, -, -⟩ := F5
      clear V2 hB I5 hgi hgN hjN HIJ
      go_wp2
      refine bodyPost_ret (v := .agg #[.bool s6, .slice a6 n6 c6]) (by simp [results, go_sem, loadVar, World.cell?_setCell_same, World.cell?_setCell_other, *]; try rfl) rfl ?_
      exact ⟨_, rfl, HW.out, HI.out⟩
    · have hiN : i ≤ N := by
        have := Nat.le_mul_of_pos_right i (Nat.pos_of_ne_zero hg)
        omega
      have hg0 : (0 : Int) < (gk : Int) := by omega
      obtain ⟨p2, hp2⟩ : ∃ p2, gk % 2 = p2 := ⟨_, rfl⟩
      obtain ⟨d2, hd2⟩ : ∃ d2, gk / 2 = d2 := ⟨_, rfl⟩
      have e1 : (gk : Int).tmod 2 = (p2 : Int) := by rw [Int.tmod_eq_emod_of_nonneg (by omega)]; omega
      have e2 : (gk : Int) % 2 = (p2 : Int) := by omega
      have e3 : (gk : Int).tdiv 2 = (d2 : Int) := by rw [Int.tdiv_eq_ediv_of_nonneg (by omega)]; omega
      have e4 : (gk : Int) / 2 = (d2 : Int) := by omega
      have HP2 : Hid _ := hp2
      have HD2 : Hid _ := hd2
      have hp : p2 = 0 ∨ p2 = 1 := by omega
      have hdg : d2 < gk := by omega
      have HI : Hid (i ≤ N) := hiN
      have HJ : Hid (j ≤ N) := hjN
      clear hp2 hd2 hij hgi V2 V5 F4 hB hiN hjN
      go_upto_if 11 with fail
      go_cut [] from 7 to 21 (fun wx => Below w.heap.size w wx ∧ ZV wx w.heap.size (z ^ i) ∧ FB wx (w.heap.size + 1) (.bool false) (.slice none 0 0) ∧ ZV wx b5 (z ^ (j + i * p2)))
      case first =>
        rcases hp with rfl | rfl
        · clear e3 e4 e1 e2
          go_wp2_with fail
          go_meet
          case rel => exact ⟨HB1.out, HV2.out, HF4.out, by rw [Nat.mul_zero, Nat.add_zero]; exact HV5.out⟩
        · obtain ⟨s2, a2, n2, c2, F2, I2⟩ := HV2.out
          obtain ⟨s6, a6, n6, c6, F5, I5⟩ := HV5.out
          have hF5 : Hid _ := F5
          have hI2 : Hid (IsZ wr (.agg #[.bool s2, .slice a2 n2 c2]) (z ^ i)) := I2
          have hI5 : Hid (IsZ wr (.agg #[.bool s6, .slice a6 n6 c6]) (z ^ j)) := I5
          obtain ⟨l2, k20, k21, -, -⟩ := F2
          obtain ⟨l5, k50, k51, -, -⟩ := F5
          clear e3 e4 e1 e2 I2 I5
          go_wp2_with (go_at_call 27; fail)
          refine (zMul_any wr _ _ _ _ LX hI5.out hI2.out (HPB.out j HJ.out) (HPB.out i HI.out) hL).mono ?_
          rintro e w3 ⟨v3, rfl, hb3, hi3⟩
          rw [← Int.pow_add] at hi3
          obtain ⟨s7, a7, n7, c7, rfl⟩ := hi3.form
          have G5 := hF5.out.below hb3
          have HG5 : Hid _ := G5
          have HI3 : Hid (IsZ w3 (.agg #[.bool s7, .slice a7 n7 c7]) (z ^ (j + i))) := hi3
          have HB3 : Hid _ := hb3
          clear l2 k20 k21 l5 k50 k51 hi3 hb3
          obtain ⟨l5, k50, k51, p50, p51⟩ := G5
          go_wp2_with fail
          go_meet
          case rel =>
            have hB := HB1.out.trans (HB3.out.mono HB1.out.size)
            refine ⟨below_set2 hB (show w.heap.size ≤ b5 by omega) _ _, ZV.other (ZV.below HV2.out HB3.out) HG5.out (show w.heap.size ≠ b5 by omega) _ _, FB.other (HF4.out.below HB3.out) _ _ (show w.heap.size + 1 ≠ b5 by omega), ?_⟩
            rw [Nat.mul_one]
            exact ZV.set HG5.out HI3.out
      case rest =>
        obtain ⟨hB, V2, F4, V5⟩ := hcut
        have HB1 : Hid _ := hB
        have HV2 : Hid (ZV wc w.heap.size (z ^ i)) := V2
        have HV5 : Hid (ZV wc b5 (z ^ (j + i * p2))) := V5
        have HF4 : Hid _ := F4
        have HHP : Hid (p2 = 0 ∨ p2 = 1) := hp
        clear hB V5 F4 hp
        by_cases hd : d2 = 0
        · have hd0 : ¬ (0 : Int) < (d2 : Int) := by omega
          clear V2 e1 e2
          go_wp2
          go_roundg d2
          case measure => exact hdg
          case rel =>
            refine ⟨by rw [hd]; rfl, i, j + i * p2, hi1, ?_, HB1.out, HV2.out, HF4.out, HV5.out⟩
            have h1 := HIJ.out
            have h2 : gk = 1 := by have := HD2.out; omega
            have h3 : p2 = 1 := by have := HP2.out; omega
            rw [hd, h3, Nat.mul_zero, Nat.add_zero, ← h1, h2]
        · have hd0 : (0 : Int) < (d2 : Int) := by omega
          obtain ⟨s2, a2, n2, c2, F2, I2⟩ := V2
          have hF2 : Hid _ := F2
          have hI2 : Hid (IsZ wc (.agg #[.bool s2, .slice a2 n2 c2]) (z ^ i)) := I2
          obtain ⟨l2, k20, k21, -, -⟩ := F2
          clear I2 e1 e2
          go_wp2_with (go_at_call 27; fail)
          refine (zMul_any wc _ _ _ _ LX hI2.out hI2.out (HPB.out i HI.out) (HPB.out i HI.out) hL).mono ?_
          rintro e w3 ⟨v3, rfl, hb3, hi3⟩
          rw [← Int.pow_add] at hi3
          obtain ⟨s7, a7, n7, c7, rfl⟩ := hi3.form
          have G2 := hF2.out.below hb3
          have HG2 : Hid _ := G2
          have HI3 : Hid (IsZ w3 (.agg #[.bool s7, .slice a7 n7 c7]) (z ^ (i + i))) := hi3
          have HB3 : Hid _ := hb3
          clear l2 k20 k21 hi3 hb3
          obtain ⟨l5, k50, k51, p50, p51⟩ := G2
          go_wp2
          go_roundg d2
          case measure => exact hdg
          case rel =>
            have hB := HB1.out.trans (HB3.out.mono HB1.out.size)
            refine ⟨rfl, i + i, j + i * p2, by omega, ?_, below_set2 hB (Nat.le_refl _) _ _, ZV.set HG2.out HI3.out, FB.other (HF4.out.below HB3.out) _ _ (show w.heap.size + 1 ≠ w.heap.size by omega), ZV.other (ZV.below HV5.out HB3.out) HG2.out (show b5 ≠ w.heap.size by omega) _ _⟩
            have h1 := HIJ.out
            rcases HHP.out with h2 | h2
            · rw [h2, Nat.mul_zero, Nat.add_zero, ← HD2.out]; exact zstep0 h1 (by rw [HP2.out]; exact h2)
            · rw [h2, Nat.mul_one, ← HD2.out]; exact zstep1 h1 (by rw [HP2.out]; exact h2)
end Go.Proofs.YtjlkplidpdhgbaaGreatDoor

namespace Go.Rad
open Go Go.RowKit
/-- A guarded operation whose guard was not reckoned. -/
theorem stpU {P : Program} {ops : List Oper} {Q : Exit → Act → World → Prop} {o : Oper} {a : Act} {w : World} {K : Act → World → Prop} {E : Prop} {j : Nat} {b : Bool} {d : Nat} (hg : o.guard = some (j, b)) (hd : dstOf ops j = some d)
    (hv : a.tmps[d]?.getD undef = undef) (h : E) : if Region.wanted o (yielded ops.toArray a.tmps) = true then o.wp P a w K Q else E := by
  have hy : yielded ops.toArray a.tmps j = none := by
    unfold yielded
    unfold dstOf at hd
    have : (ops.toArray[j]?.bind (·.dst)) = some d := by simpa using hd
    rw [this]
    cases h2 : a.tmps[d]? with
    | none => simp [h2]
    | some u => rw [h2] at hv; simp at hv; subst hv; simp [h2, undef]
  rw [if_neg]
  · exact h
  · simp [Region.wanted, hg, hy]
end Go.Rad

/- The text of a number is read as that number. -/
namespace Rad
open Go
theorem dg_of_digit {d : Nat} (hd : d ≤ 9) : (UInt8.ofNat (48 + d)).toNat = 48 + d := by
  rw [UInt8.toNat_ofNat']; omega
theorem decD : ∀ n : Nat, (∀ b ∈ Lib.decDigits n, IsDg b) ∧ dval (Lib.decDigits n) = n ∧ (0 < n → ∃ b r, Lib.decDigits n = b :: r ∧ b ≠ 48) ∧ Lib.decDigits n ≠ [] ∧ (∀ L, 0 < L → n < 10 ^ L → (Lib.decDigits n).length ≤ L) := by
  intro n
  induction n using Nat.strongRecOn with
  | ind n ih =>
    by_cases h : n < 10
    · have e : Lib.decDigits n = [UInt8.ofNat (48 + n)] := Lib.decDigits_one h
      have ed := dg_of_digit (d := n) (by omega)
      rw [e]
      refine ⟨?_, ?_, ?_, by simp, ?_⟩
      · intro b hb
        rw [List.mem_singleton] at hb
        rw [hb]; unfold IsDg; rw [ed]; omega
      · rw [dval_cons, ed]; simp [dval, dvalF]
      · intro hp
        refine ⟨_, [], rfl, fun hq => ?_⟩
        have := congrArg UInt8.toNat hq
        rw [ed] at this
        change 48 + n = 48 at this
        omega
      · intro L hL _; simp; omega
    · have hn : n = n / 10 * 10 + n % 10 := by omega
      obtain ⟨h1, h2, h3, h4, h5⟩ := ih (n / 10) (by omega)
      have ed := dg_of_digit (d := n % 10) (by omega)
      have e : Lib.decDigits n = Lib.decDigits (n / 10) ++ [UInt8.ofNat (48 + n % 10)] := by
        have := dec_snoc (x := n / 10) (d := n % 10) (by omega) (by omega)
        rwa [← hn] at this
      rw [e]
      refine ⟨?_, ?_, ?_, by simp, ?_⟩
      · intro b hb
        rcases List.mem_append.1 hb with hb | hb
        · exact h1 b hb
        · rw [List.mem_singleton] at hb
          rw [hb]; unfold IsDg; rw [ed]; omega
      · rw [dval_snoc, h2, ed]; omega
      · intro _
        obtain ⟨b, r, hb, hb0⟩ := h3 (by omega)
        exact ⟨b, r ++ [UInt8.ofNat (48 + n % 10)], by rw [hb]; rfl, hb0⟩
      · intro L hL hlt
        obtain ⟨M, rfl⟩ : ∃ M, L = M + 1 := ⟨L - 1, by omega⟩
        have hM : 0 < M := by
          rcases Nat.eq_zero_or_pos M with h0 | h0
          · rw [h0] at hlt; omega
          · exact h0
        have := h5 M hM (by rw [Nat.div_lt_iff_lt_mul (by decide)]; rw [Nat.pow_succ] at hlt; exact hlt)
        rw [List.length_append]; simp; omega
theorem valid_pos {b : UInt8} {r : List UInt8} (h : ∀ c ∈ b :: r, IsDg c) (h0 : b = 48 → r = []) : Valid (b :: r) ∧ digs (b :: r) = b :: r ∧ (b :: r).head? ≠ some 45 := by
  have hb := h b List.mem_cons_self
  have hb45 : b ≠ 45 := fun e => by rw [e] at hb; exact absurd hb (by decide)
  have hd := digs_pos hb45 r
  refine ⟨⟨?_, by rw [hd]; simp⟩, hd, by simpa using hb45⟩
  by_cases hb48 : b = 48
  · rw [h0 hb48, hb48]; rfl
  · rw [wlen_pos hb45 hb48]; exact runD_of_all h
/-- The text of a number. -/
theorem itoa_back (z : Int) : Valid (Lib.itoa z) ∧ val (Lib.itoa z) = z ∧ (∀ L, 0 < L → z.natAbs < 10 ^ L → (digs (Lib.itoa z)).length ≤ L) := by
  rcases Int.lt_or_le z 0 with hz | hz
  · obtain ⟨n, rfl⟩ : ∃ n : Nat, z = -(n : Int) := ⟨z.natAbs, by omega⟩
    have hn : 0 < n := by omega
    obtain ⟨h1, h2, h3, h4, h5⟩ := decD n
    obtain ⟨b, r, hb, hb0⟩ := h3 hn
    rw [Lib.itoa_neg _ hn]
    have hd := digs_neg (Lib.decDigits n)
    have hh : (45 :: Lib.decDigits n).head? = some 45 := rfl
    refine ⟨⟨?_, by rw [hd]; exact h4⟩, ?_, ?_⟩
    · rw [wlen_neg, hb, if_neg (by simpa using hb0), ← hb, runD_of_all h1]; simp; omega
    · unfold val; rw [if_pos hh, hd, h2]
    · intro L hL hlt; rw [hd]; exact h5 L hL (by simpa using hlt)
  · obtain ⟨n, rfl⟩ : ∃ n : Nat, z = (n : Int) := ⟨z.natAbs, by omega⟩
    obtain ⟨h1, h2, h3, h4, h5⟩ := decD n
    rw [Lib.itoa_nonneg]
    obtain ⟨b, r, hb, hb0⟩ : ∃ b r, Lib.decDigits n = b :: r ∧ (b = 48 → r = []) := by
      rcases Nat.eq_zero_or_pos n with h0 | h0
      · subst h0; exact ⟨_, [], Lib.decDigits_one (by decide), fun _ => rfl⟩
      · obtain ⟨b, r, hb, hb0⟩ := h3 h0; exact ⟨b, r, hb, fun e => absurd e hb0⟩
    rw [hb] at h1 h2 h5 ⊢
    obtain ⟨v1, v2, v3⟩ := valid_pos h1 hb0
    refine ⟨v1, ?_, ?_⟩
    · unfold val; rw [if_neg v3, v2, h2]
    · intro L hL hlt; rw [v2]; exact h5 L hL (by simpa using hlt)
end Rad
