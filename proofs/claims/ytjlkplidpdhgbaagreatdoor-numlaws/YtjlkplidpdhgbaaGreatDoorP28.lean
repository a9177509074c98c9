/- A part of the proof: D1. -/
import Derived.Test.YtjlkplidpdhgbaaGreatDoorP20
import Derived.Test.YtjlkplidpdhgbaaGreatDoorP25
import Derived.Test.YtjlkplidpdhgbaaGreatDoorP18
import Derived.Test.YtjlkplidpdhgbaaGreatDoorP27
import Derived.Deep.Cut
import Derived.Deep.CutRange
set_option linter.all false

namespace Go.Proofs.YtjlkplidpdhgbaaGreatDoor
open Go Go.Proofs Go.RowKit Go.Rad


set_option maxRecDepth 10000 in
set_option maxHeartbeats 2000000 in
theorem cut_any (w : World) (va vb : Value) (x y : Int) (LL : Nat) (hx : IsInt w va x) (hy : IsInt w vb y) (h0 : y ≠ 0) (hA : x.natAbs < B ^ 159) (hB : y.natAbs < B ^ LL) (hL : LL ≤ 100000) :
    Calls Tryz.prog 90 #[va, vb] w fun e w' => ∃ vq vr, e = .returned (.tuple #[vq, vr]) ∧ Below w.heap.size w w' ∧ IsInt w' vq (x / y) ∧ IsInt w' vr (x % y) := by
  have q := qEq
  obtain ⟨s, a, n, c, rfl⟩ := hx.form
  obtain ⟨t, b, m, d, rfl⟩ := hy.form
  obtain ⟨g1, g2, g3, g4, g5⟩ := hx.sgn
  obtain ⟨i1, i2, i3, i4, i5⟩ := hy.sgn
  have HA : Hid _ := hA
  have HB : Hid _ := hB
  have HS : Hid _ := _root_.Rad.cut_sign x y h0
  have HX : Hid (IsInt w (.agg #[.int .i64 s, .slice a n c]) x) := hx
  have HY : Hid (IsInt w (.agg #[.int .i64 t, .slice b m d]) y) := hy
  have HG5 : Hid _ := g5
  have HI5 : Hid _ := i5
  have ht0 : ¬ t = 0 := by omega
  have HI3 : Hid _ := i3
  clear hA hB hx hy g5 i5
  go_enter Tryz.func90, Tryz.ntmps90
  go_upto_region 1 with fail
  refine wp_world (fun w1 => Below w.heap.size w w1 ∧ FB w1 w.heap.size (.int .i64 s) (.slice a n c) ∧ FB w1 (w.heap.size + 1) (.int .i64 t) (.slice b m d) ∧ FB w1 (w.heap.size + 1 + 1) (.int .i64 0) (.slice none 0 0) ∧ FB w1 (w.heap.size + 1 + 1 + 1) (.int .i64 0) (.slice none 0 0)) (fb4 w _ _ _ _ _ _ _ _ _ _ _ _ rfl) ?_
  rintro w1 ⟨hB1, F2, F3, F4, F5⟩
  have HB1 : Hid _ := hB1
  have HF2 : Hid _ := F2
  have HF3 : Hid _ := F3
  have HF4 : Hid _ := F4
  have HF5 : Hid _ := F5
  obtain ⟨l2, k20, k21, -, -⟩ := F2
  obtain ⟨l3, k30, k31, -, -⟩ := F3
  clear F4 F5 hB1
  go_cut [25] from 8 (fun v wx => v = .bool (decide (a = none ∧ b = none ∧ ¬ (s = -9223372036854775808 ∧ t = -1))) ∧ wx = w1)
  case first =>
    rcases a with _ | a
    · rcases b with _ | b
      · by_cases hs : s = -9223372036854775808
        · have hs1 : (s != -9223372036854775808) = false := by simpa using hs
          by_cases ht : t = -1
          · have ht1 : (t != -1) = false := by simpa using ht
            have hg : decide ((none : Option Addr) = none ∧ (none : Option Addr) = none ∧ ¬ (s = -9223372036854775808 ∧ t = -1)) = false := by simp [hs, ht]
            have HG : Hid _ := hg
            clear hg hs ht
            go_wp2_with fail
            go_meet
            case rel => exact ⟨congrArg Value.bool HG.out.symm, rfl⟩
          · have ht1 : (t != -1) = true := by simpa using ht
            have hg : decide ((none : Option Addr) = none ∧ (none : Option Addr) = none ∧ ¬ (s = -9223372036854775808 ∧ t = -1)) = true := by simp [ht]
            have HG : Hid _ := hg
            clear hg hs
            go_wp2_with fail
            go_meet
            case rel => exact ⟨congrArg Value.bool HG.out.symm, rfl⟩
        · have hg : decide ((none : Option Addr) = none ∧ (none : Option Addr) = none ∧ ¬ (s = -9223372036854775808 ∧ t = -1)) = true := by simp [hs]
          have HG : Hid _ := hg
          clear hg 
          go_wp2_with fail
          go_meet
          case rel => exact ⟨congrArg Value.bool HG.out.symm, rfl⟩
      · have hg : decide ((none : Option Addr) = none ∧ some b = none ∧ ¬ (s = -9223372036854775808 ∧ t = -1)) = false := by simp
        have HG : Hid _ := hg
        clear hg 
        go_wp2_with fail
        go_meet
        case rel => exact ⟨congrArg Value.bool HG.out.symm, rfl⟩
    · have hg : decide (some a = none ∧ b = none ∧ ¬ (s = -9223372036854775808 ∧ t = -1)) = false := by simp
      have HG : Hid _ := hg
      clear hg 
      go_wp2_with fail
      go_meet
      case rel => exact ⟨congrArg Value.bool HG.out.symm, rfl⟩
  case rest =>
    obtain ⟨rfl, rfl⟩ := hcut
    clear l2 l3 k20 k21 k30 k31
    go_upto_if 25 with fail
    go_cut [] from 6 (fun wx => Below w.heap.size w wx ∧ FB wx w.heap.size (.int .i64 s) (.slice a n c) ∧ FB wx (w.heap.size + 1) (.int .i64 t) (.slice b m d) ∧ IV wx (w.heap.size + 1 + 1) (x.tdiv y) ∧ IV wx (w.heap.size + 1 + 1 + 1) (x.tmod y))
    case first =>
      by_cases hn : a = none ∧ b = none ∧ ¬ (s = -9223372036854775808 ∧ t = -1)
      · have hd : decide (a = none ∧ b = none ∧ ¬ (s = -9223372036854775808 ∧ t = -1)) = true := decide_eq_true hn
        rw [hd]
        obtain ⟨rfl, rfl, hn⟩ := hn
        obtain ⟨rfl, rfl, rfl⟩ := HG5.out rfl
        obtain ⟨rfl, rfl, rfl⟩ := HI5.out rfl
        have hq : -9223372036854775808 ≤ s.tdiv t ∧ s.tdiv t ≤ 9223372036854775807 := _root_.Rad.tdiv_range g1 g2 hn
        have hr : -9223372036854775808 ≤ s.tmod t ∧ s.tmod t ≤ 9223372036854775807 := _root_.Rad.tmod_range g1 g2
        have ew : IntKind.i64.wrap (s.tdiv t) = s.tdiv t := by rw [IntKind.wrap_i64]; omega
        have er : IntKind.i64.wrap (s.tmod t) = s.tmod t := by rw [IntKind.wrap_i64]; omega
        have HQ : Hid _ := hq
        have HR : Hid _ := hr
        clear hq hr hn hd g1 g2 g3 g4 i1 i2 i3 i4 q
        obtain ⟨l2, k20, k21, p20, p21⟩ := HF2.out
        obtain ⟨l3, k30, k31, p30, p31⟩ := HF3.out
        obtain ⟨l4, k40, k41, p40, p41⟩ := HF4.out
        obtain ⟨l5, k50, k51, p50, p51⟩ := HF5.out
        go_upto_region 2 with fail
        go_region
        go_wp2_with fail
        go_meet
        case rel =>
          have hw := below_set2 (below_set2 HB1.out (show w.heap.size ≤ w.heap.size + 1 + 1 by omega) (.int .i64 (s.tdiv t)) (.slice none 0 0)) (show w.heap.size ≤ w.heap.size + 1 + 1 + 1 by omega) (.int .i64 (s.tmod t)) (.slice none 0 0)
          have e4 := HF4.out.set (.int .i64 (s.tdiv t)) (.slice none 0 0)
          have e5 := (HF5.out.other (.int .i64 (s.tdiv t)) (.slice none 0 0) (show w.heap.size + 1 + 1 + 1 ≠ w.heap.size + 1 + 1 by omega))
          refine ⟨hw.drew, ?_, ?_, ?_, ?_⟩
          · exact ((HF2.out.other _ _ (by omega)).other _ _ (by omega)).drew
          · exact ((HF3.out.other _ _ (by omega)).other _ _ (by omega)).drew
          · exact ((IV.set HF4.out (isInt_small _ _ HQ.out.1 HQ.out.2)).other e5 (by omega) _ _).drew
          · exact (IV.set e5 (isInt_small _ _ HR.out.1 HR.out.2)).drew
      · have hd : decide (a = none ∧ b = none ∧ ¬ (s = -9223372036854775808 ∧ t = -1)) = false := decide_eq_false hn
        rw [hd]
        have HD : Hid (sgn (decide (s < 0) != decide (t < 0)) (x.natAbs / y.natAbs) = x.tdiv y ∧ sgn (decide (s < 0)) (x.natAbs % y.natAbs) = x.tmod y) := by
          have h := _root_.Rad.tdiv_sgn x y (decide (s < 0)) (decide (t < 0)) (by rw [decide_eq_true_eq]; exact g3) (by rw [decide_eq_true_eq]; exact i3)
          show _ ∧ _
          refine ⟨?_, ?_⟩
          · rw [← h.1]; unfold sgn; rfl
          · rw [← h.2]; unfold sgn; rfl
        have HY0 : Hid (y.natAbs ≠ 0) := by show y.natAbs ≠ 0; omega
        have HX : ∀ w2, Below w.heap.size w w2 → IsInt w2 (.agg #[.int .i64 s, .slice a n c]) x := fun w2 h => HX.out.below h
        have HY : ∀ w2, Below w.heap.size w w2 → IsInt w2 (.agg #[.int .i64 t, .slice b m d]) y := fun w2 h => HY.out.below h
        clear hd hn g1 g2 g3 g4 i1 i2 i3 i4 q h0 ht0 HI3
        have hB1 := HB1.out
        obtain ⟨l2, k20, k21, -, -⟩ := HF2.out
        obtain ⟨l3, k30, k31, -, -⟩ := HF3.out
        refine wp_world (fun w1 => w1 = wc) rfl ?_
        rintro w1 rfl
        go_upto_region 3 with fail
        refine wp_drawn mixed [⟨39, [], [], [2]⟩, ⟨40, [0], [0], []⟩, ⟨41, [], [], [3]⟩, ⟨42, [1, 2], [0, 1, 2], []⟩, ⟨43, [1, 3], [0, 1, 2, 3], []⟩, ⟨38, [4], [0, 1, 2, 3, 4], []⟩, ⟨44, [5], [0, 1, 2, 3, 4, 5], []⟩, ⟨45, [5], [0, 1, 2, 3, 4, 5], []⟩, ⟨6, [0, 1, 2, 3, 4, 5, 6], [0, 1, 2, 3, 4, 5, 6], []⟩, ⟨7, [0, 1, 2, 3, 4, 5, 6, 7, 8], [0, 1, 2, 3, 4, 5, 6, 7, 8], []⟩] [] (by kernel_rfl) 80 rfl (by kernel_rfl) (fun (i : Nat) (v : Value) (wq : World) => match i with | 0 => v = .agg #[.int .i64 (s), .slice a (n) (c)] | 1 => ∃ n, Mag wq v x.natAbs n | 2 => v = .agg #[.int .i64 (t), .slice b (m) (d)] | 3 => ∃ n, Mag wq v y.natAbs n | 4 => ∃ vq vr nq nr, v = .tuple #[vq, vr] ∧ Mag wq vq (x.natAbs / y.natAbs) nq ∧ Mag wq vr (x.natAbs % y.natAbs) nr | 5 => ∃ vq vr nq nr, v = .tuple #[vq, vr] ∧ Mag wq vq (x.natAbs / y.natAbs) nq ∧ Mag wq vr (x.natAbs % y.natAbs) nr | 6 => ∃ n, Mag wq v (x.natAbs / y.natAbs) n | 7 => ∃ n, Mag wq v (x.natAbs % y.natAbs) n | 8 => ∃ n, Mag wq v (x.natAbs / y.natAbs) n | 9 => ∃ n, Mag wq v (x.natAbs % y.natAbs) n | _ => True) (fun _ wq => Below w1.heap.size w1 wq) (fun wx wy => Below wx.heap.size wx wy) (Below.refl _ _).drew (fun i v wx wy h hx => match i, h with | 0, h => h | 2, h => h | 1, h => by obtain ⟨n, h⟩ := h; exact ⟨n, h.below hx⟩ | 3, h => by obtain ⟨n, h⟩ := h; exact ⟨n, h.below hx⟩ | 4, h => by obtain ⟨vq, vr, nq, nr, h0, h1, h2⟩ := h; exact ⟨vq, vr, nq, nr, h0, h1.below hx, h2.below hx⟩ | 5, h => by obtain ⟨vq, vr, nq, nr, h0, h1, h2⟩ := h; exact ⟨vq, vr, nq, nr, h0, h1.below hx, h2.below hx⟩ | 6, h => by obtain ⟨n, h⟩ := h; exact ⟨n, h.below hx⟩ | 7, h => by obtain ⟨n, h⟩ := h; exact ⟨n, h.below hx⟩ | 8, h => by obtain ⟨n, h⟩ := h; exact ⟨n, h.below hx⟩ | 9, h => by obtain ⟨n, h⟩ := h; exact ⟨n, h.below hx⟩ | n + 10, _ => trivial) ?_ ?_
        · intro i o r ho hr L fr wx hW hL hpr hds hdef hpre hfree
          clear hL hpr hds hdef
          match i, ho, hr with
          | 0, ho, hr =>
            obtain rfl := Option.some.inj ho; obtain rfl := Option.some.inj hr
            have t2 := ev_tmp (show fr.eval (.tmp 2) = .pointer (some ⟨w.heap.size, 0, none⟩) from hfree 2 (by decide))
            clear hpre hfree
            have c0 := (hW.cell (p := ⟨w.heap.size, 0, none⟩) l2).trans k20
            have c1 := (hW.cell (p := ⟨w.heap.size, 1, none⟩) l2).trans k21
            refine stpK rfl rfl fun K hK => ?_
            go_simp
            exact hK _ _ ⟨rfl, hW, Below.refl _ _, fun h => (List.not_mem_nil h).elim⟩
          | 1, ho, hr =>
            obtain rfl := Option.some.inj ho; obtain rfl := Option.some.inj hr
            have e0 := ev_tmp (show fr.eval (.tmp 39) = .agg #[.int .i64 (s), .slice a (n) (c)] from hpre 0 (by decide) _ rfl)
            clear hpre hfree
            refine stpK rfl rfl fun K hK => ?_
            go_simp
            refine (magnitude_any wx _ x (HX wx (hB1.trans (hW.mono hB1.size)))).mono ?_
            rintro e wy ⟨v4, n4, rfl, hb, hm4⟩
            exact hK _ _ ⟨⟨n4, hm4⟩, hW.trans (hb.mono hW.size), hb, fun h => (List.not_mem_nil h).elim⟩
          | 2, ho, hr =>
            obtain rfl := Option.some.inj ho; obtain rfl := Option.some.inj hr
            have t3 := ev_tmp (show fr.eval (.tmp 3) = .pointer (some ⟨w.heap.size + 1, 0, none⟩) from hfree 3 (by decide))
            clear hpre hfree
            have c0 := (hW.cell (p := ⟨w.heap.size + 1, 0, none⟩) l3).trans k30
            have c1 := (hW.cell (p := ⟨w.heap.size + 1, 1, none⟩) l3).trans k31
            refine stpK rfl rfl fun K hK => ?_
            go_simp
            exact hK _ _ ⟨rfl, hW, Below.refl _ _, fun h => (List.not_mem_nil h).elim⟩
          | 3, ho, hr =>
            obtain rfl := Option.some.inj ho; obtain rfl := Option.some.inj hr
            have e2 := ev_tmp (show fr.eval (.tmp 41) = .agg #[.int .i64 (t), .slice b (m) (d)] from hpre 2 (by decide) _ rfl)
            clear hpre hfree
            refine stpK rfl rfl fun K hK => ?_
            go_simp
            refine (magnitude_any wx _ y (HY wx (hB1.trans (hW.mono hB1.size)))).mono ?_
            rintro e wy ⟨v4, n4, rfl, hb, hm4⟩
            exact hK _ _ ⟨⟨n4, hm4⟩, hW.trans (hb.mono hW.size), hb, fun h => (List.not_mem_nil h).elim⟩
          | 4, ho, hr =>
            obtain rfl := Option.some.inj ho; obtain rfl := Option.some.inj hr
            obtain ⟨u1, q1⟩ : ∃ u, fr.eval (.tmp 40) = u := ⟨_, rfl⟩
            have p1 : ∃ n, Mag wx u1 x.natAbs n := by rw [← q1]; exact hpre 1 (by decide) _ rfl
            have e1 := ev_tmp q1; clear q1
            obtain ⟨u3, q3⟩ : ∃ u, fr.eval (.tmp 42) = u := ⟨_, rfl⟩
            have p3 : ∃ n, Mag wx u3 y.natAbs n := by rw [← q3]; exact hpre 3 (by decide) _ rfl
            have e3 := ev_tmp q3; clear q3
            clear hpre hfree
            refine stpK rfl rfl fun K hK => ?_
            obtain ⟨n1, p1⟩ := p1
            obtain ⟨n3, p3⟩ := p3
            go_simp
            refine (divWords_any wx _ _ _ _ n1 n3 p1 p3 (Nat.pos_of_ne_zero (fun h => HY0.out (p3.zero_iff.2 h))) (Nat.lt_of_le_of_lt (p1.len_le HA.out) (by decide)) (Nat.le_trans (p3.len_le HB.out) (by omega))).mono ?_
            rintro e wy ⟨vq, vr, nq, nr, rfl, hb, hq4, hr4⟩
            exact hK _ _ ⟨⟨vq, vr, nq, nr, rfl, hq4, hr4⟩, hW.trans (hb.mono hW.size), hb, fun h => (List.not_mem_nil h).elim⟩
          | 5, ho, hr =>
            obtain rfl := Option.some.inj ho; obtain rfl := Option.some.inj hr
            obtain ⟨u4, q4⟩ : ∃ u, fr.eval (.tmp 43) = u := ⟨_, rfl⟩
            have p4 : ∃ vq vr nq nr, u4 = .tuple #[vq, vr] ∧ Mag wx vq (x.natAbs / y.natAbs) nq ∧ Mag wx vr (x.natAbs % y.natAbs) nr := by rw [← q4]; exact hpre 4 (by decide) _ rfl
            have e4 := ev_tmp q4; clear q4
            clear hpre hfree
            refine stpK rfl rfl fun K hK => ?_
            go_simp
            exact hK _ _ ⟨p4, hW, Below.refl _ _, fun h => (List.not_mem_nil h).elim⟩
          | 6, ho, hr =>
            obtain rfl := Option.some.inj ho; obtain rfl := Option.some.inj hr
            obtain ⟨u5, q5⟩ : ∃ u, fr.eval (.tmp 38) = u := ⟨_, rfl⟩
            have p5 : ∃ vq vr nq nr, u5 = .tuple #[vq, vr] ∧ Mag wx vq (x.natAbs / y.natAbs) nq ∧ Mag wx vr (x.natAbs % y.natAbs) nr := by rw [← q5]; exact hpre 5 (by decide) _ rfl
            have e5 := ev_tmp q5; clear q5
            clear hpre hfree
            refine stpK rfl rfl fun K hK => ?_
            obtain ⟨vq, vr, nq, nr, rfl, hq4, hr4⟩ := p5
            go_simp
            exact hK _ _ ⟨⟨nq, hq4⟩, hW, Below.refl _ _, fun h => (List.not_mem_nil h).elim⟩
          | 7, ho, hr =>
            obtain rfl := Option.some.inj ho; obtain rfl := Option.some.inj hr
            obtain ⟨u5, q5⟩ : ∃ u, fr.eval (.tmp 38) = u := ⟨_, rfl⟩
            have p5 : ∃ vq vr nq nr, u5 = .tuple #[vq, vr] ∧ Mag wx vq (x.natAbs / y.natAbs) nq ∧ Mag wx vr (x.natAbs % y.natAbs) nr := by rw [← q5]; exact hpre 5 (by decide) _ rfl
            have e5 := ev_tmp q5; clear q5
            clear hpre hfree
            refine stpK rfl rfl fun K hK => ?_
            obtain ⟨vq, vr, nq, nr, rfl, hq4, hr4⟩ := p5
            go_simp
            exact hK _ _ ⟨⟨nr, hr4⟩, hW, Below.refl _ _, fun h => (List.not_mem_nil h).elim⟩
          | 8, ho, hr =>
            obtain rfl := Option.some.inj ho; obtain rfl := Option.some.inj hr
            obtain ⟨u6, q6⟩ : ∃ u, fr.eval (.tmp 44) = u := ⟨_, rfl⟩
            have p6 : ∃ n, Mag wx u6 (x.natAbs / y.natAbs) n := by rw [← q6]; exact hpre 6 (by decide) _ rfl
            have e6 := ev_tmp q6; clear q6
            clear hpre hfree
            refine stpK rfl rfl fun K hK => ?_
            go_simp
            exact hK _ _ ⟨p6, hW, Below.refl _ _, fun h => (List.not_mem_nil h).elim⟩
          | 9, ho, hr =>
            obtain rfl := Option.some.inj ho; obtain rfl := Option.some.inj hr
            obtain ⟨u7, q7⟩ : ∃ u, fr.eval (.tmp 45) = u := ⟨_, rfl⟩
            have p7 : ∃ n, Mag wx u7 (x.natAbs % y.natAbs) n := by rw [← q7]; exact hpre 7 (by decide) _ rfl
            have e7 := ev_tmp q7; clear q7
            clear hpre hfree
            refine stpK rfl rfl fun K hK => ?_
            go_simp
            exact hK _ _ ⟨p7, hW, Below.refl _ _, fun h => (List.not_mem_nil h).elim⟩
          | n + 10, ho, hr => exact absurd hr (by simp)
        · intro vs wn hvs hW1 hap0
          clear hap0
          have e0 : vs 0 = .agg #[.int .i64 (s), .slice a (n) (c)] := hvs 0 (by decide)
          obtain ⟨u1, e1⟩ : ∃ u, vs 1 = u := ⟨_, rfl⟩
          have p1 : ∃ n, Mag wn u1 x.natAbs n := by rw [← e1]; exact hvs 1 (by decide)
          have e2 : vs 2 = .agg #[.int .i64 (t), .slice b (m) (d)] := hvs 2 (by decide)
          obtain ⟨u3, e3⟩ : ∃ u, vs 3 = u := ⟨_, rfl⟩
          have p3 : ∃ n, Mag wn u3 y.natAbs n := by rw [← e3]; exact hvs 3 (by decide)
          obtain ⟨u4, e4⟩ : ∃ u, vs 4 = u := ⟨_, rfl⟩
          have p4 : ∃ vq vr nq nr, u4 = .tuple #[vq, vr] ∧ Mag wn vq (x.natAbs / y.natAbs) nq ∧ Mag wn vr (x.natAbs % y.natAbs) nr := by rw [← e4]; exact hvs 4 (by decide)
          obtain ⟨u5, e5⟩ : ∃ u, vs 5 = u := ⟨_, rfl⟩
          have p5 : ∃ vq vr nq nr, u5 = .tuple #[vq, vr] ∧ Mag wn vq (x.natAbs / y.natAbs) nq ∧ Mag wn vr (x.natAbs % y.natAbs) nr := by rw [← e5]; exact hvs 5 (by decide)
          obtain ⟨u6, e6⟩ : ∃ u, vs 6 = u := ⟨_, rfl⟩
          have p6 : ∃ n, Mag wn u6 (x.natAbs / y.natAbs) n := by rw [← e6]; exact hvs 6 (by decide)
          obtain ⟨u7, e7⟩ : ∃ u, vs 7 = u := ⟨_, rfl⟩
          have p7 : ∃ n, Mag wn u7 (x.natAbs % y.natAbs) n := by rw [← e7]; exact hvs 7 (by decide)
          obtain ⟨u8, e8⟩ : ∃ u, vs 8 = u := ⟨_, rfl⟩
          have p8 : ∃ n, Mag wn u8 (x.natAbs / y.natAbs) n := by rw [← e8]; exact hvs 8 (by decide)
          obtain ⟨u9, e9⟩ : ∃ u, vs 9 = u := ⟨_, rfl⟩
          have p9 : ∃ n, Mag wn u9 (x.natAbs % y.natAbs) n := by rw [← e9]; exact hvs 9 (by decide)
          simp only [puts, Nat.reduceAdd, e0, e1, e2, e3, e4, e5, e6, e7, e8, e9, Act.put, List.setIfInBounds_toArray, List.set_cons_zero, List.set_cons_succ, List.drop_succ_cons, List.drop_zero, List.length_cons, List.length_nil]
          clear hvs e0 e1 e2 e3 e4 e5 e6 e7 e8 e9
          clear p1 p3 p5 p6 p7 HX HY
          obtain ⟨n8, hq8⟩ := p8
          obtain ⟨n9, hr9⟩ := p9
          have F2 := HF2.out.below hW1
          have F3 := HF3.out.below hW1
          have F4 := HF4.out.below hW1
          have F5 := HF5.out.below hW1
          have hB2 := hB1.trans (hW1.mono hB1.size)
          clear hB1 l2 l3 k20 k21 k30 k31 HF2 HF3 HF4 HF5 HB1 hW1
          obtain ⟨l2, k20, k21, -, -⟩ := id F2
          obtain ⟨l3, k30, k31, -, -⟩ := id F3
          have HF2 : Hid _ := F2
          have HF3 : Hid _ := F3
          have HF4 : Hid _ := F4
          have HF5 : Hid _ := F5
          have HB1 : Hid _ := hB2
          clear F2 F3 F4 F5 hB2
          go_upto_region 4 with fail
          refine wp_world (fun w1 => w1 = wn) rfl ?_
          rintro w1 rfl
          refine wp_drawn mixed [⟨46, [], [], [2]⟩, ⟨47, [0], [0], []⟩, ⟨48, [1], [0, 1], []⟩, ⟨49, [], [], [3]⟩, ⟨50, [3], [3], []⟩, ⟨51, [4], [3, 4], []⟩, ⟨52, [2, 5], [0, 1, 2, 3, 4, 5], []⟩, ⟨53, [], [], [6]⟩, ⟨54, [6, 7], [0, 1, 2, 3, 4, 5, 6, 7], []⟩, ⟨55, [], [], [2]⟩, ⟨56, [9], [9], []⟩, ⟨57, [10], [9, 10], []⟩, ⟨58, [], [], [7]⟩, ⟨59, [8, 11, 12], [0, 1, 2, 3, 4, 5, 6, 7, 8, 9, 10, 11, 12], []⟩] [] (by kernel_rfl) 80 rfl (by kernel_rfl) (fun (i : Nat) (v : Value) (wq : World) => match i with | 0 => v = .pointer (some ⟨w.heap.size, 0, none⟩) | 1 => v = .int .i64 (s) | 2 => v = .bool (decide ((s) < (0))) | 3 => v = .pointer (some ⟨w.heap.size + 1, 0, none⟩) | 4 => v = .int .i64 (t) | 5 => v = .bool (decide ((t) < (0))) | 6 => v = .bool ((decide ((s) < (0))) != (decide ((t) < (0)))) | 7 => v = u8 | 8 => IsInt wq v (x.tdiv y) | 9 => v = .pointer (some ⟨w.heap.size, 0, none⟩) | 10 => v = .int .i64 (s) | 11 => v = .bool (decide ((s) < (0))) | 12 => v = u9 | 13 => IsInt wq v (x.tmod y) | _ => True) (fun _ wq => Below w1.heap.size w1 wq) (fun wx wy => Below wx.heap.size wx wy) (Below.refl _ _).drew (fun i v wx wy h hx => match i, h with | 0, h => h | 1, h => h | 2, h => h | 3, h => h | 4, h => h | 5, h => h | 6, h => h | 7, h => h | 9, h => h | 10, h => h | 11, h => h | 12, h => h | 8, h => (h : IsInt _ _ _).below hx | 13, h => (h : IsInt _ _ _).below hx | n + 14, _ => trivial) ?_ ?_
          · intro i o r ho hr L fr wx hW hL hpr hds hdef hpre hfree
            clear hL hpr hds hdef
            match i, ho, hr with
            | 0, ho, hr =>
              obtain rfl := Option.some.inj ho; obtain rfl := Option.some.inj hr
              have t2 := ev_tmp (show fr.eval (.tmp 2) = .pointer (some ⟨w.heap.size, 0, none⟩) from hfree 2 (by decide))
              clear hpre hfree
              refine stpK rfl rfl fun K hK => ?_
              go_simp
              exact hK _ _ ⟨rfl, hW, Below.refl _ _, fun h => (List.not_mem_nil h).elim⟩
            | 1, ho, hr =>
              obtain rfl := Option.some.inj ho; obtain rfl := Option.some.inj hr
              have e0 := ev_tmp (show fr.eval (.tmp 46) = .pointer (some ⟨w.heap.size, 0, none⟩) from hpre 0 (by decide) _ rfl)
              clear hpre hfree
              have c0 := (hW.cell (p := ⟨w.heap.size, 0, none⟩) l2).trans k20
              refine stpK rfl rfl fun K hK => ?_
              go_simp
              exact hK _ _ ⟨rfl, hW, Below.refl _ _, fun h => (List.not_mem_nil h).elim⟩
            | 2, ho, hr =>
              obtain rfl := Option.some.inj ho; obtain rfl := Option.some.inj hr
              have e1 := ev_tmp (show fr.eval (.tmp 47) = .int .i64 (s) from hpre 1 (by decide) _ rfl)
              clear hpre hfree
              refine stpK rfl rfl fun K hK => ?_
              go_simp
              exact hK _ _ ⟨rfl, hW, Below.refl _ _, fun h => (List.not_mem_nil h).elim⟩
            | 3, ho, hr =>
              obtain rfl := Option.some.inj ho; obtain rfl := Option.some.inj hr
              have t3 := ev_tmp (show fr.eval (.tmp 3) = .pointer (some ⟨w.heap.size + 1, 0, none⟩) from hfree 3 (by decide))
              clear hpre hfree
              refine stpK rfl rfl fun K hK => ?_
              go_simp
              exact hK _ _ ⟨rfl, hW, Below.refl _ _, fun h => (List.not_mem_nil h).elim⟩
            | 4, ho, hr =>
              obtain rfl := Option.some.inj ho; obtain rfl := Option.some.inj hr
              have e3 := ev_tmp (show fr.eval (.tmp 49) = .pointer (some ⟨w.heap.size + 1, 0, none⟩) from hpre 3 (by decide) _ rfl)
              clear hpre hfree
              have c0 := (hW.cell (p := ⟨w.heap.size + 1, 0, none⟩) l3).trans k30
              refine stpK rfl rfl fun K hK => ?_
              go_simp
              exact hK _ _ ⟨rfl, hW, Below.refl _ _, fun h => (List.not_mem_nil h).elim⟩
            | 5, ho, hr =>
              obtain rfl := Option.some.inj ho; obtain rfl := Option.some.inj hr
              have e4 := ev_tmp (show fr.eval (.tmp 50) = .int .i64 (t) from hpre 4 (by decide) _ rfl)
              clear hpre hfree
              refine stpK rfl rfl fun K hK => ?_
              go_simp
              exact hK _ _ ⟨rfl, hW, Below.refl _ _, fun h => (List.not_mem_nil h).elim⟩
            | 6, ho, hr =>
              obtain rfl := Option.some.inj ho; obtain rfl := Option.some.inj hr
              have e2 := ev_tmp (show fr.eval (.tmp 48) = .bool (decide ((s) < (0))) from hpre 2 (by decide) _ rfl)
              have e5 := ev_tmp (show fr.eval (.tmp 51) = .bool (decide ((t) < (0))) from hpre 5 (by decide) _ rfl)
              clear hpre hfree
              refine stpK rfl rfl fun K hK => ?_
              go_simp
              exact hK _ _ ⟨rfl, hW, Below.refl _ _, fun h => (List.not_mem_nil h).elim⟩
            | 7, ho, hr =>
              obtain rfl := Option.some.inj ho; obtain rfl := Option.some.inj hr
              have t6 := ev_tmp (show fr.eval (.tmp 6) = u8 from hfree 6 (by decide))
              clear hpre hfree
              refine stpK rfl rfl fun K hK => ?_
              go_simp
              exact hK _ _ ⟨rfl, hW, Below.refl _ _, fun h => (List.not_mem_nil h).elim⟩
            | 8, ho, hr =>
              obtain rfl := Option.some.inj ho; obtain rfl := Option.some.inj hr
              have e6 := ev_tmp (show fr.eval (.tmp 52) = .bool ((decide ((s) < (0))) != (decide ((t) < (0)))) from hpre 6 (by decide) _ rfl)
              have e7 := ev_tmp (show fr.eval (.tmp 53) = u8 from hpre 7 (by decide) _ rfl)
              clear hpre hfree
              refine stpK rfl rfl fun K hK => ?_
              go_simp
              refine (signed_any wx _ _ _ n8 (hq8.below hW)).mono ?_
              rintro e wy ⟨v5, rfl, hb, hm5⟩
              exact hK _ _ ⟨by rw [HD.out.1] at hm5; exact hm5, hW.trans (hb.mono hW.size), hb, fun h => (List.not_mem_nil h).elim⟩
            | 9, ho, hr =>
              obtain rfl := Option.some.inj ho; obtain rfl := Option.some.inj hr
              have t2 := ev_tmp (show fr.eval (.tmp 2) = .pointer (some ⟨w.heap.size, 0, none⟩) from hfree 2 (by decide))
              clear hpre hfree
              refine stpK rfl rfl fun K hK => ?_
              go_simp
              exact hK _ _ ⟨rfl, hW, Below.refl _ _, fun h => (List.not_mem_nil h).elim⟩
            | 10, ho, hr =>
              obtain rfl := Option.some.inj ho; obtain rfl := Option.some.inj hr
              have e9 := ev_tmp (show fr.eval (.tmp 55) = .pointer (some ⟨w.heap.size, 0, none⟩) from hpre 9 (by decide) _ rfl)
              clear hpre hfree
              have c0 := (hW.cell (p := ⟨w.heap.size, 0, none⟩) l2).trans k20
              refine stpK rfl rfl fun K hK => ?_
              go_simp
              exact hK _ _ ⟨rfl, hW, Below.refl _ _, fun h => (List.not_mem_nil h).elim⟩
            | 11, ho, hr =>
              obtain rfl := Option.some.inj ho; obtain rfl := Option.some.inj hr
              have e10 := ev_tmp (show fr.eval (.tmp 56) = .int .i64 (s) from hpre 10 (by decide) _ rfl)
              clear hpre hfree
              refine stpK rfl rfl fun K hK => ?_
              go_simp
              exact hK _ _ ⟨rfl, hW, Below.refl _ _, fun h => (List.not_mem_nil h).elim⟩
            | 12, ho, hr =>
              obtain rfl := Option.some.inj ho; obtain rfl := Option.some.inj hr
              have t7 := ev_tmp (show fr.eval (.tmp 7) = u9 from hfree 7 (by decide))
              clear hpre hfree
              refine stpK rfl rfl fun K hK => ?_
              go_simp
              exact hK _ _ ⟨rfl, hW, Below.refl _ _, fun h => (List.not_mem_nil h).elim⟩
            | 13, ho, hr =>
              obtain rfl := Option.some.inj ho; obtain rfl := Option.some.inj hr
              have e11 := ev_tmp (show fr.eval (.tmp 57) = .bool (decide ((s) < (0))) from hpre 11 (by decide) _ rfl)
              have e12 := ev_tmp (show fr.eval (.tmp 58) = u9 from hpre 12 (by decide) _ rfl)
              clear hpre hfree
              refine stpK rfl rfl fun K hK => ?_
              go_simp
              refine (signed_any wx _ _ _ n9 (hr9.below hW)).mono ?_
              rintro e wy ⟨v5, rfl, hb, hm5⟩
              exact hK _ _ ⟨by rw [HD.out.2] at hm5; exact hm5, hW.trans (hb.mono hW.size), hb, fun h => (List.not_mem_nil h).elim⟩
            | n + 14, ho, hr => exact absurd hr (by simp)
          · intro vs wn hvs hW1 hap0
            clear hap0
            have e0 : vs 0 = .pointer (some ⟨w.heap.size, 0, none⟩) := hvs 0 (by decide)
            have e1 : vs 1 = .int .i64 (s) := hvs 1 (by decide)
            have e2 : vs 2 = .bool (decide ((s) < (0))) := hvs 2 (by decide)
            have e3 : vs 3 = .pointer (some ⟨w.heap.size + 1, 0, none⟩) := hvs 3 (by decide)
            have e4 : vs 4 = .int .i64 (t) := hvs 4 (by decide)
            have e5 : vs 5 = .bool (decide ((t) < (0))) := hvs 5 (by decide)
            have e6 : vs 6 = .bool ((decide ((s) < (0))) != (decide ((t) < (0)))) := hvs 6 (by decide)
            have e7 : vs 7 = u8 := hvs 7 (by decide)
            obtain ⟨u8, e8⟩ : ∃ u, vs 8 = u := ⟨_, rfl⟩
            have p8 : IsInt wn u8 (x.tdiv y) := by rw [← e8]; exact hvs 8 (by decide)
            have e9 : vs 9 = .pointer (some ⟨w.heap.size, 0, none⟩) := hvs 9 (by decide)
            have e10 : vs 10 = .int .i64 (s) := hvs 10 (by decide)
            have e11 : vs 11 = .bool (decide ((s) < (0))) := hvs 11 (by decide)
            have e12 : vs 12 = u9 := hvs 12 (by decide)
            obtain ⟨u13, e13⟩ : ∃ u, vs 13 = u := ⟨_, rfl⟩
            have p13 : IsInt wn u13 (x.tmod y) := by rw [← e13]; exact hvs 13 (by decide)
            simp only [puts, Nat.reduceAdd, e0, e1, e2, e3, e4, e5, e6, e7, e8, e9, e10, e11, e12, e13, Act.put, List.setIfInBounds_toArray, List.set_cons_zero, List.set_cons_succ, List.drop_succ_cons, List.drop_zero, List.length_cons, List.length_nil]
            clear hvs e0 e1 e2 e3 e4 e5 e6 e7 e8 e9 e10 e11 e12 e13
            have F2 := HF2.out.below hW1
            have F3 := HF3.out.below hW1
            have F4 := HF4.out.below hW1
            have F5 := HF5.out.below hW1
            have hB2 := HB1.out.trans (hW1.mono HB1.out.size)
            clear l2 l3 k20 k21 k30 k31 HF2 HF3 HF4 HF5 HB1 hW1 hq8 hr9
            obtain ⟨s8, a8, n8, c8, rfl⟩ := p8.form
            obtain ⟨s9, a9, n9, c9, rfl⟩ := p13.form
            have HP8 : Hid (IsInt wn (.agg #[.int .i64 s8, .slice a8 n8 c8]) (x.tdiv y)) := p8
            have HP9 : Hid (IsInt wn (.agg #[.int .i64 s9, .slice a9 n9 c9]) (x.tmod y)) := p13
            have HB2 : Hid _ := hB2
            have HF2 : Hid _ := F2
            have HF3 : Hid _ := F3
            have HF4 : Hid _ := F4
            have HF5 : Hid _ := F5
            obtain ⟨l4, k40, k41, p40, p41⟩ := id F4
            obtain ⟨l5, k50, k51, p50, p51⟩ := id F5
            clear p8 p13 hB2 F2 F3 F4 F5
            go_wp2_with fail
            go_meet
            case rel =>
              have e4 := HF4.out.set (.int .i64 s8) (.slice a8 n8 c8)
              have e5 := (HF5.out.other (.int .i64 s8) (.slice a8 n8 c8) (show w.heap.size + 1 + 1 + 1 ≠ w.heap.size + 1 + 1 by omega))
              refine ⟨below_set2 (below_set2 HB2.out (by omega) _ _) (by omega) _ _, ?_, ?_, ?_, ?_⟩
              · exact (HF2.out.other _ _ (by omega)).other _ _ (by omega)
              · exact (HF3.out.other _ _ (by omega)).other _ _ (by omega)
              · exact (IV.set HF4.out HP8.out).other e5 (by omega) _ _
              · exact IV.set e5 (IsInt.keep HP9.out (HF4.out.keep _ _))
    case rest =>
      obtain ⟨hB1, F2, F3, ⟨s4, a4, n4, c4, F4, i4⟩, ⟨s5, a5, n5, c5, F5, i5⟩⟩ := hcut
      obtain ⟨-, -, sg5, -, -⟩ := i5.sgn
      have I4 : ∀ w2, Below w.heap.size w w2 → Below wc.heap.size wc w2 → IsInt w2 (.agg #[.int .i64 s4, .slice a4 n4 c4]) (x.tdiv y) := fun w2 _ h => i4.below h
      have I5 : ∀ w2, Below w.heap.size w w2 → Below wc.heap.size wc w2 → IsInt w2 (.agg #[.int .i64 s5, .slice a5 n5 c5]) (x.tmod y) := fun w2 _ h => i5.below h
      have HIT : Hid (IsInt wc (.agg #[.int .i64 s4, .slice a4 n4 c4]) (x.tdiv y)) := i4
      have HIM : Hid (IsInt wc (.agg #[.int .i64 s5, .slice a5 n5 c5]) (x.tmod y)) := i5
      have HF2 : Hid _ := F2
      have HF3 : Hid _ := F3
      have HF4 : Hid _ := F4
      have HF5 : Hid _ := F5
      clear F2 F3 F4 F5 i4 i5 g1 g2 g3 g4 i1 i2 i3 q ht0
      have HQ : Hid ((x.tdiv y).natAbs < B ^ 159) := Nat.lt_of_le_of_lt (_root_.Rad.tdiv_abs_le x y) HA.out
      have HONE : Hid ((1 : Int).natAbs < B ^ 159) := by show 1 < B ^ 159; exact Nat.one_lt_pow (by decide) (by decide)
      have HR : Hid ((x.tmod y).natAbs < B ^ LL) := by
        show (x.tmod y).natAbs < B ^ LL
        rw [Int.natAbs_tmod]
        exact Nat.lt_trans (Nat.mod_lt _ (by omega)) HB.out
      have HY : ∀ w2, Below w.heap.size w w2 → IsInt w2 (.agg #[.int .i64 t, .slice b m d]) y := fun w2 h => IsInt.below HY.out h
      have HSG : Hid (s5 < 0 ↔ x.tmod y < 0) := sg5
      have HST : Hid (t < 0 ↔ y < 0) := HI3
      clear sg5 HI3 h0
      by_cases h5 : 0 ≤ s5
      · obtain ⟨l4, k40, k41, p40, p41⟩ := HF4.out
        obtain ⟨l5, k50, k51, p50, p51⟩ := HF5.out
        clear HY I4 I5
        go_upto_region 6 with fail
        refine wp_world (fun w1 => w1 = wc) rfl ?_
        rintro w1 rfl
        go_region
        have hfa := HS.out.1 (by have := HSG.out; omega)
        have e5 := (HF5.out.other (.int .i64 s4) (.slice a4 n4 c4) (show w.heap.size + 1 + 1 + 1 ≠ w.heap.size + 1 + 1 by omega))
        have k8 := (IsInt.keep HIT.out (HF4.out.keep (.int .i64 s4) (.slice a4 n4 c4))).keep (e5.keep (.int .i64 s5) (.slice a5 n5 c5))
        have k9 := (IsInt.keep HIM.out (HF4.out.keep (.int .i64 s4) (.slice a4 n4 c4))).keep (e5.keep (.int .i64 s5) (.slice a5 n5 c5))
        have hw := below_set2 (below_set2 hB1 (show w.heap.size ≤ w.heap.size + 1 + 1 by omega) (.int .i64 s4) (.slice a4 n4 c4)) (show w.heap.size ≤ w.heap.size + 1 + 1 + 1 by omega) (.int .i64 s5) (.slice a5 n5 c5)
        obtain ⟨hf1, hf2⟩ := hfa
        rw [hf1] at k8
        rw [hf2] at k9
        have HK8 : Hid _ := k8
        have HK9 : Hid _ := k9
        have HW : Hid _ := hw
        clear e5 k8 k9 hw hB1 hf1 hf2
        go_wp2
        refine bodyPost_ret (v := .tuple #[.agg #[.int .i64 s4, .slice a4 n4 c4], .agg #[.int .i64 s5, .slice a5 n5 c5]]) (by simp [results, go_sem, loadVar, World.cell?_setCell_same, World.cell?_setCell_other, *]; try rfl) rfl ?_
        exact ⟨_, _, rfl, HW.out.drew, IsInt.below HK8.out (bel_drew _), IsInt.below HK9.out (bel_drew _)⟩
      · by_cases h6 : t < 0
        · obtain ⟨l3, k30, k31, -, -⟩ := HF3.out
          obtain ⟨l4, k40, k41, -, -⟩ := HF4.out
          obtain ⟨l5, k50, k51, -, -⟩ := HF5.out
          go_upto_region 8 with fail
          refine wp_world (fun w1 => w1 = wc) rfl ?_
          rintro w1 rfl
          refine wp_drawn mixed [⟨68, [], [], [4]⟩, ⟨69, [], [], []⟩, ⟨70, [0, 1], [0, 1], []⟩, ⟨71, [], [], [5]⟩, ⟨72, [], [], [3]⟩, ⟨73, [2, 3, 4], [0, 1, 2, 3, 4], []⟩] [] (by kernel_rfl) 80 rfl (by kernel_rfl) (fun (i : Nat) (v : Value) (wq : World) => match i with | 0 => v = .agg #[.int .i64 (s4), .slice a4 (n4) (c4)] | 1 => IsInt wq v 1 | 2 => IsInt wq v (x.tdiv y + 1) | 3 => v = .agg #[.int .i64 (s5), .slice a5 (n5) (c5)] | 4 => v = .agg #[.int .i64 (t), .slice b (m) (d)] | 5 => IsInt wq v (x.tmod y - y) | _ => True) (fun _ wq => Below w1.heap.size w1 wq) (fun wx wy => Below wx.heap.size wx wy) (Below.refl _ _).drew (fun i v wx wy h hx => match i, h with | 0, h => h | 3, h => h | 4, h => h | 1, h => (h : IsInt _ _ _).below hx | 2, h => (h : IsInt _ _ _).below hx | 5, h => (h : IsInt _ _ _).below hx | n + 6, _ => trivial) ?_ ?_
          · intro i o r ho hr L fr wx hW hL hpr hds hdef hpre hfree
            clear hL hpr hds hdef
            match i, ho, hr with
            | 0, ho, hr =>
              obtain rfl := Option.some.inj ho; obtain rfl := Option.some.inj hr
              have t4 := ev_tmp (show fr.eval (.tmp 4) = .pointer (some ⟨w.heap.size + 1 + 1, 0, none⟩) from hfree 4 (by decide))
              clear hpre hfree
              have c0 := (hW.cell (p := ⟨w.heap.size + 1 + 1, 0, none⟩) l4).trans k40
              have c1 := (hW.cell (p := ⟨w.heap.size + 1 + 1, 1, none⟩) l4).trans k41
              refine stpK rfl rfl fun K hK => ?_
              go_simp
              exact hK _ _ ⟨rfl, hW, Below.refl _ _, fun h => (List.not_mem_nil h).elim⟩
            | 1, ho, hr =>
              obtain rfl := Option.some.inj ho; obtain rfl := Option.some.inj hr
              clear hpre hfree
              refine stpK rfl rfl fun K hK => ?_
              go_simp
              refine (of_any wx 1 (by decide) (by decide)).mono ?_
              rintro e wy ⟨v4, rfl, hb, hm4⟩
              exact hK _ _ ⟨hm4, hW.trans (hb.mono hW.size), hb, fun h => (List.not_mem_nil h).elim⟩
            | 2, ho, hr =>
              obtain rfl := Option.some.inj ho; obtain rfl := Option.some.inj hr
              have e0 := ev_tmp (show fr.eval (.tmp 68) = .agg #[.int .i64 (s4), .slice a4 (n4) (c4)] from hpre 0 (by decide) _ rfl)
              obtain ⟨u1, q1⟩ : ∃ u, fr.eval (.tmp 69) = u := ⟨_, rfl⟩
              have p1 : IsInt wx u1 1 := by rw [← q1]; exact hpre 1 (by decide) _ rfl
              have e1 := ev_tmp q1; clear q1
              clear hpre hfree
              refine stpK rfl rfl fun K hK => ?_
              go_simp
              refine (add_any wx _ _ _ _ 159 (I4 wx (hB1.trans (hW.mono hB1.size)) hW) p1 HQ.out HONE.out (by omega)).mono ?_
              rintro e wy ⟨v4, rfl, hb, hm4⟩
              exact hK _ _ ⟨hm4, hW.trans (hb.mono hW.size), hb, fun h => (List.not_mem_nil h).elim⟩
            | 3, ho, hr =>
              obtain rfl := Option.some.inj ho; obtain rfl := Option.some.inj hr
              have t5 := ev_tmp (show fr.eval (.tmp 5) = .pointer (some ⟨w.heap.size + 1 + 1 + 1, 0, none⟩) from hfree 5 (by decide))
              clear hpre hfree
              have c0 := (hW.cell (p := ⟨w.heap.size + 1 + 1 + 1, 0, none⟩) l5).trans k50
              have c1 := (hW.cell (p := ⟨w.heap.size + 1 + 1 + 1, 1, none⟩) l5).trans k51
              refine stpK rfl rfl fun K hK => ?_
              go_simp
              exact hK _ _ ⟨rfl, hW, Below.refl _ _, fun h => (List.not_mem_nil h).elim⟩
            | 4, ho, hr =>
              obtain rfl := Option.some.inj ho; obtain rfl := Option.some.inj hr
              have t3 := ev_tmp (show fr.eval (.tmp 3) = .pointer (some ⟨w.heap.size + 1, 0, none⟩) from hfree 3 (by decide))
              clear hpre hfree
              have c0 := (hW.cell (p := ⟨w.heap.size + 1, 0, none⟩) l3).trans k30
              have c1 := (hW.cell (p := ⟨w.heap.size + 1, 1, none⟩) l3).trans k31
              refine stpK rfl rfl fun K hK => ?_
              go_simp
              exact hK _ _ ⟨rfl, hW, Below.refl _ _, fun h => (List.not_mem_nil h).elim⟩
            | 5, ho, hr =>
              obtain rfl := Option.some.inj ho; obtain rfl := Option.some.inj hr
              have e3 := ev_tmp (show fr.eval (.tmp 71) = .agg #[.int .i64 (s5), .slice a5 (n5) (c5)] from hpre 3 (by decide) _ rfl)
              have e4 := ev_tmp (show fr.eval (.tmp 72) = .agg #[.int .i64 (t), .slice b (m) (d)] from hpre 4 (by decide) _ rfl)
              clear hpre hfree
              refine stpK rfl rfl fun K hK => ?_
              go_simp
              refine (sub_any wx _ _ _ _ LL (I5 wx (hB1.trans (hW.mono hB1.size)) hW) (HY wx (hB1.trans (hW.mono hB1.size))) HR.out HB.out (by omega)).mono ?_
              rintro e wy ⟨v4, rfl, hb, hm4⟩
              exact hK _ _ ⟨hm4, hW.trans (hb.mono hW.size), hb, fun h => (List.not_mem_nil h).elim⟩
            | n + 6, ho, hr => exact absurd hr (by simp)
          · intro vs wn hvs hW1 hap0
            clear hap0
            have e0 : vs 0 = .agg #[.int .i64 (s4), .slice a4 (n4) (c4)] := hvs 0 (by decide)
            obtain ⟨u1, e1⟩ : ∃ u, vs 1 = u := ⟨_, rfl⟩
            have p1 : IsInt wn u1 1 := by rw [← e1]; exact hvs 1 (by decide)
            obtain ⟨u2, e2⟩ : ∃ u, vs 2 = u := ⟨_, rfl⟩
            have p2 : IsInt wn u2 (x.tdiv y + 1) := by rw [← e2]; exact hvs 2 (by decide)
            have e3 : vs 3 = .agg #[.int .i64 (s5), .slice a5 (n5) (c5)] := hvs 3 (by decide)
            have e4 : vs 4 = .agg #[.int .i64 (t), .slice b (m) (d)] := hvs 4 (by decide)
            obtain ⟨u5, e5⟩ : ∃ u, vs 5 = u := ⟨_, rfl⟩
            have p5 : IsInt wn u5 (x.tmod y - y) := by rw [← e5]; exact hvs 5 (by decide)
            simp only [puts, Nat.reduceAdd, e0, e1, e2, e3, e4, e5, Act.put, List.setIfInBounds_toArray, List.set_cons_zero, List.set_cons_succ, List.drop_succ_cons, List.drop_zero, List.length_cons, List.length_nil]
            clear hvs e0 e1 e2 e3 e4 e5
            have F4 := HF4.out.below hW1
            have F5 := HF5.out.below hW1
            have hB2 := hB1.trans (hW1.mono hB1.size)
            clear l3 l4 l5 k30 k31 k40 k41 k50 k51 p1 HF2 HF3 HF4 HF5 hB1 hW1 I4 I5 HY
            obtain ⟨s8, a8, n8, c8, rfl⟩ := p2.form
            obtain ⟨s9, a9, n9, c9, rfl⟩ := p5.form
            have e5 := (F5.other (.int .i64 s8) (.slice a8 n8 c8) (show w.heap.size + 1 + 1 + 1 ≠ w.heap.size + 1 + 1 by omega))
            have k8 := (p2.keep (F4.keep (.int .i64 s8) (.slice a8 n8 c8))).keep (e5.keep (.int .i64 s9) (.slice a9 n9 c9))
            have k9 := (p5.keep (F4.keep (.int .i64 s8) (.slice a8 n8 c8))).keep (e5.keep (.int .i64 s9) (.slice a9 n9 c9))
            have hw := below_set2 (below_set2 hB2 (show w.heap.size ≤ w.heap.size + 1 + 1 by omega) (.int .i64 s8) (.slice a8 n8 c8)) (show w.heap.size ≤ w.heap.size + 1 + 1 + 1 by omega) (.int .i64 s9) (.slice a9 n9 c9)
            obtain ⟨hf1, hf2⟩ := HS.out.2.1 (by have := HSG.out; omega) (HST.out.1 h6)
            rw [hf1] at k8
            rw [hf2] at k9
            have HK8 : Hid _ := k8
            have HK9 : Hid _ := k9
            have HW : Hid _ := hw
            obtain ⟨l4, k40, k41, p40, p41⟩ := F4
            obtain ⟨l5, k50, k51, p50, p51⟩ := F5
            clear p2 p5 e5 k8 k9 hw hB2 hf1 hf2
            go_wp2
            refine bodyPost_ret (v := .tuple #[.agg #[.int .i64 s8, .slice a8 n8 c8], .agg #[.int .i64 s9, .slice a9 n9 c9]]) (by simp [results, go_sem, loadVar, World.cell?_setCell_same, World.cell?_setCell_other, *]; try rfl) rfl ?_
            exact ⟨_, _, rfl, HW.out, HK8.out, HK9.out⟩
        · obtain ⟨l3, k30, k31, -, -⟩ := HF3.out
          obtain ⟨l4, k40, k41, -, -⟩ := HF4.out
          obtain ⟨l5, k50, k51, -, -⟩ := HF5.out
          go_upto_region 9 with fail
          refine wp_world (fun w1 => w1 = wc) rfl ?_
          rintro w1 rfl
          refine wp_drawn mixed [⟨74, [], [], [4]⟩, ⟨75, [], [], []⟩, ⟨76, [0, 1], [0, 1], []⟩, ⟨77, [], [], [5]⟩, ⟨78, [], [], [3]⟩, ⟨79, [2, 3, 4], [0, 1, 2, 3, 4], []⟩] [] (by kernel_rfl) 80 rfl (by kernel_rfl) (fun (i : Nat) (v : Value) (wq : World) => match i with | 0 => v = .agg #[.int .i64 (s4), .slice a4 (n4) (c4)] | 1 => IsInt wq v 1 | 2 => IsInt wq v (x.tdiv y - 1) | 3 => v = .agg #[.int .i64 (s5), .slice a5 (n5) (c5)] | 4 => v = .agg #[.int .i64 (t), .slice b (m) (d)] | 5 => IsInt wq v (x.tmod y + y) | _ => True) (fun _ wq => Below w1.heap.size w1 wq) (fun wx wy => Below wx.heap.size wx wy) (Below.refl _ _).drew (fun i v wx wy h hx => match i, h with | 0, h => h | 3, h => h | 4, h => h | 1, h => (h : IsInt _ _ _).below hx | 2, h => (h : IsInt _ _ _).below hx | 5, h => (h : IsInt _ _ _).below hx | n + 6, _ => trivial) ?_ ?_
          · intro i o r ho hr L fr wx hW hL hpr hds hdef hpre hfree
            clear hL hpr hds hdef
            match i, ho, hr with
            | 0, ho, hr =>
              obtain rfl := Option.some.inj ho; obtain rfl := Option.some.inj hr
              have t4 := ev_tmp (show fr.eval (.tmp 4) = .pointer (some ⟨w.heap.size + 1 + 1, 0, none⟩) from hfree 4 (by decide))
              clear hpre hfree
              have c0 := (hW.cell (p := ⟨w.heap.size + 1 + 1, 0, none⟩) l4).trans k40
              have c1 := (hW.cell (p := ⟨w.heap.size + 1 + 1, 1, none⟩) l4).trans k41
              refine stpK rfl rfl fun K hK => ?_
              go_simp
              exact hK _ _ ⟨rfl, hW, Below.refl _ _, fun h => (List.not_mem_nil h).elim⟩
            | 1, ho, hr =>
              obtain rfl := Option.some.inj ho; obtain rfl := Option.some.inj hr
              clear hpre hfree
              refine stpK rfl rfl fun K hK => ?_
              go_simp
              refine (of_any wx 1 (by decide) (by decide)).mono ?_
              rintro e wy ⟨v4, rfl, hb, hm4⟩
              exact hK _ _ ⟨hm4, hW.trans (hb.mono hW.size), hb, fun h => (List.not_mem_nil h).elim⟩
            | 2, ho, hr =>
              obtain rfl := Option.some.inj ho; obtain rfl := Option.some.inj hr
              have e0 := ev_tmp (show fr.eval (.tmp 74) = .agg #[.int .i64 (s4), .slice a4 (n4) (c4)] from hpre 0 (by decide) _ rfl)
              obtain ⟨u1, q1⟩ : ∃ u, fr.eval (.tmp 75) = u := ⟨_, rfl⟩
              have p1 : IsInt wx u1 1 := by rw [← q1]; exact hpre 1 (by decide) _ rfl
              have e1 := ev_tmp q1; clear q1
              clear hpre hfree
              refine stpK rfl rfl fun K hK => ?_
              go_simp
              refine (sub_any wx _ _ _ _ 159 (I4 wx (hB1.trans (hW.mono hB1.size)) hW) p1 HQ.out HONE.out (by omega)).mono ?_
              rintro e wy ⟨v4, rfl, hb, hm4⟩
              exact hK _ _ ⟨hm4, hW.trans (hb.mono hW.size), hb, fun h => (List.not_mem_nil h).elim⟩
            | 3, ho, hr =>
              obtain rfl := Option.some.inj ho; obtain rfl := Option.some.inj hr
              have t5 := ev_tmp (show fr.eval (.tmp 5) = .pointer (some ⟨w.heap.size + 1 + 1 + 1, 0, none⟩) from hfree 5 (by decide))
              clear hpre hfree
              have c0 := (hW.cell (p := ⟨w.heap.size + 1 + 1 + 1, 0, none⟩) l5).trans k50
              have c1 := (hW.cell (p := ⟨w.heap.size + 1 + 1 + 1, 1, none⟩) l5).trans k51
              refine stpK rfl rfl fun K hK => ?_
              go_simp
              exact hK _ _ ⟨rfl, hW, Below.refl _ _, fun h => (List.not_mem_nil h).elim⟩
            | 4, ho, hr =>
              obtain rfl := Option.some.inj ho; obtain rfl := Option.some.inj hr
              have t3 := ev_tmp (show fr.eval (.tmp 3) = .pointer (some ⟨w.heap.size + 1, 0, none⟩) from hfree 3 (by decide))
              clear hpre hfree
              have c0 := (hW.cell (p := ⟨w.heap.size + 1, 0, none⟩) l3).trans k30
              have c1 := (hW.cell (p := ⟨w.heap.size + 1, 1, none⟩) l3).trans k31
              refine stpK rfl rfl fun K hK => ?_
              go_simp
              exact hK _ _ ⟨rfl, hW, Below.refl _ _, fun h => (List.not_mem_nil h).elim⟩
            | 5, ho, hr =>
              obtain rfl := Option.some.inj ho; obtain rfl := Option.some.inj hr
              have e3 := ev_tmp (show fr.eval (.tmp 77) = .agg #[.int .i64 (s5), .slice a5 (n5) (c5)] from hpre 3 (by decide) _ rfl)
              have e4 := ev_tmp (show fr.eval (.tmp 78) = .agg #[.int .i64 (t), .slice b (m) (d)] from hpre 4 (by decide) _ rfl)
              clear hpre hfree
              refine stpK rfl rfl fun K hK => ?_
              go_simp
              refine (add_any wx _ _ _ _ LL (I5 wx (hB1.trans (hW.mono hB1.size)) hW) (HY wx (hB1.trans (hW.mono hB1.size))) HR.out HB.out (by omega)).mono ?_
              rintro e wy ⟨v4, rfl, hb, hm4⟩
              exact hK _ _ ⟨hm4, hW.trans (hb.mono hW.size), hb, fun h => (List.not_mem_nil h).elim⟩
            | n + 6, ho, hr => exact absurd hr (by simp)
          · intro vs wn hvs hW1 hap0
            clear hap0
            have e0 : vs 0 = .agg #[.int .i64 (s4), .slice a4 (n4) (c4)] := hvs 0 (by decide)
            obtain ⟨u1, e1⟩ : ∃ u, vs 1 = u := ⟨_, rfl⟩
            have p1 : IsInt wn u1 1 := by rw [← e1]; exact hvs 1 (by decide)
            obtain ⟨u2, e2⟩ : ∃ u, vs 2 = u := ⟨_, rfl⟩
            have p2 : IsInt wn u2 (x.tdiv y - 1) := by rw [← e2]; exact hvs 2 (by decide)
            have e3 : vs 3 = .agg #[.int .i64 (s5), .slice a5 (n5) (c5)] := hvs 3 (by decide)
            have e4 : vs 4 = .agg #[.int .i64 (t), .slice b (m) (d)] := hvs 4 (by decide)
            obtain ⟨u5, e5⟩ : ∃ u, vs 5 = u := ⟨_, rfl⟩
            have p5 : IsInt wn u5 (x.tmod y + y) := by rw [← e5]; exact hvs 5 (by decide)
            simp only [puts, Nat.reduceAdd, e0, e1, e2, e3, e4, e5, Act.put, List.setIfInBounds_toArray, List.set_cons_zero, List.set_cons_succ, List.drop_succ_cons, List.drop_zero, List.length_cons, List.length_nil]
            clear hvs e0 e1 e2 e3 e4 e5
            have F4 := HF4.out.below hW1
            have F5 := HF5.out.below hW1
            have hB2 := hB1.trans (hW1.mono hB1.size)
            clear l3 l4 l5 k30 k31 k40 k41 k50 k51 p1 HF2 HF3 HF4 HF5 hB1 hW1 I4 I5 HY
            obtain ⟨s8, a8, n8, c8, rfl⟩ := p2.form
            obtain ⟨s9, a9, n9, c9, rfl⟩ := p5.form
            have e5 := (F5.other (.int .i64 s8) (.slice a8 n8 c8) (show w.heap.size + 1 + 1 + 1 ≠ w.heap.size + 1 + 1 by omega))
            have k8 := (p2.keep (F4.keep (.int .i64 s8) (.slice a8 n8 c8))).keep (e5.keep (.int .i64 s9) (.slice a9 n9 c9))
            have k9 := (p5.keep (F4.keep (.int .i64 s8) (.slice a8 n8 c8))).keep (e5.keep (.int .i64 s9) (.slice a9 n9 c9))
            have hw := below_set2 (below_set2 hB2 (show w.heap.size ≤ w.heap.size + 1 + 1 by omega) (.int .i64 s8) (.slice a8 n8 c8)) (show w.heap.size ≤ w.heap.size + 1 + 1 + 1 by omega) (.int .i64 s9) (.slice a9 n9 c9)
            obtain ⟨hf1, hf2⟩ := HS.out.2.2 (by have := HSG.out; omega) (by have := HST.out; omega)
            rw [hf1] at k8
            rw [hf2] at k9
            have HK8 : Hid _ := k8
            have HK9 : Hid _ := k9
            have HW : Hid _ := hw
            obtain ⟨l4, k40, k41, p40, p41⟩ := F4
            obtain ⟨l5, k50, k51, p50, p51⟩ := F5
            clear p2 p5 e5 k8 k9 hw hB2 hf1 hf2
            go_wp2
            refine bodyPost_ret (v := .tuple #[.agg #[.int .i64 s8, .slice a8 n8 c8], .agg #[.int .i64 s9, .slice a9 n9 c9]]) (by simp [results, go_sem, loadVar, World.cell?_setCell_same, World.cell?_setCell_other, *]; try rfl) rfl ?_
            exact ⟨_, _, rfl, HW.out, HK8.out, HK9.out⟩
end Go.Proofs.YtjlkplidpdhgbaaGreatDoor
