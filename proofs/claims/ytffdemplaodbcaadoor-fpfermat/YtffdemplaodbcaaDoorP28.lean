/- A part of the proof: QF. -/
import Derived.Test.YtffdemplaodbcaaDoorP27
set_option linter.all false
namespace Go.Proofs.YtffdemplaodbcaaDoor
open Go Go.Proofs Go.RowKit Go.Rad

theorem MX.below {w w' : World} {B R r0 r1 : Nat} {a b c d : Int} (h : MX w B R r0 r1 a b c d) (hb : Below w.heap.size w w') : MX w' B R r0 r1 a b c d := ⟨h.hR.below hb, h.h0.below hb, h.h1.below hb, h.ne, h.base⟩
theorem least2 (w : World) : Calls Tryd.prog 56 #[FV 2 4, .int .i64 2] w fun e w' => e = .returned (.int .i64 0) ∧ Below w.heap.size w w' := least_any w 2 4 2 (by decide) (by decide) (by decide) (by decide)
theorem least1 (w : World) : Calls Tryd.prog 56 #[FV 2 4, .int .i64 1] w fun e w' => e = .returned (.int .i64 1) ∧ Below w.heap.size w w' := least_any w 2 4 1 (by decide) (by decide) (by decide) (by decide)
theorem least0 (w : World) : Calls Tryd.prog 56 #[FV 2 4, .int .i64 0] w fun e w' => e = .returned (.int .i64 0) ∧ Below w.heap.size w w' := least_any w 2 4 0 (by decide) (by decide) (by decide) (by decide)
theorem opp0 (w : World) : Calls Tryd.prog 59 #[FV 2 4, .int .i64 0] w fun e w' => e = .returned (.int .i64 0) ∧ Below w.heap.size w w' := opposite_any w 2 4 0 (by decide) (by decide) (by decide)
theorem inv1 (w : World) : Calls Tryd.prog 58 #[FV 2 4, .int .i64 1] w fun e w' => e = .returned (.int .i64 1) ∧ Below w.heap.size w w' := by
  refine (inverse_any w 2 4 1 (by decide) (by decide) (by decide) (by decide)).mono ?_
  rintro e w' ⟨r, rfl, h0, h1, -, hb⟩
  exact ⟨by rw [show r = 1 by omega], hb⟩
set_option maxRecDepth 10000 in
set_option maxHeartbeats 1000000 in
theorem find_0 (w : World) (B R r0 r1 : Nat) (hX : MX w B R r0 r1 2 1 0 2) : Calls Tryd.prog 71 #[FV 2 4, .slice (some ⟨R, 0, none⟩) 2 2, .int .i64 0, .int .i64 0] w fun e w' => e = .returned (.int .i64 (-1)) ∧ Below w.heap.size w w' := by
  have HX : Hid (MX w B R r0 r1 2 1 0 2) := hX
  clear hX
  go_enter Tryd.func71, Tryd.ntmps71
  go_upto_region 1 with fail
  refine wp_world (fun w1 => Below w.heap.size w w1 ∧ FB w1 w.heap.size (.int .i64 2) (.int .i64 4) ∧ MX w1 B R r0 r1 2 1 0 2) ⟨bel1 _ _, FB.mk0 _ _ _ _, HX.out.below (bel1 _ _)⟩ ?_
  rintro w1 ⟨hB1, hF1, hX1⟩
  obtain ⟨b4, hb4⟩ : ∃ x, x = w.heap.size := ⟨_, rfl⟩
  rw [← hb4] at hF1 ⊢
  have HB1 : Hid (Below w.heap.size w w1) := hB1
  have HF1 : Hid (FB w1 b4 (.int .i64 2) (.int .i64 4)) := hF1
  have HX1 : Hid (MX w1 B R r0 r1 2 1 0 2) := hX1
  clear hB1 hb4
  obtain ⟨l4, k40, k41, z4, z5⟩ := hF1
  obtain ⟨lR, R0, R1, Rz0, Rz1⟩ := hX1.hR
  obtain ⟨l0, x0, x1, z0, z1⟩ := hX1.h0
  obtain ⟨l1, y0, y1, z2, z3⟩ := hX1.h1
  clear hX1
  go_wp2
  refine wp_loop_rounds 3 ?_
  rw [rounds_succ]
  go_upto_region 4 with fail
  refine wp_drawn mixed [⟨17, [], [], [4]⟩, ⟨18, [], [], [1]⟩, ⟨19, [], [], [9]⟩, ⟨20, [1, 2], [1, 2], []⟩, ⟨21, [3], [1, 2, 3], []⟩, ⟨22, [], [], [2]⟩, ⟨23, [4, 5], [1, 2, 3, 4, 5], []⟩, ⟨24, [6], [1, 2, 3, 4, 5, 6], []⟩, ⟨25, [0, 7], [0, 1, 2, 3, 4, 5, 6, 7], []⟩, ⟨26, [8], [0, 1, 2, 3, 4, 5, 6, 7, 8], []⟩] [] (by kernel_rfl) 28 rfl (by kernel_rfl) (fun (i : Nat) (v : Value) (wq : World) => match i with | 0 => v = .agg #[.int .i64 (2), .int .i64 (4)] | 1 => v = .slice (some ⟨R, 0, none⟩) (2) (2) | 2 => v = .int .i64 (0) | 3 => v = .pointer (some ⟨R, 0, none⟩) | 4 => v = .slice (some ⟨r0, 0, none⟩) (2) (2) | 5 => v = .int .i64 (0) | 6 => v = .pointer (some ⟨r0, 0, none⟩) | 7 => v = .int .i64 (2) | 8 => v = .int .i64 (0) | 9 => v = .bool ((0 : Int) != (0)) | _ => True) (fun _ wq => Below w1.heap.size w1 wq) (fun wx wy => Below wx.heap.size wx wy) (Below.refl _ _).drew (fun i v wx wy h hx => match i, h with | 0, h => h | 1, h => h | 2, h => h | 3, h => h | 4, h => h | 5, h => h | 6, h => h | 7, h => h | 8, h => h | 9, h => h  | n + 10, _ => trivial) ?_ ?_
  · intro i o r ho hr L fr wx hW hL hpr hds hdef hpre hfree
    clear hL hpr hds hdef
    match i, ho, hr with
    | 0, ho, hr => ?_
    | 1, ho, hr => ?_
    | 2, ho, hr => ?_
    | 3, ho, hr => ?_
    | 4, ho, hr => ?_
    | 5, ho, hr => ?_
    | 6, ho, hr => ?_
    | 7, ho, hr => ?_
    | 8, ho, hr =>
      obtain rfl := Option.some.inj ho; obtain rfl := Option.some.inj hr
      have e0 := ev_tmp (show fr.eval (.tmp 17) = .agg #[.int .i64 (2), .int .i64 (4)] from hpre 0 (by decide) _ rfl)
      have e7 := ev_tmp (show fr.eval (.tmp 24) = .int .i64 (2) from hpre 7 (by decide) _ rfl)
      clear hpre hfree
      refine stpK rfl rfl fun K hK => ?_
      go_simp
      refine (least2 wx).mono ?_
      rintro e wy ⟨rfl, hb⟩
      exact hK _ _ ⟨rfl, hW.trans (hb.mono hW.size), hb, fun h => (List.not_mem_nil h).elim⟩
    | 9, ho, hr => ?_
    | n + 10, ho, hr => exact absurd hr (by simp)
    all_goals
      obtain rfl := Option.some.inj ho; obtain rfl := Option.some.inj hr
      simp only [List.mem_cons, List.not_mem_nil, or_false, false_imp_iff, implies_true, forall_eq_or_imp, forall_eq, List.getElem?_cons_zero, List.getElem?_cons_succ, Option.some.injEq, forall_eq', evt] at hpre hfree
      have c0 := (hW.cell (p := ⟨b4, 0, none⟩) l4).trans k40
      have c1 := (hW.cell (p := ⟨b4, 1, none⟩) l4).trans k41
      have c2 := (hW.cell (p := ⟨R, 0, none⟩) lR).trans R0
      have c3 := (hW.cell (p := ⟨r0, 0, none⟩) l0).trans x0
      refine stpK rfl rfl fun K hK => ?_ <;> (go_simp; exact hK _ _ ⟨rfl, hW, Below.refl _ _, fun h => (List.not_mem_nil h).elim⟩)
  · intro vs w2 hvs hW1 hap0
    clear hap0
    have e0 : vs 0 = .agg #[.int .i64 (2), .int .i64 (4)] := hvs 0 (by decide)
    have e1 : vs 1 = .slice (some ⟨R, 0, none⟩) (2) (2) := hvs 1 (by decide)
    have e2 : vs 2 = .int .i64 (0) := hvs 2 (by decide)
    have e3 : vs 3 = .pointer (some ⟨R, 0, none⟩) := hvs 3 (by decide)
    have e4 : vs 4 = .slice (some ⟨r0, 0, none⟩) (2) (2) := hvs 4 (by decide)
    have e5 : vs 5 = .int .i64 (0) := hvs 5 (by decide)
    have e6 : vs 6 = .pointer (some ⟨r0, 0, none⟩) := hvs 6 (by decide)
    have e7 : vs 7 = .int .i64 (2) := hvs 7 (by decide)
    have e8 : vs 8 = .int .i64 (0) := hvs 8 (by decide)
    have e9 : vs 9 = .bool ((0 : Int) != (0)) := hvs 9 (by decide)
    simp only [puts, Nat.reduceAdd, e0, e1, e2, e3, e4, e5, e6, e7, e8, e9, Act.put, List.setIfInBounds_toArray, List.set_cons_zero, List.set_cons_succ, List.drop_succ_cons, List.drop_zero, List.length_cons, List.length_nil]
    clear hvs e0 e1 e2 e3 e4 e5 e6 e7 e8 e9
    have HBw2 : Hid (Below w.heap.size w w2) := HB1.out.trans (hW1.mono HB1.out.size)
    have HXw2 : Hid (MX w2 B R r0 r1 2 1 0 2) := HX1.out.below hW1
    have HFw2 : Hid (FB w2 b4 (.int .i64 2) (.int .i64 4)) := HF1.out.below hW1
    clear l4 k40 k41 z4 z5 lR R0 R1 Rz0 Rz1 l0 x0 x1 z0 z1 l1 y0 y1 z2 z3 hW1
    obtain ⟨l4, k40, k41, z4, z5⟩ := HFw2.out
    obtain ⟨lR, R0, R1, Rz0, Rz1⟩ := HXw2.out.hR
    obtain ⟨l0, x0, x1, z0, z1⟩ := HXw2.out.h0
    obtain ⟨l1, y0, y1, z2, z3⟩ := HXw2.out.h1
    go_wp2
    rw [rounds_succ]
    go_upto_region 4 with fail
    refine wp_drawn mixed [⟨17, [], [], [4]⟩, ⟨18, [], [], [1]⟩, ⟨19, [], [], [9]⟩, ⟨20, [1, 2], [1, 2], []⟩, ⟨21, [3], [1, 2, 3], []⟩, ⟨22, [], [], [2]⟩, ⟨23, [4, 5], [1, 2, 3, 4, 5], []⟩, ⟨24, [6], [1, 2, 3, 4, 5, 6], []⟩, ⟨25, [0, 7], [0, 1, 2, 3, 4, 5, 6, 7], []⟩, ⟨26, [8], [0, 1, 2, 3, 4, 5, 6, 7, 8], []⟩] [] (by kernel_rfl) 28 rfl (by kernel_rfl) (fun (i : Nat) (v : Value) (wq : World) => match i with | 0 => v = .agg #[.int .i64 (2), .int .i64 (4)] | 1 => v = .slice (some ⟨R, 0, none⟩) (2) (2) | 2 => v = .int .i64 (1) | 3 => v = .pointer (some ⟨R, 1, none⟩) | 4 => v = .slice (some ⟨r1, 0, none⟩) (2) (2) | 5 => v = .int .i64 (0) | 6 => v = .pointer (some ⟨r1, 0, none⟩) | 7 => v = .int .i64 (0) | 8 => v = .int .i64 (0) | 9 => v = .bool ((0 : Int) != (0)) | _ => True) (fun _ wq => Below w2.heap.size w2 wq) (fun wx wy => Below wx.heap.size wx wy) (Below.refl _ _).drew (fun i v wx wy h hx => match i, h with | 0, h => h | 1, h => h | 2, h => h | 3, h => h | 4, h => h | 5, h => h | 6, h => h | 7, h => h | 8, h => h | 9, h => h  | n + 10, _ => trivial) ?_ ?_
    · intro i o r ho hr L fr wx hW hL hpr hds hdef hpre hfree
      clear hL hpr hds hdef
      match i, ho, hr with
      | 0, ho, hr => ?_
      | 1, ho, hr => ?_
      | 2, ho, hr => ?_
      | 3, ho, hr => ?_
      | 4, ho, hr => ?_
      | 5, ho, hr => ?_
      | 6, ho, hr => ?_
      | 7, ho, hr => ?_
      | 8, ho, hr =>
        obtain rfl := Option.some.inj ho; obtain rfl := Option.some.inj hr
        have e0 := ev_tmp (show fr.eval (.tmp 17) = .agg #[.int .i64 (2), .int .i64 (4)] from hpre 0 (by decide) _ rfl)
        have e7 := ev_tmp (show fr.eval (.tmp 24) = .int .i64 (0) from hpre 7 (by decide) _ rfl)
        clear hpre hfree
        refine stpK rfl rfl fun K hK => ?_
        go_simp
        refine (least0 wx).mono ?_
        rintro e wy ⟨rfl, hb⟩
        exact hK _ _ ⟨rfl, hW.trans (hb.mono hW.size), hb, fun h => (List.not_mem_nil h).elim⟩
      | 9, ho, hr => ?_
      | n + 10, ho, hr => exact absurd hr (by simp)
      all_goals
        obtain rfl := Option.some.inj ho; obtain rfl := Option.some.inj hr
        simp only [List.mem_cons, List.not_mem_nil, or_false, false_imp_iff, implies_true, forall_eq_or_imp, forall_eq, List.getElem?_cons_zero, List.getElem?_cons_succ, Option.some.injEq, forall_eq', evt] at hpre hfree
        have c0 := (hW.cell (p := ⟨b4, 0, none⟩) l4).trans k40
        have c1 := (hW.cell (p := ⟨b4, 1, none⟩) l4).trans k41
        have c2 := (hW.cell (p := ⟨R, 1, none⟩) lR).trans R1
        have c3 := (hW.cell (p := ⟨r1, 0, none⟩) l1).trans y0
        refine stpK rfl rfl fun K hK => ?_ <;> (go_simp; exact hK _ _ ⟨rfl, hW, Below.refl _ _, fun h => (List.not_mem_nil h).elim⟩)
    · intro vs w3 hvs hW1 hap0
      clear hap0
      have e0 : vs 0 = .agg #[.int .i64 (2), .int .i64 (4)] := hvs 0 (by decide)
      have e1 : vs 1 = .slice (some ⟨R, 0, none⟩) (2) (2) := hvs 1 (by decide)
      have e2 : vs 2 = .int .i64 (1) := hvs 2 (by decide)
      have e3 : vs 3 = .pointer (some ⟨R, 1, none⟩) := hvs 3 (by decide)
      have e4 : vs 4 = .slice (some ⟨r1, 0, none⟩) (2) (2) := hvs 4 (by decide)
      have e5 : vs 5 = .int .i64 (0) := hvs 5 (by decide)
      have e6 : vs 6 = .pointer (some ⟨r1, 0, none⟩) := hvs 6 (by decide)
      have e7 : vs 7 = .int .i64 (0) := hvs 7 (by decide)
      have e8 : vs 8 = .int .i64 (0) := hvs 8 (by decide)
      have e9 : vs 9 = .bool ((0 : Int) != (0)) := hvs 9 (by decide)
      simp only [puts, Nat.reduceAdd, e0, e1, e2, e3, e4, e5, e6, e7, e8, e9, Act.put, List.setIfInBounds_toArray, List.set_cons_zero, List.set_cons_succ, List.drop_succ_cons, List.drop_zero, List.length_cons, List.length_nil]
      clear hvs e0 e1 e2 e3 e4 e5 e6 e7 e8 e9
      have HBw3 : Hid (Below w.heap.size w w3) := HBw2.out.trans (hW1.mono HBw2.out.size)
      have HXw3 : Hid (MX w3 B R r0 r1 2 1 0 2) := HXw2.out.below hW1
      have HFw3 : Hid (FB w3 b4 (.int .i64 2) (.int .i64 4)) := HFw2.out.below hW1
      clear l4 k40 k41 z4 z5 lR R0 R1 Rz0 Rz1 l0 x0 x1 z0 z1 l1 y0 y1 z2 z3 hW1
      obtain ⟨l4, k40, k41, z4, z5⟩ := HFw3.out
      obtain ⟨lR, R0, R1, Rz0, Rz1⟩ := HXw3.out.hR
      obtain ⟨l0, x0, x1, z0, z1⟩ := HXw3.out.h0
      obtain ⟨l1, y0, y1, z2, z3⟩ := HXw3.out.h1
      go_wp2
      rw [rounds_succ]
      go_wp2
      refine bodyPost_ret (v := .int .i64 ((-1))) (by simp [results, go_sem, loadVar]) rfl ?_
      exact ⟨rfl, HBw3.out⟩
set_option maxRecDepth 10000 in
set_option maxHeartbeats 1000000 in
theorem find_1 (w : World) (B R r0 r1 : Nat) (hX : MX w B R r0 r1 2 1 0 2) : Calls Tryd.prog 71 #[FV 2 4, .slice (some ⟨R, 0, none⟩) 2 2, .int .i64 1, .int .i64 0] w fun e w' => e = .returned (.int .i64 0) ∧ Below w.heap.size w w' := by
  have HX : Hid (MX w B R r0 r1 2 1 0 2) := hX
  clear hX
  go_enter Tryd.func71, Tryd.ntmps71
  go_upto_region 1 with fail
  refine wp_world (fun w1 => Below w.heap.size w w1 ∧ FB w1 w.heap.size (.int .i64 2) (.int .i64 4) ∧ MX w1 B R r0 r1 2 1 0 2) ⟨bel1 _ _, FB.mk0 _ _ _ _, HX.out.below (bel1 _ _)⟩ ?_
  rintro w1 ⟨hB1, hF1, hX1⟩
  obtain ⟨b4, hb4⟩ : ∃ x, x = w.heap.size := ⟨_, rfl⟩
  rw [← hb4] at hF1 ⊢
  have HB1 : Hid (Below w.heap.size w w1) := hB1
  have HF1 : Hid (FB w1 b4 (.int .i64 2) (.int .i64 4)) := hF1
  have HX1 : Hid (MX w1 B R r0 r1 2 1 0 2) := hX1
  clear hB1 hb4
  obtain ⟨l4, k40, k41, z4, z5⟩ := hF1
  obtain ⟨lR, R0, R1, Rz0, Rz1⟩ := hX1.hR
  obtain ⟨l0, x0, x1, z0, z1⟩ := hX1.h0
  obtain ⟨l1, y0, y1, z2, z3⟩ := hX1.h1
  clear hX1
  go_wp2
  refine wp_loop_rounds 3 ?_
  rw [rounds_succ]
  go_upto_region 4 with fail
  refine wp_drawn mixed [⟨17, [], [], [4]⟩, ⟨18, [], [], [1]⟩, ⟨19, [], [], [9]⟩, ⟨20, [1, 2], [1, 2], []⟩, ⟨21, [3], [1, 2, 3], []⟩, ⟨22, [], [], [2]⟩, ⟨23, [4, 5], [1, 2, 3, 4, 5], []⟩, ⟨24, [6], [1, 2, 3, 4, 5, 6], []⟩, ⟨25, [0, 7], [0, 1, 2, 3, 4, 5, 6, 7], []⟩, ⟨26, [8], [0, 1, 2, 3, 4, 5, 6, 7, 8], []⟩] [] (by kernel_rfl) 28 rfl (by kernel_rfl) (fun (i : Nat) (v : Value) (wq : World) => match i with | 0 => v = .agg #[.int .i64 (2), .int .i64 (4)] | 1 => v = .slice (some ⟨R, 0, none⟩) (2) (2) | 2 => v = .int .i64 (0) | 3 => v = .pointer (some ⟨R, 0, none⟩) | 4 => v = .slice (some ⟨r0, 0, none⟩) (2) (2) | 5 => v = .int .i64 (1) | 6 => v = .pointer (some ⟨r0, 1, none⟩) | 7 => v = .int .i64 (1) | 8 => v = .int .i64 (1) | 9 => v = .bool ((1 : Int) != (0)) | _ => True) (fun _ wq => Below w1.heap.size w1 wq) (fun wx wy => Below wx.heap.size wx wy) (Below.refl _ _).drew (fun i v wx wy h hx => match i, h with | 0, h => h | 1, h => h | 2, h => h | 3, h => h | 4, h => h | 5, h => h | 6, h => h | 7, h => h | 8, h => h | 9, h => h  | n + 10, _ => trivial) ?_ ?_
  · intro i o r ho hr L fr wx hW hL hpr hds hdef hpre hfree
    clear hL hpr hds hdef
    match i, ho, hr with
    | 0, ho, hr => ?_
    | 1, ho, hr => ?_
    | 2, ho, hr => ?_
    | 3, ho, hr => ?_
    | 4, ho, hr => ?_
    | 5, ho, hr => ?_
    | 6, ho, hr => ?_
    | 7, ho, hr => ?_
    | 8, ho, hr =>
      obtain rfl := Option.some.inj ho; obtain rfl := Option.some.inj hr
      have e0 := ev_tmp (show fr.eval (.tmp 17) = .agg #[.int .i64 (2), .int .i64 (4)] from hpre 0 (by decide) _ rfl)
      have e7 := ev_tmp (show fr.eval (.tmp 24) = .int .i64 (1) from hpre 7 (by decide) _ rfl)
      clear hpre hfree
      refine stpK rfl rfl fun K hK => ?_
      go_simp
      refine (least1 wx).mono ?_
      rintro e wy ⟨rfl, hb⟩
      exact hK _ _ ⟨rfl, hW.trans (hb.mono hW.size), hb, fun h => (List.not_mem_nil h).elim⟩
    | 9, ho, hr => ?_
    | n + 10, ho, hr => exact absurd hr (by simp)
    all_goals
      obtain rfl := Option.some.inj ho; obtain rfl := Option.some.inj hr
      simp only [List.mem_cons, List.not_mem_nil, or_false, false_imp_iff, implies_true, forall_eq_or_imp, forall_eq, List.getElem?_cons_zero, List.getElem?_cons_succ, Option.some.injEq, forall_eq', evt] at hpre hfree
      have c0 := (hW.cell (p := ⟨b4, 0, none⟩) l4).trans k40
      have c1 := (hW.cell (p := ⟨b4, 1, none⟩) l4).trans k41
      have c2 := (hW.cell (p := ⟨R, 0, none⟩) lR).trans R0
      have c3 := (hW.cell (p := ⟨r0, 1, none⟩) l0).trans x1
      refine stpK rfl rfl fun K hK => ?_ <;> (go_simp; exact hK _ _ ⟨rfl, hW, Below.refl _ _, fun h => (List.not_mem_nil h).elim⟩)
  · intro vs w2 hvs hW1 hap0
    clear hap0
    have e0 : vs 0 = .agg #[.int .i64 (2), .int .i64 (4)] := hvs 0 (by decide)
    have e1 : vs 1 = .slice (some ⟨R, 0, none⟩) (2) (2) := hvs 1 (by decide)
    have e2 : vs 2 = .int .i64 (0) := hvs 2 (by decide)
    have e3 : vs 3 = .pointer (some ⟨R, 0, none⟩) := hvs 3 (by decide)
    have e4 : vs 4 = .slice (some ⟨r0, 0, none⟩) (2) (2) := hvs 4 (by decide)
    have e5 : vs 5 = .int .i64 (1) := hvs 5 (by decide)
    have e6 : vs 6 = .pointer (some ⟨r0, 1, none⟩) := hvs 6 (by decide)
    have e7 : vs 7 = .int .i64 (1) := hvs 7 (by decide)
    have e8 : vs 8 = .int .i64 (1) := hvs 8 (by decide)
    have e9 : vs 9 = .bool ((1 : Int) != (0)) := hvs 9 (by decide)
    simp only [puts, Nat.reduceAdd, e0, e1, e2, e3, e4, e5, e6, e7, e8, e9, Act.put, List.setIfInBounds_toArray, List.set_cons_zero, List.set_cons_succ, List.drop_succ_cons, List.drop_zero, List.length_cons, List.length_nil]
    clear hvs e0 e1 e2 e3 e4 e5 e6 e7 e8 e9
    have HBw2 : Hid (Below w.heap.size w w2) := HB1.out.trans (hW1.mono HB1.out.size)
    clear hW1
    go_wp2
    refine bodyPost_ret (v := .int .i64 (0)) (by simp [results, go_sem, loadVar]) rfl ?_
    exact ⟨rfl, HBw2.out⟩
end Go.Proofs.YtffdemplaodbcaaDoor
