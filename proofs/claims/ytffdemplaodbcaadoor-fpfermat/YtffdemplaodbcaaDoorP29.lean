/- A part of the proof: QG. -/
import Derived.Test.YtffdemplaodbcaaDoorP28
set_option linter.all false
namespace Go.Proofs.YtffdemplaodbcaaDoor
open Go Go.Proofs Go.RowKit Go.Rad

set_option maxRecDepth 10000 in
set_option maxHeartbeats 1000000 in
theorem solution_0 (w : World) (R : Nat) : Calls Tryd.prog 72 #[FV 2 4, .slice (some ⟨R, 0, none⟩) 2 2, .slice none 0 0, .int .i64 0] w fun e w' => (∃ b, e = .returned (.slice (some ⟨b, 0, none⟩) 1 1)) ∧ Below w.heap.size w w' := by
  go_enter Tryd.func72, Tryd.ntmps72
  have hw1 : wrap64 1 = 1 := wrap_in (by decide) (by decide)
  go_upto_region 2 with (at_make; refine wpList_makeI rfl _ _ rfl _ 1 rfl rfl (by first | rfl | decide) (by omega) ?_; intro w3 ho3 hb3)
  have HB3 : Hid (Below w.heap.size w w3) := (bel1 w _).trans (hb3.mono (by simp))
  rw [World.size_alloc] at ho3
  obtain ⟨b, hb⟩ : ∃ b, b = w.heap.size + 1 := ⟨_, rfl⟩
  rw [← hb] at ho3 ⊢
  have HBB : Hid (w.heap.size ≤ b) := by rw [hb]; exact Nat.le_succ _
  have ck : w3.cell? ⟨b, 0, none⟩ = some (.int .i64 0) := ho3.c 0 (by omega)
  have zk : w3.frozen? ⟨b, 0, none⟩ = false := ho3.z 0 (by omega)
  clear ho3 hb3 hb
  go_wp2
  refine wp_loop_rounds 1 ?_
  rw [rounds_succ]
  go_wp2
  refine bodyPost_ret (v := .slice (some ⟨b, 0, none⟩) 1 1) (by simp [results, go_sem, loadVar]) rfl ?_
  exact ⟨⟨b, rfl⟩, HB3.out.setCell (p := ⟨b, 0, none⟩) HBB.out _⟩
inductive RowPost (w : World) (e : Ending) (w' : World) : Prop
  | mk (l : Nat) (he : e = .returned (.slice (some ⟨l, 0, none⟩) 2 2)) (hF : FB w' l (.int .i64 0) (.int .i64 1)) (hb : Below w.heap.size w w') (hl : w.heap.size ≤ l)
set_option maxRecDepth 10000 in
set_option maxHeartbeats 1000000 in
theorem monicRow_begun (w : World) (r0 : Nat) (hr : FB w r0 (.int .i64 2) (.int .i64 1)) : Calls Tryd.prog 90 #[FV 2 4, .slice (some ⟨r0, 0, none⟩) 2 2, .int .i64 1] w fun e w' => RowPost w e w' := by
  have HR : Hid (FB w r0 (.int .i64 2) (.int .i64 1)) := hr
  clear hr
  go_enter Tryd.func90, Tryd.ntmps90
  go_upto_region 1 with fail
  refine wp_world (fun w1 => Below w.heap.size w w1 ∧ FB w1 w.heap.size (.int .i64 2) (.int .i64 4) ∧ FB w1 r0 (.int .i64 2) (.int .i64 1)) ⟨bel1 _ _, FB.mk0 _ _ _ _, HR.out.below (bel1 _ _)⟩ ?_
  rintro w1 ⟨hB1, hF1, hX1⟩
  obtain ⟨b4, hb4⟩ : ∃ x, x = w.heap.size := ⟨_, rfl⟩
  rw [← hb4] at hF1 ⊢
  have HB1 : Hid (Below w.heap.size w w1) := hB1
  have HF1 : Hid (FB w1 b4 (.int .i64 2) (.int .i64 4)) := hF1
  have HX1 : Hid (FB w1 r0 (.int .i64 2) (.int .i64 1)) := hX1
  have HB4 : Hid (b4 = w.heap.size) := hb4
  clear hB1 hb4
  obtain ⟨l4, k40, k41, z4, z5⟩ := hF1
  obtain ⟨l0, x0, x1, z0, z1⟩ := hX1
  refine wp_drawn mixed [⟨10, [], [], [3]⟩, ⟨11, [], [], [3]⟩, ⟨12, [], [], [1]⟩, ⟨13, [], [], [2]⟩, ⟨14, [2, 3], [2, 3], []⟩, ⟨15, [4], [2, 3, 4], []⟩, ⟨16, [1, 5], [1, 2, 3, 4, 5], []⟩, ⟨17, [0, 6], [0, 1, 2, 3, 4, 5, 6], []⟩, ⟨7, [0, 1, 2, 3, 4, 5, 6, 7], [0, 1, 2, 3, 4, 5, 6, 7], []⟩] [] (by kernel_rfl) 42 rfl (by kernel_rfl) (fun (i : Nat) (v : Value) (wq : World) => match i with | 0 => v = .agg #[.int .i64 (2), .int .i64 (4)] | 1 => v = .agg #[.int .i64 (2), .int .i64 (4)] | 2 => v = .slice (some ⟨r0, 0, none⟩) (2) (2) | 3 => v = .int .i64 (1) | 4 => v = .pointer (some ⟨r0, 1, none⟩) | 5 => v = .int .i64 (1) | 6 => v = .int .i64 (1) | 7 => v = .int .i64 (1) | 8 => v = .int .i64 (1) | _ => True) (fun _ wq => Below w1.heap.size w1 wq) (fun wx wy => Below wx.heap.size wx wy) (Below.refl _ _).drew (fun i v wx wy h hx => match i, h with | 0, h => h | 1, h => h | 2, h => h | 3, h => h | 4, h => h | 5, h => h | 6, h => h | 7, h => h | 8, h => h  | n + 9, _ => trivial) ?_ ?_
  · intro i o r ho hr L fr wx hW hL hpr hds hdef hpre hfree
    clear hL hpr hds hdef
    match i, ho, hr with
    | 0, ho, hr => ?_
    | 1, ho, hr => ?_
    | 2, ho, hr => ?_
    | 3, ho, hr => ?_
    | 4, ho, hr => ?_
    | 5, ho, hr => ?_
    | 6, ho, hr =>
      obtain rfl := Option.some.inj ho; obtain rfl := Option.some.inj hr
      have e1 := ev_tmp (show fr.eval (.tmp 11) = .agg #[.int .i64 (2), .int .i64 (4)] from hpre 1 (by decide) _ rfl)
      have e5 := ev_tmp (show fr.eval (.tmp 15) = .int .i64 (1) from hpre 5 (by decide) _ rfl)
      clear hpre hfree
      refine stpK rfl rfl fun K hK => ?_
      go_simp
      refine (least1 wx).mono ?_
      rintro e wy ⟨rfl, hb⟩
      exact hK _ _ ⟨rfl, hW.trans (hb.mono hW.size), hb, fun h => (List.not_mem_nil h).elim⟩
    | 7, ho, hr =>
      obtain rfl := Option.some.inj ho; obtain rfl := Option.some.inj hr
      have e0 := ev_tmp (show fr.eval (.tmp 10) = .agg #[.int .i64 (2), .int .i64 (4)] from hpre 0 (by decide) _ rfl)
      have e6 := ev_tmp (show fr.eval (.tmp 16) = .int .i64 (1) from hpre 6 (by decide) _ rfl)
      clear hpre hfree
      refine stpK rfl rfl fun K hK => ?_
      go_simp
      refine (inv1 wx).mono ?_
      rintro e wy ⟨rfl, hb⟩
      exact hK _ _ ⟨rfl, hW.trans (hb.mono hW.size), hb, fun h => (List.not_mem_nil h).elim⟩
    | 8, ho, hr => ?_
    | n + 9, ho, hr => exact absurd hr (by simp)
    all_goals
      obtain rfl := Option.some.inj ho; obtain rfl := Option.some.inj hr
      simp only [List.mem_cons, List.not_mem_nil, or_false, false_imp_iff, implies_true, forall_eq_or_imp, forall_eq, List.getElem?_cons_zero, List.getElem?_cons_succ, Option.some.injEq, forall_eq', evt] at hpre hfree
      have c0 := (hW.cell (p := ⟨b4, 0, none⟩) l4).trans k40
      have c1 := (hW.cell (p := ⟨b4, 1, none⟩) l4).trans k41
      have c2 := (hW.cell (p := ⟨r0, 1, none⟩) l0).trans x1
      refine stpK rfl rfl fun K hK => ?_ <;> (go_simp; exact hK _ _ ⟨rfl, hW, Below.refl _ _, fun h => (List.not_mem_nil h).elim⟩)
  · intro vs w2 hvs hW1 hap0
    clear hap0
    have e0 : vs 0 = .agg #[.int .i64 (2), .int .i64 (4)] := hvs 0 (by decide)
    have e1 : vs 1 = .agg #[.int .i64 (2), .int .i64 (4)] := hvs 1 (by decide)
    have e2 : vs 2 = .slice (some ⟨r0, 0, none⟩) (2) (2) := hvs 2 (by decide)
    have e3 : vs 3 = .int .i64 (1) := hvs 3 (by decide)
    have e4 : vs 4 = .pointer (some ⟨r0, 1, none⟩) := hvs 4 (by decide)
    have e5 : vs 5 = .int .i64 (1) := hvs 5 (by decide)
    have e6 : vs 6 = .int .i64 (1) := hvs 6 (by decide)
    have e7 : vs 7 = .int .i64 (1) := hvs 7 (by decide)
    have e8 : vs 8 = .int .i64 (1) := hvs 8 (by decide)
    simp only [puts, Nat.reduceAdd, e0, e1, e2, e3, e4, e5, e6, e7, e8, Act.put, List.setIfInBounds_toArray, List.set_cons_zero, List.set_cons_succ, List.drop_succ_cons, List.drop_zero, List.length_cons, List.length_nil]
    clear hvs e0 e1 e2 e3 e4 e5 e6 e7 e8
    have HB2 : Hid (Below w.heap.size w w2) := HB1.out.trans (hW1.mono HB1.out.size)
    have HF2 : Hid (FB w2 b4 (.int .i64 2) (.int .i64 4)) := HF1.out.below hW1
    have HX2 : Hid (FB w2 r0 (.int .i64 2) (.int .i64 1)) := HX1.out.below hW1
    clear l4 k40 k41 z4 z5 l0 x0 x1 z0 z1 hW1
    go_upto_region 3 with (at_make; refine wpList_makeI rfl _ _ rfl _ 2 rfl rfl (by rfl) (by omega) ?_; intro w3 ho3 hb3)
    have HB3 : Hid (Below w.heap.size w w3) := HB2.out.trans (hb3.mono HB2.out.size)
    have HF3 : Hid (FB w3 b4 (.int .i64 2) (.int .i64 4)) := HF2.out.below hb3
    have HX3 : Hid (FB w3 r0 (.int .i64 2) (.int .i64 1)) := HX2.out.below hb3
    obtain ⟨bl, hbl⟩ : ∃ x, x = w2.heap.size := ⟨_, rfl⟩
    rw [← hbl] at ho3 ⊢
    have HL3 : Hid (FB w3 bl (.int .i64 0) (.int .i64 0)) := ho3.fb
    have HBL : Hid (bl = w2.heap.size) := hbl
    clear ho3 hb3 hbl
    obtain ⟨l4, k40, k41, z4, z5⟩ := HF3.out
    obtain ⟨l0, x0, x1, z0, z1⟩ := HX3.out
    have hwk : IntKind.i64.wrap 1 = 1 := by decide
    go_wp2
    refine wp_loop_rounds 2 ?_
    rw [rounds_succ]
    go_upto_region 6 with fail
    refine wp_drawn mixed [⟨28, [], [], [8]⟩, ⟨29, [], [], [9]⟩, ⟨30, [], [], [3]⟩, ⟨31, [], [], [3]⟩, ⟨32, [], [], [1]⟩, ⟨33, [], [], [9]⟩, ⟨34, [4, 5], [4, 5], []⟩, ⟨35, [6], [4, 5, 6], []⟩, ⟨36, [3, 7], [3, 4, 5, 6, 7], []⟩, ⟨37, [], [], [7]⟩, ⟨38, [8, 9], [3, 4, 5, 6, 7, 8, 9], []⟩, ⟨39, [2, 8, 10], [2, 3, 4, 5, 6, 7, 8, 9, 10], []⟩] [] (by kernel_rfl) 42 rfl (by kernel_rfl) (fun (i : Nat) (v : Value) (wq : World) => match i with | 0 => v = .slice (some ⟨bl, 0, none⟩) (2) (2) | 1 => v = .int .i64 (1) | 2 => v = .agg #[.int .i64 (2), .int .i64 (4)] | 3 => v = .agg #[.int .i64 (2), .int .i64 (4)] | 4 => v = .slice (some ⟨r0, 0, none⟩) (2) (2) | 5 => v = .int .i64 (1) | 6 => v = .pointer (some ⟨r0, 1, none⟩) | 7 => v = .int .i64 (1) | 8 => v = .int .i64 (1) | 9 => v = .int .i64 (1) | 10 => v = .int .i64 (1) | 11 => v = .int .i64 (1) | _ => True) (fun _ wq => Below w3.heap.size w3 wq) (fun wx wy => Below wx.heap.size wx wy) (Below.refl _ _).drew (fun i v wx wy h hx => match i, h with | 0, h => h | 1, h => h | 2, h => h | 3, h => h | 4, h => h | 5, h => h | 6, h => h | 7, h => h | 8, h => h | 9, h => h | 10, h => h | 11, h => h  | n + 12, _ => trivial) ?_ ?_
    · intro i o r ho hr L fr wx hW hL hpr hds hdef hpre hfree
      clear hL hpr hds hdef
      match i, ho, hr with
      | 0, ho, hr => ?_
      | 1, ho, hr => ?_
      | 2, ho, hr => ?_
      | 3, ho, hr => ?_
      | 4, ho, hr => ?_
      | 5, ho, hr => ?_
      | 6, ho, hr => ?_
      | 7, ho, hr => ?_
      | 8, ho, hr =>
        obtain rfl := Option.some.inj ho; obtain rfl := Option.some.inj hr
        have e3 := ev_tmp (show fr.eval (.tmp 31) = .agg #[.int .i64 (2), .int .i64 (4)] from hpre 3 (by decide) _ rfl)
        have e7 := ev_tmp (show fr.eval (.tmp 35) = .int .i64 (1) from hpre 7 (by decide) _ rfl)
        clear hpre hfree
        refine stpK rfl rfl fun K hK => ?_
        go_simp
        refine (least1 wx).mono ?_
        rintro e wy ⟨rfl, hb⟩
        exact hK _ _ ⟨rfl, hW.trans (hb.mono hW.size), hb, fun h => (List.not_mem_nil h).elim⟩
      | 9, ho, hr => ?_
      | 10, ho, hr =>
        obtain rfl := Option.some.inj ho; obtain rfl := Option.some.inj hr
        have e8 := ev_tmp (show fr.eval (.tmp 36) = .int .i64 (1) from hpre 8 (by decide) _ rfl)
        have e9 := ev_tmp (show fr.eval (.tmp 37) = .int .i64 (1) from hpre 9 (by decide) _ rfl)
        clear hpre hfree
        refine stpK rfl rfl fun K hK => ?_
        go_simp
        exact hK _ _ ⟨(by first | (show Value.int _ (IntKind.i64.wrap _) = _; rw [hwk]) | rfl), hW, Below.refl _ _, fun h => (List.not_mem_nil h).elim⟩
      | 11, ho, hr =>
        obtain rfl := Option.some.inj ho; obtain rfl := Option.some.inj hr
        have e2 := ev_tmp (show fr.eval (.tmp 30) = .agg #[.int .i64 (2), .int .i64 (4)] from hpre 2 (by decide) _ rfl)
        have e10 := ev_tmp (show fr.eval (.tmp 38) = .int .i64 (1) from hpre 10 (by decide) _ rfl)
        clear hpre hfree
        refine stpK rfl rfl fun K hK => ?_
        go_simp
        refine (least1 wx).mono ?_
        rintro e wy ⟨rfl, hb⟩
        exact hK _ _ ⟨rfl, hW.trans (hb.mono hW.size), hb, fun h => (List.not_mem_nil h).elim⟩
      | n + 12, ho, hr => exact absurd hr (by simp)
      all_goals
        obtain rfl := Option.some.inj ho; obtain rfl := Option.some.inj hr
        simp only [List.mem_cons, List.not_mem_nil, or_false, false_imp_iff, implies_true, forall_eq_or_imp, forall_eq, List.getElem?_cons_zero, List.getElem?_cons_succ, Option.some.injEq, forall_eq', evt] at hpre hfree
        have c0 := (hW.cell (p := ⟨b4, 0, none⟩) l4).trans k40
        have c1 := (hW.cell (p := ⟨b4, 1, none⟩) l4).trans k41
        have c2 := (hW.cell (p := ⟨r0, 1, none⟩) l0).trans x1
        refine stpK rfl rfl fun K hK => ?_ <;> (go_simp; exact hK _ _ ⟨rfl, hW, Below.refl _ _, fun h => (List.not_mem_nil h).elim⟩)
    · intro vs w4 hvs hW1 hap0
      clear hap0
      have e0 : vs 0 = .slice (some ⟨bl, 0, none⟩) (2) (2) := hvs 0 (by decide)
      have e1 : vs 1 = .int .i64 (1) := hvs 1 (by decide)
      have e2 : vs 2 = .agg #[.int .i64 (2), .int .i64 (4)] := hvs 2 (by decide)
      have e3 : vs 3 = .agg #[.int .i64 (2), .int .i64 (4)] := hvs 3 (by decide)
      have e4 : vs 4 = .slice (some ⟨r0, 0, none⟩) (2) (2) := hvs 4 (by decide)
      have e5 : vs 5 = .int .i64 (1) := hvs 5 (by decide)
      have e6 : vs 6 = .pointer (some ⟨r0, 1, none⟩) := hvs 6 (by decide)
      have e7 : vs 7 = .int .i64 (1) := hvs 7 (by decide)
      have e8 : vs 8 = .int .i64 (1) := hvs 8 (by decide)
      have e9 : vs 9 = .int .i64 (1) := hvs 9 (by decide)
      have e10 : vs 10 = .int .i64 (1) := hvs 10 (by decide)
      have e11 : vs 11 = .int .i64 (1) := hvs 11 (by decide)
      simp only [puts, Nat.reduceAdd, e0, e1, e2, e3, e4, e5, e6, e7, e8, e9, e10, e11, Act.put, List.setIfInBounds_toArray, List.set_cons_zero, List.set_cons_succ, List.drop_succ_cons, List.drop_zero, List.length_cons, List.length_nil]
      clear hvs e0 e1 e2 e3 e4 e5 e6 e7 e8 e9 e10 e11
      have HB4w : Hid (Below w.heap.size w w4) := HB3.out.trans (hW1.mono HB3.out.size)
      have HL4 : Hid (FB w4 bl (.int .i64 0) (.int .i64 0)) := HL3.out.below hW1
      clear l4 k40 k41 z4 z5 l0 x0 x1 z0 z1 hW1
      obtain ⟨l4, k40, k41, z4, z5⟩ := HL4.out
      go_wp2
      rw [rounds_succ]
      go_wp2
      refine bodyPost_ret (v := .slice (some ⟨bl, 0, none⟩) 2 2) (by simp [results, go_sem, loadVar]) rfl ?_
      have hs := HB2.out.size
      exact .mk bl rfl (FB.set1 HL4.out _) (HB4w.out.setCell (p := ⟨bl, 1, none⟩) (by have := HBL.out; show _ ≤ bl; omega) _) (by have := HBL.out; omega)
inductive RP (wa : World) (v : Value) (wx : World) : Prop
  | mk (l : Nat) (hv : v = .slice (some ⟨l, 0, none⟩) 2 2) (hF : FB wx l (.int .i64 0) (.int .i64 1)) (hl : wa.heap.size ≤ l)
theorem RP.below {wa wx wy : World} {v : Value} (h : RP wa v wx) (hb : Below wx.heap.size wx wy) : RP wa v wy := by
  obtain ⟨l, hv, hF, hl⟩ := h
  exact ⟨l, hv, hF.below hb, hl⟩
inductive SwpPost (w : World) (R r1 : Nat) (e : Ending) (w' : World) : Prop
  | mk (he : e = .returned (.tuple #[])) (hK : Kept (fun k => k = R ∨ k = r1) w w')
set_option maxRecDepth 10000 in
set_option maxHeartbeats 1000000 in
theorem sweep_begun (w : World) (B R r0 r1 : Nat) (hX : MX w B R r0 r1 2 1 0 2) : Calls Tryd.prog 73 #[FV 2 4, .slice (some ⟨R, 0, none⟩) 2 2, .int .i64 0, .int .i64 1] w fun e w' => SwpPost w R r1 e w' := by
  have HX : Hid (MX w B R r0 r1 2 1 0 2) := hX
  clear hX
  go_enter Tryd.func73, Tryd.ntmps73
  go_upto_region 1 with fail
  refine wp_world (fun w1 => Below w.heap.size w w1 ∧ FB w1 w.heap.size (.int .i64 2) (.int .i64 4) ∧ MX w1 B R r0 r1 2 1 0 2) ⟨bel1 _ _, FB.mk0 _ _ _ _, HX.out.below (bel1 _ _)⟩ ?_
  rintro w1 ⟨hB1, hF1, hX1⟩
  obtain ⟨b4, hb4⟩ : ∃ x, x = w.heap.size := ⟨_, rfl⟩
  rw [← hb4] at hF1 ⊢
  have HB1 : Hid (Below w.heap.size w w1) := hB1
  have HF1 : Hid (FB w1 b4 (.int .i64 2) (.int .i64 4)) := hF1
  have HX1 : Hid (MX w1 B R r0 r1 2 1 0 2) := hX1
  have HB4 : Hid (b4 = w.heap.size) := hb4
  clear hB1 hb4
  obtain ⟨l4, k40, k41, z4, z5⟩ := hF1
  obtain ⟨lR, R0, R1, Rz0, Rz1⟩ := hX1.hR
  clear hX1
  refine wp_drawn mixed [⟨10, [], [], [4]⟩, ⟨11, [], [], [1]⟩, ⟨12, [], [], [2]⟩, ⟨13, [1, 2], [1, 2], []⟩, ⟨14, [3], [1, 2, 3], []⟩, ⟨15, [], [], [3]⟩, ⟨16, [0, 4, 5], [0, 1, 2, 3, 4, 5], []⟩, ⟨8, [0, 1, 2, 3, 4, 5, 6], [0, 1, 2, 3, 4, 5, 6], []⟩] [] (by kernel_rfl) 52 rfl (by kernel_rfl) (fun (i : Nat) (v : Value) (wq : World) => match i with | 0 => v = .agg #[.int .i64 (2), .int .i64 (4)] | 1 => v = .slice (some ⟨R, 0, none⟩) (2) (2) | 2 => v = .int .i64 (0) | 3 => v = .pointer (some ⟨R, 0, none⟩) | 4 => v = .slice (some ⟨r0, 0, none⟩) (2) (2) | 5 => v = .int .i64 (1) | 6 => RP w1 v wq | 7 => RP w1 v wq | _ => True) (fun _ wq => Below w1.heap.size w1 wq) (fun wx wy => Below wx.heap.size wx wy) (Below.refl _ _).drew (fun i v wx wy h hx => match i, h with | 0, h => h | 1, h => h | 2, h => h | 3, h => h | 4, h => h | 5, h => h | 6, h => h.below hx | 7, h => h.below hx | n + 8, _ => trivial) ?_ ?_
  · intro i o r ho hr L fr wx hW hL hpr hds hdef hpre hfree
    clear hL hpr hds hdef
    match i, ho, hr with
    | 0, ho, hr => ?_
    | 1, ho, hr => ?_
    | 2, ho, hr => ?_
    | 3, ho, hr => ?_
    | 4, ho, hr => ?_
    | 5, ho, hr => ?_
    | 6, ho, hr =>
      obtain rfl := Option.some.inj ho; obtain rfl := Option.some.inj hr
      have e0 := ev_tmp (show fr.eval (.tmp 10) = .agg #[.int .i64 (2), .int .i64 (4)] from hpre 0 (by decide) _ rfl)
      have e4 := ev_tmp (show fr.eval (.tmp 14) = .slice (some ⟨r0, 0, none⟩) (2) (2) from hpre 4 (by decide) _ rfl)
      have e5 := ev_tmp (show fr.eval (.tmp 15) = .int .i64 (1) from hpre 5 (by decide) _ rfl)
      clear hpre hfree
      refine stpK rfl rfl fun K hK => ?_
      go_simp
      refine (monicRow_begun wx r0 (HX1.out.h0.below hW)).mono ?_
      rintro e wy ⟨l, rfl, hF, hb, hl⟩
      exact hK _ _ ⟨(.mk l rfl hF (Nat.le_trans hW.size hl)), hW.trans (hb.mono hW.size), hb, fun h => (List.not_mem_nil h).elim⟩
    | 7, ho, hr => ?_
    | n + 8, ho, hr => exact absurd hr (by simp)
    all_goals
      obtain rfl := Option.some.inj ho; obtain rfl := Option.some.inj hr
      simp only [List.mem_cons, List.not_mem_nil, or_false, false_imp_iff, implies_true, forall_eq_or_imp, forall_eq, List.getElem?_cons_zero, List.getElem?_cons_succ, Option.some.injEq, forall_eq', evt] at hpre hfree
      have c0 := (hW.cell (p := ⟨b4, 0, none⟩) l4).trans k40
      have c1 := (hW.cell (p := ⟨b4, 1, none⟩) l4).trans k41
      have c2 := (hW.cell (p := ⟨R, 0, none⟩) lR).trans R0
      refine stpK rfl rfl fun K hK => ?_ <;> (go_simp; exact hK _ _ ⟨(by first | rfl | exact hpre | exact hpre.1 | exact hpre.2 | (simp only [hpre]; done)), hW, Below.refl _ _, fun h => (List.not_mem_nil h).elim⟩)
  · intro vs w2 hvs hW1 hap0
    clear hap0
    have e0 : vs 0 = .agg #[.int .i64 (2), .int .i64 (4)] := hvs 0 (by decide)
    have e1 : vs 1 = .slice (some ⟨R, 0, none⟩) (2) (2) := hvs 1 (by decide)
    have e2 : vs 2 = .int .i64 (0) := hvs 2 (by decide)
    have e3 : vs 3 = .pointer (some ⟨R, 0, none⟩) := hvs 3 (by decide)
    have e4 : vs 4 = .slice (some ⟨r0, 0, none⟩) (2) (2) := hvs 4 (by decide)
    have e5 : vs 5 = .int .i64 (1) := hvs 5 (by decide)
    obtain ⟨u6, e6⟩ : ∃ u, vs 6 = u := ⟨_, rfl⟩
    have p6 : RP w1 u6 w2 := by rw [← e6]; exact hvs 6 (by decide)
    obtain ⟨u7, e7⟩ : ∃ u, vs 7 = u := ⟨_, rfl⟩
    have p7 : RP w1 u7 w2 := by rw [← e7]; exact hvs 7 (by decide)
    simp only [puts, Nat.reduceAdd, e0, e1, e2, e3, e4, e5, e6, e7, Act.put, List.setIfInBounds_toArray, List.set_cons_zero, List.set_cons_succ, List.drop_succ_cons, List.drop_zero, List.length_cons, List.length_nil]
    clear hvs e0 e1 e2 e3 e4 e5 e6 e7
    obtain ⟨l, rfl, hF, hl⟩ := p7
    clear p6
    have HW1 : Hid (Below w1.heap.size w1 w2) := hW1
    have HL2 : Hid (FB w2 l (.int .i64 0) (.int .i64 1)) := hF
    have HLL : Hid (w1.heap.size ≤ l) := hl
    have HX2 : Hid (MX w2 B R r0 r1 2 1 0 2) := HX1.out.below hW1
    clear hF hl hW1 l4 k40 k41 z4 z5 lR R0 R1 Rz0 Rz1
    obtain ⟨lR, R0, R1, Rz0, Rz1⟩ := HX2.out.hR
    go_upto_region 3 with fail
    refine wp_world (fun w3 => FB w3 R (.slice (some ⟨l, 0, none⟩) 2 2) (.slice (some ⟨r1, 0, none⟩) 2 2) ∧ FB w3 r1 (.int .i64 0) (.int .i64 2) ∧ FB w3 l (.int .i64 0) (.int .i64 1) ∧ FB w3 b4 (.int .i64 2) (.int .i64 4) ∧ Kept (fun k => k = R ∨ k = r1) w1 w3)
      ⟨HX2.out.hR.set0 _, HX2.out.h1.keep _ (fun e => HX2.out.ne.2.1 e.symm), HL2.out.keep _ (by have := HLL.out; have := HX1.out.hR.lt; omega), (HF1.out.below HW1.out).keep _ (by have := HB4.out; have := HX.out.hR.lt; omega), (Kept.of_below HW1.out).set (b := R) (i := 0) (.inl rfl) _⟩ ?_
    rintro w4 ⟨hR4, h14, hL4, hF4, hK4⟩
    have HR4 : Hid (FB w4 R (.slice (some ⟨l, 0, none⟩) 2 2) (.slice (some ⟨r1, 0, none⟩) 2 2)) := hR4
    have H14 : Hid (FB w4 r1 (.int .i64 0) (.int .i64 2)) := h14
    have HL4 : Hid (FB w4 l (.int .i64 0) (.int .i64 1)) := hL4
    have HK4 : Hid (Kept (fun k => k = R ∨ k = r1) w1 w4) := hK4
    have HNE : Hid (l ≠ r1) := by have := HLL.out; have := HX1.out.h1.lt; show _ ≠ _; omega
    clear hK4 lR R0 R1 Rz0 Rz1 hL4
    obtain ⟨lR, R0, R1, Rz0, Rz1⟩ := hR4
    obtain ⟨l4, k40, k41, z4, z5⟩ := hF4
    obtain ⟨l1, y0, y1, z2, z3⟩ := h14
    go_wp2
    refine wp_loop_rounds 3 ?_
    rw [rounds_succ]
    go_wp2
    rw [rounds_succ]
    go_upto_region 7 with fail
    refine wp_drawn mixed [⟨29, [], [], [4]⟩, ⟨30, [], [], [1]⟩, ⟨31, [], [], [9]⟩, ⟨32, [1, 2], [1, 2], []⟩, ⟨33, [3], [1, 2, 3], []⟩, ⟨34, [], [], [3]⟩, ⟨35, [4, 5], [1, 2, 3, 4, 5], []⟩, ⟨36, [], [], [8]⟩, ⟨37, [], [], [3]⟩, ⟨38, [7, 8], [7, 8], []⟩, ⟨39, [], [], [4]⟩, ⟨40, [], [], [4]⟩, ⟨41, [], [], [1]⟩, ⟨42, [], [], [9]⟩, ⟨43, [12, 13], [12, 13], []⟩, ⟨44, [14], [12, 13, 14], []⟩, ⟨45, [], [], [3]⟩, ⟨46, [15, 16], [12, 13, 14, 15, 16], []⟩, ⟨47, [17], [12, 13, 14, 15, 16, 17], []⟩, ⟨48, [11, 18], [11, 12, 13, 14, 15, 16, 17, 18], []⟩, ⟨49, [10, 19], [10, 11, 12, 13, 14, 15, 16, 17, 18, 19], []⟩] [] (by kernel_rfl) 52 rfl (by kernel_rfl) (fun (i : Nat) (v : Value) (wq : World) => match i with | 0 => v = .agg #[.int .i64 (2), .int .i64 (4)] | 1 => v = .slice (some ⟨R, 0, none⟩) (2) (2) | 2 => v = .int .i64 (1) | 3 => v = .pointer (some ⟨R, 1, none⟩) | 4 => v = .slice (some ⟨r1, 0, none⟩) (2) (2) | 5 => v = .int .i64 (1) | 6 => v = .slice (some ⟨r1, 1, none⟩) (1) (1) | 7 => v = .slice (some ⟨l, 0, none⟩) (2) (2) | 8 => v = .int .i64 (1) | 9 => v = .slice (some ⟨l, 1, none⟩) (1) (1) | 10 => v = .agg #[.int .i64 (2), .int .i64 (4)] | 11 => v = .agg #[.int .i64 (2), .int .i64 (4)] | 12 => v = .slice (some ⟨R, 0, none⟩) (2) (2) | 13 => v = .int .i64 (1) | 14 => v = .pointer (some ⟨R, 1, none⟩) | 15 => v = .slice (some ⟨r1, 0, none⟩) (2) (2) | 16 => v = .int .i64 (1) | 17 => v = .pointer (some ⟨r1, 1, none⟩) | 18 => v = .int .i64 (2) | 19 => v = .int .i64 (0) | 20 => v = .int .i64 (0) | _ => True) (fun _ wq => Below w4.heap.size w4 wq) (fun wx wy => Below wx.heap.size wx wy) (Below.refl _ _).drew (fun i v wx wy h hx => match i, h with | 0, h => h | 1, h => h | 2, h => h | 3, h => h | 4, h => h | 5, h => h | 6, h => h | 7, h => h | 8, h => h | 9, h => h | 10, h => h | 11, h => h | 12, h => h | 13, h => h | 14, h => h | 15, h => h | 16, h => h | 17, h => h | 18, h => h | 19, h => h | 20, h => h  | n + 21, _ => trivial) ?_ ?_
    · intro i o r ho hr L fr wx hW hL hpr hds hdef hpre hfree
      clear hL hpr hds hdef
      match i, ho, hr with
      | 0, ho, hr => ?_
      | 1, ho, hr => ?_
      | 2, ho, hr => ?_
      | 3, ho, hr => ?_
      | 4, ho, hr => ?_
      | 5, ho, hr => ?_
      | 6, ho, hr => ?_
      | 7, ho, hr => ?_
      | 8, ho, hr => ?_
      | 9, ho, hr => ?_
      | 10, ho, hr => ?_
      | 11, ho, hr => ?_
      | 12, ho, hr => ?_
      | 13, ho, hr => ?_
      | 14, ho, hr => ?_
      | 15, ho, hr => ?_
      | 16, ho, hr => ?_
      | 17, ho, hr => ?_
      | 18, ho, hr => ?_
      | 19, ho, hr =>
        obtain rfl := Option.some.inj ho; obtain rfl := Option.some.inj hr
        have e11 := ev_tmp (show fr.eval (.tmp 40) = .agg #[.int .i64 (2), .int .i64 (4)] from hpre 11 (by decide) _ rfl)
        have e18 := ev_tmp (show fr.eval (.tmp 47) = .int .i64 (2) from hpre 18 (by decide) _ rfl)
        clear hpre hfree
        refine stpK rfl rfl fun K hK => ?_
        go_simp
        refine (least2 wx).mono ?_
        rintro e wy ⟨rfl, hb⟩
        exact hK _ _ ⟨rfl, hW.trans (hb.mono hW.size), hb, fun h => (List.not_mem_nil h).elim⟩
      | 20, ho, hr =>
        obtain rfl := Option.some.inj ho; obtain rfl := Option.some.inj hr
        have e10 := ev_tmp (show fr.eval (.tmp 39) = .agg #[.int .i64 (2), .int .i64 (4)] from hpre 10 (by decide) _ rfl)
        have e19 := ev_tmp (show fr.eval (.tmp 48) = .int .i64 (0) from hpre 19 (by decide) _ rfl)
        clear hpre hfree
        refine stpK rfl rfl fun K hK => ?_
        go_simp
        refine (opp0 wx).mono ?_
        rintro e wy ⟨rfl, hb⟩
        exact hK _ _ ⟨rfl, hW.trans (hb.mono hW.size), hb, fun h => (List.not_mem_nil h).elim⟩
      | n + 21, ho, hr => exact absurd hr (by simp)
      all_goals
        obtain rfl := Option.some.inj ho; obtain rfl := Option.some.inj hr
        simp only [List.mem_cons, List.not_mem_nil, or_false, false_imp_iff, implies_true, forall_eq_or_imp, forall_eq, List.getElem?_cons_zero, List.getElem?_cons_succ, Option.some.injEq, forall_eq', evt] at hpre hfree
        have c0 := (hW.cell (p := ⟨b4, 0, none⟩) l4).trans k40
        have c1 := (hW.cell (p := ⟨b4, 1, none⟩) l4).trans k41
        have c2 := (hW.cell (p := ⟨R, 1, none⟩) lR).trans R1
        have c3 := (hW.cell (p := ⟨r1, 1, none⟩) l1).trans y1
        refine stpK rfl rfl fun K hK => ?_ <;> (go_simp; exact hK _ _ ⟨rfl, hW, Below.refl _ _, fun h => (List.not_mem_nil h).elim⟩)
    · intro vs w5 hvs hW1 hap0
      clear hap0
      have e0 : vs 0 = .agg #[.int .i64 (2), .int .i64 (4)] := hvs 0 (by decide)
      have e1 : vs 1 = .slice (some ⟨R, 0, none⟩) (2) (2) := hvs 1 (by decide)
      have e2 : vs 2 = .int .i64 (1) := hvs 2 (by decide)
      have e3 : vs 3 = .pointer (some ⟨R, 1, none⟩) := hvs 3 (by decide)
      have e4 : vs 4 = .slice (some ⟨r1, 0, none⟩) (2) (2) := hvs 4 (by decide)
      have e5 : vs 5 = .int .i64 (1) := hvs 5 (by decide)
      have e6 : vs 6 = .slice (some ⟨r1, 1, none⟩) (1) (1) := hvs 6 (by decide)
      have e7 : vs 7 = .slice (some ⟨l, 0, none⟩) (2) (2) := hvs 7 (by decide)
      have e8 : vs 8 = .int .i64 (1) := hvs 8 (by decide)
      have e9 : vs 9 = .slice (some ⟨l, 1, none⟩) (1) (1) := hvs 9 (by decide)
      have e10 : vs 10 = .agg #[.int .i64 (2), .int .i64 (4)] := hvs 10 (by decide)
      have e11 : vs 11 = .agg #[.int .i64 (2), .int .i64 (4)] := hvs 11 (by decide)
      have e12 : vs 12 = .slice (some ⟨R, 0, none⟩) (2) (2) := hvs 12 (by decide)
      have e13 : vs 13 = .int .i64 (1) := hvs 13 (by decide)
      have e14 : vs 14 = .pointer (some ⟨R, 1, none⟩) := hvs 14 (by decide)
      have e15 : vs 15 = .slice (some ⟨r1, 0, none⟩) (2) (2) := hvs 15 (by decide)
      have e16 : vs 16 = .int .i64 (1) := hvs 16 (by decide)
      have e17 : vs 17 = .pointer (some ⟨r1, 1, none⟩) := hvs 17 (by decide)
      have e18 : vs 18 = .int .i64 (2) := hvs 18 (by decide)
      have e19 : vs 19 = .int .i64 (0) := hvs 19 (by decide)
      have e20 : vs 20 = .int .i64 (0) := hvs 20 (by decide)
      simp only [puts, Nat.reduceAdd, e0, e1, e2, e3, e4, e5, e6, e7, e8, e9, e10, e11, e12, e13, e14, e15, e16, e17, e18, e19, e20, Act.put, List.setIfInBounds_toArray, List.set_cons_zero, List.set_cons_succ, List.drop_succ_cons, List.drop_zero, List.length_cons, List.length_nil]
      clear hvs e0 e1 e2 e3 e4 e5 e6 e7 e8 e9 e10 e11 e12 e13 e14 e15 e16 e17 e18 e19 e20
      have HK5 : Hid (Kept (fun k => k = R ∨ k = r1) w1 w5) := HK4.out.trans (.of_below hW1)
      have H15 : Hid (FB w5 r1 (.int .i64 0) (.int .i64 2)) := H14.out.below hW1
      have HL5 : Hid (FB w5 l (.int .i64 0) (.int .i64 1)) := HL4.out.below hW1
      clear l4 k40 k41 z4 z5 lR R0 R1 Rz0 Rz1 l1 y0 y1 z2 z3 hW1
      go_wp2_with (go_at_call 57; fail)
      refine (gather_any w5 2 4 0 (some ⟨r1, 1, none⟩) (some ⟨l, 1, none⟩) r1 1 1 1 l 1 1 1 (fun _ => 2) (fun _ => 1) (fun _ => rfl) (fun _ => rfl) (by decide) (by decide) H15.out.lt (fun i hi => by
        obtain rfl : i = 0 := by omega
        exact H15.out.c1) (fun i hi => by
        obtain rfl : i = 0 := by omega
        exact H15.out.f1) (fun i hi => by
        obtain rfl : i = 0 := by omega
        exact HL5.out.c1) (fun _ => HNE.out.symm) (by decide) (by decide) (fun _ _ => by decide) (fun _ _ => by decide)).mono ?_
      rintro e w6 ⟨rfl, hC6, -⟩
      have HK6 : Hid (Kept (fun k => k = R ∨ k = r1) w1 w6) := HK5.out.trans ((Kept.of_chg hC6).mono fun k hk => .inr hk)
      clear hC6
      go_wp2
      rw [rounds_succ]
      go_wp2
      go_end0
      exact .mk rfl ((Kept.of_below HB1.out).trans HK6.out)
end Go.Proofs.YtffdemplaodbcaaDoor
