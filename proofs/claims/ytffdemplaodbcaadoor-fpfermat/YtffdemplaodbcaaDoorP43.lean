/- A part of the proof: MH. -/
import Derived.Test.YtffdemplaodbcaaDoorP42
set_option linter.all false
namespace Go.Proofs.YtffdemplaodbcaaDoor
open Go Go.Proofs Go.RowKit Go.Rad
open _root_.Rad (CR Prm)

theorem meas_upN {k n : Nat} (h : k < n) : n - (Lib.intOf (.int .i64 ((k : Int) + 1))).toNat < n - (Lib.intOf (.int .i64 (k : Int))).toNat := by simp only [Lib.intOf]; omega
set_option maxRecDepth 20000 in
set_option maxHeartbeats 4000000 in
/-- The law, where Irreducible answers as it should. -/
theorem fpFermat_of (hIr : ∀ (w : World) (v : Value) (xs : List Int) (p : Int), IL w v xs → TabB w → (∀ a k c, v = .slice a k c → k ≤ c) → Calls Tryd.prog 22 #[v, .int .i64 p] w fun e w' => IrPost w p xs e w')
    (w : World) (v : Value) (xs : List Int) (n p : Int) (h1 : IL w v xs) (ht : TabB w) (hcap : ∀ a k c, v = .slice a k c → k ≤ c) :
    Calls Tryd.prog 7 #[v, .int .i64 n, .int .i64 p] w fun e w' => e = .returned (.bool true) ∧ Below w.heap.size w w' := by
  have CI := hIr w v xs p h1 ht hcap
  have HBS0 : Hid (IL w v xs ∧ TabB w ∧ ∀ a k c, v = .slice a k c → k ≤ c) := ⟨h1, ht, hcap⟩
  clear h1 ht hcap hIr
  go_enter Tryd.func7, Tryd.ntmps7
  go_wp2_with (go_at_call 22; fail)
  refine CI.mono ?_
  rintro e w3 ⟨b, c, a, rfl, hb3, hI⟩
  have HI : Hid (b = true → IsF p xs ∧ 2 ≤ xs.length ∧ Fer p xs) := hI
  have HB3 : Hid (Below w.heap.size w w3) := hb3
  clear hb3 hI CI
  go_upto_region 2 with fail
  refine wp_world (fun w4 => FB w4 w3.heap.size (.int .i64 c) (.int .i64 a) ∧ Below w.heap.size w w4) ⟨FB.mk0 w3 _ _ _, HB3.out.alloc HB3.out.size _⟩ ?_
  rintro w4 ⟨hF4, hB4⟩
  obtain ⟨b8, hb8⟩ : ∃ x, x = w3.heap.size := ⟨_, rfl⟩
  rw [← hb8] at hF4 ⊢
  have HG : Hid (w.heap.size ≤ b8) := by have := HB3.out.size; show _ ≤ _; omega
  have HF4 : Hid (FB w4 b8 (.int .i64 c) (.int .i64 a)) := hF4
  have HB4 : Hid (Below w.heap.size w w4) := hB4
  clear hb8 hF4 hB4
  go_wp2_with (go_at_call 12; fail)
  refine (begun_any w4 (HBS0.out.2.1.below HB4.out)).mono ?_
  rintro e w5 ⟨rfl, hb5⟩
  have HF5 : Hid (FB w5 b8 (.int .i64 c) (.int .i64 a)) := HF4.out.below hb5
  have HB5 : Hid (Below w.heap.size w w5) := HB4.out.trans (hb5.mono HB4.out.size)
  clear hb5
  obtain ⟨l8, d0, d1, z0, z1⟩ := HF5.out
  by_cases hc : c = 0
  · by_cases hn1 : n < 1
    · subst hc
      go_wp2
      refine bodyPost_ret (v := .bool true) (by simp [results, go_sem, loadVar]) rfl ?_
      exact ⟨rfl, HB5.out⟩
    · by_cases hn2 : 64 < n
      · subst hc
        go_wp2
        refine bodyPost_ret (v := .bool true) (by simp [results, go_sem, loadVar]) rfl ?_
        exact ⟨rfl, HB5.out⟩
      · subst hc
        cases b with
        | false =>
          go_wp2
          refine bodyPost_ret (v := .bool true) (by simp [results, go_sem, loadVar]) rfl ?_
          exact ⟨rfl, HB5.out⟩
        | true =>
          by_cases hn3 : 12 < n
          · go_wp2
            refine bodyPost_ret (v := .bool true) (by simp [results, go_sem, loadVar]) rfl ?_
            exact ⟨rfl, HB5.out⟩
          · have HX : Hid (IsF p xs ∧ 2 ≤ xs.length ∧ Fer p xs) := HI.out rfl
            obtain ⟨N, hN⟩ : ∃ N : Nat, n = N := ⟨n.toNat, by omega⟩
            subst hN
            have hNb : N ≤ 12 ∧ 0 < N := by omega
            have HPP : Hid (1 < p ∧ p < 2147483648) := by
              obtain ⟨P, h1, h2, h3⟩ := HX.out.1.pr
              have := h2.1
              show _ ∧ _
              omega
            have HLX : Hid (xs.length ≤ 65) := HX.out.1.len
            clear hn2 l8 d0 d1 z0 z1
            have HIX : Hid (IL (w5.alloc (Obj.cells #[Value.int IntKind.i64 0, Value.int IntKind.i64 1] 3)) (.slice (some ⟨w5.heap.size, 0, none⟩) 2 2) [0, 1]) :=
              ⟨_, w5.heap.size, 0, 2, 2, rfl, rfl, fun _ => rfl, fun i hi => by
                match i, hi with
                | 0, _ => simp [go_sem]
                | 1, _ => simp [go_sem], by decide⟩
            have C1 := rPower_any (w5.alloc (Obj.cells #[Value.int IntKind.i64 0, Value.int IntKind.i64 1] 3)) (.slice (some ⟨w5.heap.size, 0, none⟩) 2 2) v [0, 1] xs 1 p HIX.out ((HBS0.out.1.below HB5.out).below (bel1 _ _)) ((HBS0.out.2.1.below HB5.out).below (bel1 _ _)) HBS0.out.2.2 (by decide)
            obtain ⟨l8, d0, d1, z0, z1⟩ := HF5.out
            go_wp2_with (go_at_call 11; fail)
            refine C1.mono ?_
            rintro e w6 ⟨u6, he, hb6, -, ho6⟩
            obtain ⟨hp1, hp2⟩ := pow_ok (isF_x HX.out.1.pr) HX.out.1 (show (0 : Int) ≤ 1 by decide) (by have := HX.out.2.1; omega)
            rw [hp1, hp2] at he
            subst he
            obtain ⟨y, hy, hr⟩ := ho6 hp1
            have hl8 := HF5.out.lt
            have HY : Hid (SR w6 (b8 + 1) u6 y) := hy.mono (by simp; omega)
            have HXY : Hid (XP p xs 0 y) := XP.start hr
            have HB6 : Hid (Below w.heap.size w w6) := HB5.out.trans (((bel1 w5 _).trans (hb6.mono (by simp))).mono HB5.out.size)
            have HF6 : Hid (FB w6 b8 (.int .i64 0) (.int .i64 a)) := HF5.out.below ((bel1 w5 _).trans (hb6.mono (by simp)))
            clear hp1 hp2 hy hr ho6 hb6 C1 l8 d0 d1 z0 z1 hl8
            obtain ⟨l8, d0, d1, z0, z1⟩ := HF6.out
            go_upto_region 9 with fail
            refine wp_world (fun w7 => FB w7 b8 (.int .i64 0) (.int .i64 0) ∧ SR w7 (b8 + 1) u6 y ∧ Below w.heap.size w w7) ⟨HF6.out.set _ _, HY.out.set2 (Nat.lt_succ_self _) _ _, below_set2 HB6.out HG.out _ _⟩ ?_
            rintro w7 ⟨hF7, hY7, hB7⟩
            have HF7 : Hid (FB w7 b8 (.int .i64 0) (.int .i64 0)) := hF7
            have HY7 : Hid (SR w7 (b8 + 1) u6 y) := hY7
            have HB7 : Hid (Below w.heap.size w w7) := hB7
            clear hF7 hY7 hB7 l8 d0 d1 z0 z1 HF6 HY HB6 HF5 HB5 HIX HF4 HB4 HB3
            go_wp2
            go_loopw [10, 11] (fun o i wr => ∃ (k : Nat) (z : List Int), i = .int .i64 k ∧ k ≤ N ∧ SR wr (b8 + 1) o z ∧ XP p xs k z ∧ SR wr (b8 + 1) u6 y ∧ FB wr b8 (.int .i64 0) (.int .i64 0) ∧ Below w.heap.size w wr) (fun _ i _ => N - (Lib.intOf i).toNat)
            case atStart => exact ⟨0, y, rfl, by omega, HY7.out, HXY.out, HY7.out, HF7.out, HB7.out⟩
            case round =>
              obtain ⟨k, z, rfl, hkN, hz, hX, hy, hF, hB⟩ := hrel
              have HZr : Hid (SR wr (b8 + 1) u10 z) := hz
              have HXr : Hid (XP p xs k z) := hX
              have HYr : Hid (SR wr (b8 + 1) u6 y) := hy
              have HFr : Hid (FB wr b8 (.int .i64 0) (.int .i64 0)) := hF
              have HBr : Hid (Below w.heap.size w wr) := hB
              clear hz hX hy hF hB
              obtain ⟨l8, d0, d1, z0, z1⟩ := HFr.out
              by_cases hk : k < N
              · have hki : (k : Int) < (N : Int) := by omega
                have CP := rPower_any wr u10 v z xs p p (HZr.out.il (by have := HXr.out.len; have := HLX.out; omega)) (HBS0.out.1.below HBr.out) (HBS0.out.2.1.below HBr.out) HBS0.out.2.2 (by have := HPP.out; omega)
                go_wp2_with (go_at_call 11; fail)
                refine CP.mono ?_
                rintro e w8 ⟨u8, he, hb8', -, ho8⟩
                obtain ⟨hp1, hp2⟩ := pow_ok (HXr.out.isF HX.out.1) HX.out.1 (show (0 : Int) ≤ p by have := HPP.out; omega) (by have := HX.out.2.1; omega)
                rw [hp1, hp2] at he
                subst he
                obtain ⟨z2, hz2, hr2⟩ := ho8 hp1
                have hF8 : FB w8 b8 (.int .i64 0) (.int .i64 0) := HFr.out.below hb8'
                have HREL : Hid (∃ (k₁ : Nat) (z : List Int), Value.int .i64 ((k : Int) + 1) = .int .i64 k₁ ∧ k₁ ≤ N ∧ SR ((w8.setCell ⟨b8, 0, none⟩ (.int .i64 0)).setCell ⟨b8, 1, none⟩ (.int .i64 0)) (b8 + 1) u8 z ∧ XP p xs k₁ z ∧ SR ((w8.setCell ⟨b8, 0, none⟩ (.int .i64 0)).setCell ⟨b8, 1, none⟩ (.int .i64 0)) (b8 + 1) u6 y ∧ FB ((w8.setCell ⟨b8, 0, none⟩ (.int .i64 0)).setCell ⟨b8, 1, none⟩ (.int .i64 0)) b8 (.int .i64 0) (.int .i64 0) ∧ Below w.heap.size w ((w8.setCell ⟨b8, 0, none⟩ (.int .i64 0)).setCell ⟨b8, 1, none⟩ (.int .i64 0))) :=
                  ⟨k + 1, z2, congrArg (Value.int .i64) (Int.natCast_add k 1).symm, hk, (hz2.mono HFr.out.lt).set2 (Nat.lt_succ_self _) _ _, HXr.out.step hr2, (HYr.out.below hb8').set2 (Nat.lt_succ_self _) _ _, hF8.set _ _, below_set2 (HBr.out.trans (hb8'.mono HBr.out.size)) HG.out _ _⟩
                have hw4 : wrap64 ((k : Int) + 1) = (k : Int) + 1 := wrap_in (by omega) (by omega)
                clear hp1 hp2 hz2 hr2 ho8 hb8' CP l8 d0 d1 z0 z1
                obtain ⟨l8, d0, d1, z0, z1⟩ := hF8
                go_wp2
                try rw [hw4]
                exact ⟨HREL.out, meas_upN hk⟩
              · obtain rfl : k = N := by omega
                have hki : ¬ ((k : Int) < (k : Int)) := by omega
                obtain ⟨a0, b0, o0, LN, c0, rfl, hL, -⟩ := HBS0.out.1
                obtain ⟨D, hD⟩ : ∃ D, D = LN - 1 := ⟨_, rfl⟩
                have hL2 := HX.out.2.1
                have hL65 := HLX.out
                have hDb : 0 < D ∧ D < 65 := by omega
                have hLD : (LN : Int) - 1 = (D : Int) := by omega
                obtain ⟨r0, hr0⟩ : ∃ r0 : Bool, r0 = decide (k % D = 0) := ⟨_, rfl⟩
                have CS : ∀ wx, Below wr.heap.size wr wx → Calls Tryd.prog 14 #[u10, u6] wx fun e w' => e = .returned (.bool r0) ∧ Below wx.heap.size wx w' := fun wx hbx => by
                  refine (same_any wx u10 u6 z y (HZr.out.below hbx).view (HYr.out.below hbx).view (by have := HXr.out.len; omega) (by have := HXY.out.len; omega)).mono ?_
                  rintro e w' ⟨r, rfl, hr, hb⟩
                  refine ⟨?_, hb⟩
                  have h9 := XP.same HX.out.1 HX.out.2.1 HX.out.2.2 HXr.out HXY.out
                  rw [hL, ← hD] at h9
                  have h8 : r = r0 := by
                    rw [hr0]
                    by_cases h7 : k % D = 0
                    · rw [hr.2 (h9.2 h7)]; simp [h7]
                    · cases r with
                      | true => exact absurd (h9.1 (hr.1 rfl)) h7
                      | false => simp [h7]
                  rw [h8]
                have hwd : IntKind.i64.wrap ((LN : Int) - 1) = (D : Int) := by rw [hLD, IntKind.wrap_i64]; omega
                have hwD : IntKind.i64.wrap (D : Int) = (D : Int) := by rw [IntKind.wrap_i64]; omega
                obtain ⟨T, hT⟩ : ∃ T, T = k % D := ⟨_, rfl⟩
                have hTD : T < D := by rw [hT]; exact Nat.mod_lt _ hDb.1
                have hrem : Int.tmod (k : Int) (D : Int) = (T : Int) := by rw [hT]; rfl
                have hr1 : r0 = ((T : Int) == 0) := by
                  rw [hr0, ← hT]
                  by_cases h7 : T = 0
                  · simp [h7]
                  · have h6 : ¬ ((T : Int) = 0) := by omega
                    simp [h7, h6]
                have hD0 : ¬ (D : Int) = 0 := by omega
                have hD0n : ¬ D = 0 := by omega
                have hwt : IntKind.i64.wrap (T : Int) = (T : Int) := by rw [IntKind.wrap_i64]; omega
                clear hL hD hL2 hL65 hr0 hT
                go_upto_region 14 with fail
                refine wp_drawn mixed [⟨63, [], [], [8]⟩, ⟨64, [0], [0], []⟩, ⟨65, [1], [0, 1], []⟩, ⟨66, [2], [0, 1, 2], []⟩, ⟨67, [3], [0, 1, 2, 3], [10]⟩, ⟨68, [3], [0, 1, 2, 3], [9]⟩, ⟨69, [3, 4, 5], [0, 1, 2, 3, 4, 5], []⟩, ⟨70, [3], [0, 1, 2, 3], [1]⟩, ⟨71, [3], [0, 1, 2, 3], [0]⟩, ⟨72, [3, 8], [0, 1, 2, 3, 8], []⟩, ⟨73, [3, 9], [0, 1, 2, 3, 8, 9], []⟩, ⟨74, [3, 7, 10], [0, 1, 2, 3, 7, 8, 9, 10], []⟩, ⟨75, [3, 11], [0, 1, 2, 3, 7, 8, 9, 10, 11], []⟩, ⟨76, [3, 6, 12], [0, 1, 2, 3, 4, 5, 6, 7, 8, 9, 10, 11, 12], []⟩] [] (by kernel_rfl) 78 rfl (by kernel_rfl) (fun (i : Nat) (v : Value) (wq : World) => match i with | 0 => v = .pointer (some ⟨b8, 0, none⟩) | 1 => v = .int .i64 (0) | 2 => v = .bool (true) | 3 => v = .bool (true) | 4 => v = u10 | 5 => v = u6 | 6 => v = .bool (r0) | 7 => v = .int .i64 ((k : Int)) | 8 => v = .slice a0 (LN) (c0) | 9 => v = .int .i64 ((LN : Int)) | 10 => v = .int .i64 ((D : Int)) | 11 => v = .int .i64 ((T : Int)) | 12 => v = .bool (((T : Int) == 0)) | 13 => v = .bool (true) | _ => True) (fun _ wq => Below wr.heap.size wr wq) (fun wx wy => Below wx.heap.size wx wy) (Below.refl _ _).drew (fun i v wx wy h hx => match i, h with | 0, h => h | 1, h => h | 2, h => h | 3, h => h | 4, h => h | 5, h => h | 6, h => h | 7, h => h | 8, h => h | 9, h => h | 10, h => h | 11, h => h | 12, h => h | 13, h => h  | n + 14, _ => trivial) ?_ ?_
                · intro i o r ho hr L fr wx hW hL hpr hds hdef hpre hfree
                  clear hL hpr hds hdef
                  match i, ho, hr with
                  | 0, ho, hr => ?_
                  | 1, ho, hr => ?_
                  | 2, ho, hr => ?_
                  | 3, ho, hr => ?_
                  | 4, ho, hr => ?_
                  | 5, ho, hr => ?_
                  | 6, ho, hr =>
                    obtain rfl := Option.some.inj ho; obtain rfl := Option.some.inj hr
                    have e3 := ev_tmp (show fr.eval (.tmp 66) = .bool (true) from hpre 3 (by decide) _ rfl)
                    have e4 := ev_tmp (show fr.eval (.tmp 67) = u10 from hpre 4 (by decide) _ rfl)
                    have e5 := ev_tmp (show fr.eval (.tmp 68) = u6 from hpre 5 (by decide) _ rfl)
                    clear hpre hfree
                    refine stpK_g rfl rfl e3 rfl fun K hK => ?_
                    go_simp
                    refine (CS wx hW).mono ?_
                    rintro e wy ⟨rfl, hb⟩
                    exact hK _ _ ⟨rfl, hW.trans (hb.mono hW.size), hb, fun h => (List.not_mem_nil h).elim⟩
                  | 7, ho, hr => ?_
                  | 8, ho, hr => ?_
                  | 9, ho, hr => ?_
                  | 10, ho, hr =>
                    obtain rfl := Option.some.inj ho; obtain rfl := Option.some.inj hr
                    have e3 := ev_tmp (show fr.eval (.tmp 66) = .bool (true) from hpre 3 (by decide) _ rfl)
                    have e9 := ev_tmp (show fr.eval (.tmp 72) = .int .i64 ((LN : Int)) from hpre 9 (by decide) _ rfl)
                    clear hpre hfree
                    refine stpK_g rfl rfl e3 rfl fun K hK => ?_
                    go_simp
                    exact hK _ _ ⟨(by first | (show Value.int _ (IntKind.i64.wrap _) = _; rw [hwD]) | (show Value.int _ (IntKind.i64.wrap _) = _; rw [hwd]) | rfl), hW, Below.refl _ _, fun h => (List.not_mem_nil h).elim⟩
                  | 11, ho, hr => ?_
                  | 12, ho, hr => ?_
                  | 13, ho, hr => ?_
                  | n + 14, ho, hr => exact absurd hr (by simp)
                  all_goals
                    obtain rfl := Option.some.inj ho; obtain rfl := Option.some.inj hr
                    simp only [List.mem_cons, List.not_mem_nil, or_false, false_imp_iff, implies_true, forall_eq_or_imp, forall_eq, List.getElem?_cons_zero, List.getElem?_cons_succ, Option.some.injEq, forall_eq', evt] at hpre hfree
                    have c0 := (hW.cell (p := ⟨b8, 0, none⟩) l8).trans d0
                    (first | refine stpK rfl rfl fun K hK => ?_ | refine stpK_g rfl rfl (by simp only [hpre]) rfl fun K hK => ?_) <;> (go_simp; exact hK _ _ ⟨(by first | rfl | exact (by first | rfl | (show Value.int _ _ = _; rw [hrem, hwt]) | (show Value.int _ _ = _; rw [hrem])) | exact (by first | rfl | (show Value.bool _ = _; rw [hr1]; simp))), hW, Below.refl _ _, fun h => (List.not_mem_nil h).elim⟩)
                · intro vs w9 hvs hW1 hap0
                  clear hap0
                  have e0 : vs 0 = .pointer (some ⟨b8, 0, none⟩) := hvs 0 (by decide)
                  have e1 : vs 1 = .int .i64 (0) := hvs 1 (by decide)
                  have e2 : vs 2 = .bool (true) := hvs 2 (by decide)
                  have e3 : vs 3 = .bool (true) := hvs 3 (by decide)
                  have e4 : vs 4 = u10 := hvs 4 (by decide)
                  have e5 : vs 5 = u6 := hvs 5 (by decide)
                  have e6 : vs 6 = .bool (r0) := hvs 6 (by decide)
                  have e7 : vs 7 = .int .i64 ((k : Int)) := hvs 7 (by decide)
                  have e8 : vs 8 = .slice a0 (LN) (c0) := hvs 8 (by decide)
                  have e9 : vs 9 = .int .i64 ((LN : Int)) := hvs 9 (by decide)
                  have e10 : vs 10 = .int .i64 ((D : Int)) := hvs 10 (by decide)
                  have e11 : vs 11 = .int .i64 ((T : Int)) := hvs 11 (by decide)
                  have e12 : vs 12 = .bool (((T : Int) == 0)) := hvs 12 (by decide)
                  have e13 : vs 13 = .bool (true) := hvs 13 (by decide)
                  simp only [puts, Nat.reduceAdd, e0, e1, e2, e3, e4, e5, e6, e7, e8, e9, e10, e11, e12, e13, Act.put, List.setIfInBounds_toArray, List.set_cons_zero, List.set_cons_succ, List.drop_succ_cons, List.drop_zero, List.length_cons, List.length_nil]
                  clear hvs e0 e1 e2 e3 e4 e5 e6 e7 e8 e9 e10 e11 e12 e13
                  have HB9 : Hid (Below w.heap.size w w9) := HBr.out.trans (hW1.mono HBr.out.size)
                  clear hW1 l8 d0 d1 z0 z1 CS
                  go_wp2
                  refine bodyPost_ret (v := .bool true) (by simp [results, go_sem, loadVar]) rfl ?_
                  exact ⟨rfl, HB9.out⟩
  · have h0b : (c != 0) = true := by simpa using hc
    go_wp2
    refine bodyPost_ret (v := .bool true) (by simp [results, go_sem, loadVar]) rfl ?_
    exact ⟨rfl, HB5.out⟩
end Go.Proofs.YtffdemplaodbcaaDoor
