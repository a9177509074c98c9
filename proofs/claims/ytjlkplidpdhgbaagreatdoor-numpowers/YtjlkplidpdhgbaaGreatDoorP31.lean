/- A part of the proof: R11. -/
import Derived.Test.YtjlkplidpdhgbaaGreatDoorP30
set_option linter.all false

namespace Go.Proofs.YtjlkplidpdhgbaaGreatDoor
open Go Go.Proofs Go.RowKit Go.Rad


theorem below_setSame {base : Nat} {w0 w : World} (h : Below base w0 w) : Below base w0 w := h
set_option maxRecDepth 10000 in
set_option maxHeartbeats 4000000 in
theorem zAdd_any (w : World) (vx vy : Value) (x y : Int) (LX : Nat) (hx : IsZ w vx x) (hy : IsZ w vy y) (hbx : x.natAbs < 10000 ^ LX) (hby : y.natAbs < 10000 ^ LX) (hL : LX ≤ 1073741824) :
    Calls Tryz.prog 23 #[vx, vy] w fun e w' => ∃ v, e = .returned v ∧ Below w.heap.size w w' ∧ IsZ w' v (x + y) := by
  obtain ⟨sx, a, n, c, rfl⟩ := hx.form
  obtain ⟨sy, b, m, d, rfl⟩ := hy.form
  obtain ⟨hsx, hdx⟩ := hx.dg
  obtain ⟨hsy, hdy⟩ := hy.dg
  have hn1 : n ≤ 1073741824 := Nat.le_trans (hdx.len_le hbx) hL
  have hm1 : m ≤ 1073741824 := Nat.le_trans (hdy.len_le hby) hL
  have zx := hdx.zero_iff
  have zy := hdy.zero_iff
  clear hbx hby
  have hX : ∀ w1, Below w.heap.size w w1 → Dg w1 (.slice a n c) x.natAbs n := fun w1 h => hdx.below h
  have hY : ∀ w1, Below w.heap.size w w1 → Dg w1 (.slice b m d) y.natAbs m := fun w1 h => hdy.below h
  by_cases hx0 : n = 0
  · have hr : x + y = y := by omega
    rw [hr]
    have hI : Hid (∀ w1, Below w.heap.size w w1 → IsZ w1 (.agg #[.bool sy, .slice b m d]) y) := fun w1 h => hy.below h
    have c1 : (n : Int) = 0 := by omega
    clear hx hy hdx hdy hX hY hsx hsy hr zx zy
    go_enter Tryz.func23, Tryz.ntmps23
    go_wp2
    refine bodyPost_ret (v := .agg #[.bool sy, .slice b m d]) (by simp [results, go_sem, loadVar, World.cell?_setCell_same, *]) rfl ?_
    exact ⟨_, rfl, bel3 _ _ _ _, hI.out _ (bel3 _ _ _ _)⟩
  · have c1 : ¬ (n : Int) = 0 := by omega
    by_cases hy0 : m = 0
    · have hr : x + y = x := by omega
      rw [hr]
      have hI : Hid (∀ w1, Below w.heap.size w w1 → IsZ w1 (.agg #[.bool sx, .slice a n c]) x) := fun w1 h => hx.below h
      have c2 : (m : Int) = 0 := by omega
      clear hx hy hdx hdy hX hY hsx hsy hr zx zy
      go_enter Tryz.func23, Tryz.ntmps23
      go_wp2
      refine bodyPost_ret (v := .agg #[.bool sx, .slice a n c]) (by simp [results, go_sem, loadVar, World.cell?_setCell_same, *]) rfl ?_
      exact ⟨_, rfl, bel3 _ _ _ _, hI.out _ (bel3 _ _ _ _)⟩
    · have c2 : ¬ (m : Int) = 0 := by omega
      by_cases hs : sx = sy
      · have hr : sgn sx (x.natAbs + y.natAbs) = x + y := by
          unfold sgn
          rw [hsx] at hs ⊢
          rw [hsy] at hs
          by_cases hneg : x < 0
          · have : y < 0 := by simpa [hneg] using hs
            rw [decide_eq_true hneg, if_pos rfl]; omega
          · have : ¬ y < 0 := by simpa [hneg] using hs
            rw [decide_eq_false hneg, if_neg (by simp)]; omega
        have HR : Hid _ := hr
        subst hs
        clear hx hy hdx hdy hsx hsy hr zx zy
        go_enter Tryz.func23, Tryz.ntmps23
        go_wp2
        refine wp_world (fun w1 => Below w.heap.size w w1 ∧ w.heap.size + 2 < w1.heap.size ∧ w1.cell? ⟨w.heap.size, 0, none⟩ = some (.bool sx) ∧ w1.cell? ⟨w.heap.size, 1, none⟩ = some (.slice a n c) ∧ w1.cell? ⟨w.heap.size + 1, 0, none⟩ = some (.bool sx) ∧ w1.cell? ⟨w.heap.size + 1, 1, none⟩ = some (.slice b m d) ∧ w1.cell? ⟨w.heap.size + 2, 0, none⟩ = some (.bool false) ∧ w1.cell? ⟨w.heap.size + 2, 1, none⟩ = some (.slice none 0 0) ∧ w1.frozen? ⟨w.heap.size + 2, 0, none⟩ = false ∧ w1.frozen? ⟨w.heap.size + 2, 1, none⟩ = false) ⟨bel3 _ _ _ _, by simp, by simp [go_sem], by simp [go_sem], by simp [go_sem], by simp [go_sem], by simp [go_sem], by simp [go_sem], by simp [go_sem], by simp [go_sem]⟩ ?_
        rintro w1 ⟨hB1, hl, k00, k01, k10, k11, r0, r1, f0, f1⟩
        have lt0 : w.heap.size < w1.heap.size := by omega
        have lt1 : w.heap.size + 1 < w1.heap.size := by omega

        refine wp_drawn mixed [⟨20, [], [], [2]⟩, ⟨21, [0], [0], []⟩, ⟨22, [], [], [2]⟩, ⟨23, [2], [2], []⟩, ⟨24, [], [], [3]⟩, ⟨25, [4], [4], []⟩, ⟨26, [3, 5], [2, 3, 4, 5], []⟩, ⟨27, [1, 6], [0, 1, 2, 3, 4, 5, 6], []⟩] [] (by kernel_rfl) 50 rfl (by kernel_rfl) (fun (i : Nat) (v : Value) (wq : World) => match i with | 0 => v = .pointer (some ⟨w.heap.size, 0, none⟩) | 1 => v = .bool (sx) | 2 => v = .pointer (some ⟨w.heap.size, 1, none⟩) | 3 => v = .slice a (n) (c) | 4 => v = .pointer (some ⟨w.heap.size + 1, 1, none⟩) | 5 => v = .slice b (m) (d) | 6 => Pl wq v (x.natAbs + y.natAbs) | 7 => IsZ wq v (x + y) | _ => True) (fun _ wq => Below w1.heap.size w1 wq) (fun wx wy => Below wx.heap.size wx wy) (Below.refl _ _).drew (fun i v wx wy h hx => match i, h with | 0, h => h | 1, h => h | 2, h => h | 3, h => h | 4, h => h | 5, h => h | 6, h => (h : Pl _ _ _).below hx | 7, h => (h : IsZ _ _ _).below hx | n + 8, _ => trivial) ?_ ?_
        · intro i o r ho hr L fr wx hW hL hpr hds hdef hpre hfree
          clear hL hpr hds hdef
          match i, ho, hr with
          | 0, ho, hr =>
            obtain rfl := Option.some.inj ho; obtain rfl := Option.some.inj hr
            have t2 := ev_tmp (show fr.eval (.tmp 2) = .pointer (some ⟨w.heap.size, 0, none⟩) from hfree 2 (by decide))
            clear hpre hfree
            refine stpK rfl rfl fun K hK => ?_
            go_simp
            exact hK _ _ ⟨rfl, hW, Below.refl _ _, fun h => (List.not_mem_nil h).elim⟩
          | 1, ho, hr =>
            obtain rfl := Option.some.inj ho; obtain rfl := Option.some.inj hr
            have e0 := ev_tmp (show fr.eval (.tmp 20) = .pointer (some ⟨w.heap.size, 0, none⟩) from hpre 0 (by decide) _ rfl)
            clear hpre hfree
            have c0 := (hW.cell (p := ⟨w.heap.size, 0, none⟩) lt0).trans k00
            refine stpK rfl rfl fun K hK => ?_
            go_simp
            exact hK _ _ ⟨rfl, hW, Below.refl _ _, fun h => (List.not_mem_nil h).elim⟩
          | 2, ho, hr =>
            obtain rfl := Option.some.inj ho; obtain rfl := Option.some.inj hr
            have t2 := ev_tmp (show fr.eval (.tmp 2) = .pointer (some ⟨w.heap.size, 0, none⟩) from hfree 2 (by decide))
            clear hpre hfree
            refine stpK rfl rfl fun K hK => ?_
            go_simp
            exact hK _ _ ⟨rfl, hW, Below.refl _ _, fun h => (List.not_mem_nil h).elim⟩
          | 3, ho, hr =>
            obtain rfl := Option.some.inj ho; obtain rfl := Option.some.inj hr
            have e2 := ev_tmp (show fr.eval (.tmp 22) = .pointer (some ⟨w.heap.size, 1, none⟩) from hpre 2 (by decide) _ rfl)
            clear hpre hfree
            have c0 := (hW.cell (p := ⟨w.heap.size, 1, none⟩) lt0).trans k01
            refine stpK rfl rfl fun K hK => ?_
            go_simp
            exact hK _ _ ⟨rfl, hW, Below.refl _ _, fun h => (List.not_mem_nil h).elim⟩
          | 4, ho, hr =>
            obtain rfl := Option.some.inj ho; obtain rfl := Option.some.inj hr
            have t3 := ev_tmp (show fr.eval (.tmp 3) = .pointer (some ⟨w.heap.size + 1, 0, none⟩) from hfree 3 (by decide))
            clear hpre hfree
            refine stpK rfl rfl fun K hK => ?_
            go_simp
            exact hK _ _ ⟨rfl, hW, Below.refl _ _, fun h => (List.not_mem_nil h).elim⟩
          | 5, ho, hr =>
            obtain rfl := Option.some.inj ho; obtain rfl := Option.some.inj hr
            have e4 := ev_tmp (show fr.eval (.tmp 24) = .pointer (some ⟨w.heap.size + 1, 1, none⟩) from hpre 4 (by decide) _ rfl)
            clear hpre hfree
            have c0 := (hW.cell (p := ⟨w.heap.size + 1, 1, none⟩) lt1).trans k11
            refine stpK rfl rfl fun K hK => ?_
            go_simp
            exact hK _ _ ⟨rfl, hW, Below.refl _ _, fun h => (List.not_mem_nil h).elim⟩
          | 6, ho, hr =>
            obtain rfl := Option.some.inj ho; obtain rfl := Option.some.inj hr
            have e3 := ev_tmp (show fr.eval (.tmp 23) = .slice a (n) (c) from hpre 3 (by decide) _ rfl)
            have e5 := ev_tmp (show fr.eval (.tmp 25) = .slice b (m) (d) from hpre 5 (by decide) _ rfl)
            clear hpre hfree
            refine stpK rfl rfl fun K hK => ?_
            go_simp
            refine (dadd_pl wx _ _ _ _ _ _ (hX wx (hB1.trans (hW.mono hB1.size))) (hY wx (hB1.trans (hW.mono hB1.size))) hn1 hm1).mono ?_
            rintro e wy ⟨v4, rfl, hb, hm4⟩
            exact hK _ _ ⟨hm4, hW.trans (hb.mono hW.size), hb, fun h => (List.not_mem_nil h).elim⟩
          | 7, ho, hr =>
            obtain rfl := Option.some.inj ho; obtain rfl := Option.some.inj hr
            have e1 := ev_tmp (show fr.eval (.tmp 21) = .bool (sx) from hpre 1 (by decide) _ rfl)
            obtain ⟨u6, q6⟩ : ∃ u, fr.eval (.tmp 26) = u := ⟨_, rfl⟩
            have p6 : Pl wx u6 (x.natAbs + y.natAbs) := by rw [← q6]; exact hpre 6 (by decide) _ rfl
            have e6 := ev_tmp q6; clear q6
            clear hpre hfree
            refine stpK rfl rfl fun K hK => ?_
            go_simp
            refine (zmade_pl wx sx _ _ p6).mono ?_
            rintro e wy ⟨v5, rfl, hb, hm5⟩
            exact hK _ _ ⟨by rw [HR.out] at hm5; exact hm5, hW.trans (hb.mono hW.size), hb, fun h => (List.not_mem_nil h).elim⟩
          | n + 8, ho, hr => exact absurd hr (by simp)
        · intro vs wn hvs hW1 hap0
          clear hap0
          have e0 : vs 0 = .pointer (some ⟨w.heap.size, 0, none⟩) := hvs 0 (by decide)
          have e1 : vs 1 = .bool (sx) := hvs 1 (by decide)
          have e2 : vs 2 = .pointer (some ⟨w.heap.size, 1, none⟩) := hvs 2 (by decide)
          have e3 : vs 3 = .slice a (n) (c) := hvs 3 (by decide)
          have e4 : vs 4 = .pointer (some ⟨w.heap.size + 1, 1, none⟩) := hvs 4 (by decide)
          have e5 : vs 5 = .slice b (m) (d) := hvs 5 (by decide)
          obtain ⟨u6, e6⟩ : ∃ u, vs 6 = u := ⟨_, rfl⟩
          have p6 : Pl wn u6 (x.natAbs + y.natAbs) := by rw [← e6]; exact hvs 6 (by decide)
          obtain ⟨u7, e7⟩ : ∃ u, vs 7 = u := ⟨_, rfl⟩
          have p7 : IsZ wn u7 (x + y) := by rw [← e7]; exact hvs 7 (by decide)
          simp only [puts, Nat.reduceAdd, e0, e1, e2, e3, e4, e5, e6, e7, Act.put, List.setIfInBounds_toArray, List.set_cons_zero, List.set_cons_succ, List.drop_succ_cons, List.drop_zero, List.length_cons, List.length_nil]
          clear hvs e0 e1 e2 e3 e4 e5 e6 e7
          replace k00 := (hW1.cell (p := ⟨w.heap.size, 0, none⟩) lt0).trans k00
          replace k01 := (hW1.cell (p := ⟨w.heap.size, 1, none⟩) lt0).trans k01
          replace k10 := (hW1.cell (p := ⟨w.heap.size + 1, 0, none⟩) lt1).trans k10
          replace k11 := (hW1.cell (p := ⟨w.heap.size + 1, 1, none⟩) lt1).trans k11
          replace r0 := (hW1.cell (p := ⟨w.heap.size + 2, 0, none⟩) hl).trans r0
          replace f0 := (hW1.frozen (p := ⟨w.heap.size + 2, 0, none⟩) hl).trans f0
          replace r1 := (hW1.cell (p := ⟨w.heap.size + 2, 1, none⟩) hl).trans r1
          replace f1 := (hW1.frozen (p := ⟨w.heap.size + 2, 1, none⟩) hl).trans f1
          replace lt0 := Nat.lt_of_lt_of_le lt0 hW1.size
          replace lt1 := Nat.lt_of_lt_of_le lt1 hW1.size
          replace hl := Nat.lt_of_lt_of_le hl hW1.size
          replace hB1 := hB1.trans (hW1.mono hB1.size)
          obtain ⟨s5, a5, n5, c5, rfl⟩ := p7.form
          have HE : Hid _ := ((hB1.setCell (p := ⟨w.heap.size + 2, 0, none⟩) (by simp; try omega) (.bool s5)).setCell (p := ⟨w.heap.size + 2, 1, none⟩) (by simp; try omega) (.slice a5 n5 c5))
          have HI : Hid _ := p7.stored (u1 := .bool s5) (u2 := .slice a5 n5 c5) r0 r1 (by intro q; simp) (by intro q; simp)
          clear p7 hB1 hl
          go_wp2
          refine bodyPost_ret (v := .agg #[.bool s5, .slice a5 n5 c5]) (by simp [results, go_sem, loadVar, World.cell?_setCell_same, *]) rfl ?_
          exact ⟨_, rfl, HE.out, HI.out⟩
      · have c3 : (sx == sy) = false := by simpa using hs
        by_cases hge : y.natAbs ≤ x.natAbs
        · have hr : sgn sx (x.natAbs - y.natAbs) = x + y := by
            unfold sgn
            rw [hsx] at hs ⊢
            rw [hsy] at hs
            by_cases hneg : x < 0
            · have : ¬ y < 0 := fun h => hs (by simp [h, hneg])
              rw [decide_eq_true hneg, if_pos rfl]; omega
            · have : y < 0 := by rcases Int.lt_or_le y 0 with h | h; exact h; exact absurd (by simp [hneg, Int.not_lt.2 h]) hs
              rw [decide_eq_false hneg, if_neg (by simp)]; omega
          have HR : Hid _ := hr
          have hcmp : ¬ cmpI (x.natAbs : Int) (y.natAbs : Int) < 0 := by
            unfold cmpI; rw [if_neg (by omega)]; split <;> omega
          have hcmp' : 0 ≤ cmpI (x.natAbs : Int) (y.natAbs : Int) := by omega
          have CC := dcmp_any _ _ _ _ _ _ _ (hX _ (bel3 w (Obj.cells #[Value.bool sx, Value.slice a n c] 31) (Obj.cells #[Value.bool sy, Value.slice b m d] 31) (Obj.cells #[Value.bool false, Value.slice none 0 0] 31))) (hY _ (bel3 w (Obj.cells #[Value.bool sx, Value.slice a n c] 31) (Obj.cells #[Value.bool sy, Value.slice b m d] 31) (Obj.cells #[Value.bool false, Value.slice none 0 0] 31)))
          obtain ⟨cv, hcv⟩ : ∃ cv, cmpI (x.natAbs : Int) (y.natAbs : Int) = cv := ⟨_, rfl⟩
          rw [hcv] at CC hcmp'
          clear hx hy hdx hdy hsx hsy hr zx zy hcmp hcv
          go_enter Tryz.func23, Tryz.ntmps23
          go_wp2_with (go_at_call 80; refine CC.mono ?_; rintro e w5 ⟨rfl, n5, hw5⟩; subst hw5)
          refine wp_world (fun w1 => Below w.heap.size w w1 ∧ w.heap.size + 2 < w1.heap.size ∧ w1.cell? ⟨w.heap.size, 0, none⟩ = some (.bool sx) ∧ w1.cell? ⟨w.heap.size, 1, none⟩ = some (.slice a n c) ∧ w1.cell? ⟨w.heap.size + 1, 0, none⟩ = some (.bool sy) ∧ w1.cell? ⟨w.heap.size + 1, 1, none⟩ = some (.slice b m d) ∧ w1.cell? ⟨w.heap.size + 2, 0, none⟩ = some (.bool false) ∧ w1.cell? ⟨w.heap.size + 2, 1, none⟩ = some (.slice none 0 0) ∧ w1.frozen? ⟨w.heap.size + 2, 0, none⟩ = false ∧ w1.frozen? ⟨w.heap.size + 2, 1, none⟩ = false) ⟨(bel3 _ _ _ _).trans (below_drewN _ _ _), by simp, by simp [go_sem], by simp [go_sem], by simp [go_sem], by simp [go_sem], by simp [go_sem], by simp [go_sem], by simp [go_sem], by simp [go_sem]⟩ ?_
          rintro w1 ⟨hB1, hl, k00, k01, k10, k11, r0, r1, f0, f1⟩
          have lt0 : w.heap.size < w1.heap.size := by omega
          have lt1 : w.heap.size + 1 < w1.heap.size := by omega
          clear CC
          refine wp_drawn mixed [⟨34, [], [], [2]⟩, ⟨35, [0], [0], []⟩, ⟨36, [], [], [2]⟩, ⟨37, [2], [2], []⟩, ⟨38, [], [], [3]⟩, ⟨39, [4], [4], []⟩, ⟨40, [3, 5], [2, 3, 4, 5], []⟩, ⟨41, [1, 6], [0, 1, 2, 3, 4, 5, 6], []⟩] [] (by kernel_rfl) 50 rfl (by kernel_rfl) (fun (i : Nat) (v : Value) (wq : World) => match i with | 0 => v = .pointer (some ⟨w.heap.size, 0, none⟩) | 1 => v = .bool (sx) | 2 => v = .pointer (some ⟨w.heap.size, 1, none⟩) | 3 => v = .slice a (n) (c) | 4 => v = .pointer (some ⟨w.heap.size + 1, 1, none⟩) | 5 => v = .slice b (m) (d) | 6 => Pl wq v (x.natAbs - y.natAbs) | 7 => IsZ wq v (x + y) | _ => True) (fun _ wq => Below w1.heap.size w1 wq) (fun wx wy => Below wx.heap.size wx wy) (Below.refl _ _).drew (fun i v wx wy h hx => match i, h with | 0, h => h | 1, h => h | 2, h => h | 3, h => h | 4, h => h | 5, h => h | 6, h => (h : Pl _ _ _).below hx | 7, h => (h : IsZ _ _ _).below hx | n + 8, _ => trivial) ?_ ?_
          · intro i o r ho hr L fr wx hW hL hpr hds hdef hpre hfree
            clear hL hpr hds hdef
            match i, ho, hr with
            | 0, ho, hr =>
              obtain rfl := Option.some.inj ho; obtain rfl := Option.some.inj hr
              have t2 := ev_tmp (show fr.eval (.tmp 2) = .pointer (some ⟨w.heap.size, 0, none⟩) from hfree 2 (by decide))
              clear hpre hfree
              refine stpK rfl rfl fun K hK => ?_
              go_simp
              exact hK _ _ ⟨rfl, hW, Below.refl _ _, fun h => (List.not_mem_nil h).elim⟩
            | 1, ho, hr =>
              obtain rfl := Option.some.inj ho; obtain rfl := Option.some.inj hr
              have e0 := ev_tmp (show fr.eval (.tmp 34) = .pointer (some ⟨w.heap.size, 0, none⟩) from hpre 0 (by decide) _ rfl)
              clear hpre hfree
              have c0 := (hW.cell (p := ⟨w.heap.size, 0, none⟩) lt0).trans k00
              refine stpK rfl rfl fun K hK => ?_
              go_simp
              exact hK _ _ ⟨rfl, hW, Below.refl _ _, fun h => (List.not_mem_nil h).elim⟩
            | 2, ho, hr =>
              obtain rfl := Option.some.inj ho; obtain rfl := Option.some.inj hr
              have t2 := ev_tmp (show fr.eval (.tmp 2) = .pointer (some ⟨w.heap.size, 0, none⟩) from hfree 2 (by decide))
              clear hpre hfree
              refine stpK rfl rfl fun K hK => ?_
              go_simp
              exact hK _ _ ⟨rfl, hW, Below.refl _ _, fun h => (List.not_mem_nil h).elim⟩
            | 3, ho, hr =>
              obtain rfl := Option.some.inj ho; obtain rfl := Option.some.inj hr
              have e2 := ev_tmp (show fr.eval (.tmp 36) = .pointer (some ⟨w.heap.size, 1, none⟩) from hpre 2 (by decide) _ rfl)
              clear hpre hfree
              have c0 := (hW.cell (p := ⟨w.heap.size, 1, none⟩) lt0).trans k01
              refine stpK rfl rfl fun K hK => ?_
              go_simp
              exact hK _ _ ⟨rfl, hW, Below.refl _ _, fun h => (List.not_mem_nil h).elim⟩
            | 4, ho, hr =>
              obtain rfl := Option.some.inj ho; obtain rfl := Option.some.inj hr
              have t3 := ev_tmp (show fr.eval (.tmp 3) = .pointer (some ⟨w.heap.size + 1, 0, none⟩) from hfree 3 (by decide))
              clear hpre hfree
              refine stpK rfl rfl fun K hK => ?_
              go_simp
              exact hK _ _ ⟨rfl, hW, Below.refl _ _, fun h => (List.not_mem_nil h).elim⟩
            | 5, ho, hr =>
              obtain rfl := Option.some.inj ho; obtain rfl := Option.some.inj hr
              have e4 := ev_tmp (show fr.eval (.tmp 38) = .pointer (some ⟨w.heap.size + 1, 1, none⟩) from hpre 4 (by decide) _ rfl)
              clear hpre hfree
              have c0 := (hW.cell (p := ⟨w.heap.size + 1, 1, none⟩) lt1).trans k11
              refine stpK rfl rfl fun K hK => ?_
              go_simp
              exact hK _ _ ⟨rfl, hW, Below.refl _ _, fun h => (List.not_mem_nil h).elim⟩
            | 6, ho, hr =>
              obtain rfl := Option.some.inj ho; obtain rfl := Option.some.inj hr
              have e3 := ev_tmp (show fr.eval (.tmp 37) = .slice a (n) (c) from hpre 3 (by decide) _ rfl)
              have e5 := ev_tmp (show fr.eval (.tmp 39) = .slice b (m) (d) from hpre 5 (by decide) _ rfl)
              clear hpre hfree
              refine stpK rfl rfl fun K hK => ?_
              go_simp
              refine (dsub_pl wx _ _ _ _ _ _ (hX wx (hB1.trans (hW.mono hB1.size))) (hY wx (hB1.trans (hW.mono hB1.size))) hn1 hge).mono ?_
              rintro e wy ⟨v4, rfl, hb, hm4⟩
              exact hK _ _ ⟨hm4, hW.trans (hb.mono hW.size), hb, fun h => (List.not_mem_nil h).elim⟩
            | 7, ho, hr =>
              obtain rfl := Option.some.inj ho; obtain rfl := Option.some.inj hr
              have e1 := ev_tmp (show fr.eval (.tmp 35) = .bool (sx) from hpre 1 (by decide) _ rfl)
              obtain ⟨u6, q6⟩ : ∃ u, fr.eval (.tmp 40) = u := ⟨_, rfl⟩
              have p6 : Pl wx u6 (x.natAbs - y.natAbs) := by rw [← q6]; exact hpre 6 (by decide) _ rfl
              have e6 := ev_tmp q6; clear q6
              clear hpre hfree
              refine stpK rfl rfl fun K hK => ?_
              go_simp
              refine (zmade_pl wx sx _ _ p6).mono ?_
              rintro e wy ⟨v5, rfl, hb, hm5⟩
              exact hK _ _ ⟨by rw [HR.out] at hm5; exact hm5, hW.trans (hb.mono hW.size), hb, fun h => (List.not_mem_nil h).elim⟩
            | n + 8, ho, hr => exact absurd hr (by simp)
          · intro vs wn hvs hW1 hap0
            clear hap0
            have e0 : vs 0 = .pointer (some ⟨w.heap.size, 0, none⟩) := hvs 0 (by decide)
            have e1 : vs 1 = .bool (sx) := hvs 1 (by decide)
            have e2 : vs 2 = .pointer (some ⟨w.heap.size, 1, none⟩) := hvs 2 (by decide)
            have e3 : vs 3 = .slice a (n) (c) := hvs 3 (by decide)
            have e4 : vs 4 = .pointer (some ⟨w.heap.size + 1, 1, none⟩) := hvs 4 (by decide)
            have e5 : vs 5 = .slice b (m) (d) := hvs 5 (by decide)
            obtain ⟨u6, e6⟩ : ∃ u, vs 6 = u := ⟨_, rfl⟩
            have p6 : Pl wn u6 (x.natAbs - y.natAbs) := by rw [← e6]; exact hvs 6 (by decide)
            obtain ⟨u7, e7⟩ : ∃ u, vs 7 = u := ⟨_, rfl⟩
            have p7 : IsZ wn u7 (x + y) := by rw [← e7]; exact hvs 7 (by decide)
            simp only [puts, Nat.reduceAdd, e0, e1, e2, e3, e4, e5, e6, e7, Act.put, List.setIfInBounds_toArray, List.set_cons_zero, List.set_cons_succ, List.drop_succ_cons, List.drop_zero, List.length_cons, List.length_nil]
            clear hvs e0 e1 e2 e3 e4 e5 e6 e7
            replace k00 := (hW1.cell (p := ⟨w.heap.size, 0, none⟩) lt0).trans k00
            replace k01 := (hW1.cell (p := ⟨w.heap.size, 1, none⟩) lt0).trans k01
            replace k10 := (hW1.cell (p := ⟨w.heap.size + 1, 0, none⟩) lt1).trans k10
            replace k11 := (hW1.cell (p := ⟨w.heap.size + 1, 1, none⟩) lt1).trans k11
            replace r0 := (hW1.cell (p := ⟨w.heap.size + 2, 0, none⟩) hl).trans r0
            replace f0 := (hW1.frozen (p := ⟨w.heap.size + 2, 0, none⟩) hl).trans f0
            replace r1 := (hW1.cell (p := ⟨w.heap.size + 2, 1, none⟩) hl).trans r1
            replace f1 := (hW1.frozen (p := ⟨w.heap.size + 2, 1, none⟩) hl).trans f1
            replace lt0 := Nat.lt_of_lt_of_le lt0 hW1.size
            replace lt1 := Nat.lt_of_lt_of_le lt1 hW1.size
            replace hl := Nat.lt_of_lt_of_le hl hW1.size
            replace hB1 := hB1.trans (hW1.mono hB1.size)
            obtain ⟨s5, a5, n5, c5, rfl⟩ := p7.form
            have HE : Hid _ := ((hB1.setCell (p := ⟨w.heap.size + 2, 0, none⟩) (by simp; try omega) (.bool s5)).setCell (p := ⟨w.heap.size + 2, 1, none⟩) (by simp; try omega) (.slice a5 n5 c5))
            have HI : Hid _ := p7.stored (u1 := .bool s5) (u2 := .slice a5 n5 c5) r0 r1 (by intro q; simp) (by intro q; simp)
            clear p7 hB1 hl
            go_wp2
            refine bodyPost_ret (v := .agg #[.bool s5, .slice a5 n5 c5]) (by simp [results, go_sem, loadVar, World.cell?_setCell_same, *]) rfl ?_
            exact ⟨_, rfl, HE.out, HI.out⟩
        · have hge : x.natAbs ≤ y.natAbs := by omega
          have hr : sgn sy (y.natAbs - x.natAbs) = x + y := by
            unfold sgn
            rw [hsx] at hs
            rw [hsy] at hs ⊢
            by_cases hneg : y < 0
            · have : ¬ x < 0 := fun h => hs (by simp [h, hneg])
              rw [decide_eq_true hneg, if_pos rfl]; omega
            · have : x < 0 := by rcases Int.lt_or_le x 0 with h | h; exact h; exact absurd (by simp [hneg, Int.not_lt.2 h]) hs
              rw [decide_eq_false hneg, if_neg (by simp)]; omega
          have HR : Hid _ := hr
          have hcmp' : ¬ 0 ≤ cmpI (x.natAbs : Int) (y.natAbs : Int) := by
            unfold cmpI; rw [if_pos (by omega)]; omega
          have CC := dcmp_any _ _ _ _ _ _ _ (hX _ (bel3 w (Obj.cells #[Value.bool sx, Value.slice a n c] 31) (Obj.cells #[Value.bool sy, Value.slice b m d] 31) (Obj.cells #[Value.bool false, Value.slice none 0 0] 31))) (hY _ (bel3 w (Obj.cells #[Value.bool sx, Value.slice a n c] 31) (Obj.cells #[Value.bool sy, Value.slice b m d] 31) (Obj.cells #[Value.bool false, Value.slice none 0 0] 31)))
          obtain ⟨cv, hcv⟩ : ∃ cv, cmpI (x.natAbs : Int) (y.natAbs : Int) = cv := ⟨_, rfl⟩
          rw [hcv] at CC hcmp'
          clear hx hy hdx hdy hsx hsy hr zx zy hcv
          go_enter Tryz.func23, Tryz.ntmps23
          go_wp2_with (go_at_call 80; refine CC.mono ?_; rintro e w5 ⟨rfl, n5, hw5⟩; subst hw5)
          refine wp_world (fun w1 => Below w.heap.size w w1 ∧ w.heap.size + 2 < w1.heap.size ∧ w1.cell? ⟨w.heap.size, 0, none⟩ = some (.bool sx) ∧ w1.cell? ⟨w.heap.size, 1, none⟩ = some (.slice a n c) ∧ w1.cell? ⟨w.heap.size + 1, 0, none⟩ = some (.bool sy) ∧ w1.cell? ⟨w.heap.size + 1, 1, none⟩ = some (.slice b m d) ∧ w1.cell? ⟨w.heap.size + 2, 0, none⟩ = some (.bool false) ∧ w1.cell? ⟨w.heap.size + 2, 1, none⟩ = some (.slice none 0 0) ∧ w1.frozen? ⟨w.heap.size + 2, 0, none⟩ = false ∧ w1.frozen? ⟨w.heap.size + 2, 1, none⟩ = false) ⟨(bel3 _ _ _ _).trans (below_drewN _ _ _), by simp, by simp [go_sem], by simp [go_sem], by simp [go_sem], by simp [go_sem], by simp [go_sem], by simp [go_sem], by simp [go_sem], by simp [go_sem]⟩ ?_
          rintro w1 ⟨hB1, hl, k00, k01, k10, k11, r0, r1, f0, f1⟩
          have lt0 : w.heap.size < w1.heap.size := by omega
          have lt1 : w.heap.size + 1 < w1.heap.size := by omega
          clear CC
          refine wp_drawn mixed [⟨42, [], [], [3]⟩, ⟨43, [0], [0], []⟩, ⟨44, [], [], [3]⟩, ⟨45, [2], [2], []⟩, ⟨46, [], [], [2]⟩, ⟨47, [4], [4], []⟩, ⟨48, [3, 5], [2, 3, 4, 5], []⟩, ⟨49, [1, 6], [0, 1, 2, 3, 4, 5, 6], []⟩] [] (by kernel_rfl) 50 rfl (by kernel_rfl) (fun (i : Nat) (v : Value) (wq : World) => match i with | 0 => v = .pointer (some ⟨w.heap.size + 1, 0, none⟩) | 1 => v = .bool (sy) | 2 => v = .pointer (some ⟨w.heap.size + 1, 1, none⟩) | 3 => v = .slice b (m) (d) | 4 => v = .pointer (some ⟨w.heap.size, 1, none⟩) | 5 => v = .slice a (n) (c) | 6 => Pl wq v (y.natAbs - x.natAbs) | 7 => IsZ wq v (x + y) | _ => True) (fun _ wq => Below w1.heap.size w1 wq) (fun wx wy => Below wx.heap.size wx wy) (Below.refl _ _).drew (fun i v wx wy h hx => match i, h with | 0, h => h | 1, h => h | 2, h => h | 3, h => h | 4, h => h | 5, h => h | 6, h => (h : Pl _ _ _).below hx | 7, h => (h : IsZ _ _ _).below hx | n + 8, _ => trivial) ?_ ?_
          · intro i o r ho hr L fr wx hW hL hpr hds hdef hpre hfree
            clear hL hpr hds hdef
            match i, ho, hr with
            | 0, ho, hr =>
              obtain rfl := Option.some.inj ho; obtain rfl := Option.some.inj hr
              have t3 := ev_tmp (show fr.eval (.tmp 3) = .pointer (some ⟨w.heap.size + 1, 0, none⟩) from hfree 3 (by decide))
              clear hpre hfree
              refine stpK rfl rfl fun K hK => ?_
              go_simp
              exact hK _ _ ⟨rfl, hW, Below.refl _ _, fun h => (List.not_mem_nil h).elim⟩
            | 1, ho, hr =>
              obtain rfl := Option.some.inj ho; obtain rfl := Option.some.inj hr
              have e0 := ev_tmp (show fr.eval (.tmp 42) = .pointer (some ⟨w.heap.size + 1, 0, none⟩) from hpre 0 (by decide) _ rfl)
              clear hpre hfree
              have c0 := (hW.cell (p := ⟨w.heap.size + 1, 0, none⟩) lt1).trans k10
              refine stpK rfl rfl fun K hK => ?_
              go_simp
              exact hK _ _ ⟨rfl, hW, Below.refl _ _, fun h => (List.not_mem_nil h).elim⟩
            | 2, ho, hr =>
              obtain rfl := Option.some.inj ho; obtain rfl := Option.some.inj hr
              have t3 := ev_tmp (show fr.eval (.tmp 3) = .pointer (some ⟨w.heap.size + 1, 0, none⟩) from hfree 3 (by decide))
              clear hpre hfree
              refine stpK rfl rfl fun K hK => ?_
              go_simp
              exact hK _ _ ⟨rfl, hW, Below.refl _ _, fun h => (List.not_mem_nil h).elim⟩
            | 3, ho, hr =>
              obtain rfl := Option.some.inj ho; obtain rfl := Option.some.inj hr
              have e2 := ev_tmp (show fr.eval (.tmp 44) = .pointer (some ⟨w.heap.size + 1, 1, none⟩) from hpre 2 (by decide) _ rfl)
              clear hpre hfree
              have c0 := (hW.cell (p := ⟨w.heap.size + 1, 1, none⟩) lt1).trans k11
              refine stpK rfl rfl fun K hK => ?_
              go_simp
              exact hK _ _ ⟨rfl, hW, Below.refl _ _, fun h => (List.not_mem_nil h).elim⟩
            | 4, ho, hr =>
              obtain rfl := Option.some.inj ho; obtain rfl := Option.some.inj hr
              have t2 := ev_tmp (show fr.eval (.tmp 2) = .pointer (some ⟨w.heap.size, 0, none⟩) from hfree 2 (by decide))
              clear hpre hfree
              refine stpK rfl rfl fun K hK => ?_
              go_simp
              exact hK _ _ ⟨rfl, hW, Below.refl _ _, fun h => (List.not_mem_nil h).elim⟩
            | 5, ho, hr =>
              obtain rfl := Option.some.inj ho; obtain rfl := Option.some.inj hr
              have e4 := ev_tmp (show fr.eval (.tmp 46) = .pointer (some ⟨w.heap.size, 1, none⟩) from hpre 4 (by decide) _ rfl)
              clear hpre hfree
              have c0 := (hW.cell (p := ⟨w.heap.size, 1, none⟩) lt0).trans k01
              refine stpK rfl rfl fun K hK => ?_
              go_simp
              exact hK _ _ ⟨rfl, hW, Below.refl _ _, fun h => (List.not_mem_nil h).elim⟩
            | 6, ho, hr =>
              obtain rfl := Option.some.inj ho; obtain rfl := Option.some.inj hr
              have e3 := ev_tmp (show fr.eval (.tmp 45) = .slice b (m) (d) from hpre 3 (by decide) _ rfl)
              have e5 := ev_tmp (show fr.eval (.tmp 47) = .slice a (n) (c) from hpre 5 (by decide) _ rfl)
              clear hpre hfree
              refine stpK rfl rfl fun K hK => ?_
              go_simp
              refine (dsub_pl wx _ _ _ _ _ _ (hY wx (hB1.trans (hW.mono hB1.size))) (hX wx (hB1.trans (hW.mono hB1.size))) hm1 hge).mono ?_
              rintro e wy ⟨v4, rfl, hb, hm4⟩
              exact hK _ _ ⟨hm4, hW.trans (hb.mono hW.size), hb, fun h => (List.not_mem_nil h).elim⟩
            | 7, ho, hr =>
              obtain rfl := Option.some.inj ho; obtain rfl := Option.some.inj hr
              have e1 := ev_tmp (show fr.eval (.tmp 43) = .bool (sy) from hpre 1 (by decide) _ rfl)
              obtain ⟨u6, q6⟩ : ∃ u, fr.eval (.tmp 48) = u := ⟨_, rfl⟩
              have p6 : Pl wx u6 (y.natAbs - x.natAbs) := by rw [← q6]; exact hpre 6 (by decide) _ rfl
              have e6 := ev_tmp q6; clear q6
              clear hpre hfree
              refine stpK rfl rfl fun K hK => ?_
              go_simp
              refine (zmade_pl wx sy _ _ p6).mono ?_
              rintro e wy ⟨v5, rfl, hb, hm5⟩
              exact hK _ _ ⟨by rw [HR.out] at hm5; exact hm5, hW.trans (hb.mono hW.size), hb, fun h => (List.not_mem_nil h).elim⟩
            | n + 8, ho, hr => exact absurd hr (by simp)
          · intro vs wn hvs hW1 hap0
            clear hap0
            have e0 : vs 0 = .pointer (some ⟨w.heap.size + 1, 0, none⟩) := hvs 0 (by decide)
            have e1 : vs 1 = .bool (sy) := hvs 1 (by decide)
            have e2 : vs 2 = .pointer (some ⟨w.heap.size + 1, 1, none⟩) := hvs 2 (by decide)
            have e3 : vs 3 = .slice b (m) (d) := hvs 3 (by decide)
            have e4 : vs 4 = .pointer (some ⟨w.heap.size, 1, none⟩) := hvs 4 (by decide)
            have e5 : vs 5 = .slice a (n) (c) := hvs 5 (by decide)
            obtain ⟨u6, e6⟩ : ∃ u, vs 6 = u := ⟨_, rfl⟩
            have p6 : Pl wn u6 (y.natAbs - x.natAbs) := by rw [← e6]; exact hvs 6 (by decide)
            obtain ⟨u7, e7⟩ : ∃ u, vs 7 = u := ⟨_, rfl⟩
            have p7 : IsZ wn u7 (x + y) := by rw [← e7]; exact hvs 7 (by decide)
            simp only [puts, Nat.reduceAdd, e0, e1, e2, e3, e4, e5, e6, e7, Act.put, List.setIfInBounds_toArray, List.set_cons_zero, List.set_cons_succ, List.drop_succ_cons, List.drop_zero, List.length_cons, List.length_nil]
            clear hvs e0 e1 e2 e3 e4 e5 e6 e7
            replace k00 := (hW1.cell (p := ⟨w.heap.size, 0, none⟩) lt0).trans k00
            replace k01 := (hW1.cell (p := ⟨w.heap.size, 1, none⟩) lt0).trans k01
            replace k10 := (hW1.cell (p := ⟨w.heap.size + 1, 0, none⟩) lt1).trans k10
            replace k11 := (hW1.cell (p := ⟨w.heap.size + 1, 1, none⟩) lt1).trans k11
            replace r0 := (hW1.cell (p := ⟨w.heap.size + 2, 0, none⟩) hl).trans r0
            replace f0 := (hW1.frozen (p := ⟨w.heap.size + 2, 0, none⟩) hl).trans f0
            replace r1 := (hW1.cell (p := ⟨w.heap.size + 2, 1, none⟩) hl).trans r1
            replace f1 := (hW1.frozen (p := ⟨w.heap.size + 2, 1, none⟩) hl).trans f1
            replace lt0 := Nat.lt_of_lt_of_le lt0 hW1.size
            replace lt1 := Nat.lt_of_lt_of_le lt1 hW1.size
            replace hl := Nat.lt_of_lt_of_le hl hW1.size
            replace hB1 := hB1.trans (hW1.mono hB1.size)
            obtain ⟨s5, a5, n5, c5, rfl⟩ := p7.form
            have HE : Hid _ := ((hB1.setCell (p := ⟨w.heap.size + 2, 0, none⟩) (by simp; try omega) (.bool s5)).setCell (p := ⟨w.heap.size + 2, 1, none⟩) (by simp; try omega) (.slice a5 n5 c5))
            have HI : Hid _ := p7.stored (u1 := .bool s5) (u2 := .slice a5 n5 c5) r0 r1 (by intro q; simp) (by intro q; simp)
            clear p7 hB1 hl
            go_wp2
            refine bodyPost_ret (v := .agg #[.bool s5, .slice a5 n5 c5]) (by simp [results, go_sem, loadVar, World.cell?_setCell_same, *]) rfl ?_
            exact ⟨_, rfl, HE.out, HI.out⟩
end Go.Proofs.YtjlkplidpdhgbaaGreatDoor
