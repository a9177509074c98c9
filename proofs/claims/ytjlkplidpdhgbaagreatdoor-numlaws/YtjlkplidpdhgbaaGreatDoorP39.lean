/- A part of the proof: W22. -/
import Derived.Test.YtjlkplidpdhgbaaGreatDoorP26
set_option linter.all false

namespace Go.Proofs.YtjlkplidpdhgbaaGreatDoor
open Go Go.Proofs Go.RowKit Go.Rad


theorem cmpI_range (x y : Int) : -1 ≤ cmpI x y ∧ cmpI x y ≤ 1 := by unfold cmpI; split <;> (try split) <;> omega
theorem cmpI_sign {x y : Int} (h : cmpI x 0 ≠ cmpI y 0) : cmpI (cmpI x 0) (cmpI y 0) = cmpI x y := by
  by_cases h1 : x < 0 <;> by_cases h2 : y < 0 <;> by_cases h3 : x = 0 <;> by_cases h4 : y = 0 <;> simp [cmpI, h1, h2, h3, h4] at h ⊢ <;> (try split) <;> (try split) <;> omega
theorem cmpI_abs {x y : Int} (h : cmpI x 0 = cmpI y 0) : cmpI x 0 * cmpI ((x.natAbs : Nat) : Int) ((y.natAbs : Nat) : Int) = cmpI x y := by
  by_cases h1 : x < 0
  · have h2 : y < 0 := by
      refine Classical.byContradiction fun h2 => ?_
      simp [cmpI, h1, h2] at h; split at h <;> omega
    unfold cmpI; rw [if_pos h1]; (repeat' split) <;> omega
  · by_cases h3 : x = 0
    · have h4 : y = 0 := by
        refine Classical.byContradiction fun h2 => ?_
        simp [cmpI, h3, h2] at h; split at h <;> omega
      subst h3; subst h4; rfl
    · have h4 : 0 < y := by
        refine Classical.byContradiction fun h2 => ?_
        simp [cmpI, h1, h3] at h; split at h <;> (try split at h) <;> omega
      unfold cmpI; rw [if_neg h1, if_neg h3]; (repeat' split) <;> omega

set_option maxRecDepth 10000 in
set_option maxHeartbeats 1000000 in
theorem cmp_any (w : World) (vx vy : Value) (x y : Int) (L : Nat) (hx : IsInt w vx x) (hy : IsInt w vy y) (hbx : x.natAbs < B ^ L) (hby : y.natAbs < B ^ L) (hL : L ≤ 1099511627776) :
    Calls Tryz.prog 28 #[vx, vy] w fun e w' => e = .returned (.int .i64 (cmpI x y)) ∧ Below w.heap.size w w' := by
  have q := qEq
  obtain ⟨s, a, n, c, rfl⟩ := hx.form
  obtain ⟨t, b, m, d, rfl⟩ := hy.form
  obtain ⟨g1, g2, g3, g4, g5⟩ := hx.sgn
  obtain ⟨i1, i2, i3, i4, i5⟩ := hy.sgn
  have hX : ∀ w1, Below w.heap.size w w1 → IsInt w1 (.agg #[.int .i64 s, .slice a n c]) x := fun w1 h => hx.below h
  have hY : ∀ w1, Below w.heap.size w w1 → IsInt w1 (.agg #[.int .i64 t, .slice b m d]) y := fun w1 h => hy.below h
  clear hx hy
  by_cases hn : a = none ∧ b = none
  · obtain ⟨rfl, rfl⟩ := hn
    obtain ⟨rfl, rfl, rfl⟩ := g5 rfl
    obtain ⟨rfl, rfl, rfl⟩ := i5 rfl
    clear g1 g2 g3 g4 g5 i1 i2 i3 i4 i5 hX hY
    go_enter Tryz.func28, Tryz.ntmps28
    go_wp2_with (go_at_call 74; refine (compare_i _ _ _).mono ?_; rintro e w' ⟨rfl, hw⟩; subst hw)
    go_ret
    exact ⟨rfl, bel2 _ _ _⟩
  · clear g1 g2 g3 g4 g5 i1 i2 i3 i4 i5
    by_cases hsg : cmpI x 0 = cmpI y 0
    · have he : Hid (cmpI x 0 * cmpI ((x.natAbs : Nat) : Int) ((y.natAbs : Nat) : Int) = cmpI x y) := cmpI_abs hsg
      have hw : Hid (IntKind.i64.wrap (cmpI x 0 * cmpI ((x.natAbs : Nat) : Int) ((y.natAbs : Nat) : Int)) = cmpI x y) := by
        show IntKind.i64.wrap _ = _
        rw [cmpI_abs hsg, IntKind.wrap_i64]; have := cmpI_range x y; omega
      have HS : Hid ((cmpI x 0 != cmpI y 0) = false) := by show _ = false; simpa using hsg
      clear hsg he
      rcases a with _ | a
      · rcases b with _ | b
        · exact absurd ⟨rfl, rfl⟩ hn
        · clear hn
          go_enter Tryz.func28, Tryz.ntmps28
          go_wp2
          refine wp_world (fun w1 => Below w.heap.size w w1 ∧ w.heap.size + 1 < w1.heap.size ∧ w1.cell? ⟨w.heap.size, 0, none⟩ = some (.int .i64 s) ∧ w1.cell? ⟨w.heap.size, 1, none⟩ = some (.slice none n c) ∧ w1.cell? ⟨w.heap.size + 1, 0, none⟩ = some (.int .i64 t) ∧ w1.cell? ⟨w.heap.size + 1, 1, none⟩ = some (.slice (some b) m d)) ⟨bel2 _ _ _, by simp, by simp [go_sem], by simp [go_sem], by simp [go_sem], by simp [go_sem]⟩ ?_
          rintro w1 ⟨hB1, hl, k00, k01, k10, k11⟩
          have lt0 : w.heap.size < w1.heap.size := by omega
          have lt1 : w.heap.size + 1 < w1.heap.size := by omega
          refine wp_drawn mixed [⟨18, [], [], [2]⟩, ⟨19, [0], [0], []⟩, ⟨20, [], [], [3]⟩, ⟨21, [1, 2], [0, 1, 2], []⟩, ⟨22, [1, 3], [0, 1, 2, 3], []⟩] [] (by kernel_rfl) 36 rfl (by kernel_rfl) (fun (i : Nat) (v : Value) (wq : World) => match i with | 0 => v = .agg #[.int .i64 (s), .slice none (n) (c)] | 1 => v = .int .i64 (cmpI x 0) | 2 => v = .agg #[.int .i64 (t), .slice (some b) (m) (d)] | 3 => v = .int .i64 (cmpI y 0) | 4 => v = .bool ((cmpI x 0 : Int) != (cmpI y 0)) | _ => True) (fun _ wq => Below w1.heap.size w1 wq) (fun wx wy => Below wx.heap.size wx wy) (Below.refl _ _).drew (fun i v wx wy h hx => match i, h with | 0, h => h | 1, h => h | 2, h => h | 3, h => h | 4, h => h  | n + 5, _ => trivial) ?_ ?_
          · intro i o r ho hr L fr wx hW hL hpr hds hdef hpre hfree
            clear hL hpr hds hdef
            match i, ho, hr with
            | 0, ho, hr =>
              obtain rfl := Option.some.inj ho; obtain rfl := Option.some.inj hr
              have t2 := ev_tmp (show fr.eval (.tmp 2) = .pointer (some ⟨w.heap.size, 0, none⟩) from hfree 2 (by decide))
              clear hpre hfree
              have c0 := (hW.cell (p := ⟨w.heap.size, 0, none⟩) lt0).trans k00
              have c1 := (hW.cell (p := ⟨w.heap.size, 1, none⟩) lt0).trans k01
              refine stpK rfl rfl fun K hK => ?_
              go_simp
              exact hK _ _ ⟨rfl, hW, Below.refl _ _, fun h => (List.not_mem_nil h).elim⟩
            | 1, ho, hr =>
              obtain rfl := Option.some.inj ho; obtain rfl := Option.some.inj hr
              have e0 := ev_tmp (show fr.eval (.tmp 18) = .agg #[.int .i64 (s), .slice none (n) (c)] from hpre 0 (by decide) _ rfl)
              clear hpre hfree
              refine stpK rfl rfl fun K hK => ?_
              go_simp
              refine (sign_any wx _ x (hX wx (hB1.trans (hW.mono hB1.size)))).mono ?_
              rintro e wy ⟨rfl, hb⟩
              exact hK _ _ ⟨rfl, hW.trans (hb.mono hW.size), hb, fun h => (List.not_mem_nil h).elim⟩
            | 2, ho, hr =>
              obtain rfl := Option.some.inj ho; obtain rfl := Option.some.inj hr
              have t3 := ev_tmp (show fr.eval (.tmp 3) = .pointer (some ⟨w.heap.size + 1, 0, none⟩) from hfree 3 (by decide))
              clear hpre hfree
              have c0 := (hW.cell (p := ⟨w.heap.size + 1, 0, none⟩) lt1).trans k10
              have c1 := (hW.cell (p := ⟨w.heap.size + 1, 1, none⟩) lt1).trans k11
              refine stpK rfl rfl fun K hK => ?_
              go_simp
              exact hK _ _ ⟨rfl, hW, Below.refl _ _, fun h => (List.not_mem_nil h).elim⟩
            | 3, ho, hr =>
              obtain rfl := Option.some.inj ho; obtain rfl := Option.some.inj hr
              have e2 := ev_tmp (show fr.eval (.tmp 20) = .agg #[.int .i64 (t), .slice (some b) (m) (d)] from hpre 2 (by decide) _ rfl)
              clear hpre hfree
              refine stpK rfl rfl fun K hK => ?_
              go_simp
              refine (sign_any wx _ y (hY wx (hB1.trans (hW.mono hB1.size)))).mono ?_
              rintro e wy ⟨rfl, hb⟩
              exact hK _ _ ⟨rfl, hW.trans (hb.mono hW.size), hb, fun h => (List.not_mem_nil h).elim⟩
            | 4, ho, hr =>
              obtain rfl := Option.some.inj ho; obtain rfl := Option.some.inj hr
              have e1 := ev_tmp (show fr.eval (.tmp 19) = .int .i64 (cmpI x 0) from hpre 1 (by decide) _ rfl)
              have e3 := ev_tmp (show fr.eval (.tmp 21) = .int .i64 (cmpI y 0) from hpre 3 (by decide) _ rfl)
              clear hpre hfree
              refine stpK rfl rfl fun K hK => ?_
              go_simp
              exact hK _ _ ⟨rfl, hW, Below.refl _ _, fun h => (List.not_mem_nil h).elim⟩
            | n + 5, ho, hr => exact absurd hr (by simp)
          · intro vs wn hvs hW1 hap0
            clear hap0
            have e0 : vs 0 = .agg #[.int .i64 (s), .slice none (n) (c)] := hvs 0 (by decide)
            have e1 : vs 1 = .int .i64 (cmpI x 0) := hvs 1 (by decide)
            have e2 : vs 2 = .agg #[.int .i64 (t), .slice (some b) (m) (d)] := hvs 2 (by decide)
            have e3 : vs 3 = .int .i64 (cmpI y 0) := hvs 3 (by decide)
            have e4 : vs 4 = .bool ((cmpI x 0 : Int) != (cmpI y 0)) := hvs 4 (by decide)
            simp only [puts, Nat.reduceAdd, e0, e1, e2, e3, e4, Act.put, List.setIfInBounds_toArray, List.set_cons_zero, List.set_cons_succ, List.drop_succ_cons, List.drop_zero, List.length_cons, List.length_nil]
            clear hvs e0 e1 e2 e3 e4
            replace k00 := (hW1.cell (p := ⟨w.heap.size, 0, none⟩) lt0).trans k00
            replace k01 := (hW1.cell (p := ⟨w.heap.size, 1, none⟩) lt0).trans k01
            replace k10 := (hW1.cell (p := ⟨w.heap.size + 1, 0, none⟩) lt1).trans k10
            replace k11 := (hW1.cell (p := ⟨w.heap.size + 1, 1, none⟩) lt1).trans k11
            replace lt0 := Nat.lt_of_lt_of_le lt0 hW1.size
            replace lt1 := Nat.lt_of_lt_of_le lt1 hW1.size
            replace hl := Nat.lt_of_lt_of_le hl hW1.size
            replace hB1 := hB1.trans (hW1.mono hB1.size)
            clear hW1
            have hs := HS.out
            go_wp2
            clear hs
            refine wp_world (fun w1 => w1 = wn) rfl ?_
            rintro w1 rfl
            refine wp_drawn mixed [⟨28, [], [], [2]⟩, ⟨29, [0], [0], []⟩, ⟨30, [], [], [2]⟩, ⟨31, [1, 2], [0, 1, 2], []⟩, ⟨32, [], [], [3]⟩, ⟨33, [3, 4], [0, 1, 2, 3, 4], []⟩, ⟨34, [3, 5], [0, 1, 2, 3, 4, 5], []⟩, ⟨35, [1, 6], [0, 1, 2, 3, 4, 5, 6], []⟩, ⟨4, [0, 1, 2, 3, 4, 5, 6, 7], [0, 1, 2, 3, 4, 5, 6, 7], []⟩] [] (by kernel_rfl) 36 rfl (by kernel_rfl) (fun (i : Nat) (v : Value) (wq : World) => match i with | 0 => v = .agg #[.int .i64 (s), .slice none (n) (c)] | 1 => v = .int .i64 (cmpI x 0) | 2 => v = .agg #[.int .i64 (s), .slice none (n) (c)] | 3 => ∃ n, Mag wq v x.natAbs n | 4 => v = .agg #[.int .i64 (t), .slice (some b) (m) (d)] | 5 => ∃ n, Mag wq v y.natAbs n | 6 => v = .int .i64 (cmpI ((x.natAbs : Nat) : Int) ((y.natAbs : Nat) : Int)) | 7 => v = .int .i64 (IntKind.i64.wrap ((cmpI x 0 : Int) * (cmpI ((x.natAbs : Nat) : Int) ((y.natAbs : Nat) : Int)))) | 8 => v = .int .i64 (IntKind.i64.wrap ((cmpI x 0 : Int) * (cmpI ((x.natAbs : Nat) : Int) ((y.natAbs : Nat) : Int)))) | _ => True) (fun _ wq => Below w1.heap.size w1 wq) (fun wx wy => Below wx.heap.size wx wy) (Below.refl _ _).drew (fun i v wx wy h hx => match i, h with | 0, h => h | 1, h => h | 2, h => h | 4, h => h | 6, h => h | 7, h => h | 8, h => h | 3, h => by obtain ⟨n, h⟩ := h; exact ⟨n, h.below hx⟩ | 5, h => by obtain ⟨n, h⟩ := h; exact ⟨n, h.below hx⟩ | n + 9, _ => trivial) ?_ ?_
            · intro i o r ho hr L fr wx hW hL hpr hds hdef hpre hfree
              clear hL hpr hds hdef
              match i, ho, hr with
              | 0, ho, hr =>
                obtain rfl := Option.some.inj ho; obtain rfl := Option.some.inj hr
                have t2 := ev_tmp (show fr.eval (.tmp 2) = .pointer (some ⟨w.heap.size, 0, none⟩) from hfree 2 (by decide))
                clear hpre hfree
                have c0 := (hW.cell (p := ⟨w.heap.size, 0, none⟩) lt0).trans k00
                have c1 := (hW.cell (p := ⟨w.heap.size, 1, none⟩) lt0).trans k01
                refine stpK rfl rfl fun K hK => ?_
                go_simp
                exact hK _ _ ⟨rfl, hW, Below.refl _ _, fun h => (List.not_mem_nil h).elim⟩
              | 1, ho, hr =>
                obtain rfl := Option.some.inj ho; obtain rfl := Option.some.inj hr
                have e0 := ev_tmp (show fr.eval (.tmp 28) = .agg #[.int .i64 (s), .slice none (n) (c)] from hpre 0 (by decide) _ rfl)
                clear hpre hfree
                refine stpK rfl rfl fun K hK => ?_
                go_simp
                refine (sign_any wx _ x (hX wx (hB1.trans (hW.mono hB1.size)))).mono ?_
                rintro e wy ⟨rfl, hb⟩
                exact hK _ _ ⟨rfl, hW.trans (hb.mono hW.size), hb, fun h => (List.not_mem_nil h).elim⟩
              | 2, ho, hr =>
                obtain rfl := Option.some.inj ho; obtain rfl := Option.some.inj hr
                have t2 := ev_tmp (show fr.eval (.tmp 2) = .pointer (some ⟨w.heap.size, 0, none⟩) from hfree 2 (by decide))
                clear hpre hfree
                have c0 := (hW.cell (p := ⟨w.heap.size, 0, none⟩) lt0).trans k00
                have c1 := (hW.cell (p := ⟨w.heap.size, 1, none⟩) lt0).trans k01
                refine stpK rfl rfl fun K hK => ?_
                go_simp
                exact hK _ _ ⟨rfl, hW, Below.refl _ _, fun h => (List.not_mem_nil h).elim⟩
              | 3, ho, hr =>
                obtain rfl := Option.some.inj ho; obtain rfl := Option.some.inj hr
                have e2 := ev_tmp (show fr.eval (.tmp 30) = .agg #[.int .i64 (s), .slice none (n) (c)] from hpre 2 (by decide) _ rfl)
                clear hpre hfree
                refine stpK rfl rfl fun K hK => ?_
                go_simp
                refine (magnitude_any wx _ x (hX wx (hB1.trans (hW.mono hB1.size)))).mono ?_
                rintro e wy ⟨v4, n4, rfl, hb, hm4⟩
                exact hK _ _ ⟨⟨n4, hm4⟩, hW.trans (hb.mono hW.size), hb, fun h => (List.not_mem_nil h).elim⟩
              | 4, ho, hr =>
                obtain rfl := Option.some.inj ho; obtain rfl := Option.some.inj hr
                have t3 := ev_tmp (show fr.eval (.tmp 3) = .pointer (some ⟨w.heap.size + 1, 0, none⟩) from hfree 3 (by decide))
                clear hpre hfree
                have c0 := (hW.cell (p := ⟨w.heap.size + 1, 0, none⟩) lt1).trans k10
                have c1 := (hW.cell (p := ⟨w.heap.size + 1, 1, none⟩) lt1).trans k11
                refine stpK rfl rfl fun K hK => ?_
                go_simp
                exact hK _ _ ⟨rfl, hW, Below.refl _ _, fun h => (List.not_mem_nil h).elim⟩
              | 5, ho, hr =>
                obtain rfl := Option.some.inj ho; obtain rfl := Option.some.inj hr
                have e4 := ev_tmp (show fr.eval (.tmp 32) = .agg #[.int .i64 (t), .slice (some b) (m) (d)] from hpre 4 (by decide) _ rfl)
                clear hpre hfree
                refine stpK rfl rfl fun K hK => ?_
                go_simp
                refine (magnitude_any wx _ y (hY wx (hB1.trans (hW.mono hB1.size)))).mono ?_
                rintro e wy ⟨v4, n4, rfl, hb, hm4⟩
                exact hK _ _ ⟨⟨n4, hm4⟩, hW.trans (hb.mono hW.size), hb, fun h => (List.not_mem_nil h).elim⟩
              | 6, ho, hr =>
                obtain rfl := Option.some.inj ho; obtain rfl := Option.some.inj hr
                obtain ⟨u3, q3⟩ : ∃ u, fr.eval (.tmp 31) = u := ⟨_, rfl⟩
                have p3 : ∃ n, Mag wx u3 x.natAbs n := by rw [← q3]; exact hpre 3 (by decide) _ rfl
                have e3 := ev_tmp q3; clear q3
                obtain ⟨u5, q5⟩ : ∃ u, fr.eval (.tmp 33) = u := ⟨_, rfl⟩
                have p5 : ∃ n, Mag wx u5 y.natAbs n := by rw [← q5]; exact hpre 5 (by decide) _ rfl
                have e5 := ev_tmp q5; clear q5
                clear hpre hfree
                refine stpK rfl rfl fun K hK => ?_
                obtain ⟨n3, p3⟩ := p3
                obtain ⟨n5, p5⟩ := p5
                go_simp
                refine (cmp_mag wx _ _ _ _ _ _ p3 p5 (by have := p3.len_le hbx; omega) (by have := p5.len_le hby; omega)).mono ?_
                rintro e wy ⟨rfl, hb⟩
                exact hK _ _ ⟨rfl, hW.trans (hb.mono hW.size), hb, fun h => (List.not_mem_nil h).elim⟩
              | 7, ho, hr =>
                obtain rfl := Option.some.inj ho; obtain rfl := Option.some.inj hr
                have e1 := ev_tmp (show fr.eval (.tmp 29) = .int .i64 (cmpI x 0) from hpre 1 (by decide) _ rfl)
                have e6 := ev_tmp (show fr.eval (.tmp 34) = .int .i64 (cmpI ((x.natAbs : Nat) : Int) ((y.natAbs : Nat) : Int)) from hpre 6 (by decide) _ rfl)
                clear hpre hfree
                refine stpK rfl rfl fun K hK => ?_
                go_simp
                exact hK _ _ ⟨rfl, hW, Below.refl _ _, fun h => (List.not_mem_nil h).elim⟩
              | 8, ho, hr =>
                obtain rfl := Option.some.inj ho; obtain rfl := Option.some.inj hr
                have e7 := ev_tmp (show fr.eval (.tmp 35) = .int .i64 (IntKind.i64.wrap ((cmpI x 0 : Int) * (cmpI ((x.natAbs : Nat) : Int) ((y.natAbs : Nat) : Int)))) from hpre 7 (by decide) _ rfl)
                clear hpre hfree
                refine stpK rfl rfl fun K hK => ?_
                go_simp
                exact hK _ _ ⟨rfl, hW, Below.refl _ _, fun h => (List.not_mem_nil h).elim⟩
              | n + 9, ho, hr => exact absurd hr (by simp)
            · intro vs wn hvs hW1 hap0
              clear hap0
              have e0 : vs 0 = .agg #[.int .i64 (s), .slice none (n) (c)] := hvs 0 (by decide)
              have e1 : vs 1 = .int .i64 (cmpI x 0) := hvs 1 (by decide)
              have e2 : vs 2 = .agg #[.int .i64 (s), .slice none (n) (c)] := hvs 2 (by decide)
              obtain ⟨u3, e3⟩ : ∃ u, vs 3 = u := ⟨_, rfl⟩
              have p3 : ∃ n, Mag wn u3 x.natAbs n := by rw [← e3]; exact hvs 3 (by decide)
              have e4 : vs 4 = .agg #[.int .i64 (t), .slice (some b) (m) (d)] := hvs 4 (by decide)
              obtain ⟨u5, e5⟩ : ∃ u, vs 5 = u := ⟨_, rfl⟩
              have p5 : ∃ n, Mag wn u5 y.natAbs n := by rw [← e5]; exact hvs 5 (by decide)
              have e6 : vs 6 = .int .i64 (cmpI ((x.natAbs : Nat) : Int) ((y.natAbs : Nat) : Int)) := hvs 6 (by decide)
              have e7 : vs 7 = .int .i64 (IntKind.i64.wrap ((cmpI x 0 : Int) * (cmpI ((x.natAbs : Nat) : Int) ((y.natAbs : Nat) : Int)))) := hvs 7 (by decide)
              have e8 : vs 8 = .int .i64 (IntKind.i64.wrap ((cmpI x 0 : Int) * (cmpI ((x.natAbs : Nat) : Int) ((y.natAbs : Nat) : Int)))) := hvs 8 (by decide)
              simp only [puts, Nat.reduceAdd, e0, e1, e2, e3, e4, e5, e6, e7, e8, Act.put, List.setIfInBounds_toArray, List.set_cons_zero, List.set_cons_succ, List.drop_succ_cons, List.drop_zero, List.length_cons, List.length_nil]
              clear hvs e0 e1 e2 e3 e4 e5 e6 e7 e8
              rw [hw.out]
              go_wp2
              go_ret
              exact ⟨rfl, hB1.trans (hW1.mono hB1.size)⟩
      · clear hn
        go_enter Tryz.func28, Tryz.ntmps28
        go_wp2
        refine wp_world (fun w1 => Below w.heap.size w w1 ∧ w.heap.size + 1 < w1.heap.size ∧ w1.cell? ⟨w.heap.size, 0, none⟩ = some (.int .i64 s) ∧ w1.cell? ⟨w.heap.size, 1, none⟩ = some (.slice (some a) n c) ∧ w1.cell? ⟨w.heap.size + 1, 0, none⟩ = some (.int .i64 t) ∧ w1.cell? ⟨w.heap.size + 1, 1, none⟩ = some (.slice b m d)) ⟨bel2 _ _ _, by simp, by simp [go_sem], by simp [go_sem], by simp [go_sem], by simp [go_sem]⟩ ?_
        rintro w1 ⟨hB1, hl, k00, k01, k10, k11⟩
        have lt0 : w.heap.size < w1.heap.size := by omega
        have lt1 : w.heap.size + 1 < w1.heap.size := by omega
        refine wp_drawn mixed [⟨18, [], [], [2]⟩, ⟨19, [0], [0], []⟩, ⟨20, [], [], [3]⟩, ⟨21, [1, 2], [0, 1, 2], []⟩, ⟨22, [1, 3], [0, 1, 2, 3], []⟩] [] (by kernel_rfl) 36 rfl (by kernel_rfl) (fun (i : Nat) (v : Value) (wq : World) => match i with | 0 => v = .agg #[.int .i64 (s), .slice (some a) (n) (c)] | 1 => v = .int .i64 (cmpI x 0) | 2 => v = .agg #[.int .i64 (t), .slice b (m) (d)] | 3 => v = .int .i64 (cmpI y 0) | 4 => v = .bool ((cmpI x 0 : Int) != (cmpI y 0)) | _ => True) (fun _ wq => Below w1.heap.size w1 wq) (fun wx wy => Below wx.heap.size wx wy) (Below.refl _ _).drew (fun i v wx wy h hx => match i, h with | 0, h => h | 1, h => h | 2, h => h | 3, h => h | 4, h => h  | n + 5, _ => trivial) ?_ ?_
        · intro i o r ho hr L fr wx hW hL hpr hds hdef hpre hfree
          clear hL hpr hds hdef
          match i, ho, hr with
          | 0, ho, hr =>
            obtain rfl := Option.some.inj ho; obtain rfl := Option.some.inj hr
            have t2 := ev_tmp (show fr.eval (.tmp 2) = .pointer (some ⟨w.heap.size, 0, none⟩) from hfree 2 (by decide))
            clear hpre hfree
            have c0 := (hW.cell (p := ⟨w.heap.size, 0, none⟩) lt0).trans k00
            have c1 := (hW.cell (p := ⟨w.heap.size, 1, none⟩) lt0).trans k01
            refine stpK rfl rfl fun K hK => ?_
            go_simp
            exact hK _ _ ⟨rfl, hW, Below.refl _ _, fun h => (List.not_mem_nil h).elim⟩
          | 1, ho, hr =>
            obtain rfl := Option.some.inj ho; obtain rfl := Option.some.inj hr
            have e0 := ev_tmp (show fr.eval (.tmp 18) = .agg #[.int .i64 (s), .slice (some a) (n) (c)] from hpre 0 (by decide) _ rfl)
            clear hpre hfree
            refine stpK rfl rfl fun K hK => ?_
            go_simp
            refine (sign_any wx _ x (hX wx (hB1.trans (hW.mono hB1.size)))).mono ?_
            rintro e wy ⟨rfl, hb⟩
            exact hK _ _ ⟨rfl, hW.trans (hb.mono hW.size), hb, fun h => (List.not_mem_nil h).elim⟩
          | 2, ho, hr =>
            obtain rfl := Option.some.inj ho; obtain rfl := Option.some.inj hr
            have t3 := ev_tmp (show fr.eval (.tmp 3) = .pointer (some ⟨w.heap.size + 1, 0, none⟩) from hfree 3 (by decide))
            clear hpre hfree
            have c0 := (hW.cell (p := ⟨w.heap.size + 1, 0, none⟩) lt1).trans k10
            have c1 := (hW.cell (p := ⟨w.heap.size + 1, 1, none⟩) lt1).trans k11
            refine stpK rfl rfl fun K hK => ?_
            go_simp
            exact hK _ _ ⟨rfl, hW, Below.refl _ _, fun h => (List.not_mem_nil h).elim⟩
          | 3, ho, hr =>
            obtain rfl := Option.some.inj ho; obtain rfl := Option.some.inj hr
            have e2 := ev_tmp (show fr.eval (.tmp 20) = .agg #[.int .i64 (t), .slice b (m) (d)] from hpre 2 (by decide) _ rfl)
            clear hpre hfree
            refine stpK rfl rfl fun K hK => ?_
            go_simp
            refine (sign_any wx _ y (hY wx (hB1.trans (hW.mono hB1.size)))).mono ?_
            rintro e wy ⟨rfl, hb⟩
            exact hK _ _ ⟨rfl, hW.trans (hb.mono hW.size), hb, fun h => (List.not_mem_nil h).elim⟩
          | 4, ho, hr =>
            obtain rfl := Option.some.inj ho; obtain rfl := Option.some.inj hr
            have e1 := ev_tmp (show fr.eval (.tmp 19) = .int .i64 (cmpI x 0) from hpre 1 (by decide) _ rfl)
            have e3 := ev_tmp (show fr.eval (.tmp 21) = .int .i64 (cmpI y 0) from hpre 3 (by decide) _ rfl)
            clear hpre hfree
            refine stpK rfl rfl fun K hK => ?_
            go_simp
            exact hK _ _ ⟨rfl, hW, Below.refl _ _, fun h => (List.not_mem_nil h).elim⟩
          | n + 5, ho, hr => exact absurd hr (by simp)
        · intro vs wn hvs hW1 hap0
          clear hap0
          have e0 : vs 0 = .agg #[.int .i64 (s), .slice (some a) (n) (c)] := hvs 0 (by decide)
          have e1 : vs 1 = .int .i64 (cmpI x 0) := hvs 1 (by decide)
          have e2 : vs 2 = .agg #[.int .i64 (t), .slice b (m) (d)] := hvs 2 (by decide)
          have e3 : vs 3 = .int .i64 (cmpI y 0) := hvs 3 (by decide)
          have e4 : vs 4 = .bool ((cmpI x 0 : Int) != (cmpI y 0)) := hvs 4 (by decide)
          simp only [puts, Nat.reduceAdd, e0, e1, e2, e3, e4, Act.put, List.setIfInBounds_toArray, List.set_cons_zero, List.set_cons_succ, List.drop_succ_cons, List.drop_zero, List.length_cons, List.length_nil]
          clear hvs e0 e1 e2 e3 e4
          replace k00 := (hW1.cell (p := ⟨w.heap.size, 0, none⟩) lt0).trans k00
          replace k01 := (hW1.cell (p := ⟨w.heap.size, 1, none⟩) lt0).trans k01
          replace k10 := (hW1.cell (p := ⟨w.heap.size + 1, 0, none⟩) lt1).trans k10
          replace k11 := (hW1.cell (p := ⟨w.heap.size + 1, 1, none⟩) lt1).trans k11
          replace lt0 := Nat.lt_of_lt_of_le lt0 hW1.size
          replace lt1 := Nat.lt_of_lt_of_le lt1 hW1.size
          replace hl := Nat.lt_of_lt_of_le hl hW1.size
          replace hB1 := hB1.trans (hW1.mono hB1.size)
          clear hW1
          have hs := HS.out
          go_wp2
          clear hs
          refine wp_world (fun w1 => w1 = wn) rfl ?_
          rintro w1 rfl
          refine wp_drawn mixed [⟨28, [], [], [2]⟩, ⟨29, [0], [0], []⟩, ⟨30, [], [], [2]⟩, ⟨31, [1, 2], [0, 1, 2], []⟩, ⟨32, [], [], [3]⟩, ⟨33, [3, 4], [0, 1, 2, 3, 4], []⟩, ⟨34, [3, 5], [0, 1, 2, 3, 4, 5], []⟩, ⟨35, [1, 6], [0, 1, 2, 3, 4, 5, 6], []⟩, ⟨4, [0, 1, 2, 3, 4, 5, 6, 7], [0, 1, 2, 3, 4, 5, 6, 7], []⟩] [] (by kernel_rfl) 36 rfl (by kernel_rfl) (fun (i : Nat) (v : Value) (wq : World) => match i with | 0 => v = .agg #[.int .i64 (s), .slice (some a) (n) (c)] | 1 => v = .int .i64 (cmpI x 0) | 2 => v = .agg #[.int .i64 (s), .slice (some a) (n) (c)] | 3 => ∃ n, Mag wq v x.natAbs n | 4 => v = .agg #[.int .i64 (t), .slice b (m) (d)] | 5 => ∃ n, Mag wq v y.natAbs n | 6 => v = .int .i64 (cmpI ((x.natAbs : Nat) : Int) ((y.natAbs : Nat) : Int)) | 7 => v = .int .i64 (IntKind.i64.wrap ((cmpI x 0 : Int) * (cmpI ((x.natAbs : Nat) : Int) ((y.natAbs : Nat) : Int)))) | 8 => v = .int .i64 (IntKind.i64.wrap ((cmpI x 0 : Int) * (cmpI ((x.natAbs : Nat) : Int) ((y.natAbs : Nat) : Int)))) | _ => True) (fun _ wq => Below w1.heap.size w1 wq) (fun wx wy => Below wx.heap.size wx wy) (Below.refl _ _).drew (fun i v wx wy h hx => match i, h with | 0, h => h | 1, h => h | 2, h => h | 4, h => h | 6, h => h | 7, h => h | 8, h => h | 3, h => by obtain ⟨n, h⟩ := h; exact ⟨n, h.below hx⟩ | 5, h => by obtain ⟨n, h⟩ := h; exact ⟨n, h.below hx⟩ | n + 9, _ => trivial) ?_ ?_
          · intro i o r ho hr L fr wx hW hL hpr hds hdef hpre hfree
            clear hL hpr hds hdef
            match i, ho, hr with
            | 0, ho, hr =>
              obtain rfl := Option.some.inj ho; obtain rfl := Option.some.inj hr
              have t2 := ev_tmp (show fr.eval (.tmp 2) = .pointer (some ⟨w.heap.size, 0, none⟩) from hfree 2 (by decide))
              clear hpre hfree
              have c0 := (hW.cell (p := ⟨w.heap.size, 0, none⟩) lt0).trans k00
              have c1 := (hW.cell (p := ⟨w.heap.size, 1, none⟩) lt0).trans k01
              refine stpK rfl rfl fun K hK => ?_
              go_simp
              exact hK _ _ ⟨rfl, hW, Below.refl _ _, fun h => (List.not_mem_nil h).elim⟩
            | 1, ho, hr =>
              obtain rfl := Option.some.inj ho; obtain rfl := Option.some.inj hr
              have e0 := ev_tmp (show fr.eval (.tmp 28) = .agg #[.int .i64 (s), .slice (some a) (n) (c)] from hpre 0 (by decide) _ rfl)
              clear hpre hfree
              refine stpK rfl rfl fun K hK => ?_
              go_simp
              refine (sign_any wx _ x (hX wx (hB1.trans (hW.mono hB1.size)))).mono ?_
              rintro e wy ⟨rfl, hb⟩
              exact hK _ _ ⟨rfl, hW.trans (hb.mono hW.size), hb, fun h => (List.not_mem_nil h).elim⟩
            | 2, ho, hr =>
              obtain rfl := Option.some.inj ho; obtain rfl := Option.some.inj hr
              have t2 := ev_tmp (show fr.eval (.tmp 2) = .pointer (some ⟨w.heap.size, 0, none⟩) from hfree 2 (by decide))
              clear hpre hfree
              have c0 := (hW.cell (p := ⟨w.heap.size, 0, none⟩) lt0).trans k00
              have c1 := (hW.cell (p := ⟨w.heap.size, 1, none⟩) lt0).trans k01
              refine stpK rfl rfl fun K hK => ?_
              go_simp
              exact hK _ _ ⟨rfl, hW, Below.refl _ _, fun h => (List.not_mem_nil h).elim⟩
            | 3, ho, hr =>
              obtain rfl := Option.some.inj ho; obtain rfl := Option.some.inj hr
              have e2 := ev_tmp (show fr.eval (.tmp 30) = .agg #[.int .i64 (s), .slice (some a) (n) (c)] from hpre 2 (by decide) _ rfl)
              clear hpre hfree
              refine stpK rfl rfl fun K hK => ?_
              go_simp
              refine (magnitude_any wx _ x (hX wx (hB1.trans (hW.mono hB1.size)))).mono ?_
              rintro e wy ⟨v4, n4, rfl, hb, hm4⟩
              exact hK _ _ ⟨⟨n4, hm4⟩, hW.trans (hb.mono hW.size), hb, fun h => (List.not_mem_nil h).elim⟩
            | 4, ho, hr =>
              obtain rfl := Option.some.inj ho; obtain rfl := Option.some.inj hr
              have t3 := ev_tmp (show fr.eval (.tmp 3) = .pointer (some ⟨w.heap.size + 1, 0, none⟩) from hfree 3 (by decide))
              clear hpre hfree
              have c0 := (hW.cell (p := ⟨w.heap.size + 1, 0, none⟩) lt1).trans k10
              have c1 := (hW.cell (p := ⟨w.heap.size + 1, 1, none⟩) lt1).trans k11
              refine stpK rfl rfl fun K hK => ?_
              go_simp
              exact hK _ _ ⟨rfl, hW, Below.refl _ _, fun h => (List.not_mem_nil h).elim⟩
            | 5, ho, hr =>
              obtain rfl := Option.some.inj ho; obtain rfl := Option.some.inj hr
              have e4 := ev_tmp (show fr.eval (.tmp 32) = .agg #[.int .i64 (t), .slice b (m) (d)] from hpre 4 (by decide) _ rfl)
              clear hpre hfree
              refine stpK rfl rfl fun K hK => ?_
              go_simp
              refine (magnitude_any wx _ y (hY wx (hB1.trans (hW.mono hB1.size)))).mono ?_
              rintro e wy ⟨v4, n4, rfl, hb, hm4⟩
              exact hK _ _ ⟨⟨n4, hm4⟩, hW.trans (hb.mono hW.size), hb, fun h => (List.not_mem_nil h).elim⟩
            | 6, ho, hr =>
              obtain rfl := Option.some.inj ho; obtain rfl := Option.some.inj hr
              obtain ⟨u3, q3⟩ : ∃ u, fr.eval (.tmp 31) = u := ⟨_, rfl⟩
              have p3 : ∃ n, Mag wx u3 x.natAbs n := by rw [← q3]; exact hpre 3 (by decide) _ rfl
              have e3 := ev_tmp q3; clear q3
              obtain ⟨u5, q5⟩ : ∃ u, fr.eval (.tmp 33) = u := ⟨_, rfl⟩
              have p5 : ∃ n, Mag wx u5 y.natAbs n := by rw [← q5]; exact hpre 5 (by decide) _ rfl
              have e5 := ev_tmp q5; clear q5
              clear hpre hfree
              refine stpK rfl rfl fun K hK => ?_
              obtain ⟨n3, p3⟩ := p3
              obtain ⟨n5, p5⟩ := p5
              go_simp
              refine (cmp_mag wx _ _ _ _ _ _ p3 p5 (by have := p3.len_le hbx; omega) (by have := p5.len_le hby; omega)).mono ?_
              rintro e wy ⟨rfl, hb⟩
              exact hK _ _ ⟨rfl, hW.trans (hb.mono hW.size), hb, fun h => (List.not_mem_nil h).elim⟩
            | 7, ho, hr =>
              obtain rfl := Option.some.inj ho; obtain rfl := Option.some.inj hr
              have e1 := ev_tmp (show fr.eval (.tmp 29) = .int .i64 (cmpI x 0) from hpre 1 (by decide) _ rfl)
              have e6 := ev_tmp (show fr.eval (.tmp 34) = .int .i64 (cmpI ((x.natAbs : Nat) : Int) ((y.natAbs : Nat) : Int)) from hpre 6 (by decide) _ rfl)
              clear hpre hfree
              refine stpK rfl rfl fun K hK => ?_
              go_simp
              exact hK _ _ ⟨rfl, hW, Below.refl _ _, fun h => (List.not_mem_nil h).elim⟩
            | 8, ho, hr =>
              obtain rfl := Option.some.inj ho; obtain rfl := Option.some.inj hr
              have e7 := ev_tmp (show fr.eval (.tmp 35) = .int .i64 (IntKind.i64.wrap ((cmpI x 0 : Int) * (cmpI ((x.natAbs : Nat) : Int) ((y.natAbs : Nat) : Int)))) from hpre 7 (by decide) _ rfl)
              clear hpre hfree
              refine stpK rfl rfl fun K hK => ?_
              go_simp
              exact hK _ _ ⟨rfl, hW, Below.refl _ _, fun h => (List.not_mem_nil h).elim⟩
            | n + 9, ho, hr => exact absurd hr (by simp)
          · intro vs wn hvs hW1 hap0
            clear hap0
            have e0 : vs 0 = .agg #[.int .i64 (s), .slice (some a) (n) (c)] := hvs 0 (by decide)
            have e1 : vs 1 = .int .i64 (cmpI x 0) := hvs 1 (by decide)
            have e2 : vs 2 = .agg #[.int .i64 (s), .slice (some a) (n) (c)] := hvs 2 (by decide)
            obtain ⟨u3, e3⟩ : ∃ u, vs 3 = u := ⟨_, rfl⟩
            have p3 : ∃ n, Mag wn u3 x.natAbs n := by rw [← e3]; exact hvs 3 (by decide)
            have e4 : vs 4 = .agg #[.int .i64 (t), .slice b (m) (d)] := hvs 4 (by decide)
            obtain ⟨u5, e5⟩ : ∃ u, vs 5 = u := ⟨_, rfl⟩
            have p5 : ∃ n, Mag wn u5 y.natAbs n := by rw [← e5]; exact hvs 5 (by decide)
            have e6 : vs 6 = .int .i64 (cmpI ((x.natAbs : Nat) : Int) ((y.natAbs : Nat) : Int)) := hvs 6 (by decide)
            have e7 : vs 7 = .int .i64 (IntKind.i64.wrap ((cmpI x 0 : Int) * (cmpI ((x.natAbs : Nat) : Int) ((y.natAbs : Nat) : Int)))) := hvs 7 (by decide)
            have e8 : vs 8 = .int .i64 (IntKind.i64.wrap ((cmpI x 0 : Int) * (cmpI ((x.natAbs : Nat) : Int) ((y.natAbs : Nat) : Int)))) := hvs 8 (by decide)
            simp only [puts, Nat.reduceAdd, e0, e1, e2, e3, e4, e5, e6, e7, e8, Act.put, List.setIfInBounds_toArray, List.set_cons_zero, List.set_cons_succ, List.drop_succ_cons, List.drop_zero, List.length_cons, List.length_nil]
            clear hvs e0 e1 e2 e3 e4 e5 e6 e7 e8
            rw [hw.out]
            go_wp2
            go_ret
            exact ⟨rfl, hB1.trans (hW1.mono hB1.size)⟩
    · have he : Hid (cmpI (cmpI x 0) (cmpI y 0) = cmpI x y) := cmpI_sign hsg
      have HS : Hid ((cmpI x 0 != cmpI y 0) = true) := by show _ = true; simpa using hsg
      clear hsg
      rcases a with _ | a
      · rcases b with _ | b
        · exact absurd ⟨rfl, rfl⟩ hn
        · clear hn
          go_enter Tryz.func28, Tryz.ntmps28
          go_wp2
          refine wp_world (fun w1 => Below w.heap.size w w1 ∧ w.heap.size + 1 < w1.heap.size ∧ w1.cell? ⟨w.heap.size, 0, none⟩ = some (.int .i64 s) ∧ w1.cell? ⟨w.heap.size, 1, none⟩ = some (.slice none n c) ∧ w1.cell? ⟨w.heap.size + 1, 0, none⟩ = some (.int .i64 t) ∧ w1.cell? ⟨w.heap.size + 1, 1, none⟩ = some (.slice (some b) m d)) ⟨bel2 _ _ _, by simp, by simp [go_sem], by simp [go_sem], by simp [go_sem], by simp [go_sem]⟩ ?_
          rintro w1 ⟨hB1, hl, k00, k01, k10, k11⟩
          have lt0 : w.heap.size < w1.heap.size := by omega
          have lt1 : w.heap.size + 1 < w1.heap.size := by omega
          refine wp_drawn mixed [⟨18, [], [], [2]⟩, ⟨19, [0], [0], []⟩, ⟨20, [], [], [3]⟩, ⟨21, [1, 2], [0, 1, 2], []⟩, ⟨22, [1, 3], [0, 1, 2, 3], []⟩] [] (by kernel_rfl) 36 rfl (by kernel_rfl) (fun (i : Nat) (v : Value) (wq : World) => match i with | 0 => v = .agg #[.int .i64 (s), .slice none (n) (c)] | 1 => v = .int .i64 (cmpI x 0) | 2 => v = .agg #[.int .i64 (t), .slice (some b) (m) (d)] | 3 => v = .int .i64 (cmpI y 0) | 4 => v = .bool ((cmpI x 0 : Int) != (cmpI y 0)) | _ => True) (fun _ wq => Below w1.heap.size w1 wq) (fun wx wy => Below wx.heap.size wx wy) (Below.refl _ _).drew (fun i v wx wy h hx => match i, h with | 0, h => h | 1, h => h | 2, h => h | 3, h => h | 4, h => h  | n + 5, _ => trivial) ?_ ?_
          · intro i o r ho hr L fr wx hW hL hpr hds hdef hpre hfree
            clear hL hpr hds hdef
            match i, ho, hr with
            | 0, ho, hr =>
              obtain rfl := Option.some.inj ho; obtain rfl := Option.some.inj hr
              have t2 := ev_tmp (show fr.eval (.tmp 2) = .pointer (some ⟨w.heap.size, 0, none⟩) from hfree 2 (by decide))
              clear hpre hfree
              have c0 := (hW.cell (p := ⟨w.heap.size, 0, none⟩) lt0).trans k00
              have c1 := (hW.cell (p := ⟨w.heap.size, 1, none⟩) lt0).trans k01
              refine stpK rfl rfl fun K hK => ?_
              go_simp
              exact hK _ _ ⟨rfl, hW, Below.refl _ _, fun h => (List.not_mem_nil h).elim⟩
            | 1, ho, hr =>
              obtain rfl := Option.some.inj ho; obtain rfl := Option.some.inj hr
              have e0 := ev_tmp (show fr.eval (.tmp 18) = .agg #[.int .i64 (s), .slice none (n) (c)] from hpre 0 (by decide) _ rfl)
              clear hpre hfree
              refine stpK rfl rfl fun K hK => ?_
              go_simp
              refine (sign_any wx _ x (hX wx (hB1.trans (hW.mono hB1.size)))).mono ?_
              rintro e wy ⟨rfl, hb⟩
              exact hK _ _ ⟨rfl, hW.trans (hb.mono hW.size), hb, fun h => (List.not_mem_nil h).elim⟩
            | 2, ho, hr =>
              obtain rfl := Option.some.inj ho; obtain rfl := Option.some.inj hr
              have t3 := ev_tmp (show fr.eval (.tmp 3) = .pointer (some ⟨w.heap.size + 1, 0, none⟩) from hfree 3 (by decide))
              clear hpre hfree
              have c0 := (hW.cell (p := ⟨w.heap.size + 1, 0, none⟩) lt1).trans k10
              have c1 := (hW.cell (p := ⟨w.heap.size + 1, 1, none⟩) lt1).trans k11
              refine stpK rfl rfl fun K hK => ?_
              go_simp
              exact hK _ _ ⟨rfl, hW, Below.refl _ _, fun h => (List.not_mem_nil h).elim⟩
            | 3, ho, hr =>
              obtain rfl := Option.some.inj ho; obtain rfl := Option.some.inj hr
              have e2 := ev_tmp (show fr.eval (.tmp 20) = .agg #[.int .i64 (t), .slice (some b) (m) (d)] from hpre 2 (by decide) _ rfl)
              clear hpre hfree
              refine stpK rfl rfl fun K hK => ?_
              go_simp
              refine (sign_any wx _ y (hY wx (hB1.trans (hW.mono hB1.size)))).mono ?_
              rintro e wy ⟨rfl, hb⟩
              exact hK _ _ ⟨rfl, hW.trans (hb.mono hW.size), hb, fun h => (List.not_mem_nil h).elim⟩
            | 4, ho, hr =>
              obtain rfl := Option.some.inj ho; obtain rfl := Option.some.inj hr
              have e1 := ev_tmp (show fr.eval (.tmp 19) = .int .i64 (cmpI x 0) from hpre 1 (by decide) _ rfl)
              have e3 := ev_tmp (show fr.eval (.tmp 21) = .int .i64 (cmpI y 0) from hpre 3 (by decide) _ rfl)
              clear hpre hfree
              refine stpK rfl rfl fun K hK => ?_
              go_simp
              exact hK _ _ ⟨rfl, hW, Below.refl _ _, fun h => (List.not_mem_nil h).elim⟩
            | n + 5, ho, hr => exact absurd hr (by simp)
          · intro vs wn hvs hW1 hap0
            clear hap0
            have e0 : vs 0 = .agg #[.int .i64 (s), .slice none (n) (c)] := hvs 0 (by decide)
            have e1 : vs 1 = .int .i64 (cmpI x 0) := hvs 1 (by decide)
            have e2 : vs 2 = .agg #[.int .i64 (t), .slice (some b) (m) (d)] := hvs 2 (by decide)
            have e3 : vs 3 = .int .i64 (cmpI y 0) := hvs 3 (by decide)
            have e4 : vs 4 = .bool ((cmpI x 0 : Int) != (cmpI y 0)) := hvs 4 (by decide)
            simp only [puts, Nat.reduceAdd, e0, e1, e2, e3, e4, Act.put, List.setIfInBounds_toArray, List.set_cons_zero, List.set_cons_succ, List.drop_succ_cons, List.drop_zero, List.length_cons, List.length_nil]
            clear hvs e0 e1 e2 e3 e4
            replace k00 := (hW1.cell (p := ⟨w.heap.size, 0, none⟩) lt0).trans k00
            replace k01 := (hW1.cell (p := ⟨w.heap.size, 1, none⟩) lt0).trans k01
            replace k10 := (hW1.cell (p := ⟨w.heap.size + 1, 0, none⟩) lt1).trans k10
            replace k11 := (hW1.cell (p := ⟨w.heap.size + 1, 1, none⟩) lt1).trans k11
            replace lt0 := Nat.lt_of_lt_of_le lt0 hW1.size
            replace lt1 := Nat.lt_of_lt_of_le lt1 hW1.size
            replace hl := Nat.lt_of_lt_of_le hl hW1.size
            replace hB1 := hB1.trans (hW1.mono hB1.size)
            clear hW1
            have hs := HS.out
            go_wp2
            clear hs
            refine wp_world (fun w1 => w1 = wn) rfl ?_
            rintro w1 rfl
            refine wp_drawn mixed [⟨23, [], [], [2]⟩, ⟨24, [0], [0], []⟩, ⟨25, [], [], [3]⟩, ⟨26, [1, 2], [0, 1, 2], []⟩, ⟨27, [1, 3], [0, 1, 2, 3], []⟩, ⟨4, [0, 1, 2, 3, 4], [0, 1, 2, 3, 4], []⟩] [] (by kernel_rfl) 36 rfl (by kernel_rfl) (fun (i : Nat) (v : Value) (wq : World) => match i with | 0 => v = .agg #[.int .i64 (s), .slice none (n) (c)] | 1 => v = .int .i64 (cmpI x 0) | 2 => v = .agg #[.int .i64 (t), .slice (some b) (m) (d)] | 3 => v = .int .i64 (cmpI y 0) | 4 => v = .int .i64 (cmpI (cmpI x 0) (cmpI y 0)) | 5 => v = .int .i64 (cmpI (cmpI x 0) (cmpI y 0)) | _ => True) (fun _ wq => Below w1.heap.size w1 wq) (fun wx wy => Below wx.heap.size wx wy) (Below.refl _ _).drew (fun i v wx wy h hx => match i, h with | 0, h => h | 1, h => h | 2, h => h | 3, h => h | 4, h => h | 5, h => h  | n + 6, _ => trivial) ?_ ?_
            · intro i o r ho hr L fr wx hW hL hpr hds hdef hpre hfree
              clear hL hpr hds hdef
              match i, ho, hr with
              | 0, ho, hr =>
                obtain rfl := Option.some.inj ho; obtain rfl := Option.some.inj hr
                have t2 := ev_tmp (show fr.eval (.tmp 2) = .pointer (some ⟨w.heap.size, 0, none⟩) from hfree 2 (by decide))
                clear hpre hfree
                have c0 := (hW.cell (p := ⟨w.heap.size, 0, none⟩) lt0).trans k00
                have c1 := (hW.cell (p := ⟨w.heap.size, 1, none⟩) lt0).trans k01
                refine stpK rfl rfl fun K hK => ?_
                go_simp
                exact hK _ _ ⟨rfl, hW, Below.refl _ _, fun h => (List.not_mem_nil h).elim⟩
              | 1, ho, hr =>
                obtain rfl := Option.some.inj ho; obtain rfl := Option.some.inj hr
                have e0 := ev_tmp (show fr.eval (.tmp 23) = .agg #[.int .i64 (s), .slice none (n) (c)] from hpre 0 (by decide) _ rfl)
                clear hpre hfree
                refine stpK rfl rfl fun K hK => ?_
                go_simp
                refine (sign_any wx _ x (hX wx (hB1.trans (hW.mono hB1.size)))).mono ?_
                rintro e wy ⟨rfl, hb⟩
                exact hK _ _ ⟨rfl, hW.trans (hb.mono hW.size), hb, fun h => (List.not_mem_nil h).elim⟩
              | 2, ho, hr =>
                obtain rfl := Option.some.inj ho; obtain rfl := Option.some.inj hr
                have t3 := ev_tmp (show fr.eval (.tmp 3) = .pointer (some ⟨w.heap.size + 1, 0, none⟩) from hfree 3 (by decide))
                clear hpre hfree
                have c0 := (hW.cell (p := ⟨w.heap.size + 1, 0, none⟩) lt1).trans k10
                have c1 := (hW.cell (p := ⟨w.heap.size + 1, 1, none⟩) lt1).trans k11
                refine stpK rfl rfl fun K hK => ?_
                go_simp
                exact hK _ _ ⟨rfl, hW, Below.refl _ _, fun h => (List.not_mem_nil h).elim⟩
              | 3, ho, hr =>
                obtain rfl := Option.some.inj ho; obtain rfl := Option.some.inj hr
                have e2 := ev_tmp (show fr.eval (.tmp 25) = .agg #[.int .i64 (t), .slice (some b) (m) (d)] from hpre 2 (by decide) _ rfl)
                clear hpre hfree
                refine stpK rfl rfl fun K hK => ?_
                go_simp
                refine (sign_any wx _ y (hY wx (hB1.trans (hW.mono hB1.size)))).mono ?_
                rintro e wy ⟨rfl, hb⟩
                exact hK _ _ ⟨rfl, hW.trans (hb.mono hW.size), hb, fun h => (List.not_mem_nil h).elim⟩
              | 4, ho, hr =>
                obtain rfl := Option.some.inj ho; obtain rfl := Option.some.inj hr
                have e1 := ev_tmp (show fr.eval (.tmp 24) = .int .i64 (cmpI x 0) from hpre 1 (by decide) _ rfl)
                have e3 := ev_tmp (show fr.eval (.tmp 26) = .int .i64 (cmpI y 0) from hpre 3 (by decide) _ rfl)
                clear hpre hfree
                refine stpK rfl rfl fun K hK => ?_
                go_simp
                refine (compare_i _ _ wx).mono ?_
                rintro e wy ⟨rfl, rfl⟩
                exact hK _ _ ⟨rfl, hW, Below.refl _ _, fun h => (List.not_mem_nil h).elim⟩
              | 5, ho, hr =>
                obtain rfl := Option.some.inj ho; obtain rfl := Option.some.inj hr
                have e4 := ev_tmp (show fr.eval (.tmp 27) = .int .i64 (cmpI (cmpI x 0) (cmpI y 0)) from hpre 4 (by decide) _ rfl)
                clear hpre hfree
                refine stpK rfl rfl fun K hK => ?_
                go_simp
                exact hK _ _ ⟨rfl, hW, Below.refl _ _, fun h => (List.not_mem_nil h).elim⟩
              | n + 6, ho, hr => exact absurd hr (by simp)
            · intro vs wn hvs hW1 hap0
              clear hap0
              have e0 : vs 0 = .agg #[.int .i64 (s), .slice none (n) (c)] := hvs 0 (by decide)
              have e1 : vs 1 = .int .i64 (cmpI x 0) := hvs 1 (by decide)
              have e2 : vs 2 = .agg #[.int .i64 (t), .slice (some b) (m) (d)] := hvs 2 (by decide)
              have e3 : vs 3 = .int .i64 (cmpI y 0) := hvs 3 (by decide)
              have e4 : vs 4 = .int .i64 (cmpI (cmpI x 0) (cmpI y 0)) := hvs 4 (by decide)
              have e5 : vs 5 = .int .i64 (cmpI (cmpI x 0) (cmpI y 0)) := hvs 5 (by decide)
              simp only [puts, Nat.reduceAdd, e0, e1, e2, e3, e4, e5, Act.put, List.setIfInBounds_toArray, List.set_cons_zero, List.set_cons_succ, List.drop_succ_cons, List.drop_zero, List.length_cons, List.length_nil]
              clear hvs e0 e1 e2 e3 e4 e5
              rw [he.out]
              go_wp2
              go_ret
              exact ⟨rfl, hB1.trans (hW1.mono hB1.size)⟩
      · clear hn
        go_enter Tryz.func28, Tryz.ntmps28
        go_wp2
        refine wp_world (fun w1 => Below w.heap.size w w1 ∧ w.heap.size + 1 < w1.heap.size ∧ w1.cell? ⟨w.heap.size, 0, none⟩ = some (.int .i64 s) ∧ w1.cell? ⟨w.heap.size, 1, none⟩ = some (.slice (some a) n c) ∧ w1.cell? ⟨w.heap.size + 1, 0, none⟩ = some (.int .i64 t) ∧ w1.cell? ⟨w.heap.size + 1, 1, none⟩ = some (.slice b m d)) ⟨bel2 _ _ _, by simp, by simp [go_sem], by simp [go_sem], by simp [go_sem], by simp [go_sem]⟩ ?_
        rintro w1 ⟨hB1, hl, k00, k01, k10, k11⟩
        have lt0 : w.heap.size < w1.heap.size := by omega
        have lt1 : w.heap.size + 1 < w1.heap.size := by omega
        refine wp_drawn mixed [⟨18, [], [], [2]⟩, ⟨19, [0], [0], []⟩, ⟨20, [], [], [3]⟩, ⟨21, [1, 2], [0, 1, 2], []⟩, ⟨22, [1, 3], [0, 1, 2, 3], []⟩] [] (by kernel_rfl) 36 rfl (by kernel_rfl) (fun (i : Nat) (v : Value) (wq : World) => match i with | 0 => v = .agg #[.int .i64 (s), .slice (some a) (n) (c)] | 1 => v = .int .i64 (cmpI x 0) | 2 => v = .agg #[.int .i64 (t), .slice b (m) (d)] | 3 => v = .int .i64 (cmpI y 0) | 4 => v = .bool ((cmpI x 0 : Int) != (cmpI y 0)) | _ => True) (fun _ wq => Below w1.heap.size w1 wq) (fun wx wy => Below wx.heap.size wx wy) (Below.refl _ _).drew (fun i v wx wy h hx => match i, h with | 0, h => h | 1, h => h | 2, h => h | 3, h => h | 4, h => h  | n + 5, _ => trivial) ?_ ?_
        · intro i o r ho hr L fr wx hW hL hpr hds hdef hpre hfree
          clear hL hpr hds hdef
          match i, ho, hr with
          | 0, ho, hr =>
            obtain rfl := Option.some.inj ho; obtain rfl := Option.some.inj hr
            have t2 := ev_tmp (show fr.eval (.tmp 2) = .pointer (some ⟨w.heap.size, 0, none⟩) from hfree 2 (by decide))
            clear hpre hfree
            have c0 := (hW.cell (p := ⟨w.heap.size, 0, none⟩) lt0).trans k00
            have c1 := (hW.cell (p := ⟨w.heap.size, 1, none⟩) lt0).trans k01
            refine stpK rfl rfl fun K hK => ?_
            go_simp
            exact hK _ _ ⟨rfl, hW, Below.refl _ _, fun h => (List.not_mem_nil h).elim⟩
          | 1, ho, hr =>
            obtain rfl := Option.some.inj ho; obtain rfl := Option.some.inj hr
            have e0 := ev_tmp (show fr.eval (.tmp 18) = .agg #[.int .i64 (s), .slice (some a) (n) (c)] from hpre 0 (by decide) _ rfl)
            clear hpre hfree
            refine stpK rfl rfl fun K hK => ?_
            go_simp
            refine (sign_any wx _ x (hX wx (hB1.trans (hW.mono hB1.size)))).mono ?_
            rintro e wy ⟨rfl, hb⟩
            exact hK _ _ ⟨rfl, hW.trans (hb.mono hW.size), hb, fun h => (List.not_mem_nil h).elim⟩
          | 2, ho, hr =>
            obtain rfl := Option.some.inj ho; obtain rfl := Option.some.inj hr
            have t3 := ev_tmp (show fr.eval (.tmp 3) = .pointer (some ⟨w.heap.size + 1, 0, none⟩) from hfree 3 (by decide))
            clear hpre hfree
            have c0 := (hW.cell (p := ⟨w.heap.size + 1, 0, none⟩) lt1).trans k10
            have c1 := (hW.cell (p := ⟨w.heap.size + 1, 1, none⟩) lt1).trans k11
            refine stpK rfl rfl fun K hK => ?_
            go_simp
            exact hK _ _ ⟨rfl, hW, Below.refl _ _, fun h => (List.not_mem_nil h).elim⟩
          | 3, ho, hr =>
            obtain rfl := Option.some.inj ho; obtain rfl := Option.some.inj hr
            have e2 := ev_tmp (show fr.eval (.tmp 20) = .agg #[.int .i64 (t), .slice b (m) (d)] from hpre 2 (by decide) _ rfl)
            clear hpre hfree
            refine stpK rfl rfl fun K hK => ?_
            go_simp
            refine (sign_any wx _ y (hY wx (hB1.trans (hW.mono hB1.size)))).mono ?_
            rintro e wy ⟨rfl, hb⟩
            exact hK _ _ ⟨rfl, hW.trans (hb.mono hW.size), hb, fun h => (List.not_mem_nil h).elim⟩
          | 4, ho, hr =>
            obtain rfl := Option.some.inj ho; obtain rfl := Option.some.inj hr
            have e1 := ev_tmp (show fr.eval (.tmp 19) = .int .i64 (cmpI x 0) from hpre 1 (by decide) _ rfl)
            have e3 := ev_tmp (show fr.eval (.tmp 21) = .int .i64 (cmpI y 0) from hpre 3 (by decide) _ rfl)
            clear hpre hfree
            refine stpK rfl rfl fun K hK => ?_
            go_simp
            exact hK _ _ ⟨rfl, hW, Below.refl _ _, fun h => (List.not_mem_nil h).elim⟩
          | n + 5, ho, hr => exact absurd hr (by simp)
        · intro vs wn hvs hW1 hap0
          clear hap0
          have e0 : vs 0 = .agg #[.int .i64 (s), .slice (some a) (n) (c)] := hvs 0 (by decide)
          have e1 : vs 1 = .int .i64 (cmpI x 0) := hvs 1 (by decide)
          have e2 : vs 2 = .agg #[.int .i64 (t), .slice b (m) (d)] := hvs 2 (by decide)
          have e3 : vs 3 = .int .i64 (cmpI y 0) := hvs 3 (by decide)
          have e4 : vs 4 = .bool ((cmpI x 0 : Int) != (cmpI y 0)) := hvs 4 (by decide)
          simp only [puts, Nat.reduceAdd, e0, e1, e2, e3, e4, Act.put, List.setIfInBounds_toArray, List.set_cons_zero, List.set_cons_succ, List.drop_succ_cons, List.drop_zero, List.length_cons, List.length_nil]
          clear hvs e0 e1 e2 e3 e4
          replace k00 := (hW1.cell (p := ⟨w.heap.size, 0, none⟩) lt0).trans k00
          replace k01 := (hW1.cell (p := ⟨w.heap.size, 1, none⟩) lt0).trans k01
          replace k10 := (hW1.cell (p := ⟨w.heap.size + 1, 0, none⟩) lt1).trans k10
          replace k11 := (hW1.cell (p := ⟨w.heap.size + 1, 1, none⟩) lt1).trans k11
          replace lt0 := Nat.lt_of_lt_of_le lt0 hW1.size
          replace lt1 := Nat.lt_of_lt_of_le lt1 hW1.size
          replace hl := Nat.lt_of_lt_of_le hl hW1.size
          replace hB1 := hB1.trans (hW1.mono hB1.size)
          clear hW1
          have hs := HS.out
          go_wp2
          clear hs
          refine wp_world (fun w1 => w1 = wn) rfl ?_
          rintro w1 rfl
          refine wp_drawn mixed [⟨23, [], [], [2]⟩, ⟨24, [0], [0], []⟩, ⟨25, [], [], [3]⟩, ⟨26, [1, 2], [0, 1, 2], []⟩, ⟨27, [1, 3], [0, 1, 2, 3], []⟩, ⟨4, [0, 1, 2, 3, 4], [0, 1, 2, 3, 4], []⟩] [] (by kernel_rfl) 36 rfl (by kernel_rfl) (fun (i : Nat) (v : Value) (wq : World) => match i with | 0 => v = .agg #[.int .i64 (s), .slice (some a) (n) (c)] | 1 => v = .int .i64 (cmpI x 0) | 2 => v = .agg #[.int .i64 (t), .slice b (m) (d)] | 3 => v = .int .i64 (cmpI y 0) | 4 => v = .int .i64 (cmpI (cmpI x 0) (cmpI y 0)) | 5 => v = .int .i64 (cmpI (cmpI x 0) (cmpI y 0)) | _ => True) (fun _ wq => Below w1.heap.size w1 wq) (fun wx wy => Below wx.heap.size wx wy) (Below.refl _ _).drew (fun i v wx wy h hx => match i, h with | 0, h => h | 1, h => h | 2, h => h | 3, h => h | 4, h => h | 5, h => h  | n + 6, _ => trivial) ?_ ?_
          · intro i o r ho hr L fr wx hW hL hpr hds hdef hpre hfree
            clear hL hpr hds hdef
            match i, ho, hr with
            | 0, ho, hr =>
              obtain rfl := Option.some.inj ho; obtain rfl := Option.some.inj hr
              have t2 := ev_tmp (show fr.eval (.tmp 2) = .pointer (some ⟨w.heap.size, 0, none⟩) from hfree 2 (by decide))
              clear hpre hfree
              have c0 := (hW.cell (p := ⟨w.heap.size, 0, none⟩) lt0).trans k00
              have c1 := (hW.cell (p := ⟨w.heap.size, 1, none⟩) lt0).trans k01
              refine stpK rfl rfl fun K hK => ?_
              go_simp
              exact hK _ _ ⟨rfl, hW, Below.refl _ _, fun h => (List.not_mem_nil h).elim⟩
            | 1, ho, hr =>
              obtain rfl := Option.some.inj ho; obtain rfl := Option.some.inj hr
              have e0 := ev_tmp (show fr.eval (.tmp 23) = .agg #[.int .i64 (s), .slice (some a) (n) (c)] from hpre 0 (by decide) _ rfl)
              clear hpre hfree
              refine stpK rfl rfl fun K hK => ?_
              go_simp
              refine (sign_any wx _ x (hX wx (hB1.trans (hW.mono hB1.size)))).mono ?_
              rintro e wy ⟨rfl, hb⟩
              exact hK _ _ ⟨rfl, hW.trans (hb.mono hW.size), hb, fun h => (List.not_mem_nil h).elim⟩
            | 2, ho, hr =>
              obtain rfl := Option.some.inj ho; obtain rfl := Option.some.inj hr
              have t3 := ev_tmp (show fr.eval (.tmp 3) = .pointer (some ⟨w.heap.size + 1, 0, none⟩) from hfree 3 (by decide))
              clear hpre hfree
              have c0 := (hW.cell (p := ⟨w.heap.size + 1, 0, none⟩) lt1).trans k10
              have c1 := (hW.cell (p := ⟨w.heap.size + 1, 1, none⟩) lt1).trans k11
              refine stpK rfl rfl fun K hK => ?_
              go_simp
              exact hK _ _ ⟨rfl, hW, Below.refl _ _, fun h => (List.not_mem_nil h).elim⟩
            | 3, ho, hr =>
              obtain rfl := Option.some.inj ho; obtain rfl := Option.some.inj hr
              have e2 := ev_tmp (show fr.eval (.tmp 25) = .agg #[.int .i64 (t), .slice b (m) (d)] from hpre 2 (by decide) _ rfl)
              clear hpre hfree
              refine stpK rfl rfl fun K hK => ?_
              go_simp
              refine (sign_any wx _ y (hY wx (hB1.trans (hW.mono hB1.size)))).mono ?_
              rintro e wy ⟨rfl, hb⟩
              exact hK _ _ ⟨rfl, hW.trans (hb.mono hW.size), hb, fun h => (List.not_mem_nil h).elim⟩
            | 4, ho, hr =>
              obtain rfl := Option.some.inj ho; obtain rfl := Option.some.inj hr
              have e1 := ev_tmp (show fr.eval (.tmp 24) = .int .i64 (cmpI x 0) from hpre 1 (by decide) _ rfl)
              have e3 := ev_tmp (show fr.eval (.tmp 26) = .int .i64 (cmpI y 0) from hpre 3 (by decide) _ rfl)
              clear hpre hfree
              refine stpK rfl rfl fun K hK => ?_
              go_simp
              refine (compare_i _ _ wx).mono ?_
              rintro e wy ⟨rfl, rfl⟩
              exact hK _ _ ⟨rfl, hW, Below.refl _ _, fun h => (List.not_mem_nil h).elim⟩
            | 5, ho, hr =>
              obtain rfl := Option.some.inj ho; obtain rfl := Option.some.inj hr
              have e4 := ev_tmp (show fr.eval (.tmp 27) = .int .i64 (cmpI (cmpI x 0) (cmpI y 0)) from hpre 4 (by decide) _ rfl)
              clear hpre hfree
              refine stpK rfl rfl fun K hK => ?_
              go_simp
              exact hK _ _ ⟨rfl, hW, Below.refl _ _, fun h => (List.not_mem_nil h).elim⟩
            | n + 6, ho, hr => exact absurd hr (by simp)
          · intro vs wn hvs hW1 hap0
            clear hap0
            have e0 : vs 0 = .agg #[.int .i64 (s), .slice (some a) (n) (c)] := hvs 0 (by decide)
            have e1 : vs 1 = .int .i64 (cmpI x 0) := hvs 1 (by decide)
            have e2 : vs 2 = .agg #[.int .i64 (t), .slice b (m) (d)] := hvs 2 (by decide)
            have e3 : vs 3 = .int .i64 (cmpI y 0) := hvs 3 (by decide)
            have e4 : vs 4 = .int .i64 (cmpI (cmpI x 0) (cmpI y 0)) := hvs 4 (by decide)
            have e5 : vs 5 = .int .i64 (cmpI (cmpI x 0) (cmpI y 0)) := hvs 5 (by decide)
            simp only [puts, Nat.reduceAdd, e0, e1, e2, e3, e4, e5, Act.put, List.setIfInBounds_toArray, List.set_cons_zero, List.set_cons_succ, List.drop_succ_cons, List.drop_zero, List.length_cons, List.length_nil]
            clear hvs e0 e1 e2 e3 e4 e5
            rw [he.out]
            go_wp2
            go_ret
            exact ⟨rfl, hB1.trans (hW1.mono hB1.size)⟩
end Go.Proofs.YtjlkplidpdhgbaaGreatDoor
