/- A part of the proof: W20. -/
import Derived.Test.YtjlkplidpdhgbaaGreatDoorP17
set_option linter.all false

namespace Go.Proofs.YtjlkplidpdhgbaaGreatDoor
open Go Go.Proofs Go.RowKit Go.Rad


set_option maxRecDepth 10000 in
set_option maxHeartbeats 2000000 in
theorem sum_any (w : World) (vx vy : Value) (x y : Int) (bl : Bool) (L : Nat) (hx : IsInt w vx x) (hy : IsInt w vy y) (hbx : x.natAbs < B ^ L) (hby : y.natAbs < B ^ L) (hL : L ≤ 1099511627776) :
    Calls Tryz.prog 78 #[vx, vy, .bool bl] w fun e w' => ∃ v, e = .returned v ∧ Below w.heap.size w w' ∧ IsInt w' v (x + sgn bl y.natAbs) := by
  obtain ⟨s, a, n, c, rfl⟩ := hx.form
  obtain ⟨t, b, m, d, rfl⟩ := hy.form
  obtain ⟨g1, g2, g3, g4, g5⟩ := hx.sgn
  have hX : ∀ w1, Below w.heap.size w w1 → IsInt w1 (.agg #[.int .i64 s, .slice a n c]) x := fun w1 h => hx.below h
  have hY : ∀ w1, Below w.heap.size w w1 → IsInt w1 (.agg #[.int .i64 t, .slice b m d]) y := fun w1 h => hy.below h
  have hres : Hid ((decide (s < 0) = bl → sgn bl (x.natAbs + y.natAbs) = x + sgn bl y.natAbs) ∧ (¬ decide (s < 0) = bl → x.natAbs < y.natAbs → sgn bl (y.natAbs - x.natAbs) = x + sgn bl y.natAbs) ∧
      (¬ decide (s < 0) = bl → ¬ x.natAbs < y.natAbs → sgn (decide (s < 0)) (x.natAbs - y.natAbs) = x + sgn bl y.natAbs)) := by
    show _ ∧ _ ∧ _
    by_cases h0 : s < 0
    · rw [decide_eq_true h0]
      cases bl <;> simp only [sgn_pos, sgn_neg] <;> refine ⟨fun h => ?_, fun h h' => ?_, fun h h' => ?_⟩ <;> first | omega | simp at h
    · rw [decide_eq_false h0]
      cases bl <;> simp only [sgn_pos, sgn_neg] <;> refine ⟨fun h => ?_, fun h h' => ?_, fun h h' => ?_⟩ <;> first | omega | simp at h
  clear hx hy g3 g4 g5
  go_enter Tryz.func78, Tryz.ntmps78
  go_wp2
  refine wp_world (fun w1 => Below w.heap.size w w1 ∧ w.heap.size + 2 < w1.heap.size ∧ w1.cell? ⟨w.heap.size, 0, none⟩ = some (.int .i64 s) ∧ w1.cell? ⟨w.heap.size, 1, none⟩ = some (.slice a n c) ∧ w1.cell? ⟨w.heap.size + 1, 0, none⟩ = some (.int .i64 t) ∧ w1.cell? ⟨w.heap.size + 1, 1, none⟩ = some (.slice b m d) ∧ w1.cell? ⟨w.heap.size + 2, 0, none⟩ = some (.int .i64 0) ∧ w1.cell? ⟨w.heap.size + 2, 1, none⟩ = some (.slice none 0 0) ∧ w1.frozen? ⟨w.heap.size + 2, 0, none⟩ = false ∧ w1.frozen? ⟨w.heap.size + 2, 1, none⟩ = false) ⟨bel3 _ _ _ _, by simp, by simp [go_sem], by simp [go_sem], by simp [go_sem], by simp [go_sem], by simp [go_sem], by simp [go_sem], by simp [go_sem], by simp [go_sem]⟩ ?_
  rintro w1 ⟨hB1, hl, k00, k01, k10, k11, r0, r1, f0, f1⟩
  have lt0 : w.heap.size < w1.heap.size := by omega
  have lt1 : w.heap.size + 1 < w1.heap.size := by omega
  refine wp_drawn mixed [⟨9, [], [], [3]⟩, ⟨10, [0], [0], []⟩, ⟨11, [], [], [4]⟩, ⟨12, [1, 2], [0, 1, 2], []⟩, ⟨7, [0, 1, 3], [0, 1, 2, 3], []⟩, ⟨8, [0, 1, 2, 3, 4], [0, 1, 2, 3, 4], []⟩] [] (by kernel_rfl) 39 rfl (by kernel_rfl) (fun (i : Nat) (v : Value) (wq : World) => match i with | 0 => v = .agg #[.int .i64 (s), .slice a (n) (c)] | 1 => ∃ n, Mag wq v x.natAbs n | 2 => v = .agg #[.int .i64 (t), .slice b (m) (d)] | 3 => ∃ n, Mag wq v y.natAbs n | 4 => ∃ n, Mag wq v x.natAbs n | 5 => ∃ n, Mag wq v y.natAbs n | _ => True) (fun _ wq => Below w1.heap.size w1 wq) (fun wx wy => Below wx.heap.size wx wy) (Below.refl _ _).drew (fun i v wx wy h hx => match i, h with | 0, h => h | 2, h => h | 1, h => by obtain ⟨n, h⟩ := h; exact ⟨n, h.below hx⟩ | 3, h => by obtain ⟨n, h⟩ := h; exact ⟨n, h.below hx⟩ | 4, h => by obtain ⟨n, h⟩ := h; exact ⟨n, h.below hx⟩ | 5, h => by obtain ⟨n, h⟩ := h; exact ⟨n, h.below hx⟩ | n + 6, _ => trivial) ?_ ?_
  · intro i o r ho hr L fr wx hW hL hpr hds hdef hpre hfree
    clear hL hpr hds hdef
    match i, ho, hr with
    | 0, ho, hr =>
      obtain rfl := Option.some.inj ho; obtain rfl := Option.some.inj hr
      have t3 := ev_tmp (show fr.eval (.tmp 3) = .pointer (some ⟨w.heap.size, 0, none⟩) from hfree 3 (by decide))
      clear hpre hfree
      have c0 := (hW.cell (p := ⟨w.heap.size, 0, none⟩) lt0).trans k00
      have c1 := (hW.cell (p := ⟨w.heap.size, 1, none⟩) lt0).trans k01
      refine stpK rfl rfl fun K hK => ?_
      go_simp
      exact hK _ _ ⟨rfl, hW, Below.refl _ _, fun h => (List.not_mem_nil h).elim⟩
    | 1, ho, hr =>
      obtain rfl := Option.some.inj ho; obtain rfl := Option.some.inj hr
      have e0 := ev_tmp (show fr.eval (.tmp 9) = .agg #[.int .i64 (s), .slice a (n) (c)] from hpre 0 (by decide) _ rfl)
      clear hpre hfree
      refine stpK rfl rfl fun K hK => ?_
      go_simp
      refine (magnitude_any wx _ x (hX wx (hB1.trans (hW.mono hB1.size)))).mono ?_
      rintro e wy ⟨v4, n4, rfl, hb, hm4⟩
      exact hK _ _ ⟨⟨n4, hm4⟩, hW.trans (hb.mono hW.size), hb, fun h => (List.not_mem_nil h).elim⟩
    | 2, ho, hr =>
      obtain rfl := Option.some.inj ho; obtain rfl := Option.some.inj hr
      have t4 := ev_tmp (show fr.eval (.tmp 4) = .pointer (some ⟨w.heap.size + 1, 0, none⟩) from hfree 4 (by decide))
      clear hpre hfree
      have c0 := (hW.cell (p := ⟨w.heap.size + 1, 0, none⟩) lt1).trans k10
      have c1 := (hW.cell (p := ⟨w.heap.size + 1, 1, none⟩) lt1).trans k11
      refine stpK rfl rfl fun K hK => ?_
      go_simp
      exact hK _ _ ⟨rfl, hW, Below.refl _ _, fun h => (List.not_mem_nil h).elim⟩
    | 3, ho, hr =>
      obtain rfl := Option.some.inj ho; obtain rfl := Option.some.inj hr
      have e2 := ev_tmp (show fr.eval (.tmp 11) = .agg #[.int .i64 (t), .slice b (m) (d)] from hpre 2 (by decide) _ rfl)
      clear hpre hfree
      refine stpK rfl rfl fun K hK => ?_
      go_simp
      refine (magnitude_any wx _ y (hY wx (hB1.trans (hW.mono hB1.size)))).mono ?_
      rintro e wy ⟨v4, n4, rfl, hb, hm4⟩
      exact hK _ _ ⟨⟨n4, hm4⟩, hW.trans (hb.mono hW.size), hb, fun h => (List.not_mem_nil h).elim⟩
    | 4, ho, hr =>
      obtain rfl := Option.some.inj ho; obtain rfl := Option.some.inj hr
      obtain ⟨u1, q1⟩ : ∃ u, fr.eval (.tmp 10) = u := ⟨_, rfl⟩
      have p1 : ∃ n, Mag wx u1 x.natAbs n := by rw [← q1]; exact hpre 1 (by decide) _ rfl
      have e1 := ev_tmp q1; clear q1
      clear hpre hfree
      refine stpK rfl rfl fun K hK => ?_
      go_simp
      exact hK _ _ ⟨p1, hW, Below.refl _ _, fun h => (List.not_mem_nil h).elim⟩
    | 5, ho, hr =>
      obtain rfl := Option.some.inj ho; obtain rfl := Option.some.inj hr
      obtain ⟨u3, q3⟩ : ∃ u, fr.eval (.tmp 12) = u := ⟨_, rfl⟩
      have p3 : ∃ n, Mag wx u3 y.natAbs n := by rw [← q3]; exact hpre 3 (by decide) _ rfl
      have e3 := ev_tmp q3; clear q3
      clear hpre hfree
      refine stpK rfl rfl fun K hK => ?_
      go_simp
      exact hK _ _ ⟨p3, hW, Below.refl _ _, fun h => (List.not_mem_nil h).elim⟩
    | n + 6, ho, hr => exact absurd hr (by simp)
  · intro vs wn hvs hW1 hap0
    clear hap0
    have e0 : vs 0 = .agg #[.int .i64 (s), .slice a (n) (c)] := hvs 0 (by decide)
    obtain ⟨u1, e1⟩ : ∃ u, vs 1 = u := ⟨_, rfl⟩
    have p1 : ∃ n, Mag wn u1 x.natAbs n := by rw [← e1]; exact hvs 1 (by decide)
    have e2 : vs 2 = .agg #[.int .i64 (t), .slice b (m) (d)] := hvs 2 (by decide)
    obtain ⟨u3, e3⟩ : ∃ u, vs 3 = u := ⟨_, rfl⟩
    have p3 : ∃ n, Mag wn u3 y.natAbs n := by rw [← e3]; exact hvs 3 (by decide)
    obtain ⟨u4, e4⟩ : ∃ u, vs 4 = u := ⟨_, rfl⟩
    have p4 : ∃ n, Mag wn u4 x.natAbs n := by rw [← e4]; exact hvs 4 (by decide)
    obtain ⟨u5, e5⟩ : ∃ u, vs 5 = u := ⟨_, rfl⟩
    have p5 : ∃ n, Mag wn u5 y.natAbs n := by rw [← e5]; exact hvs 5 (by decide)
    simp only [puts, Nat.reduceAdd, e0, e1, e2, e3, e4, e5, Act.put, List.setIfInBounds_toArray, List.set_cons_zero, List.set_cons_succ, List.drop_succ_cons, List.drop_zero, List.length_cons, List.length_nil]
    clear hvs e0 e1 e2 e3 e4 e5
    replace k00 := (hW1.cell (p := ⟨w.heap.size, 0, none⟩) lt0).trans k00
    replace k01 := (hW1.cell (p := ⟨w.heap.size, 1, none⟩) lt0).trans k01
    replace k10 := (hW1.cell (p := ⟨w.heap.size + 1, 0, none⟩) lt1).trans k10
    replace k11 := (hW1.cell (p := ⟨w.heap.size + 1, 1, none⟩) lt1).trans k11
    replace r0 := (hW1.cell (p := ⟨w.heap.size + 2, 0, none⟩) hl).trans r0
    replace f0 := (hW1.frozen (p := ⟨w.heap.size + 2, 0, none⟩) hl).trans f0
    replace r1 := (hW1.cell (p := ⟨w.heap.size + 2, 1, none⟩) hl).trans r1
    replace f1 := (hW1.frozen (p := ⟨w.heap.size + 2, 1, none⟩) hl).trans f1
    replace lt0 := Nat.lt_of_lt_of_le lt0 hW1.size
    replace lt1 := Nat.lt_of_lt_of_le lt1 hW1.size
    replace hl := Nat.lt_of_lt_of_le hl hW1.size
    replace hB1 := hB1.trans (hW1.mono hB1.size)
    clear hW1 hX hY p1 p3
    obtain ⟨n1, p4⟩ := p4
    obtain ⟨n3, p5⟩ := p5
    have l1 := p4.len_le hbx
    have l3 := p5.len_le hby
    by_cases hd : decide (s < 0) = bl
    · have hr := hres.out.1 hd
      have HR : Hid _ := hr
      clear hres hr
      go_wp2_with (first
        | (go_at_call 111; refine (addWords_core _ _ _ _ _ _ _ p4 p5 (by omega) (by omega)).mono ?_; rintro e w5 ⟨v5, n5, rfl, hb5, hm5, _⟩; replace k00 := (hb5.cell (p := ⟨w.heap.size, 0, none⟩) lt0).trans k00; replace k01 := (hb5.cell (p := ⟨w.heap.size, 1, none⟩) lt0).trans k01; replace k10 := (hb5.cell (p := ⟨w.heap.size + 1, 0, none⟩) lt1).trans k10; replace k11 := (hb5.cell (p := ⟨w.heap.size + 1, 1, none⟩) lt1).trans k11; replace r0 := (hb5.cell (p := ⟨w.heap.size + 2, 0, none⟩) hl).trans r0; replace f0 := (hb5.frozen (p := ⟨w.heap.size + 2, 0, none⟩) hl).trans f0; replace r1 := (hb5.cell (p := ⟨w.heap.size + 2, 1, none⟩) hl).trans r1; replace f1 := (hb5.frozen (p := ⟨w.heap.size + 2, 1, none⟩) hl).trans f1; replace lt0 := Nat.lt_of_lt_of_le lt0 hb5.size; replace lt1 := Nat.lt_of_lt_of_le lt1 hb5.size; replace hl := Nat.lt_of_lt_of_le hl hb5.size; replace hB1 := hB1.trans (hb5.mono hB1.size))
        | (go_at_call 76; refine (signed_any _ _ _ _ _ hm5).mono ?_; rintro e w6 ⟨v6, rfl, hb6, hm6⟩; rw [HR.out] at hm6; replace k00 := (hb6.cell (p := ⟨w.heap.size, 0, none⟩) lt0).trans k00; replace k01 := (hb6.cell (p := ⟨w.heap.size, 1, none⟩) lt0).trans k01; replace k10 := (hb6.cell (p := ⟨w.heap.size + 1, 0, none⟩) lt1).trans k10; replace k11 := (hb6.cell (p := ⟨w.heap.size + 1, 1, none⟩) lt1).trans k11; replace r0 := (hb6.cell (p := ⟨w.heap.size + 2, 0, none⟩) hl).trans r0; replace f0 := (hb6.frozen (p := ⟨w.heap.size + 2, 0, none⟩) hl).trans f0; replace r1 := (hb6.cell (p := ⟨w.heap.size + 2, 1, none⟩) hl).trans r1; replace f1 := (hb6.frozen (p := ⟨w.heap.size + 2, 1, none⟩) hl).trans f1; replace lt0 := Nat.lt_of_lt_of_le lt0 hb6.size; replace lt1 := Nat.lt_of_lt_of_le lt1 hb6.size; replace hl := Nat.lt_of_lt_of_le hl hb6.size; replace hB1 := hB1.trans (hb6.mono hB1.size); obtain ⟨s5, a5, n5, c5, rfl⟩ := hm6.form; have HE : Hid _ := ((hB1.setCell (p := ⟨w.heap.size + 2, 0, none⟩) (by simp; try omega) (.int .i64 s5)).setCell (p := ⟨w.heap.size + 2, 1, none⟩) (by simp; try omega) (.slice a5 n5 c5)); have HI : Hid _ := hm6.stored (u1 := .int .i64 s5) (u2 := .slice a5 n5 c5) r0 r1 (by intro q; simp); clear hm6 hB1 hl))
      refine bodyPost_ret (v := .agg #[.int .i64 s5, .slice a5 n5 c5]) (by simp [results, go_sem, loadVar, World.cell?_setCell_same, *]) rfl ?_
      exact ⟨_, rfl, HE.out, HI.out⟩
    · by_cases hlt : x.natAbs < y.natAbs
      · have hr := hres.out.2.1 hd hlt
        have HR : Hid _ := hr
        have hc : cmpI ((x.natAbs : Nat) : Int) ((y.natAbs : Nat) : Int) = -1 := cmpI_nat_lt hlt
        have hd' : (decide (s < 0) == bl) = false := by simpa using hd
        clear hres hr hd
        go_wp2_with (first
          | (go_at_call 87; refine (cmp_mag _ _ _ _ _ _ _ p4 p5 (by omega) (by omega)).mono ?_; rintro e w4 ⟨rfl, hb4⟩; rw [hc]; replace p4 := p4.below hb4; replace p5 := p5.below hb4; replace k00 := (hb4.cell (p := ⟨w.heap.size, 0, none⟩) lt0).trans k00; replace k01 := (hb4.cell (p := ⟨w.heap.size, 1, none⟩) lt0).trans k01; replace k10 := (hb4.cell (p := ⟨w.heap.size + 1, 0, none⟩) lt1).trans k10; replace k11 := (hb4.cell (p := ⟨w.heap.size + 1, 1, none⟩) lt1).trans k11; replace r0 := (hb4.cell (p := ⟨w.heap.size + 2, 0, none⟩) hl).trans r0; replace f0 := (hb4.frozen (p := ⟨w.heap.size + 2, 0, none⟩) hl).trans f0; replace r1 := (hb4.cell (p := ⟨w.heap.size + 2, 1, none⟩) hl).trans r1; replace f1 := (hb4.frozen (p := ⟨w.heap.size + 2, 1, none⟩) hl).trans f1; replace lt0 := Nat.lt_of_lt_of_le lt0 hb4.size; replace lt1 := Nat.lt_of_lt_of_le lt1 hb4.size; replace hl := Nat.lt_of_lt_of_le hl hb4.size; replace hB1 := hB1.trans (hb4.mono hB1.size))
          | (go_at_call 112; refine (subWords_any _ _ _ _ _ _ _ p5 p4 (by omega) (by omega)).mono ?_; rintro e w5 ⟨v5, n5, rfl, hb5, hm5, _⟩; replace k00 := (hb5.cell (p := ⟨w.heap.size, 0, none⟩) lt0).trans k00; replace k01 := (hb5.cell (p := ⟨w.heap.size, 1, none⟩) lt0).trans k01; replace k10 := (hb5.cell (p := ⟨w.heap.size + 1, 0, none⟩) lt1).trans k10; replace k11 := (hb5.cell (p := ⟨w.heap.size + 1, 1, none⟩) lt1).trans k11; replace r0 := (hb5.cell (p := ⟨w.heap.size + 2, 0, none⟩) hl).trans r0; replace f0 := (hb5.frozen (p := ⟨w.heap.size + 2, 0, none⟩) hl).trans f0; replace r1 := (hb5.cell (p := ⟨w.heap.size + 2, 1, none⟩) hl).trans r1; replace f1 := (hb5.frozen (p := ⟨w.heap.size + 2, 1, none⟩) hl).trans f1; replace lt0 := Nat.lt_of_lt_of_le lt0 hb5.size; replace lt1 := Nat.lt_of_lt_of_le lt1 hb5.size; replace hl := Nat.lt_of_lt_of_le hl hb5.size; replace hB1 := hB1.trans (hb5.mono hB1.size))
          | (go_at_call 76; refine (signed_any _ _ _ _ _ hm5).mono ?_; rintro e w6 ⟨v6, rfl, hb6, hm6⟩; rw [HR.out] at hm6; replace k00 := (hb6.cell (p := ⟨w.heap.size, 0, none⟩) lt0).trans k00; replace k01 := (hb6.cell (p := ⟨w.heap.size, 1, none⟩) lt0).trans k01; replace k10 := (hb6.cell (p := ⟨w.heap.size + 1, 0, none⟩) lt1).trans k10; replace k11 := (hb6.cell (p := ⟨w.heap.size + 1, 1, none⟩) lt1).trans k11; replace r0 := (hb6.cell (p := ⟨w.heap.size + 2, 0, none⟩) hl).trans r0; replace f0 := (hb6.frozen (p := ⟨w.heap.size + 2, 0, none⟩) hl).trans f0; replace r1 := (hb6.cell (p := ⟨w.heap.size + 2, 1, none⟩) hl).trans r1; replace f1 := (hb6.frozen (p := ⟨w.heap.size + 2, 1, none⟩) hl).trans f1; replace lt0 := Nat.lt_of_lt_of_le lt0 hb6.size; replace lt1 := Nat.lt_of_lt_of_le lt1 hb6.size; replace hl := Nat.lt_of_lt_of_le hl hb6.size; replace hB1 := hB1.trans (hb6.mono hB1.size); obtain ⟨s5, a5, n5, c5, rfl⟩ := hm6.form; have HE : Hid _ := ((hB1.setCell (p := ⟨w.heap.size + 2, 0, none⟩) (by simp; try omega) (.int .i64 s5)).setCell (p := ⟨w.heap.size + 2, 1, none⟩) (by simp; try omega) (.slice a5 n5 c5)); have HI : Hid _ := hm6.stored (u1 := .int .i64 s5) (u2 := .slice a5 n5 c5) r0 r1 (by intro q; simp); clear hm6 hB1 hl))
        refine bodyPost_ret (v := .agg #[.int .i64 s5, .slice a5 n5 c5]) (by simp [results, go_sem, loadVar, World.cell?_setCell_same, *]) rfl ?_
        exact ⟨_, rfl, HE.out, HI.out⟩
      · have hc : ¬ cmpI ((x.natAbs : Nat) : Int) ((y.natAbs : Nat) : Int) < 0 := by
          unfold cmpI; rw [if_neg (by omega)]; split <;> omega
        have HC : Hid _ := hc
        have hr := hres.out.2.2 hd hlt
        have HR : Hid _ := hr
        have hd' : (decide (s < 0) == bl) = false := by simpa using hd
        clear hres hr hd hc
        go_wp2_with (first
          | (go_at_call 87; refine (cmp_mag _ _ _ _ _ _ _ p4 p5 (by omega) (by omega)).mono ?_; rintro e w4 ⟨rfl, hb4⟩; have hc := HC.out; replace p4 := p4.below hb4; replace p5 := p5.below hb4; replace k00 := (hb4.cell (p := ⟨w.heap.size, 0, none⟩) lt0).trans k00; replace k01 := (hb4.cell (p := ⟨w.heap.size, 1, none⟩) lt0).trans k01; replace k10 := (hb4.cell (p := ⟨w.heap.size + 1, 0, none⟩) lt1).trans k10; replace k11 := (hb4.cell (p := ⟨w.heap.size + 1, 1, none⟩) lt1).trans k11; replace r0 := (hb4.cell (p := ⟨w.heap.size + 2, 0, none⟩) hl).trans r0; replace f0 := (hb4.frozen (p := ⟨w.heap.size + 2, 0, none⟩) hl).trans f0; replace r1 := (hb4.cell (p := ⟨w.heap.size + 2, 1, none⟩) hl).trans r1; replace f1 := (hb4.frozen (p := ⟨w.heap.size + 2, 1, none⟩) hl).trans f1; replace lt0 := Nat.lt_of_lt_of_le lt0 hb4.size; replace lt1 := Nat.lt_of_lt_of_le lt1 hb4.size; replace hl := Nat.lt_of_lt_of_le hl hb4.size; replace hB1 := hB1.trans (hb4.mono hB1.size)))
        refine wp_world (fun w1 => w1 = w4) rfl ?_
        rintro w1 rfl
        refine wp_drawn mixed [⟨32, [], [], [3]⟩, ⟨33, [0], [0], []⟩, ⟨34, [1], [0, 1], []⟩, ⟨35, [], [], [7]⟩, ⟨36, [], [], [8]⟩, ⟨37, [3, 4], [3, 4], []⟩, ⟨38, [2, 5], [0, 1, 2, 3, 4, 5], []⟩] [] (by kernel_rfl) 39 rfl (by kernel_rfl) (fun (i : Nat) (v : Value) (wq : World) => match i with | 0 => v = .pointer (some ⟨w.heap.size, 0, none⟩) | 1 => v = .int .i64 (s) | 2 => v = .bool (decide ((s) < (0))) | 3 => v = u4 | 4 => v = u5 | 5 => ∃ n, Mag wq v (x.natAbs - y.natAbs) n | 6 => IsInt wq v (x + sgn bl y.natAbs) | _ => True) (fun _ wq => Below w1.heap.size w1 wq) (fun wx wy => Below wx.heap.size wx wy) (Below.refl _ _).drew (fun i v wx wy h hx => match i, h with | 0, h => h | 1, h => h | 2, h => h | 3, h => h | 4, h => h | 5, h => by obtain ⟨n, h⟩ := h; exact ⟨n, h.below hx⟩ | 6, h => h.below hx | n + 7, _ => trivial) ?_ ?_
        · intro i o r ho hr L fr wx hW hL hpr hds hdef hpre hfree
          clear hL hpr hds hdef
          match i, ho, hr with
          | 0, ho, hr =>
            obtain rfl := Option.some.inj ho; obtain rfl := Option.some.inj hr
            have t3 := ev_tmp (show fr.eval (.tmp 3) = .pointer (some ⟨w.heap.size, 0, none⟩) from hfree 3 (by decide))
            clear hpre hfree
            refine stpK rfl rfl fun K hK => ?_
            go_simp
            exact hK _ _ ⟨rfl, hW, Below.refl _ _, fun h => (List.not_mem_nil h).elim⟩
          | 1, ho, hr =>
            obtain rfl := Option.some.inj ho; obtain rfl := Option.some.inj hr
            have e0 := ev_tmp (show fr.eval (.tmp 32) = .pointer (some ⟨w.heap.size, 0, none⟩) from hpre 0 (by decide) _ rfl)
            clear hpre hfree
            have c0 := (hW.cell (p := ⟨w.heap.size, 0, none⟩) lt0).trans k00
            refine stpK rfl rfl fun K hK => ?_
            go_simp
            exact hK _ _ ⟨rfl, hW, Below.refl _ _, fun h => (List.not_mem_nil h).elim⟩
          | 2, ho, hr =>
            obtain rfl := Option.some.inj ho; obtain rfl := Option.some.inj hr
            have e1 := ev_tmp (show fr.eval (.tmp 33) = .int .i64 (s) from hpre 1 (by decide) _ rfl)
            clear hpre hfree
            refine stpK rfl rfl fun K hK => ?_
            go_simp
            exact hK _ _ ⟨rfl, hW, Below.refl _ _, fun h => (List.not_mem_nil h).elim⟩
          | 3, ho, hr =>
            obtain rfl := Option.some.inj ho; obtain rfl := Option.some.inj hr
            have t7 := ev_tmp (show fr.eval (.tmp 7) = u4 from hfree 7 (by decide))
            clear hpre hfree
            refine stpK rfl rfl fun K hK => ?_
            go_simp
            exact hK _ _ ⟨rfl, hW, Below.refl _ _, fun h => (List.not_mem_nil h).elim⟩
          | 4, ho, hr =>
            obtain rfl := Option.some.inj ho; obtain rfl := Option.some.inj hr
            have t8 := ev_tmp (show fr.eval (.tmp 8) = u5 from hfree 8 (by decide))
            clear hpre hfree
            refine stpK rfl rfl fun K hK => ?_
            go_simp
            exact hK _ _ ⟨rfl, hW, Below.refl _ _, fun h => (List.not_mem_nil h).elim⟩
          | 5, ho, hr =>
            obtain rfl := Option.some.inj ho; obtain rfl := Option.some.inj hr
            have e3 := ev_tmp (show fr.eval (.tmp 35) = u4 from hpre 3 (by decide) _ rfl)
            have e4 := ev_tmp (show fr.eval (.tmp 36) = u5 from hpre 4 (by decide) _ rfl)
            clear hpre hfree
            refine stpK rfl rfl fun K hK => ?_
            go_simp
            refine (subWords_any wx _ _ _ _ _ _ (p4.below hW) (p5.below hW) (by omega) (by omega)).mono ?_
            rintro e wy ⟨v4, n4, rfl, hb, hm4, _⟩
            exact hK _ _ ⟨⟨n4, hm4⟩, hW.trans (hb.mono hW.size), hb, fun h => (List.not_mem_nil h).elim⟩
          | 6, ho, hr =>
            obtain rfl := Option.some.inj ho; obtain rfl := Option.some.inj hr
            have e2 := ev_tmp (show fr.eval (.tmp 34) = .bool (decide ((s) < (0))) from hpre 2 (by decide) _ rfl)
            obtain ⟨u5, q5⟩ : ∃ u, fr.eval (.tmp 37) = u := ⟨_, rfl⟩
            have p5 : ∃ n, Mag wx u5 (x.natAbs - y.natAbs) n := by rw [← q5]; exact hpre 5 (by decide) _ rfl
            have e5 := ev_tmp q5; clear q5
            clear hpre hfree
            refine stpK rfl rfl fun K hK => ?_
            obtain ⟨n4, hm4⟩ := p5
            go_simp
            refine (signed_any wx (decide (s < 0)) _ _ _ hm4).mono ?_
            rintro e wy ⟨v5, rfl, hb, hm5⟩
            exact hK _ _ ⟨by rw [HR.out] at hm5; exact hm5, hW.trans (hb.mono hW.size), hb, fun h => (List.not_mem_nil h).elim⟩
          | n + 7, ho, hr => exact absurd hr (by simp)
        · intro vs wn hvs hW1 hap0
          clear hap0
          have e0 : vs 0 = .pointer (some ⟨w.heap.size, 0, none⟩) := hvs 0 (by decide)
          have e1 : vs 1 = .int .i64 (s) := hvs 1 (by decide)
          have e2 : vs 2 = .bool (decide ((s) < (0))) := hvs 2 (by decide)
          have e3 : vs 3 = u4 := hvs 3 (by decide)
          have e4 : vs 4 = u5 := hvs 4 (by decide)
          obtain ⟨u5, e5⟩ : ∃ u, vs 5 = u := ⟨_, rfl⟩
          have p5 : ∃ n, Mag wn u5 (x.natAbs - y.natAbs) n := by rw [← e5]; exact hvs 5 (by decide)
          obtain ⟨u6, e6⟩ : ∃ u, vs 6 = u := ⟨_, rfl⟩
          have p6 : IsInt wn u6 (x + sgn bl y.natAbs) := by rw [← e6]; exact hvs 6 (by decide)
          simp only [puts, Nat.reduceAdd, e0, e1, e2, e3, e4, e5, e6, Act.put, List.setIfInBounds_toArray, List.set_cons_zero, List.set_cons_succ, List.drop_succ_cons, List.drop_zero, List.length_cons, List.length_nil]
          clear hvs e0 e1 e2 e3 e4 e5 e6
          replace k00 := (hW1.cell (p := ⟨w.heap.size, 0, none⟩) lt0).trans k00
          replace k01 := (hW1.cell (p := ⟨w.heap.size, 1, none⟩) lt0).trans k01
          replace k10 := (hW1.cell (p := ⟨w.heap.size + 1, 0, none⟩) lt1).trans k10
          replace k11 := (hW1.cell (p := ⟨w.heap.size + 1, 1, none⟩) lt1).trans k11
          replace r0 := (hW1.cell (p := ⟨w.heap.size + 2, 0, none⟩) hl).trans r0
          replace f0 := (hW1.frozen (p := ⟨w.heap.size + 2, 0, none⟩) hl).trans f0
          replace r1 := (hW1.cell (p := ⟨w.heap.size + 2, 1, none⟩) hl).trans r1
          replace f1 := (hW1.frozen (p := ⟨w.heap.size + 2, 1, none⟩) hl).trans f1
          replace lt0 := Nat.lt_of_lt_of_le lt0 hW1.size
          replace lt1 := Nat.lt_of_lt_of_le lt1 hW1.size
          replace hl := Nat.lt_of_lt_of_le hl hW1.size
          replace hB1 := hB1.trans (hW1.mono hB1.size)
          obtain ⟨s5, a5, n5, c5, rfl⟩ := p6.form
          have hE := ((hB1.setCell (p := ⟨w.heap.size + 2, 0, none⟩) (by simp; try omega) (.int .i64 s5)).setCell (p := ⟨w.heap.size + 2, 1, none⟩) (by simp; try omega) (.slice a5 n5 c5))
          have hI := p6.stored (u1 := .int .i64 s5) (u2 := .slice a5 n5 c5) r0 r1 (by intro q; simp)
          have HE : Hid _ := hE
          have HI : Hid _ := hI
          clear p6 hB1 hl hE hI
          go_wp2
          refine bodyPost_ret (v := .agg #[.int .i64 s5, .slice a5 n5 c5]) (by simp [results, go_sem, loadVar, World.cell?_setCell_same, *]) rfl ?_
          exact ⟨_, rfl, HE.out, HI.out⟩
end Go.Proofs.YtjlkplidpdhgbaaGreatDoor
