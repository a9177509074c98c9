/- A part of the proof: R13. -/
import Derived.Test.YtjlkplidpdhgbaaGreatDoorP32
import Derived.Test.YtjlkplidpdhgbaaGreatDoorP14
set_option linter.all false

namespace Go.Proofs.YtjlkplidpdhgbaaGreatDoor
open Go Go.Proofs Go.RowKit Go.Rad


set_option maxRecDepth 10000 in
set_option maxHeartbeats 4000000 in
theorem zSmall_below (w : World) (v : Value) (z : Int) (LX : Nat) (hx : IsZ w v z) (hbx : z.natAbs < 10000 ^ LX) (hL : LX ≤ 1073741824) (hL5 : 5 ≤ LX) (hz : z < -9223372036854775808) :
    Calls Tryz.prog 13 #[v] w fun e w' => e = .returned (.tuple #[.int .i64 0, .bool false]) ∧ Below w.heap.size w w' := by
  obtain ⟨sx, a, n, c, rfl⟩ := hx.form
  have hX : ∀ w1, Below w.heap.size w w1 → IsZ w1 (.agg #[.bool sx, .slice a n c]) z := fun w1 h => hx.below h
  obtain ⟨m1, hm1⟩ : ∃ m1, cmpI z (-9223372036854775808) = m1 := ⟨_, rfl⟩
  have HM1 : Hid _ := hm1
  have h5 : 10000 ^ 5 ≤ 10000 ^ LX := Nat.pow_le_pow_right (by decide) hL5
  have HMIN : Hid (Int.natAbs (-9223372036854775808) < 10000 ^ LX) := Nat.lt_of_lt_of_le (by decide) h5
  have HMAX : Hid (Int.natAbs 9223372036854775807 < 10000 ^ LX) := Nat.lt_of_lt_of_le (by decide) h5
  have hm1n : m1 < 0 := by rw [← hm1]; unfold cmpI; rw [if_pos hz]; omega
  have HC1 : Hid (decide (m1 < 0) = true) := decide_eq_true hm1n
  clear hm1n
  clear hx hm1 h5
  go_enter Tryz.func13, Tryz.ntmps13
  go_wp2
  refine wp_world (fun w1 => Below w.heap.size w w1 ∧ w.heap.size < w1.heap.size ∧ w1.cell? ⟨w.heap.size, 0, none⟩ = some (.bool sx) ∧ w1.cell? ⟨w.heap.size, 1, none⟩ = some (.slice a n c)) ⟨bel1 _ _, by simp, by simp [go_sem], by simp [go_sem]⟩ ?_
  rintro w1 ⟨hB1, hl, k00, k01⟩
  have lt0 : w.heap.size < w1.heap.size := by omega
  refine wp_drawn mixed [⟨6, [], [], [1]⟩, ⟨7, [], [], []⟩, ⟨8, [0, 1], [0, 1], []⟩, ⟨9, [2], [0, 1, 2], []⟩, ⟨10, [2, 3], [0, 1, 2, 3], []⟩, ⟨11, [4], [0, 1, 2, 3, 4], [1]⟩, ⟨12, [4], [0, 1, 2, 3, 4], []⟩, ⟨13, [4, 5, 6], [0, 1, 2, 3, 4, 5, 6], []⟩, ⟨14, [4, 7], [0, 1, 2, 3, 4, 5, 6, 7], []⟩, ⟨15, [4, 8], [0, 1, 2, 3, 4, 5, 6, 7, 8], []⟩] [] (by kernel_rfl) 38 rfl (by kernel_rfl) (fun (i : Nat) (v : Value) (wq : World) => match i with | 0 => v = .agg #[.bool (sx), .slice a (n) (c)] | 1 => IsZ wq v (-9223372036854775808) | 2 => v = .int .i64 (m1) | 3 => v = .bool (true) | 4 => v = .bool (true) | 5 => v = undef | 6 => v = undef | 7 => v = undef | 8 => v = undef | 9 => v = .bool (true) | _ => True) (fun _ wq => Below w1.heap.size w1 wq) (fun wx wy => Below wx.heap.size wx wy) (Below.refl _ _).drew (fun i v wx wy h hx => match i, h with | 0, h => h | 2, h => h | 3, h => h | 4, h => h | 5, h => h | 6, h => h | 7, h => h | 8, h => h | 9, h => h | 1, h => (h : IsZ _ _ _).below hx | n + 10, _ => trivial) ?_ ?_
  · intro i o r ho hr L fr wx hW hL hpr hds hdef hpre hfree
    clear hL hpr hds hdef
    match i, ho, hr with
    | 0, ho, hr =>
      obtain rfl := Option.some.inj ho; obtain rfl := Option.some.inj hr
      have t1 := ev_tmp (show fr.eval (.tmp 1) = .pointer (some ⟨w.heap.size, 0, none⟩) from hfree 1 (by decide))
      clear hpre hfree
      have c0 := (hW.cell (p := ⟨w.heap.size, 0, none⟩) lt0).trans k00
      have c1 := (hW.cell (p := ⟨w.heap.size, 1, none⟩) lt0).trans k01
      refine stpK rfl rfl fun K hK => ?_
      go_simp
      exact hK _ _ ⟨rfl, hW, Below.refl _ _, fun h => (List.not_mem_nil h).elim⟩
    | 1, ho, hr =>
      obtain rfl := Option.some.inj ho; obtain rfl := Option.some.inj hr
      clear hpre hfree
      refine stpK rfl rfl fun K hK => ?_
      go_simp
      refine (zOf_any wx (-9223372036854775808) (by decide) (by decide)).mono ?_
      rintro e wy ⟨v4, rfl, hb, hm4⟩
      exact hK _ _ ⟨hm4, hW.trans (hb.mono hW.size), hb, fun h => (List.not_mem_nil h).elim⟩
    | 2, ho, hr =>
      obtain rfl := Option.some.inj ho; obtain rfl := Option.some.inj hr
      have e0 := ev_tmp (show fr.eval (.tmp 6) = .agg #[.bool (sx), .slice a (n) (c)] from hpre 0 (by decide) _ rfl)
      obtain ⟨u1, q1⟩ : ∃ u, fr.eval (.tmp 7) = u := ⟨_, rfl⟩
      have p1 : IsZ wx u1 (-9223372036854775808) := by rw [← q1]; exact hpre 1 (by decide) _ rfl
      have e1 := ev_tmp q1; clear q1
      clear hpre hfree
      refine stpK rfl rfl fun K hK => ?_
      go_simp
      refine (zCmp_any wx _ _ z (-9223372036854775808) LX (hX wx (hB1.trans (hW.mono hB1.size))) p1 hbx HMIN.out hL).mono ?_
      rintro e wy ⟨rfl, hb⟩
      exact hK _ _ ⟨congrArg (Value.int .i64) HM1.out, hW.trans (hb.mono hW.size), hb, fun h => (List.not_mem_nil h).elim⟩
    | 3, ho, hr =>
      obtain rfl := Option.some.inj ho; obtain rfl := Option.some.inj hr
      have e2 := ev_tmp (show fr.eval (.tmp 8) = .int .i64 (m1) from hpre 2 (by decide) _ rfl)
      clear hpre hfree
      refine stpK rfl rfl fun K hK => ?_
      go_simp
      exact hK _ _ ⟨congrArg Value.bool HC1.out, hW, Below.refl _ _, fun h => (List.not_mem_nil h).elim⟩
    | 4, ho, hr =>
      obtain rfl := Option.some.inj ho; obtain rfl := Option.some.inj hr
      have e3 := ev_tmp (show fr.eval (.tmp 9) = .bool (true) from hpre 3 (by decide) _ rfl)
      clear hpre hfree
      refine stpK rfl rfl fun K hK => ?_
      go_simp
      exact hK _ _ ⟨rfl, hW, Below.refl _ _, fun h => (List.not_mem_nil h).elim⟩
    | 5, ho, hr =>
      obtain rfl := Option.some.inj ho; obtain rfl := Option.some.inj hr
      have e4 := ev_tmp (show fr.eval (.tmp 10) = .bool (true) from hpre 4 (by decide) _ rfl)
      have t1 := ev_tmp (show fr.eval (.tmp 1) = .pointer (some ⟨w.heap.size, 0, none⟩) from hfree 1 (by decide))
      clear hpre hfree
      refine stpN rfl rfl e4 (by decide) ⟨undef, rfl, rfl, hW, Below.refl _ _, fun h => (List.not_mem_nil h).elim⟩
    | 6, ho, hr =>
      obtain rfl := Option.some.inj ho; obtain rfl := Option.some.inj hr
      have e4 := ev_tmp (show fr.eval (.tmp 10) = .bool (true) from hpre 4 (by decide) _ rfl)
      clear hpre hfree
      refine stpN rfl rfl e4 (by decide) ⟨undef, rfl, rfl, hW, Below.refl _ _, fun h => (List.not_mem_nil h).elim⟩
    | 7, ho, hr =>
      obtain rfl := Option.some.inj ho; obtain rfl := Option.some.inj hr
      have e4 := ev_tmp (show fr.eval (.tmp 10) = .bool (true) from hpre 4 (by decide) _ rfl)
      have e5 := ev_tmp (show fr.eval (.tmp 11) = undef from hpre 5 (by decide) _ rfl)
      have e6 := ev_tmp (show fr.eval (.tmp 12) = undef from hpre 6 (by decide) _ rfl)
      clear hpre hfree
      refine stpN rfl rfl e4 (by decide) ⟨undef, rfl, rfl, hW, Below.refl _ _, fun h => (List.not_mem_nil h).elim⟩
    | 8, ho, hr =>
      obtain rfl := Option.some.inj ho; obtain rfl := Option.some.inj hr
      have e4 := ev_tmp (show fr.eval (.tmp 10) = .bool (true) from hpre 4 (by decide) _ rfl)
      have e7 := ev_tmp (show fr.eval (.tmp 13) = undef from hpre 7 (by decide) _ rfl)
      clear hpre hfree
      refine stpN rfl rfl e4 (by decide) ⟨undef, rfl, rfl, hW, Below.refl _ _, fun h => (List.not_mem_nil h).elim⟩
    | 9, ho, hr =>
      obtain rfl := Option.some.inj ho; obtain rfl := Option.some.inj hr
      have e4 := ev_tmp (show fr.eval (.tmp 10) = .bool (true) from hpre 4 (by decide) _ rfl)
      have e8 := ev_tmp (show fr.eval (.tmp 14) = undef from hpre 8 (by decide) _ rfl)
      clear hpre hfree
      refine stpK rfl rfl fun K hK => ?_
      go_simp
      exact hK _ _ ⟨rfl, hW, Below.refl _ _, fun h => (List.not_mem_nil h).elim⟩
    | n + 10, ho, hr => exact absurd hr (by simp)
  · intro vs wn hvs hW1 hap0
    clear hap0
    have e0 : vs 0 = .agg #[.bool (sx), .slice a (n) (c)] := hvs 0 (by decide)
    obtain ⟨u1, e1⟩ : ∃ u, vs 1 = u := ⟨_, rfl⟩
    have p1 : IsZ wn u1 (-9223372036854775808) := by rw [← e1]; exact hvs 1 (by decide)
    have e2 : vs 2 = .int .i64 (m1) := hvs 2 (by decide)
    have e3 : vs 3 = .bool (true) := hvs 3 (by decide)
    have e4 : vs 4 = .bool (true) := hvs 4 (by decide)
    have e5 : vs 5 = undef := hvs 5 (by decide)
    have e6 : vs 6 = undef := hvs 6 (by decide)
    have e7 : vs 7 = undef := hvs 7 (by decide)
    have e8 : vs 8 = undef := hvs 8 (by decide)
    have e9 : vs 9 = .bool (true) := hvs 9 (by decide)
    simp only [puts, Nat.reduceAdd, e0, e1, e2, e3, e4, e5, e6, e7, e8, e9, Act.put, List.setIfInBounds_toArray, List.set_cons_zero, List.set_cons_succ, List.drop_succ_cons, List.drop_zero, List.length_cons, List.length_nil]
    clear hvs e0 e1 e2 e3 e4 e5 e6 e7 e8 e9
    replace k00 := (hW1.cell (p := ⟨w.heap.size, 0, none⟩) lt0).trans k00
    replace k01 := (hW1.cell (p := ⟨w.heap.size, 1, none⟩) lt0).trans k01
    replace lt0 := Nat.lt_of_lt_of_le lt0 hW1.size
    replace hl := Nat.lt_of_lt_of_le hl hW1.size
    replace hB1 := hB1.trans (hW1.mono hB1.size)
    clear hX p1
    go_wp2
    go_ret2
    exact ⟨rfl, hB1⟩

set_option maxRecDepth 10000 in
set_option maxHeartbeats 4000000 in
theorem zSmall_above (w : World) (v : Value) (z : Int) (LX : Nat) (hx : IsZ w v z) (hbx : z.natAbs < 10000 ^ LX) (hL : LX ≤ 1073741824) (hL5 : 5 ≤ LX) (hz : 9223372036854775807 < z) :
    Calls Tryz.prog 13 #[v] w fun e w' => e = .returned (.tuple #[.int .i64 0, .bool false]) ∧ Below w.heap.size w w' := by
  obtain ⟨sx, a, n, c, rfl⟩ := hx.form
  have hX : ∀ w1, Below w.heap.size w w1 → IsZ w1 (.agg #[.bool sx, .slice a n c]) z := fun w1 h => hx.below h
  obtain ⟨m1, hm1⟩ : ∃ m1, cmpI z (-9223372036854775808) = m1 := ⟨_, rfl⟩
  have HM1 : Hid _ := hm1
  have h5 : 10000 ^ 5 ≤ 10000 ^ LX := Nat.pow_le_pow_right (by decide) hL5
  have HMIN : Hid (Int.natAbs (-9223372036854775808) < 10000 ^ LX) := Nat.lt_of_lt_of_le (by decide) h5
  have HMAX : Hid (Int.natAbs 9223372036854775807 < 10000 ^ LX) := Nat.lt_of_lt_of_le (by decide) h5
  obtain ⟨m2, hm2⟩ : ∃ m2, cmpI z 9223372036854775807 = m2 := ⟨_, rfl⟩
  have HM2 : Hid _ := hm2
  have hm1n : ¬ m1 < 0 := by rw [← hm1]; unfold cmpI; rw [if_neg (by omega)]; split <;> omega
  have hm2n : 0 < m2 := by rw [← hm2]; unfold cmpI; rw [if_neg (by omega), if_neg (by omega)]; omega
  obtain ⟨bg, hbg⟩ : ∃ bg, bg = true := ⟨_, rfl⟩
  have HC1 : Hid (decide (m1 < 0) = false) := decide_eq_false hm1n
  clear hm1n
  have HC2 : Hid (decide (0 < m2) = bg) := by show decide (0 < m2) = bg; rw [hbg]; simpa using hm2n
  clear hm2n
  subst hbg
  clear hx hm1 hm2 h5
  go_enter Tryz.func13, Tryz.ntmps13
  go_wp2
  refine wp_world (fun w1 => Below w.heap.size w w1 ∧ w.heap.size < w1.heap.size ∧ w1.cell? ⟨w.heap.size, 0, none⟩ = some (.bool sx) ∧ w1.cell? ⟨w.heap.size, 1, none⟩ = some (.slice a n c)) ⟨bel1 _ _, by simp, by simp [go_sem], by simp [go_sem]⟩ ?_
  rintro w1 ⟨hB1, hl, k00, k01⟩
  have lt0 : w.heap.size < w1.heap.size := by omega
  refine wp_drawn mixed [⟨6, [], [], [1]⟩, ⟨7, [], [], []⟩, ⟨8, [0, 1], [0, 1], []⟩, ⟨9, [2], [0, 1, 2], []⟩, ⟨10, [2, 3], [0, 1, 2, 3], []⟩, ⟨11, [4], [0, 1, 2, 3, 4], [1]⟩, ⟨12, [4], [0, 1, 2, 3, 4], []⟩, ⟨13, [4, 5, 6], [0, 1, 2, 3, 4, 5, 6], []⟩, ⟨14, [4, 7], [0, 1, 2, 3, 4, 5, 6, 7], []⟩, ⟨15, [4, 8], [0, 1, 2, 3, 4, 5, 6, 7, 8], []⟩] [] (by kernel_rfl) 38 rfl (by kernel_rfl) (fun (i : Nat) (v : Value) (wq : World) => match i with | 0 => v = .agg #[.bool (sx), .slice a (n) (c)] | 1 => IsZ wq v (-9223372036854775808) | 2 => v = .int .i64 (m1) | 3 => v = .bool (false) | 4 => v = .bool (false) | 5 => v = .agg #[.bool (sx), .slice a (n) (c)] | 6 => IsZ wq v 9223372036854775807 | 7 => v = .int .i64 (m2) | 8 => v = .bool true | 9 => v = .bool true | _ => True) (fun _ wq => Below w1.heap.size w1 wq) (fun wx wy => Below wx.heap.size wx wy) (Below.refl _ _).drew (fun i v wx wy h hx => match i, h with | 0, h => h | 2, h => h | 3, h => h | 4, h => h | 5, h => h | 7, h => h | 8, h => h | 9, h => h | 1, h => (h : IsZ _ _ _).below hx | 6, h => (h : IsZ _ _ _).below hx | n + 10, _ => trivial) ?_ ?_
  · intro i o r ho hr L fr wx hW hL hpr hds hdef hpre hfree
    clear hL hpr hds hdef
    match i, ho, hr with
    | 0, ho, hr =>
      obtain rfl := Option.some.inj ho; obtain rfl := Option.some.inj hr
      have t1 := ev_tmp (show fr.eval (.tmp 1) = .pointer (some ⟨w.heap.size, 0, none⟩) from hfree 1 (by decide))
      clear hpre hfree
      have c0 := (hW.cell (p := ⟨w.heap.size, 0, none⟩) lt0).trans k00
      have c1 := (hW.cell (p := ⟨w.heap.size, 1, none⟩) lt0).trans k01
      refine stpK rfl rfl fun K hK => ?_
      go_simp
      exact hK _ _ ⟨rfl, hW, Below.refl _ _, fun h => (List.not_mem_nil h).elim⟩
    | 1, ho, hr =>
      obtain rfl := Option.some.inj ho; obtain rfl := Option.some.inj hr
      clear hpre hfree
      refine stpK rfl rfl fun K hK => ?_
      go_simp
      refine (zOf_any wx (-9223372036854775808) (by decide) (by decide)).mono ?_
      rintro e wy ⟨v4, rfl, hb, hm4⟩
      exact hK _ _ ⟨hm4, hW.trans (hb.mono hW.size), hb, fun h => (List.not_mem_nil h).elim⟩
    | 2, ho, hr =>
      obtain rfl := Option.some.inj ho; obtain rfl := Option.some.inj hr
      have e0 := ev_tmp (show fr.eval (.tmp 6) = .agg #[.bool (sx), .slice a (n) (c)] from hpre 0 (by decide) _ rfl)
      obtain ⟨u1, q1⟩ : ∃ u, fr.eval (.tmp 7) = u := ⟨_, rfl⟩
      have p1 : IsZ wx u1 (-9223372036854775808) := by rw [← q1]; exact hpre 1 (by decide) _ rfl
      have e1 := ev_tmp q1; clear q1
      clear hpre hfree
      refine stpK rfl rfl fun K hK => ?_
      go_simp
      refine (zCmp_any wx _ _ z (-9223372036854775808) LX (hX wx (hB1.trans (hW.mono hB1.size))) p1 hbx HMIN.out hL).mono ?_
      rintro e wy ⟨rfl, hb⟩
      exact hK _ _ ⟨congrArg (Value.int .i64) HM1.out, hW.trans (hb.mono hW.size), hb, fun h => (List.not_mem_nil h).elim⟩
    | 3, ho, hr =>
      obtain rfl := Option.some.inj ho; obtain rfl := Option.some.inj hr
      have e2 := ev_tmp (show fr.eval (.tmp 8) = .int .i64 (m1) from hpre 2 (by decide) _ rfl)
      clear hpre hfree
      refine stpK rfl rfl fun K hK => ?_
      go_simp
      exact hK _ _ ⟨congrArg Value.bool HC1.out, hW, Below.refl _ _, fun h => (List.not_mem_nil h).elim⟩
    | 4, ho, hr =>
      obtain rfl := Option.some.inj ho; obtain rfl := Option.some.inj hr
      have e3 := ev_tmp (show fr.eval (.tmp 9) = .bool (false) from hpre 3 (by decide) _ rfl)
      clear hpre hfree
      refine stpK rfl rfl fun K hK => ?_
      go_simp
      exact hK _ _ ⟨rfl, hW, Below.refl _ _, fun h => (List.not_mem_nil h).elim⟩
    | 5, ho, hr =>
      obtain rfl := Option.some.inj ho; obtain rfl := Option.some.inj hr
      have e4 := ev_tmp (show fr.eval (.tmp 10) = .bool (false) from hpre 4 (by decide) _ rfl)
      have t1 := ev_tmp (show fr.eval (.tmp 1) = .pointer (some ⟨w.heap.size, 0, none⟩) from hfree 1 (by decide))
      clear hpre hfree
      have c0 := (hW.cell (p := ⟨w.heap.size, 0, none⟩) lt0).trans k00
      have c1 := (hW.cell (p := ⟨w.heap.size, 1, none⟩) lt0).trans k01
      refine stpK_g rfl rfl e4 rfl fun K hK => ?_
      go_simp
      exact hK _ _ ⟨rfl, hW, Below.refl _ _, fun h => (List.not_mem_nil h).elim⟩
    | 6, ho, hr =>
      obtain rfl := Option.some.inj ho; obtain rfl := Option.some.inj hr
      have e4 := ev_tmp (show fr.eval (.tmp 10) = .bool (false) from hpre 4 (by decide) _ rfl)
      clear hpre hfree
      refine stpK_g rfl rfl e4 rfl fun K hK => ?_
      go_simp
      refine (zOf_any wx 9223372036854775807 (by decide) (by decide)).mono ?_
      rintro e wy ⟨v4, rfl, hb, hm4⟩
      exact hK _ _ ⟨hm4, hW.trans (hb.mono hW.size), hb, fun h => (List.not_mem_nil h).elim⟩
    | 7, ho, hr =>
      obtain rfl := Option.some.inj ho; obtain rfl := Option.some.inj hr
      have e4 := ev_tmp (show fr.eval (.tmp 10) = .bool (false) from hpre 4 (by decide) _ rfl)
      have e5 := ev_tmp (show fr.eval (.tmp 11) = .agg #[.bool (sx), .slice a (n) (c)] from hpre 5 (by decide) _ rfl)
      obtain ⟨u6, q6⟩ : ∃ u, fr.eval (.tmp 12) = u := ⟨_, rfl⟩
      have p6 : IsZ wx u6 9223372036854775807 := by rw [← q6]; exact hpre 6 (by decide) _ rfl
      have e6 := ev_tmp q6; clear q6
      clear hpre hfree
      refine stpK_g rfl rfl e4 rfl fun K hK => ?_
      go_simp
      refine (zCmp_any wx _ _ z 9223372036854775807 LX (hX wx (hB1.trans (hW.mono hB1.size))) p6 hbx HMAX.out hL).mono ?_
      rintro e wy ⟨rfl, hb⟩
      exact hK _ _ ⟨congrArg (Value.int .i64) HM2.out, hW.trans (hb.mono hW.size), hb, fun h => (List.not_mem_nil h).elim⟩
    | 8, ho, hr =>
      obtain rfl := Option.some.inj ho; obtain rfl := Option.some.inj hr
      have e4 := ev_tmp (show fr.eval (.tmp 10) = .bool (false) from hpre 4 (by decide) _ rfl)
      have e7 := ev_tmp (show fr.eval (.tmp 13) = .int .i64 (m2) from hpre 7 (by decide) _ rfl)
      clear hpre hfree
      refine stpK_g rfl rfl e4 rfl fun K hK => ?_
      go_simp
      exact hK _ _ ⟨congrArg Value.bool HC2.out, hW, Below.refl _ _, fun h => (List.not_mem_nil h).elim⟩
    | 9, ho, hr =>
      obtain rfl := Option.some.inj ho; obtain rfl := Option.some.inj hr
      have e4 := ev_tmp (show fr.eval (.tmp 10) = .bool (false) from hpre 4 (by decide) _ rfl)
      have e8 := ev_tmp (show fr.eval (.tmp 14) = .bool true from hpre 8 (by decide) _ rfl)
      clear hpre hfree
      refine stpK rfl rfl fun K hK => ?_
      go_simp
      exact hK _ _ ⟨rfl, hW, Below.refl _ _, fun h => (List.not_mem_nil h).elim⟩
    | n + 10, ho, hr => exact absurd hr (by simp)
  · intro vs wn hvs hW1 hap0
    clear hap0
    have e0 : vs 0 = .agg #[.bool (sx), .slice a (n) (c)] := hvs 0 (by decide)
    obtain ⟨u1, e1⟩ : ∃ u, vs 1 = u := ⟨_, rfl⟩
    have p1 : IsZ wn u1 (-9223372036854775808) := by rw [← e1]; exact hvs 1 (by decide)
    have e2 : vs 2 = .int .i64 (m1) := hvs 2 (by decide)
    have e3 : vs 3 = .bool (false) := hvs 3 (by decide)
    have e4 : vs 4 = .bool (false) := hvs 4 (by decide)
    have e5 : vs 5 = .agg #[.bool (sx), .slice a (n) (c)] := hvs 5 (by decide)
    obtain ⟨u6, e6⟩ : ∃ u, vs 6 = u := ⟨_, rfl⟩
    have p6 : IsZ wn u6 9223372036854775807 := by rw [← e6]; exact hvs 6 (by decide)
    have e7 : vs 7 = .int .i64 (m2) := hvs 7 (by decide)
    have e8 : vs 8 = .bool true := hvs 8 (by decide)
    have e9 : vs 9 = .bool true := hvs 9 (by decide)
    simp only [puts, Nat.reduceAdd, e0, e1, e2, e3, e4, e5, e6, e7, e8, e9, Act.put, List.setIfInBounds_toArray, List.set_cons_zero, List.set_cons_succ, List.drop_succ_cons, List.drop_zero, List.length_cons, List.length_nil]
    clear hvs e0 e1 e2 e3 e4 e5 e6 e7 e8 e9
    replace k00 := (hW1.cell (p := ⟨w.heap.size, 0, none⟩) lt0).trans k00
    replace k01 := (hW1.cell (p := ⟨w.heap.size, 1, none⟩) lt0).trans k01
    replace lt0 := Nat.lt_of_lt_of_le lt0 hW1.size
    replace hl := Nat.lt_of_lt_of_le hl hW1.size
    replace hB1 := hB1.trans (hW1.mono hB1.size)
    clear hX p1 p6
    go_wp2
    go_ret2
    exact ⟨rfl, hB1⟩

/-- The words from the highest on. -/
theorem high_step {w : World} {b o n j : Nat} (h : j < n) : num 10000 w b (o + j) (n - j) = word w b (o + j) + 10000 * num 10000 w b (o + (j + 1)) (n - (j + 1)) := by
  obtain ⟨k, rfl⟩ : ∃ k, n = j + (k + 1) := ⟨n - j - 1, by omega⟩
  rw [show j + (k + 1) - j = k + 1 by omega, show j + (k + 1) - (j + 1) = k by omega, num_head', Nat.add_assoc o j 1]
theorem high_le {w : World} {b o n j : Nat} (h : j ≤ n) : num 10000 w b (o + j) (n - j) ≤ num 10000 w b o n := by
  obtain ⟨k, rfl⟩ := Nat.exists_eq_add_of_le h
  rw [num_add, show j + k - j = k by omega]
  have := Nat.mul_le_mul_right (num 10000 w b (o + j) k) (show 1 ≤ 10000 ^ j from Nat.pow_pos (by decide))
  omega

set_option maxRecDepth 10000 in
set_option maxHeartbeats 4000000 in
theorem zSmall_in (w : World) (v : Value) (z : Int) (LX : Nat) (hx : IsZ w v z) (hbx : z.natAbs < 10000 ^ LX) (hL : LX ≤ 1073741824) (hL5 : 5 ≤ LX) (hz1 : -9223372036854775808 ≤ z) (hz2 : z ≤ 9223372036854775807) :
    Calls Tryz.prog 13 #[v] w fun e w' => e = .returned (.tuple #[.int .i64 z, .bool true]) ∧ Below w.heap.size w w' := by
  obtain ⟨sx, a, n, c, rfl⟩ := hx.form
  have hX : ∀ w1, Below w.heap.size w w1 → IsZ w1 (.agg #[.bool sx, .slice a n c]) z := fun w1 h => hx.below h
  obtain ⟨m1, hm1⟩ : ∃ m1, cmpI z (-9223372036854775808) = m1 := ⟨_, rfl⟩
  have HM1 : Hid _ := hm1
  have h5 : 10000 ^ 5 ≤ 10000 ^ LX := Nat.pow_le_pow_right (by decide) hL5
  have HMIN : Hid (Int.natAbs (-9223372036854775808) < 10000 ^ LX) := Nat.lt_of_lt_of_le (by decide) h5
  have HMAX : Hid (Int.natAbs 9223372036854775807 < 10000 ^ LX) := Nat.lt_of_lt_of_le (by decide) h5
  obtain ⟨m2, hm2⟩ : ∃ m2, cmpI z 9223372036854775807 = m2 := ⟨_, rfl⟩
  have HM2 : Hid _ := hm2
  have hm1n : ¬ m1 < 0 := by rw [← hm1]; unfold cmpI; rw [if_neg (by omega)]; split <;> omega
  have hm2n : ¬ 0 < m2 := by rw [← hm2]; unfold cmpI; split <;> (try split) <;> omega
  obtain ⟨bg, hbg⟩ : ∃ bg, bg = false := ⟨_, rfl⟩
  have HC1 : Hid (decide (m1 < 0) = false) := decide_eq_false hm1n
  clear hm1n
  have HC2 : Hid (decide (0 < m2) = bg) := by show decide (0 < m2) = bg; rw [hbg]; simpa using hm2n
  clear hm2n
  subst hbg
  have hdx := hx.dg
  obtain ⟨hsx, ao, b, o, c', he, hs, hc, hcm, ha, hnum, -⟩ := hdx
  simp only [Value.slice.injEq] at he
  obtain ⟨rfl, -, rfl⟩ := he
  have HSX : Hid _ := hsx
  clear hsx
  have HA : Hid (Arr .i64 10000 w b o n) := ha
  have HN : Hid (num 10000 w b o n = z.natAbs) := hnum
  have hnL : n ≤ 1073741824 := Nat.le_trans (hx.dg.2.len_le hbx) hL
  clear hx hm1 hm2 h5 ha hnum
  go_enter Tryz.func13, Tryz.ntmps13
  go_wp2
  refine wp_world (fun w1 => Below w.heap.size w w1 ∧ w.heap.size < w1.heap.size ∧ w1.cell? ⟨w.heap.size, 0, none⟩ = some (.bool sx) ∧ w1.cell? ⟨w.heap.size, 1, none⟩ = some (.slice a n c)) ⟨bel1 _ _, by simp, by simp [go_sem], by simp [go_sem]⟩ ?_
  rintro w1 ⟨hB1, hl, k00, k01⟩
  have lt0 : w.heap.size < w1.heap.size := by omega
  refine wp_drawn mixed [⟨6, [], [], [1]⟩, ⟨7, [], [], []⟩, ⟨8, [0, 1], [0, 1], []⟩, ⟨9, [2], [0, 1, 2], []⟩, ⟨10, [2, 3], [0, 1, 2, 3], []⟩, ⟨11, [4], [0, 1, 2, 3, 4], [1]⟩, ⟨12, [4], [0, 1, 2, 3, 4], []⟩, ⟨13, [4, 5, 6], [0, 1, 2, 3, 4, 5, 6], []⟩, ⟨14, [4, 7], [0, 1, 2, 3, 4, 5, 6, 7], []⟩, ⟨15, [4, 8], [0, 1, 2, 3, 4, 5, 6, 7, 8], []⟩] [] (by kernel_rfl) 38 rfl (by kernel_rfl) (fun (i : Nat) (v : Value) (wq : World) => match i with | 0 => v = .agg #[.bool (sx), .slice a (n) (c)] | 1 => IsZ wq v (-9223372036854775808) | 2 => v = .int .i64 (m1) | 3 => v = .bool (false) | 4 => v = .bool (false) | 5 => v = .agg #[.bool (sx), .slice a (n) (c)] | 6 => IsZ wq v 9223372036854775807 | 7 => v = .int .i64 (m2) | 8 => v = .bool false | 9 => v = .bool false | _ => True) (fun _ wq => Below w1.heap.size w1 wq) (fun wx wy => Below wx.heap.size wx wy) (Below.refl _ _).drew (fun i v wx wy h hx => match i, h with | 0, h => h | 2, h => h | 3, h => h | 4, h => h | 5, h => h | 7, h => h | 8, h => h | 9, h => h | 1, h => (h : IsZ _ _ _).below hx | 6, h => (h : IsZ _ _ _).below hx | n + 10, _ => trivial) ?_ ?_
  · intro i o r ho hr L fr wx hW hL hpr hds hdef hpre hfree
    clear hL hpr hds hdef
    match i, ho, hr with
    | 0, ho, hr =>
      obtain rfl := Option.some.inj ho; obtain rfl := Option.some.inj hr
      have t1 := ev_tmp (show fr.eval (.tmp 1) = .pointer (some ⟨w.heap.size, 0, none⟩) from hfree 1 (by decide))
      clear hpre hfree
      have c0 := (hW.cell (p := ⟨w.heap.size, 0, none⟩) lt0).trans k00
      have c1 := (hW.cell (p := ⟨w.heap.size, 1, none⟩) lt0).trans k01
      refine stpK rfl rfl fun K hK => ?_
      go_simp
      exact hK _ _ ⟨rfl, hW, Below.refl _ _, fun h => (List.not_mem_nil h).elim⟩
    | 1, ho, hr =>
      obtain rfl := Option.some.inj ho; obtain rfl := Option.some.inj hr
      clear hpre hfree
      refine stpK rfl rfl fun K hK => ?_
      go_simp
      refine (zOf_any wx (-9223372036854775808) (by decide) (by decide)).mono ?_
      rintro e wy ⟨v4, rfl, hb, hm4⟩
      exact hK _ _ ⟨hm4, hW.trans (hb.mono hW.size), hb, fun h => (List.not_mem_nil h).elim⟩
    | 2, ho, hr =>
      obtain rfl := Option.some.inj ho; obtain rfl := Option.some.inj hr
      have e0 := ev_tmp (show fr.eval (.tmp 6) = .agg #[.bool (sx), .slice a (n) (c)] from hpre 0 (by decide) _ rfl)
      obtain ⟨u1, q1⟩ : ∃ u, fr.eval (.tmp 7) = u := ⟨_, rfl⟩
      have p1 : IsZ wx u1 (-9223372036854775808) := by rw [← q1]; exact hpre 1 (by decide) _ rfl
      have e1 := ev_tmp q1; clear q1
      clear hpre hfree
      refine stpK rfl rfl fun K hK => ?_
      go_simp
      refine (zCmp_any wx _ _ z (-9223372036854775808) LX (hX wx (hB1.trans (hW.mono hB1.size))) p1 hbx HMIN.out hL).mono ?_
      rintro e wy ⟨rfl, hb⟩
      exact hK _ _ ⟨congrArg (Value.int .i64) HM1.out, hW.trans (hb.mono hW.size), hb, fun h => (List.not_mem_nil h).elim⟩
    | 3, ho, hr =>
      obtain rfl := Option.some.inj ho; obtain rfl := Option.some.inj hr
      have e2 := ev_tmp (show fr.eval (.tmp 8) = .int .i64 (m1) from hpre 2 (by decide) _ rfl)
      clear hpre hfree
      refine stpK rfl rfl fun K hK => ?_
      go_simp
      exact hK _ _ ⟨congrArg Value.bool HC1.out, hW, Below.refl _ _, fun h => (List.not_mem_nil h).elim⟩
    | 4, ho, hr =>
      obtain rfl := Option.some.inj ho; obtain rfl := Option.some.inj hr
      have e3 := ev_tmp (show fr.eval (.tmp 9) = .bool (false) from hpre 3 (by decide) _ rfl)
      clear hpre hfree
      refine stpK rfl rfl fun K hK => ?_
      go_simp
      exact hK _ _ ⟨rfl, hW, Below.refl _ _, fun h => (List.not_mem_nil h).elim⟩
    | 5, ho, hr =>
      obtain rfl := Option.some.inj ho; obtain rfl := Option.some.inj hr
      have e4 := ev_tmp (show fr.eval (.tmp 10) = .bool (false) from hpre 4 (by decide) _ rfl)
      have t1 := ev_tmp (show fr.eval (.tmp 1) = .pointer (some ⟨w.heap.size, 0, none⟩) from hfree 1 (by decide))
      clear hpre hfree
      have c0 := (hW.cell (p := ⟨w.heap.size, 0, none⟩) lt0).trans k00
      have c1 := (hW.cell (p := ⟨w.heap.size, 1, none⟩) lt0).trans k01
      refine stpK_g rfl rfl e4 rfl fun K hK => ?_
      go_simp
      exact hK _ _ ⟨rfl, hW, Below.refl _ _, fun h => (List.not_mem_nil h).elim⟩
    | 6, ho, hr =>
      obtain rfl := Option.some.inj ho; obtain rfl := Option.some.inj hr
      have e4 := ev_tmp (show fr.eval (.tmp 10) = .bool (false) from hpre 4 (by decide) _ rfl)
      clear hpre hfree
      refine stpK_g rfl rfl e4 rfl fun K hK => ?_
      go_simp
      refine (zOf_any wx 9223372036854775807 (by decide) (by decide)).mono ?_
      rintro e wy ⟨v4, rfl, hb, hm4⟩
      exact hK _ _ ⟨hm4, hW.trans (hb.mono hW.size), hb, fun h => (List.not_mem_nil h).elim⟩
    | 7, ho, hr =>
      obtain rfl := Option.some.inj ho; obtain rfl := Option.some.inj hr
      have e4 := ev_tmp (show fr.eval (.tmp 10) = .bool (false) from hpre 4 (by decide) _ rfl)
      have e5 := ev_tmp (show fr.eval (.tmp 11) = .agg #[.bool (sx), .slice a (n) (c)] from hpre 5 (by decide) _ rfl)
      obtain ⟨u6, q6⟩ : ∃ u, fr.eval (.tmp 12) = u := ⟨_, rfl⟩
      have p6 : IsZ wx u6 9223372036854775807 := by rw [← q6]; exact hpre 6 (by decide) _ rfl
      have e6 := ev_tmp q6; clear q6
      clear hpre hfree
      refine stpK_g rfl rfl e4 rfl fun K hK => ?_
      go_simp
      refine (zCmp_any wx _ _ z 9223372036854775807 LX (hX wx (hB1.trans (hW.mono hB1.size))) p6 hbx HMAX.out hL).mono ?_
      rintro e wy ⟨rfl, hb⟩
      exact hK _ _ ⟨congrArg (Value.int .i64) HM2.out, hW.trans (hb.mono hW.size), hb, fun h => (List.not_mem_nil h).elim⟩
    | 8, ho, hr =>
      obtain rfl := Option.some.inj ho; obtain rfl := Option.some.inj hr
      have e4 := ev_tmp (show fr.eval (.tmp 10) = .bool (false) from hpre 4 (by decide) _ rfl)
      have e7 := ev_tmp (show fr.eval (.tmp 13) = .int .i64 (m2) from hpre 7 (by decide) _ rfl)
      clear hpre hfree
      refine stpK_g rfl rfl e4 rfl fun K hK => ?_
      go_simp
      exact hK _ _ ⟨congrArg Value.bool HC2.out, hW, Below.refl _ _, fun h => (List.not_mem_nil h).elim⟩
    | 9, ho, hr =>
      obtain rfl := Option.some.inj ho; obtain rfl := Option.some.inj hr
      have e4 := ev_tmp (show fr.eval (.tmp 10) = .bool (false) from hpre 4 (by decide) _ rfl)
      have e8 := ev_tmp (show fr.eval (.tmp 14) = .bool false from hpre 8 (by decide) _ rfl)
      clear hpre hfree
      refine stpK rfl rfl fun K hK => ?_
      go_simp
      exact hK _ _ ⟨rfl, hW, Below.refl _ _, fun h => (List.not_mem_nil h).elim⟩
    | n + 10, ho, hr => exact absurd hr (by simp)
  · intro vs wn hvs hW1 hap0
    clear hap0
    have e0 : vs 0 = .agg #[.bool (sx), .slice a (n) (c)] := hvs 0 (by decide)
    obtain ⟨u1, e1⟩ : ∃ u, vs 1 = u := ⟨_, rfl⟩
    have p1 : IsZ wn u1 (-9223372036854775808) := by rw [← e1]; exact hvs 1 (by decide)
    have e2 : vs 2 = .int .i64 (m1) := hvs 2 (by decide)
    have e3 : vs 3 = .bool (false) := hvs 3 (by decide)
    have e4 : vs 4 = .bool (false) := hvs 4 (by decide)
    have e5 : vs 5 = .agg #[.bool (sx), .slice a (n) (c)] := hvs 5 (by decide)
    obtain ⟨u6, e6⟩ : ∃ u, vs 6 = u := ⟨_, rfl⟩
    have p6 : IsZ wn u6 9223372036854775807 := by rw [← e6]; exact hvs 6 (by decide)
    have e7 : vs 7 = .int .i64 (m2) := hvs 7 (by decide)
    have e8 : vs 8 = .bool false := hvs 8 (by decide)
    have e9 : vs 9 = .bool false := hvs 9 (by decide)
    simp only [puts, Nat.reduceAdd, e0, e1, e2, e3, e4, e5, e6, e7, e8, e9, Act.put, List.setIfInBounds_toArray, List.set_cons_zero, List.set_cons_succ, List.drop_succ_cons, List.drop_zero, List.length_cons, List.length_nil]
    clear hvs e0 e1 e2 e3 e4 e5 e6 e7 e8 e9
    replace k00 := (hW1.cell (p := ⟨w.heap.size, 0, none⟩) lt0).trans k00
    replace k01 := (hW1.cell (p := ⟨w.heap.size, 1, none⟩) lt0).trans k01
    replace lt0 := Nat.lt_of_lt_of_le lt0 hW1.size
    replace hl := Nat.lt_of_lt_of_le hl hW1.size
    replace hB1 := hB1.trans (hW1.mono hB1.size)
    clear hX p1 p6
    have hA : Hid (Arr .i64 10000 wn b o n) := arr_below HA.out hB1
    have hN : Hid (num 10000 wn b o n = z.natAbs) := (num_below HA.out hB1).trans HN.out
    have HB1 : Hid _ := hB1
    clear HA HN hB1 hW1
    go_wp2
    go_loop [4, 5] (fun s4 s5 => ∃ k : Nat, k ≤ n ∧ s5 = .int .i64 ((k : Int) - 1) ∧ s4 = .int .i64 (-((num 10000 wn b (o + k) (n - k) : Nat) : Int))) (fun _ s5 => (intOf s5 + 1).toNat)
    case atStart => exact ⟨n, Nat.le_refl _, by go_num, by rw [Nat.sub_self, num_zero]; rfl⟩
    case round =>
      obtain ⟨k, hk, rfl, rfl⟩ := hrel
      by_cases hk0 : k = 0
      · subst hk0
        rw [Nat.add_zero, Nat.sub_zero, hN.out]
        by_cases hneg : z < 0
        · have e1 : -((z.natAbs : Nat) : Int) = z := by omega
          rw [e1]
          have e2 : sx = true := by rw [HSX.out]; simpa using hneg
          subst e2
          go_wp2
          go_ret2
          exact ⟨rfl, HB1.out⟩
        · have e1 : -((z.natAbs : Nat) : Int) = -z := by omega
          rw [e1]
          have e2 : sx = false := by rw [HSX.out]; simpa using hneg
          subst e2
          clear e1
          have e3 : IntKind.i64.wrap (- -z) = z := by rw [IntKind.wrap_i64]; omega
          have e4 : IntKind.i64.wrap z = z := by rw [IntKind.wrap_i64]; omega
          go_wp2
          go_ret2
          exact ⟨rfl, HB1.out⟩
      · obtain ⟨j, rfl⟩ : ∃ j, k = j + 1 := ⟨k - 1, by omega⟩
        obtain rfl := hs (by omega)
        have hcell := arr_cell hA.out (i := j) (by omega)
        have hlt := arr_lt hA.out (i := j) (by omega)
        have he : ((j + 1 : Nat) : Int) - 1 = (j : Int) := by omega
        rw [he]
        have hst := high_step (w := wn) (b := b) (o := o) (n := n) (j := j) (by omega)
        have hle := high_le (w := wn) (b := b) (o := o) (n := n) (j := j) (by omega)
        rw [hN.out] at hle
        obtain ⟨y, hy⟩ : ∃ y, word wn b (o + j) = y := ⟨_, rfl⟩
        obtain ⟨H, hH⟩ : ∃ H, num 10000 wn b (o + (j + 1)) (n - (j + 1)) = H := ⟨_, rfl⟩
        obtain ⟨G, hG⟩ : ∃ G, num 10000 wn b (o + j) (n - j) = G := ⟨_, rfl⟩
        rw [hy] at hcell hlt
        rw [hG, hy, hH] at hst
        rw [hG] at hle
        rw [hH]
        have HG : Hid _ := hG
        have hGb : G ≤ 9223372036854775808 := by omega
        have eG : -(H : Int) * 10000 - (y : Int) = -(G : Int) := by omega
        have c1 : j < n := by omega
        have c2 : j < c := by omega
        clear hy hH hG hle he
        go_wp2
        refine ⟨⟨j, by omega, by go_num, ?_⟩, by simp [intOf]⟩
        have hg := HG.out
        congr 1
        omega

theorem zSmall_any (w : World) (v : Value) (z : Int) (LX : Nat) (hx : IsZ w v z) (hbx : z.natAbs < 10000 ^ LX) (hL : LX ≤ 1073741824) (hL5 : 5 ≤ LX) :
    Calls Tryz.prog 13 #[v] w fun e w' => Below w.heap.size w w' ∧ ((-9223372036854775808 ≤ z ∧ z ≤ 9223372036854775807 ∧ e = .returned (.tuple #[.int .i64 z, .bool true])) ∨ ((z < -9223372036854775808 ∨ 9223372036854775807 < z) ∧ e = .returned (.tuple #[.int .i64 0, .bool false]))) := by
  by_cases h1 : z < -9223372036854775808
  · refine (zSmall_below w v z LX hx hbx hL hL5 h1).mono ?_
    rintro e w' ⟨he, hb⟩
    exact ⟨hb, .inr ⟨.inl h1, he⟩⟩
  · by_cases h2 : 9223372036854775807 < z
    · refine (zSmall_above w v z LX hx hbx hL hL5 h2).mono ?_
      rintro e w' ⟨he, hb⟩
      exact ⟨hb, .inr ⟨.inr h2, he⟩⟩
    · refine (zSmall_in w v z LX hx hbx hL hL5 (by omega) (by omega)).mono ?_
      rintro e w' ⟨he, hb⟩
      exact ⟨hb, .inl ⟨by omega, by omega, he⟩⟩
end Go.Proofs.YtjlkplidpdhgbaaGreatDoor
