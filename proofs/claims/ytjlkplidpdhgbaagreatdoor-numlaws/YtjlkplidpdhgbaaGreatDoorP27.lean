/- A part of the proof: W21. -/
import Derived.Test.YtjlkplidpdhgbaaGreatDoorP26
set_option linter.all false

namespace Go.Proofs.YtjlkplidpdhgbaaGreatDoor
open Go Go.Proofs Go.RowKit Go.Rad


set_option maxRecDepth 10000 in
set_option maxHeartbeats 1000000 in
theorem add_any (w : World) (vx vy : Value) (x y : Int) (L : Nat) (hx : IsInt w vx x) (hy : IsInt w vy y) (hbx : x.natAbs < B ^ L) (hby : y.natAbs < B ^ L) (hL : L ≤ 1099511627776) :
    Calls Tryz.prog 22 #[vx, vy] w fun e w' => ∃ v, e = .returned v ∧ Below w.heap.size w w' ∧ IsInt w' v (x + y) := by
  have q := qEq
  obtain ⟨s, a, n, c, rfl⟩ := hx.form
  obtain ⟨t, b, m, d, rfl⟩ := hy.form
  obtain ⟨g1, g2, g3, g4, g5⟩ := hx.sgn
  obtain ⟨i1, i2, i3, i4, i5⟩ := hy.sgn
  have hX : ∀ w1, Below w.heap.size w w1 → IsInt w1 (.agg #[.int .i64 s, .slice a n c]) x := fun w1 h => hx.below h
  have hY : ∀ w1, Below w.heap.size w w1 → IsInt w1 (.agg #[.int .i64 t, .slice b m d]) y := fun w1 h => hy.below h
  have hsg : Hid (x + sgn (decide (t < 0)) y.natAbs = x + y) := by
    show x + sgn (decide (t < 0)) y.natAbs = x + y
    by_cases h0 : t < 0
    · rw [decide_eq_true h0, sgn_neg]; omega
    · rw [decide_eq_false h0, sgn_pos]; omega
  clear hx hy
  by_cases hn : a = none ∧ b = none
  · obtain ⟨rfl, rfl⟩ := hn
    obtain ⟨rfl, rfl, rfl⟩ := g5 rfl
    obtain ⟨rfl, rfl, rfl⟩ := i5 rfl
    have ho := add_over (x := s) (y := t) ⟨g1, g2⟩ ⟨i1, i2⟩
    by_cases hr : -9223372036854775808 ≤ s + t ∧ s + t ≤ 9223372036854775807
    · have h1 := ho.2 hr
      have hw : IntKind.i64.wrap (s + t) = s + t := by rw [IntKind.wrap_i64]; omega
      rw [hw] at h1
      clear ho g3 g4 g5 i3 i4 i5 hsg hX hY
      go_enter Tryz.func22, Tryz.ntmps22
      go_wp2
      refine bodyPost_ret (v := .agg #[.int .i64 (s + t), .slice none 0 0]) (by simp [results, go_sem, loadVar]) rfl ?_
      exact ⟨_, rfl, bel3 _ _ _ _, isInt_small _ _ hr.1 hr.2⟩
    · have h1 := mt ho.1 hr
      have hw : ∃ W, IntKind.i64.wrap (s + t) = W := ⟨_, rfl⟩
      obtain ⟨W, hw⟩ := hw
      rw [hw] at h1
      clear ho g3 g4 g5 i3 i4 i5 hr
      go_enter Tryz.func22, Tryz.ntmps22
      go_wp2_with (go_at_call 78; fail)
      refine (sum_any _ _ _ _ _ _ L (hX _ (bel3 _ _ _ _)) (hY _ (bel3 _ _ _ _)) hbx hby hL).mono ?_
      rintro e w6 ⟨v6, rfl, hb6, hm6⟩
      rw [hsg.out] at hm6
      have r0 := (hb6.cell (p := ⟨w.heap.size + 2, 0, none⟩) (by simp)).trans (by simp [go_sem] : _ = some (.int .i64 0))
      have r1 := (hb6.cell (p := ⟨w.heap.size + 2, 1, none⟩) (by simp)).trans (by simp [go_sem] : _ = some (.slice none 0 0))
      have f0 := (hb6.frozen (p := ⟨w.heap.size + 2, 0, none⟩) (by simp)).trans (by simp [go_sem] : _ = false)
      have f1 := (hb6.frozen (p := ⟨w.heap.size + 2, 1, none⟩) (by simp)).trans (by simp [go_sem] : _ = false)
      have hB1 := (bel3 _ _ _ _).trans (hb6.mono (by simp; omega))
      have hl := trivial
      clear hb6
      obtain ⟨s5, a5, n5, c5, rfl⟩ := hm6.form
      have hE := ((hB1.setCell (p := ⟨w.heap.size + 2, 0, none⟩) (by simp; try omega) (.int .i64 s5)).setCell (p := ⟨w.heap.size + 2, 1, none⟩) (by simp; try omega) (.slice a5 n5 c5))
      have hI := hm6.stored (u1 := .int .i64 s5) (u2 := .slice a5 n5 c5) r0 r1 (by intro q; simp)
      have HE : Hid _ := hE
      have HI : Hid _ := hI
      clear hm6 hB1 hl hE hI
      go_wp2
      refine bodyPost_ret (v := .agg #[.int .i64 s5, .slice a5 n5 c5]) (by simp [results, go_sem, loadVar, World.cell?_setCell_same, *]) rfl ?_
      exact ⟨_, rfl, HE.out, HI.out⟩
  · clear g3 g4 g5 i3 i4 i5
    rcases a with _ | a
    · rcases b with _ | b
      · exact absurd ⟨rfl, rfl⟩ hn
      · clear hn
        go_enter Tryz.func22, Tryz.ntmps22
        go_wp2_with (go_at_call 78; fail)
        refine (sum_any _ _ _ _ _ _ L (hX _ (bel3 _ _ _ _)) (hY _ (bel3 _ _ _ _)) hbx hby hL).mono ?_
        rintro e w6 ⟨v6, rfl, hb6, hm6⟩
        rw [hsg.out] at hm6
        have r0 := (hb6.cell (p := ⟨w.heap.size + 2, 0, none⟩) (by simp)).trans (by simp [go_sem] : _ = some (.int .i64 0))
        have r1 := (hb6.cell (p := ⟨w.heap.size + 2, 1, none⟩) (by simp)).trans (by simp [go_sem] : _ = some (.slice none 0 0))
        have f0 := (hb6.frozen (p := ⟨w.heap.size + 2, 0, none⟩) (by simp)).trans (by simp [go_sem] : _ = false)
        have f1 := (hb6.frozen (p := ⟨w.heap.size + 2, 1, none⟩) (by simp)).trans (by simp [go_sem] : _ = false)
        have hB1 := (bel3 _ _ _ _).trans (hb6.mono (by simp; omega))
        have hl := trivial
        clear hb6
        obtain ⟨s5, a5, n5, c5, rfl⟩ := hm6.form
        have hE := ((hB1.setCell (p := ⟨w.heap.size + 2, 0, none⟩) (by simp; try omega) (.int .i64 s5)).setCell (p := ⟨w.heap.size + 2, 1, none⟩) (by simp; try omega) (.slice a5 n5 c5))
        have hI := hm6.stored (u1 := .int .i64 s5) (u2 := .slice a5 n5 c5) r0 r1 (by intro q; simp)
        have HE : Hid _ := hE
        have HI : Hid _ := hI
        clear hm6 hB1 hl hE hI
        go_wp2
        refine bodyPost_ret (v := .agg #[.int .i64 s5, .slice a5 n5 c5]) (by simp [results, go_sem, loadVar, World.cell?_setCell_same, *]) rfl ?_
        exact ⟨_, rfl, HE.out, HI.out⟩
    · clear hn
      go_enter Tryz.func22, Tryz.ntmps22
      go_wp2_with (go_at_call 78; fail)
      refine (sum_any _ _ _ _ _ _ L (hX _ (bel3 _ _ _ _)) (hY _ (bel3 _ _ _ _)) hbx hby hL).mono ?_
      rintro e w6 ⟨v6, rfl, hb6, hm6⟩
      rw [hsg.out] at hm6
      have r0 := (hb6.cell (p := ⟨w.heap.size + 2, 0, none⟩) (by simp)).trans (by simp [go_sem] : _ = some (.int .i64 0))
      have r1 := (hb6.cell (p := ⟨w.heap.size + 2, 1, none⟩) (by simp)).trans (by simp [go_sem] : _ = some (.slice none 0 0))
      have f0 := (hb6.frozen (p := ⟨w.heap.size + 2, 0, none⟩) (by simp)).trans (by simp [go_sem] : _ = false)
      have f1 := (hb6.frozen (p := ⟨w.heap.size + 2, 1, none⟩) (by simp)).trans (by simp [go_sem] : _ = false)
      have hB1 := (bel3 _ _ _ _).trans (hb6.mono (by simp; omega))
      have hl := trivial
      clear hb6
      obtain ⟨s5, a5, n5, c5, rfl⟩ := hm6.form
      have hE := ((hB1.setCell (p := ⟨w.heap.size + 2, 0, none⟩) (by simp; try omega) (.int .i64 s5)).setCell (p := ⟨w.heap.size + 2, 1, none⟩) (by simp; try omega) (.slice a5 n5 c5))
      have hI := hm6.stored (u1 := .int .i64 s5) (u2 := .slice a5 n5 c5) r0 r1 (by intro q; simp)
      have HE : Hid _ := hE
      have HI : Hid _ := hI
      clear hm6 hB1 hl hE hI
      go_wp2
      refine bodyPost_ret (v := .agg #[.int .i64 s5, .slice a5 n5 c5]) (by simp [results, go_sem, loadVar, World.cell?_setCell_same, *]) rfl ?_
      exact ⟨_, rfl, HE.out, HI.out⟩

set_option maxRecDepth 10000 in
set_option maxHeartbeats 1000000 in
theorem sub_any (w : World) (vx vy : Value) (x y : Int) (L : Nat) (hx : IsInt w vx x) (hy : IsInt w vy y) (hbx : x.natAbs < B ^ L) (hby : y.natAbs < B ^ L) (hL : L ≤ 1099511627776) :
    Calls Tryz.prog 24 #[vx, vy] w fun e w' => ∃ v, e = .returned v ∧ Below w.heap.size w w' ∧ IsInt w' v (x - y) := by
  have q := qEq
  obtain ⟨s, a, n, c, rfl⟩ := hx.form
  obtain ⟨t, b, m, d, rfl⟩ := hy.form
  obtain ⟨g1, g2, g3, g4, g5⟩ := hx.sgn
  obtain ⟨i1, i2, i3, i4, i5⟩ := hy.sgn
  have hX : ∀ w1, Below w.heap.size w w1 → IsInt w1 (.agg #[.int .i64 s, .slice a n c]) x := fun w1 h => hx.below h
  have hY : ∀ w1, Below w.heap.size w w1 → IsInt w1 (.agg #[.int .i64 t, .slice b m d]) y := fun w1 h => hy.below h
  have hsg : Hid (x + sgn (decide (0 < t)) y.natAbs = x - y) := by
    show x + sgn (decide (0 < t)) y.natAbs = x - y
    by_cases h0 : 0 < t
    · rw [decide_eq_true h0, sgn_neg]; omega
    · rw [decide_eq_false h0, sgn_pos]; omega
  clear hx hy
  by_cases hn : a = none ∧ b = none
  · obtain ⟨rfl, rfl⟩ := hn
    obtain ⟨rfl, rfl, rfl⟩ := g5 rfl
    obtain ⟨rfl, rfl, rfl⟩ := i5 rfl
    have ho := sub_over (x := s) (y := t) ⟨g1, g2⟩ ⟨i1, i2⟩
    by_cases hr : -9223372036854775808 ≤ s - t ∧ s - t ≤ 9223372036854775807
    · have h1 := ho.2 hr
      have hw : IntKind.i64.wrap (s - t) = s - t := by rw [IntKind.wrap_i64]; omega
      rw [hw] at h1
      clear ho g3 g4 g5 i3 i4 i5 hsg hX hY
      go_enter Tryz.func24, Tryz.ntmps24
      go_wp2
      refine bodyPost_ret (v := .agg #[.int .i64 (s - t), .slice none 0 0]) (by simp [results, go_sem, loadVar]) rfl ?_
      exact ⟨_, rfl, bel3 _ _ _ _, isInt_small _ _ hr.1 hr.2⟩
    · have h1 := mt ho.1 hr
      have hw : ∃ W, IntKind.i64.wrap (s - t) = W := ⟨_, rfl⟩
      obtain ⟨W, hw⟩ := hw
      rw [hw] at h1
      clear ho g3 g4 g5 i3 i4 i5 hr
      go_enter Tryz.func24, Tryz.ntmps24
      go_wp2_with (go_at_call 78; fail)
      refine (sum_any _ _ _ _ _ _ L (hX _ (bel3 _ _ _ _)) (hY _ (bel3 _ _ _ _)) hbx hby hL).mono ?_
      rintro e w6 ⟨v6, rfl, hb6, hm6⟩
      rw [hsg.out] at hm6
      have r0 := (hb6.cell (p := ⟨w.heap.size + 2, 0, none⟩) (by simp)).trans (by simp [go_sem] : _ = some (.int .i64 0))
      have r1 := (hb6.cell (p := ⟨w.heap.size + 2, 1, none⟩) (by simp)).trans (by simp [go_sem] : _ = some (.slice none 0 0))
      have f0 := (hb6.frozen (p := ⟨w.heap.size + 2, 0, none⟩) (by simp)).trans (by simp [go_sem] : _ = false)
      have f1 := (hb6.frozen (p := ⟨w.heap.size + 2, 1, none⟩) (by simp)).trans (by simp [go_sem] : _ = false)
      have hB1 := (bel3 _ _ _ _).trans (hb6.mono (by simp; omega))
      have hl := trivial
      clear hb6
      obtain ⟨s5, a5, n5, c5, rfl⟩ := hm6.form
      have hE := ((hB1.setCell (p := ⟨w.heap.size + 2, 0, none⟩) (by simp; try omega) (.int .i64 s5)).setCell (p := ⟨w.heap.size + 2, 1, none⟩) (by simp; try omega) (.slice a5 n5 c5))
      have hI := hm6.stored (u1 := .int .i64 s5) (u2 := .slice a5 n5 c5) r0 r1 (by intro q; simp)
      have HE : Hid _ := hE
      have HI : Hid _ := hI
      clear hm6 hB1 hl hE hI
      go_wp2
      refine bodyPost_ret (v := .agg #[.int .i64 s5, .slice a5 n5 c5]) (by simp [results, go_sem, loadVar, World.cell?_setCell_same, *]) rfl ?_
      exact ⟨_, rfl, HE.out, HI.out⟩
  · clear g3 g4 g5 i3 i4 i5
    rcases a with _ | a
    · rcases b with _ | b
      · exact absurd ⟨rfl, rfl⟩ hn
      · clear hn
        go_enter Tryz.func24, Tryz.ntmps24
        go_wp2_with (go_at_call 78; fail)
        refine (sum_any _ _ _ _ _ _ L (hX _ (bel3 _ _ _ _)) (hY _ (bel3 _ _ _ _)) hbx hby hL).mono ?_
        rintro e w6 ⟨v6, rfl, hb6, hm6⟩
        rw [hsg.out] at hm6
        have r0 := (hb6.cell (p := ⟨w.heap.size + 2, 0, none⟩) (by simp)).trans (by simp [go_sem] : _ = some (.int .i64 0))
        have r1 := (hb6.cell (p := ⟨w.heap.size + 2, 1, none⟩) (by simp)).trans (by simp [go_sem] : _ = some (.slice none 0 0))
        have f0 := (hb6.frozen (p := ⟨w.heap.size + 2, 0, none⟩) (by simp)).trans (by simp [go_sem] : _ = false)
        have f1 := (hb6.frozen (p := ⟨w.heap.size + 2, 1, none⟩) (by simp)).trans (by simp [go_sem] : _ = false)
        have hB1 := (bel3 _ _ _ _).trans (hb6.mono (by simp; omega))
        have hl := trivial
        clear hb6
        obtain ⟨s5, a5, n5, c5, rfl⟩ := hm6.form
        have hE := ((hB1.setCell (p := ⟨w.heap.size + 2, 0, none⟩) (by simp; try omega) (.int .i64 s5)).setCell (p := ⟨w.heap.size + 2, 1, none⟩) (by simp; try omega) (.slice a5 n5 c5))
        have hI := hm6.stored (u1 := .int .i64 s5) (u2 := .slice a5 n5 c5) r0 r1 (by intro q; simp)
        have HE : Hid _ := hE
        have HI : Hid _ := hI
        clear hm6 hB1 hl hE hI
        go_wp2
        refine bodyPost_ret (v := .agg #[.int .i64 s5, .slice a5 n5 c5]) (by simp [results, go_sem, loadVar, World.cell?_setCell_same, *]) rfl ?_
        exact ⟨_, rfl, HE.out, HI.out⟩
    · clear hn
      go_enter Tryz.func24, Tryz.ntmps24
      go_wp2_with (go_at_call 78; fail)
      refine (sum_any _ _ _ _ _ _ L (hX _ (bel3 _ _ _ _)) (hY _ (bel3 _ _ _ _)) hbx hby hL).mono ?_
      rintro e w6 ⟨v6, rfl, hb6, hm6⟩
      rw [hsg.out] at hm6
      have r0 := (hb6.cell (p := ⟨w.heap.size + 2, 0, none⟩) (by simp)).trans (by simp [go_sem] : _ = some (.int .i64 0))
      have r1 := (hb6.cell (p := ⟨w.heap.size + 2, 1, none⟩) (by simp)).trans (by simp [go_sem] : _ = some (.slice none 0 0))
      have f0 := (hb6.frozen (p := ⟨w.heap.size + 2, 0, none⟩) (by simp)).trans (by simp [go_sem] : _ = false)
      have f1 := (hb6.frozen (p := ⟨w.heap.size + 2, 1, none⟩) (by simp)).trans (by simp [go_sem] : _ = false)
      have hB1 := (bel3 _ _ _ _).trans (hb6.mono (by simp; omega))
      have hl := trivial
      clear hb6
      obtain ⟨s5, a5, n5, c5, rfl⟩ := hm6.form
      have hE := ((hB1.setCell (p := ⟨w.heap.size + 2, 0, none⟩) (by simp; try omega) (.int .i64 s5)).setCell (p := ⟨w.heap.size + 2, 1, none⟩) (by simp; try omega) (.slice a5 n5 c5))
      have hI := hm6.stored (u1 := .int .i64 s5) (u2 := .slice a5 n5 c5) r0 r1 (by intro q; simp)
      have HE : Hid _ := hE
      have HI : Hid _ := hI
      clear hm6 hB1 hl hE hI
      go_wp2
      refine bodyPost_ret (v := .agg #[.int .i64 s5, .slice a5 n5 c5]) (by simp [results, go_sem, loadVar, World.cell?_setCell_same, *]) rfl ?_
      exact ⟨_, rfl, HE.out, HI.out⟩
end Go.Proofs.YtjlkplidpdhgbaaGreatDoor
