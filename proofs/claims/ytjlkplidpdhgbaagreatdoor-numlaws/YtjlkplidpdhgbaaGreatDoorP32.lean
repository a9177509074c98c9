/- A part of the proof: W23. -/
import Derived.Test.YtjlkplidpdhgbaaGreatDoorP26
set_option linter.all false

namespace Go.Proofs.YtjlkplidpdhgbaaGreatDoor
open Go Go.Proofs Go.RowKit Go.Rad


theorem sgn_mul {s t x y : Int} (hs : x < 0 ↔ s < 0) (ht : y < 0 ↔ t < 0) : sgn (!(decide (s < 0) == decide (t < 0))) (x.natAbs * y.natAbs) = x * y := by
  by_cases h1 : x < 0
  · have e1 : (x.natAbs : Int) = -x := by omega
    rw [decide_eq_true (hs.1 h1)]
    by_cases h2 : y < 0
    · have e2 : (y.natAbs : Int) = -y := by omega
      rw [decide_eq_true (ht.1 h2)]
      show (((x.natAbs * y.natAbs : Nat)) : Int) = x * y
      rw [Int.natCast_mul, e1, e2, Int.neg_mul_neg]
    · have e2 : (y.natAbs : Int) = y := by omega
      rw [decide_eq_false (fun h => h2 (ht.2 h))]
      show -(((x.natAbs * y.natAbs : Nat)) : Int) = x * y
      rw [Int.natCast_mul, e1, e2]; simp only [Int.neg_mul, Int.mul_neg, Int.neg_neg]
  · have e1 : (x.natAbs : Int) = x := by omega
    rw [decide_eq_false (fun h => h1 (hs.2 h))]
    by_cases h2 : y < 0
    · have e2 : (y.natAbs : Int) = -y := by omega
      rw [decide_eq_true (ht.1 h2)]
      show -(((x.natAbs * y.natAbs : Nat)) : Int) = x * y
      rw [Int.natCast_mul, e1, e2]; simp only [Int.neg_mul, Int.mul_neg, Int.neg_neg]
    · have e2 : (y.natAbs : Int) = y := by omega
      rw [decide_eq_false (fun h => h2 (ht.2 h))]
      show (((x.natAbs * y.natAbs : Nat)) : Int) = x * y
      rw [Int.natCast_mul, e1, e2]
theorem two_arr (w : World) (l h : Nat) (hl : l < B) (hh : h < B) :
    Arr .u64 B (w.alloc (.cells #[.int .u64 (l : Int), .int .u64 (h : Int)] 98)) w.heap.size 0 2 ∧ num B (w.alloc (.cells #[.int .u64 (l : Int), .int .u64 (h : Int)] 98)) w.heap.size 0 2 = l + B * h := by
  have c0 : (w.alloc (.cells #[.int .u64 (l : Int), .int .u64 (h : Int)] 98)).cell? ⟨w.heap.size, 0, none⟩ = some (.int .u64 (l : Int)) := by
    rw [World.cell?_alloc_at (w := w) _ _ w.heap.size 0 rfl]; rfl
  have c1 : (w.alloc (.cells #[.int .u64 (l : Int), .int .u64 (h : Int)] 98)).cell? ⟨w.heap.size, 1, none⟩ = some (.int .u64 (h : Int)) := by
    rw [World.cell?_alloc_at (w := w) _ _ w.heap.size 1 rfl]; rfl
  have w0 := word_eq c0
  have w1 := word_eq c1
  refine ⟨fun i hi => ?_, ?_⟩
  · have : i = 0 ∨ i = 1 := by omega
    rcases this with rfl | rfl
    · rw [Nat.add_zero, w0]; exact ⟨c0, hl⟩
    · rw [Nat.zero_add, w1]; exact ⟨c1, hh⟩
  · rw [num_succ, num_succ, num_zero, Nat.zero_add, Nat.zero_add, Nat.add_zero, w0, w1, Nat.pow_zero, Nat.pow_one, Nat.one_mul]

set_option maxRecDepth 10000 in
set_option maxHeartbeats 2000000 in
theorem mul_any (w : World) (vx vy : Value) (x y : Int) (Lx Ly : Nat) (hx : IsInt w vx x) (hy : IsInt w vy y) (hbx : x.natAbs < B ^ Lx) (hby : y.natAbs < B ^ Ly) (hL : Lx + Ly ≤ 1099511627776) :
    Calls Tryz.prog 26 #[vx, vy] w fun e w' => ∃ v, e = .returned v ∧ Below w.heap.size w w' ∧ IsInt w' v (x * y) := by
  have q := qNe
  obtain ⟨s, a, n, c, rfl⟩ := hx.form
  obtain ⟨t, b, m, d, rfl⟩ := hy.form
  obtain ⟨g1, g2, g3, g4, g5⟩ := hx.sgn
  obtain ⟨i1, i2, i3, i4, i5⟩ := hy.sgn
  have hX : ∀ w1, Below w.heap.size w w1 → IsInt w1 (.agg #[.int .i64 s, .slice a n c]) x := fun w1 h => hx.below h
  have hY : ∀ w1, Below w.heap.size w w1 → IsInt w1 (.agg #[.int .i64 t, .slice b m d]) y := fun w1 h => hy.below h
  have hsg : Hid (sgn (!(decide (s < 0) == decide (t < 0))) (x.natAbs * y.natAbs) = x * y) := by
    show sgn (!(decide (s < 0) == decide (t < 0))) (x.natAbs * y.natAbs) = x * y
    exact sgn_mul (g3.symm) (i3.symm)
  clear g3 g4 i3 i4
  rcases a with _ | a
  · obtain ⟨rfl, rfl, rfl⟩ := g5 rfl
    rcases b with _ | b
    · obtain ⟨rfl, rfl, rfl⟩ := i5 rfl
      clear g5 i5 hx hy
      go_enter Tryz.func26, Tryz.ntmps26
      go_wp2
      refine wp_world (fun w1 => Below w.heap.size w w1 ∧ w.heap.size + 2 < w1.heap.size ∧ w1.cell? ⟨w.heap.size, 0, none⟩ = some (.int .i64 s) ∧ w1.cell? ⟨w.heap.size, 1, none⟩ = some (.slice none 0 0) ∧ w1.cell? ⟨w.heap.size + 1, 0, none⟩ = some (.int .i64 t) ∧ w1.cell? ⟨w.heap.size + 1, 1, none⟩ = some (.slice none 0 0) ∧ w1.cell? ⟨w.heap.size + 2, 0, none⟩ = some (.int .i64 0) ∧ w1.cell? ⟨w.heap.size + 2, 1, none⟩ = some (.slice none 0 0) ∧ w1.frozen? ⟨w.heap.size + 2, 0, none⟩ = false ∧ w1.frozen? ⟨w.heap.size + 2, 1, none⟩ = false) ⟨bel3 _ _ _ _, by simp, by simp [go_sem], by simp [go_sem], by simp [go_sem], by simp [go_sem], by simp [go_sem], by simp [go_sem], by simp [go_sem], by simp [go_sem]⟩ ?_
      rintro w1 ⟨hB1, hl, k00, k01, k10, k11, r0, r1, f0, f1⟩
      have lt0 : w.heap.size < w1.heap.size := by omega
      have lt1 : w.heap.size + 1 < w1.heap.size := by omega
      refine wp_drawn mixed [⟨54, [], [], [2]⟩, ⟨55, [0], [0], []⟩, ⟨56, [1], [0, 1], []⟩, ⟨57, [], [], [3]⟩, ⟨58, [3], [3], []⟩, ⟨59, [2, 4], [0, 1, 2, 3, 4], []⟩, ⟨60, [2, 5], [0, 1, 2, 3, 4, 5], []⟩, ⟨53, [6], [0, 1, 2, 3, 4, 5, 6], []⟩, ⟨61, [7], [0, 1, 2, 3, 4, 5, 6, 7], []⟩, ⟨62, [7], [0, 1, 2, 3, 4, 5, 6, 7], []⟩, ⟨6, [0, 1, 2, 3, 4, 5, 6, 7, 8], [0, 1, 2, 3, 4, 5, 6, 7, 8], []⟩, ⟨7, [0, 1, 2, 3, 4, 5, 6, 7, 8, 9, 10], [0, 1, 2, 3, 4, 5, 6, 7, 8, 9, 10], []⟩] [] (by kernel_rfl) 84 rfl (by kernel_rfl) (fun (i : Nat) (v : Value) (wq : World) => match i with | 0 => v = .pointer (some ⟨w.heap.size, 0, none⟩) | 1 => v = .int .i64 (s) | 2 => v = .int .u64 ((s.natAbs : Int)) | 3 => v = .pointer (some ⟨w.heap.size + 1, 0, none⟩) | 4 => v = .int .i64 (t) | 5 => v = .int .u64 ((t.natAbs : Int)) | 6 => v = .tuple #[.int .u64 (((hi (s.natAbs * t.natAbs) : Nat) : Int)), .int .u64 (((lo (s.natAbs * t.natAbs) : Nat) : Int))] | 7 => v = .tuple #[.int .u64 (((hi (s.natAbs * t.natAbs) : Nat) : Int)), .int .u64 (((lo (s.natAbs * t.natAbs) : Nat) : Int))] | 8 => v = .int .u64 (((hi (s.natAbs * t.natAbs) : Nat) : Int)) | 9 => v = .int .u64 (((lo (s.natAbs * t.natAbs) : Nat) : Int)) | 10 => v = .int .u64 (((hi (s.natAbs * t.natAbs) : Nat) : Int)) | 11 => v = .int .u64 (((lo (s.natAbs * t.natAbs) : Nat) : Int)) | _ => True) (fun _ wq => Below w1.heap.size w1 wq) (fun wx wy => Below wx.heap.size wx wy) (Below.refl _ _).drew (fun i v wx wy h hx => match i, h with | 0, h => h | 1, h => h | 2, h => h | 3, h => h | 4, h => h | 5, h => h | 6, h => h | 7, h => h | 8, h => h | 9, h => h | 10, h => h | 11, h => h  | n + 12, _ => trivial) ?_ ?_
      · intro i o r ho hr L fr wx hW hL hpr hds hdef hpre hfree
        clear hL hpr hds hdef
        match i, ho, hr with
        | 0, ho, hr =>
          obtain rfl := Option.some.inj ho; obtain rfl := Option.some.inj hr
          have t2 := ev_tmp (show fr.eval (.tmp 2) = .pointer (some ⟨w.heap.size, 0, none⟩) from hfree 2 (by decide))
          clear hpre hfree
          refine stpK rfl rfl fun K hK => ?_
          go_simp
          exact hK _ _ ⟨rfl, hW, Below.refl _ _, fun h => (List.not_mem_nil h).elim⟩
        | 1, ho, hr =>
          obtain rfl := Option.some.inj ho; obtain rfl := Option.some.inj hr
          have e0 := ev_tmp (show fr.eval (.tmp 54) = .pointer (some ⟨w.heap.size, 0, none⟩) from hpre 0 (by decide) _ rfl)
          clear hpre hfree
          have c0 := (hW.cell (p := ⟨w.heap.size, 0, none⟩) lt0).trans k00
          refine stpK rfl rfl fun K hK => ?_
          go_simp
          exact hK _ _ ⟨rfl, hW, Below.refl _ _, fun h => (List.not_mem_nil h).elim⟩
        | 2, ho, hr =>
          obtain rfl := Option.some.inj ho; obtain rfl := Option.some.inj hr
          have e1 := ev_tmp (show fr.eval (.tmp 55) = .int .i64 (s) from hpre 1 (by decide) _ rfl)
          clear hpre hfree
          refine stpK rfl rfl fun K hK => ?_
          go_simp
          refine (sizeOf_any s g1 g2 wx).mono ?_
          rintro e wy ⟨rfl, rfl⟩
          exact hK _ _ ⟨rfl, hW, Below.refl _ _, fun h => (List.not_mem_nil h).elim⟩
        | 3, ho, hr =>
          obtain rfl := Option.some.inj ho; obtain rfl := Option.some.inj hr
          have t3 := ev_tmp (show fr.eval (.tmp 3) = .pointer (some ⟨w.heap.size + 1, 0, none⟩) from hfree 3 (by decide))
          clear hpre hfree
          refine stpK rfl rfl fun K hK => ?_
          go_simp
          exact hK _ _ ⟨rfl, hW, Below.refl _ _, fun h => (List.not_mem_nil h).elim⟩
        | 4, ho, hr =>
          obtain rfl := Option.some.inj ho; obtain rfl := Option.some.inj hr
          have e3 := ev_tmp (show fr.eval (.tmp 57) = .pointer (some ⟨w.heap.size + 1, 0, none⟩) from hpre 3 (by decide) _ rfl)
          clear hpre hfree
          have c0 := (hW.cell (p := ⟨w.heap.size + 1, 0, none⟩) lt1).trans k10
          refine stpK rfl rfl fun K hK => ?_
          go_simp
          exact hK _ _ ⟨rfl, hW, Below.refl _ _, fun h => (List.not_mem_nil h).elim⟩
        | 5, ho, hr =>
          obtain rfl := Option.some.inj ho; obtain rfl := Option.some.inj hr
          have e4 := ev_tmp (show fr.eval (.tmp 58) = .int .i64 (t) from hpre 4 (by decide) _ rfl)
          clear hpre hfree
          refine stpK rfl rfl fun K hK => ?_
          go_simp
          refine (sizeOf_any t i1 i2 wx).mono ?_
          rintro e wy ⟨rfl, rfl⟩
          exact hK _ _ ⟨rfl, hW, Below.refl _ _, fun h => (List.not_mem_nil h).elim⟩
        | 6, ho, hr =>
          obtain rfl := Option.some.inj ho; obtain rfl := Option.some.inj hr
          have e2 := ev_tmp (show fr.eval (.tmp 56) = .int .u64 ((s.natAbs : Int)) from hpre 2 (by decide) _ rfl)
          have e5 := ev_tmp (show fr.eval (.tmp 59) = .int .u64 ((t.natAbs : Int)) from hpre 5 (by decide) _ rfl)
          clear hpre hfree
          refine stpK rfl rfl fun K hK => ?_
          go_simp
          refine (mul64 s.natAbs t.natAbs (by unfold B; omega) (by unfold B; omega) wx).mono ?_
          rintro e wy ⟨rfl, rfl⟩
          exact hK _ _ ⟨rfl, hW, Below.refl _ _, fun h => (List.not_mem_nil h).elim⟩
        | 7, ho, hr =>
          obtain rfl := Option.some.inj ho; obtain rfl := Option.some.inj hr
          have e6 := ev_tmp (show fr.eval (.tmp 60) = .tuple #[.int .u64 (((hi (s.natAbs * t.natAbs) : Nat) : Int)), .int .u64 (((lo (s.natAbs * t.natAbs) : Nat) : Int))] from hpre 6 (by decide) _ rfl)
          clear hpre hfree
          refine stpK rfl rfl fun K hK => ?_
          go_simp
          exact hK _ _ ⟨rfl, hW, Below.refl _ _, fun h => (List.not_mem_nil h).elim⟩
        | 8, ho, hr =>
          obtain rfl := Option.some.inj ho; obtain rfl := Option.some.inj hr
          have e7 := ev_tmp (show fr.eval (.tmp 53) = .tuple #[.int .u64 (((hi (s.natAbs * t.natAbs) : Nat) : Int)), .int .u64 (((lo (s.natAbs * t.natAbs) : Nat) : Int))] from hpre 7 (by decide) _ rfl)
          clear hpre hfree
          refine stpK rfl rfl fun K hK => ?_
          go_simp
          exact hK _ _ ⟨rfl, hW, Below.refl _ _, fun h => (List.not_mem_nil h).elim⟩
        | 9, ho, hr =>
          obtain rfl := Option.some.inj ho; obtain rfl := Option.some.inj hr
          have e7 := ev_tmp (show fr.eval (.tmp 53) = .tuple #[.int .u64 (((hi (s.natAbs * t.natAbs) : Nat) : Int)), .int .u64 (((lo (s.natAbs * t.natAbs) : Nat) : Int))] from hpre 7 (by decide) _ rfl)
          clear hpre hfree
          refine stpK rfl rfl fun K hK => ?_
          go_simp
          exact hK _ _ ⟨rfl, hW, Below.refl _ _, fun h => (List.not_mem_nil h).elim⟩
        | 10, ho, hr =>
          obtain rfl := Option.some.inj ho; obtain rfl := Option.some.inj hr
          have e8 := ev_tmp (show fr.eval (.tmp 61) = .int .u64 (((hi (s.natAbs * t.natAbs) : Nat) : Int)) from hpre 8 (by decide) _ rfl)
          clear hpre hfree
          refine stpK rfl rfl fun K hK => ?_
          go_simp
          exact hK _ _ ⟨rfl, hW, Below.refl _ _, fun h => (List.not_mem_nil h).elim⟩
        | 11, ho, hr =>
          obtain rfl := Option.some.inj ho; obtain rfl := Option.some.inj hr
          have e9 := ev_tmp (show fr.eval (.tmp 62) = .int .u64 (((lo (s.natAbs * t.natAbs) : Nat) : Int)) from hpre 9 (by decide) _ rfl)
          clear hpre hfree
          refine stpK rfl rfl fun K hK => ?_
          go_simp
          exact hK _ _ ⟨rfl, hW, Below.refl _ _, fun h => (List.not_mem_nil h).elim⟩
        | n + 12, ho, hr => exact absurd hr (by simp)
      · intro vs wn hvs hW1 hap0
        clear hap0
        have e0 : vs 0 = .pointer (some ⟨w.heap.size, 0, none⟩) := hvs 0 (by decide)
        have e1 : vs 1 = .int .i64 (s) := hvs 1 (by decide)
        have e2 : vs 2 = .int .u64 ((s.natAbs : Int)) := hvs 2 (by decide)
        have e3 : vs 3 = .pointer (some ⟨w.heap.size + 1, 0, none⟩) := hvs 3 (by decide)
        have e4 : vs 4 = .int .i64 (t) := hvs 4 (by decide)
        have e5 : vs 5 = .int .u64 ((t.natAbs : Int)) := hvs 5 (by decide)
        have e6 : vs 6 = .tuple #[.int .u64 (((hi (s.natAbs * t.natAbs) : Nat) : Int)), .int .u64 (((lo (s.natAbs * t.natAbs) : Nat) : Int))] := hvs 6 (by decide)
        have e7 : vs 7 = .tuple #[.int .u64 (((hi (s.natAbs * t.natAbs) : Nat) : Int)), .int .u64 (((lo (s.natAbs * t.natAbs) : Nat) : Int))] := hvs 7 (by decide)
        have e8 : vs 8 = .int .u64 (((hi (s.natAbs * t.natAbs) : Nat) : Int)) := hvs 8 (by decide)
        have e9 : vs 9 = .int .u64 (((lo (s.natAbs * t.natAbs) : Nat) : Int)) := hvs 9 (by decide)
        have e10 : vs 10 = .int .u64 (((hi (s.natAbs * t.natAbs) : Nat) : Int)) := hvs 10 (by decide)
        have e11 : vs 11 = .int .u64 (((lo (s.natAbs * t.natAbs) : Nat) : Int)) := hvs 11 (by decide)
        simp only [puts, Nat.reduceAdd, e0, e1, e2, e3, e4, e5, e6, e7, e8, e9, e10, e11, Act.put, List.setIfInBounds_toArray, List.set_cons_zero, List.set_cons_succ, List.drop_succ_cons, List.drop_zero, List.length_cons, List.length_nil]
        clear hvs e0 e1 e2 e3 e4 e5 e6 e7 e8 e9 e10 e11
        replace k00 := (hW1.cell (p := ⟨w.heap.size, 0, none⟩) lt0).trans k00
        replace k01 := (hW1.cell (p := ⟨w.heap.size, 1, none⟩) lt0).trans k01
        replace k10 := (hW1.cell (p := ⟨w.heap.size + 1, 0, none⟩) lt1).trans k10
        replace k11 := (hW1.cell (p := ⟨w.heap.size + 1, 1, none⟩) lt1).trans k11
        replace r0 := (hW1.cell (p := ⟨w.heap.size + 2, 0, none⟩) hl).trans r0
        replace f0 := (hW1.frozen (p := ⟨w.heap.size + 2, 0, none⟩) hl).trans f0
        replace r1 := (hW1.cell (p := ⟨w.heap.size + 2, 1, none⟩) hl).trans r1
        replace f1 := (hW1.frozen (p := ⟨w.heap.size + 2, 1, none⟩) hl).trans f1
        replace lt0 := Nat.lt_of_lt_of_le lt0 hW1.size
        replace lt1 := Nat.lt_of_lt_of_le lt1 hW1.size
        replace hl := Nat.lt_of_lt_of_le hl hW1.size
        replace hB1 := hB1.trans (hW1.mono hB1.size)
        clear hW1
        have hPlt : s.natAbs * t.natAbs < B * B := Nat.mul_lt_mul'' (by unfold B; omega) (by unfold B; omega)
        have hlh := lo_hi (s.natAbs * t.natAbs)
        have hhi := hi_lt hPlt
        have hlo := lo_lt (s.natAbs * t.natAbs)
        have hsg' := hsg.out
        clear hX hY hbx hby hPlt
        generalize s.natAbs * t.natAbs = p at *
        generalize lo p = l at *
        generalize hi p = h at *
        subst hlh
        clear hsg
        generalize (!(decide (s < 0) == decide (t < 0))) = bl at *
        have HS : Hid _ := hsg'
        clear hsg'
        by_cases hsm : h = 0 ∧ l ≤ 9223372036854775807
        · obtain ⟨rfl, h2⟩ := hsm
          have h2' : ((l : Nat) : Int) ≤ 9223372036854775807 := by omega
          have e3 : l + B * 0 = l := by omega
          have hs2 := HS.out
          rw [e3] at hs2
          cases bl
          · rw [sgn_pos] at hs2
            have HS2 : Hid _ := hs2
            clear hs2 HS e3
            have HE : Hid _ := ((hB1.setCell (p := ⟨w.heap.size + 2, 0, none⟩) (by simp; try omega) (.int .i64 (l : Int))).setCell (p := ⟨w.heap.size + 2, 1, none⟩) (by simp; try omega) (.slice none 0 0))
            clear hB1 hl lt0 lt1 hlo hhi
            go_wp2
            refine bodyPost_ret (v := .agg #[.int .i64 (l : Int), .slice none 0 0]) (by simp [results, go_sem, loadVar, *]) rfl ?_
            exact ⟨_, rfl, HE.out, by rw [← HS2.out]; exact isInt_small _ _ (by omega) (by omega)⟩
          · rw [sgn_neg] at hs2
            have HS2 : Hid _ := hs2
            clear hs2 HS e3
            have HE : Hid _ := ((hB1.setCell (p := ⟨w.heap.size + 2, 0, none⟩) (by simp; try omega) (.int .i64 (-(l : Int)))).setCell (p := ⟨w.heap.size + 2, 1, none⟩) (by simp; try omega) (.slice none 0 0))
            clear hB1 hl lt0 lt1 hlo hhi
            go_wp2
            refine bodyPost_ret (v := .agg #[.int .i64 (-(l : Int)), .slice none 0 0]) (by simp [results, go_sem, loadVar, *]) rfl ?_
            exact ⟨_, rfl, HE.out, by rw [← HS2.out]; exact isInt_small _ _ (by omega) (by omega)⟩
        · have hcond : (if ((h : Nat) : Int) = 0 then decide (((l : Nat) : Int) ≤ 9223372036854775807) else false) = false := by
            split
            · simp; omega
            · rfl
          by_cases h0 : h = 0
          · subst h0
            have h2 : ¬ ((l : Nat) : Int) ≤ 9223372036854775807 := by omega
            clear hcond hsm
            go_wp2_with (go_at_call 86; fail)
            obtain ⟨A2, N2⟩ := two_arr wn l 0 hlo hhi
            refine (front_mag _ _ _ _ _ _ 2 (Sl.mk _ _ _) (Nat.le_refl _) (by unfold maxLen; omega) (by unfold maxLen; omega) A2).mono ?_
            rintro e w5 ⟨v5, n5, rfl, hw5, _, _, hm5⟩
            subst hw5
            rw [Nat.min_self, N2] at hm5
            clear A2 N2
            have hb5 := bel1 wn (.cells #[.int .u64 (l : Int), .int .u64 ((0 : Nat) : Int)] 98)
            replace k00 := (hb5.cell (p := ⟨w.heap.size, 0, none⟩) lt0).trans k00
            replace k01 := (hb5.cell (p := ⟨w.heap.size, 1, none⟩) lt0).trans k01
            replace k10 := (hb5.cell (p := ⟨w.heap.size + 1, 0, none⟩) lt1).trans k10
            replace k11 := (hb5.cell (p := ⟨w.heap.size + 1, 1, none⟩) lt1).trans k11
            replace r0 := (hb5.cell (p := ⟨w.heap.size + 2, 0, none⟩) hl).trans r0
            replace f0 := (hb5.frozen (p := ⟨w.heap.size + 2, 0, none⟩) hl).trans f0
            replace r1 := (hb5.cell (p := ⟨w.heap.size + 2, 1, none⟩) hl).trans r1
            replace f1 := (hb5.frozen (p := ⟨w.heap.size + 2, 1, none⟩) hl).trans f1
            replace lt0 := Nat.lt_of_lt_of_le lt0 hb5.size
            replace lt1 := Nat.lt_of_lt_of_le lt1 hb5.size
            replace hl := Nat.lt_of_lt_of_le hl hb5.size
            replace hB1 := hB1.trans (hb5.mono hB1.size)
            clear hb5
            go_wp2_with (go_at_call 76; fail)
            refine (signed_any _ _ _ _ _ hm5).mono ?_
            rintro e w6 ⟨v6, rfl, hb6, hm6⟩
            rw [HS.out] at hm6
            replace k00 := (hb6.cell (p := ⟨w.heap.size, 0, none⟩) lt0).trans k00
            replace k01 := (hb6.cell (p := ⟨w.heap.size, 1, none⟩) lt0).trans k01
            replace k10 := (hb6.cell (p := ⟨w.heap.size + 1, 0, none⟩) lt1).trans k10
            replace k11 := (hb6.cell (p := ⟨w.heap.size + 1, 1, none⟩) lt1).trans k11
            replace r0 := (hb6.cell (p := ⟨w.heap.size + 2, 0, none⟩) hl).trans r0
            replace f0 := (hb6.frozen (p := ⟨w.heap.size + 2, 0, none⟩) hl).trans f0
            replace r1 := (hb6.cell (p := ⟨w.heap.size + 2, 1, none⟩) hl).trans r1
            replace f1 := (hb6.frozen (p := ⟨w.heap.size + 2, 1, none⟩) hl).trans f1
            replace lt0 := Nat.lt_of_lt_of_le lt0 hb6.size
            replace lt1 := Nat.lt_of_lt_of_le lt1 hb6.size
            replace hl := Nat.lt_of_lt_of_le hl hb6.size
            replace hB1 := hB1.trans (hb6.mono hB1.size)
            clear hb6 hm5
            obtain ⟨s5, a5, n5, c5, rfl⟩ := hm6.form
            have hE := ((hB1.setCell (p := ⟨w.heap.size + 2, 0, none⟩) (by simp; try omega) (.int .i64 s5)).setCell (p := ⟨w.heap.size + 2, 1, none⟩) (by simp; try omega) (.slice a5 n5 c5))
            have hI := hm6.stored (u1 := .int .i64 s5) (u2 := .slice a5 n5 c5) r0 r1 (by intro q; simp)
            have HE : Hid _ := hE
            have HI : Hid _ := hI
            clear hm6 hB1 hl hE hI
            go_wp2
            refine bodyPost_ret (v := .agg #[.int .i64 s5, .slice a5 n5 c5]) (by simp [results, go_sem, loadVar, World.cell?_setCell_same, *]) rfl ?_
            exact ⟨_, rfl, HE.out, HI.out⟩
          · have h0' : ¬ ((h : Nat) : Int) = 0 := by omega
            clear hcond hsm
            go_wp2_with (go_at_call 86; fail)
            obtain ⟨A2, N2⟩ := two_arr wn l h hlo hhi
            refine (front_mag _ _ _ _ _ _ 2 (Sl.mk _ _ _) (Nat.le_refl _) (by unfold maxLen; omega) (by unfold maxLen; omega) A2).mono ?_
            rintro e w5 ⟨v5, n5, rfl, hw5, _, _, hm5⟩
            subst hw5
            rw [Nat.min_self, N2] at hm5
            clear A2 N2
            have hb5 := bel1 wn (.cells #[.int .u64 (l : Int), .int .u64 (h : Int)] 98)
            replace k00 := (hb5.cell (p := ⟨w.heap.size, 0, none⟩) lt0).trans k00
            replace k01 := (hb5.cell (p := ⟨w.heap.size, 1, none⟩) lt0).trans k01
            replace k10 := (hb5.cell (p := ⟨w.heap.size + 1, 0, none⟩) lt1).trans k10
            replace k11 := (hb5.cell (p := ⟨w.heap.size + 1, 1, none⟩) lt1).trans k11
            replace r0 := (hb5.cell (p := ⟨w.heap.size + 2, 0, none⟩) hl).trans r0
            replace f0 := (hb5.frozen (p := ⟨w.heap.size + 2, 0, none⟩) hl).trans f0
            replace r1 := (hb5.cell (p := ⟨w.heap.size + 2, 1, none⟩) hl).trans r1
            replace f1 := (hb5.frozen (p := ⟨w.heap.size + 2, 1, none⟩) hl).trans f1
            replace lt0 := Nat.lt_of_lt_of_le lt0 hb5.size
            replace lt1 := Nat.lt_of_lt_of_le lt1 hb5.size
            replace hl := Nat.lt_of_lt_of_le hl hb5.size
            replace hB1 := hB1.trans (hb5.mono hB1.size)
            clear hb5
            go_wp2_with (go_at_call 76; fail)
            refine (signed_any _ _ _ _ _ hm5).mono ?_
            rintro e w6 ⟨v6, rfl, hb6, hm6⟩
            rw [HS.out] at hm6
            replace k00 := (hb6.cell (p := ⟨w.heap.size, 0, none⟩) lt0).trans k00
            replace k01 := (hb6.cell (p := ⟨w.heap.size, 1, none⟩) lt0).trans k01
            replace k10 := (hb6.cell (p := ⟨w.heap.size + 1, 0, none⟩) lt1).trans k10
            replace k11 := (hb6.cell (p := ⟨w.heap.size + 1, 1, none⟩) lt1).trans k11
            replace r0 := (hb6.cell (p := ⟨w.heap.size + 2, 0, none⟩) hl).trans r0
            replace f0 := (hb6.frozen (p := ⟨w.heap.size + 2, 0, none⟩) hl).trans f0
            replace r1 := (hb6.cell (p := ⟨w.heap.size + 2, 1, none⟩) hl).trans r1
            replace f1 := (hb6.frozen (p := ⟨w.heap.size + 2, 1, none⟩) hl).trans f1
            replace lt0 := Nat.lt_of_lt_of_le lt0 hb6.size
            replace lt1 := Nat.lt_of_lt_of_le lt1 hb6.size
            replace hl := Nat.lt_of_lt_of_le hl hb6.size
            replace hB1 := hB1.trans (hb6.mono hB1.size)
            clear hb6 hm5
            obtain ⟨s5, a5, n5, c5, rfl⟩ := hm6.form
            have hE := ((hB1.setCell (p := ⟨w.heap.size + 2, 0, none⟩) (by simp; try omega) (.int .i64 s5)).setCell (p := ⟨w.heap.size + 2, 1, none⟩) (by simp; try omega) (.slice a5 n5 c5))
            have hI := hm6.stored (u1 := .int .i64 s5) (u2 := .slice a5 n5 c5) r0 r1 (by intro q; simp)
            have HE : Hid _ := hE
            have HI : Hid _ := hI
            clear hm6 hB1 hl hE hI
            go_wp2
            refine bodyPost_ret (v := .agg #[.int .i64 s5, .slice a5 n5 c5]) (by simp [results, go_sem, loadVar, World.cell?_setCell_same, *]) rfl ?_
            exact ⟨_, rfl, HE.out, HI.out⟩

    · have hY' := hy.mag.1
      have hl1 := hY'.len_le hby
      clear g5 i5 hx hy hY'
      go_enter Tryz.func26, Tryz.ntmps26
      go_wp2
      refine wp_world (fun w1 => Below w.heap.size w w1 ∧ w.heap.size + 2 < w1.heap.size ∧ w1.cell? ⟨w.heap.size, 0, none⟩ = some (.int .i64 s) ∧ w1.cell? ⟨w.heap.size, 1, none⟩ = some (.slice none 0 0) ∧ w1.cell? ⟨w.heap.size + 1, 0, none⟩ = some (.int .i64 t) ∧ w1.cell? ⟨w.heap.size + 1, 1, none⟩ = some (.slice (some b) m d) ∧ w1.cell? ⟨w.heap.size + 2, 0, none⟩ = some (.int .i64 0) ∧ w1.cell? ⟨w.heap.size + 2, 1, none⟩ = some (.slice none 0 0) ∧ w1.frozen? ⟨w.heap.size + 2, 0, none⟩ = false ∧ w1.frozen? ⟨w.heap.size + 2, 1, none⟩ = false) ⟨bel3 _ _ _ _, by simp, by simp [go_sem], by simp [go_sem], by simp [go_sem], by simp [go_sem], by simp [go_sem], by simp [go_sem], by simp [go_sem], by simp [go_sem]⟩ ?_
      rintro w1 ⟨hB1, hl, k00, k01, k10, k11, r0, r1, f0, f1⟩
      have lt0 : w.heap.size < w1.heap.size := by omega
      have lt1 : w.heap.size + 1 < w1.heap.size := by omega
      refine wp_drawn mixed [⟨45, [], [], [5]⟩, ⟨46, [], [], [3]⟩, ⟨47, [1], [1], []⟩, ⟨48, [], [], [2]⟩, ⟨49, [3], [3], []⟩, ⟨50, [4], [3, 4], []⟩, ⟨51, [2, 5], [1, 2, 3, 4, 5], []⟩, ⟨52, [0, 6], [0, 1, 2, 3, 4, 5, 6], []⟩] [] (by kernel_rfl) 84 rfl (by kernel_rfl) (fun (i : Nat) (v : Value) (wq : World) => match i with | 0 => v = .bool ((!(decide (s < 0) == decide (t < 0)))) | 1 => v = .pointer (some ⟨w.heap.size + 1, 1, none⟩) | 2 => v = .slice (some b) (m) (d) | 3 => v = .pointer (some ⟨w.heap.size, 0, none⟩) | 4 => v = .int .i64 (s) | 5 => v = .int .u64 ((s.natAbs : Int)) | 6 => ∃ n, Mag wq v (y.natAbs * s.natAbs) n | 7 => IsInt wq v (s * y) | _ => True) (fun _ wq => Below w1.heap.size w1 wq) (fun wx wy => Below wx.heap.size wx wy) (Below.refl _ _).drew (fun i v wx wy h hx => match i, h with | 0, h => h | 1, h => h | 2, h => h | 3, h => h | 4, h => h | 5, h => h | 6, h => by obtain ⟨n, h⟩ := h; exact ⟨n, h.below hx⟩ | 7, h => h.below hx | n + 8, _ => trivial) ?_ ?_
      · intro i o r ho hr L fr wx hW hL hpr hds hdef hpre hfree
        clear hL hpr hds hdef
        match i, ho, hr with
        | 0, ho, hr =>
          obtain rfl := Option.some.inj ho; obtain rfl := Option.some.inj hr
          have t5 := ev_tmp (show fr.eval (.tmp 5) = .bool ((!(decide (s < 0) == decide (t < 0)))) from hfree 5 (by decide))
          clear hpre hfree
          refine stpK rfl rfl fun K hK => ?_
          go_simp
          exact hK _ _ ⟨rfl, hW, Below.refl _ _, fun h => (List.not_mem_nil h).elim⟩
        | 1, ho, hr =>
          obtain rfl := Option.some.inj ho; obtain rfl := Option.some.inj hr
          have t3 := ev_tmp (show fr.eval (.tmp 3) = .pointer (some ⟨w.heap.size + 1, 0, none⟩) from hfree 3 (by decide))
          clear hpre hfree
          refine stpK rfl rfl fun K hK => ?_
          go_simp
          exact hK _ _ ⟨rfl, hW, Below.refl _ _, fun h => (List.not_mem_nil h).elim⟩
        | 2, ho, hr =>
          obtain rfl := Option.some.inj ho; obtain rfl := Option.some.inj hr
          have e1 := ev_tmp (show fr.eval (.tmp 46) = .pointer (some ⟨w.heap.size + 1, 1, none⟩) from hpre 1 (by decide) _ rfl)
          clear hpre hfree
          have c0 := (hW.cell (p := ⟨w.heap.size + 1, 1, none⟩) lt1).trans k11
          refine stpK rfl rfl fun K hK => ?_
          go_simp
          exact hK _ _ ⟨rfl, hW, Below.refl _ _, fun h => (List.not_mem_nil h).elim⟩
        | 3, ho, hr =>
          obtain rfl := Option.some.inj ho; obtain rfl := Option.some.inj hr
          have t2 := ev_tmp (show fr.eval (.tmp 2) = .pointer (some ⟨w.heap.size, 0, none⟩) from hfree 2 (by decide))
          clear hpre hfree
          refine stpK rfl rfl fun K hK => ?_
          go_simp
          exact hK _ _ ⟨rfl, hW, Below.refl _ _, fun h => (List.not_mem_nil h).elim⟩
        | 4, ho, hr =>
          obtain rfl := Option.some.inj ho; obtain rfl := Option.some.inj hr
          have e3 := ev_tmp (show fr.eval (.tmp 48) = .pointer (some ⟨w.heap.size, 0, none⟩) from hpre 3 (by decide) _ rfl)
          clear hpre hfree
          have c0 := (hW.cell (p := ⟨w.heap.size, 0, none⟩) lt0).trans k00
          refine stpK rfl rfl fun K hK => ?_
          go_simp
          exact hK _ _ ⟨rfl, hW, Below.refl _ _, fun h => (List.not_mem_nil h).elim⟩
        | 5, ho, hr =>
          obtain rfl := Option.some.inj ho; obtain rfl := Option.some.inj hr
          have e4 := ev_tmp (show fr.eval (.tmp 49) = .int .i64 (s) from hpre 4 (by decide) _ rfl)
          clear hpre hfree
          refine stpK rfl rfl fun K hK => ?_
          go_simp
          refine (sizeOf_any s g1 g2 wx).mono ?_
          rintro e wy ⟨rfl, rfl⟩
          exact hK _ _ ⟨rfl, hW, Below.refl _ _, fun h => (List.not_mem_nil h).elim⟩
        | 6, ho, hr =>
          obtain rfl := Option.some.inj ho; obtain rfl := Option.some.inj hr
          have e2 := ev_tmp (show fr.eval (.tmp 47) = .slice (some b) (m) (d) from hpre 2 (by decide) _ rfl)
          have e5 := ev_tmp (show fr.eval (.tmp 50) = .int .u64 ((s.natAbs : Int)) from hpre 5 (by decide) _ rfl)
          clear hpre hfree
          refine stpK rfl rfl fun K hK => ?_
          go_simp
          refine (mulWord_any wx _ _ _ s.natAbs ((hY wx (hB1.trans (hW.mono hB1.size))).mag.1) (by unfold B; omega) (by omega)).mono ?_
          rintro e wy ⟨v4, n4, rfl, hb, hm4, _⟩
          exact hK _ _ ⟨⟨n4, hm4⟩, hW.trans (hb.mono hW.size), hb, fun h => (List.not_mem_nil h).elim⟩
        | 7, ho, hr =>
          obtain rfl := Option.some.inj ho; obtain rfl := Option.some.inj hr
          have e0 := ev_tmp (show fr.eval (.tmp 45) = .bool ((!(decide (s < 0) == decide (t < 0)))) from hpre 0 (by decide) _ rfl)
          obtain ⟨u6, q6⟩ : ∃ u, fr.eval (.tmp 51) = u := ⟨_, rfl⟩
          have p6 : ∃ n, Mag wx u6 (y.natAbs * s.natAbs) n := by rw [← q6]; exact hpre 6 (by decide) _ rfl
          have e6 := ev_tmp q6; clear q6
          clear hpre hfree
          refine stpK rfl rfl fun K hK => ?_
          obtain ⟨n4, hm4⟩ := p6
          go_simp
          refine (signed_any wx (!(decide (s < 0) == decide (t < 0))) _ _ _ hm4).mono ?_
          rintro e wy ⟨v5, rfl, hb, hm5⟩
          exact hK _ _ ⟨by rw [Nat.mul_comm, hsg.out] at hm5; exact hm5, hW.trans (hb.mono hW.size), hb, fun h => (List.not_mem_nil h).elim⟩
        | n + 8, ho, hr => exact absurd hr (by simp)
      · intro vs wn hvs hW1 hap0
        clear hap0
        have e0 : vs 0 = .bool ((!(decide (s < 0) == decide (t < 0)))) := hvs 0 (by decide)
        have e1 : vs 1 = .pointer (some ⟨w.heap.size + 1, 1, none⟩) := hvs 1 (by decide)
        have e2 : vs 2 = .slice (some b) (m) (d) := hvs 2 (by decide)
        have e3 : vs 3 = .pointer (some ⟨w.heap.size, 0, none⟩) := hvs 3 (by decide)
        have e4 : vs 4 = .int .i64 (s) := hvs 4 (by decide)
        have e5 : vs 5 = .int .u64 ((s.natAbs : Int)) := hvs 5 (by decide)
        obtain ⟨u6, e6⟩ : ∃ u, vs 6 = u := ⟨_, rfl⟩
        have p6 : ∃ n, Mag wn u6 (y.natAbs * s.natAbs) n := by rw [← e6]; exact hvs 6 (by decide)
        obtain ⟨u7, e7⟩ : ∃ u, vs 7 = u := ⟨_, rfl⟩
        have p7 : IsInt wn u7 (s * y) := by rw [← e7]; exact hvs 7 (by decide)
        simp only [puts, Nat.reduceAdd, e0, e1, e2, e3, e4, e5, e6, e7, Act.put, List.setIfInBounds_toArray, List.set_cons_zero, List.set_cons_succ, List.drop_succ_cons, List.drop_zero, List.length_cons, List.length_nil]
        clear hvs e0 e1 e2 e3 e4 e5 e6 e7
        replace k00 := (hW1.cell (p := ⟨w.heap.size, 0, none⟩) lt0).trans k00
        replace k01 := (hW1.cell (p := ⟨w.heap.size, 1, none⟩) lt0).trans k01
        replace k10 := (hW1.cell (p := ⟨w.heap.size + 1, 0, none⟩) lt1).trans k10
        replace k11 := (hW1.cell (p := ⟨w.heap.size + 1, 1, none⟩) lt1).trans k11
        replace r0 := (hW1.cell (p := ⟨w.heap.size + 2, 0, none⟩) hl).trans r0
        replace f0 := (hW1.frozen (p := ⟨w.heap.size + 2, 0, none⟩) hl).trans f0
        replace r1 := (hW1.cell (p := ⟨w.heap.size + 2, 1, none⟩) hl).trans r1
        replace f1 := (hW1.frozen (p := ⟨w.heap.size + 2, 1, none⟩) hl).trans f1
        replace lt0 := Nat.lt_of_lt_of_le lt0 hW1.size
        replace lt1 := Nat.lt_of_lt_of_le lt1 hW1.size
        replace hl := Nat.lt_of_lt_of_le hl hW1.size
        replace hB1 := hB1.trans (hW1.mono hB1.size)
        clear hW1 p6
        obtain ⟨s5, a5, n5, c5, rfl⟩ := p7.form
        have hE := ((hB1.setCell (p := ⟨w.heap.size + 2, 0, none⟩) (by simp; try omega) (.int .i64 s5)).setCell (p := ⟨w.heap.size + 2, 1, none⟩) (by simp; try omega) (.slice a5 n5 c5))
        have hI := p7.stored (u1 := .int .i64 s5) (u2 := .slice a5 n5 c5) r0 r1 (by intro q; simp)
        have HE : Hid _ := hE
        have HI : Hid _ := hI
        clear p7 hB1 hl hE hI
        go_wp2
        refine bodyPost_ret (v := .agg #[.int .i64 s5, .slice a5 n5 c5]) (by simp [results, go_sem, loadVar, World.cell?_setCell_same, *]) rfl ?_
        exact ⟨_, rfl, HE.out, HI.out⟩
  · have hX' := hx.mag.1
    have hl1 := hX'.len_le hbx
    rcases b with _ | b
    · obtain ⟨rfl, rfl, rfl⟩ := i5 rfl
      clear g5 i5 hx hy hX'
      go_enter Tryz.func26, Tryz.ntmps26
      go_wp2
      refine wp_world (fun w1 => Below w.heap.size w w1 ∧ w.heap.size + 2 < w1.heap.size ∧ w1.cell? ⟨w.heap.size, 0, none⟩ = some (.int .i64 s) ∧ w1.cell? ⟨w.heap.size, 1, none⟩ = some (.slice (some a) n c) ∧ w1.cell? ⟨w.heap.size + 1, 0, none⟩ = some (.int .i64 t) ∧ w1.cell? ⟨w.heap.size + 1, 1, none⟩ = some (.slice none 0 0) ∧ w1.cell? ⟨w.heap.size + 2, 0, none⟩ = some (.int .i64 0) ∧ w1.cell? ⟨w.heap.size + 2, 1, none⟩ = some (.slice none 0 0) ∧ w1.frozen? ⟨w.heap.size + 2, 0, none⟩ = false ∧ w1.frozen? ⟨w.heap.size + 2, 1, none⟩ = false) ⟨bel3 _ _ _ _, by simp, by simp [go_sem], by simp [go_sem], by simp [go_sem], by simp [go_sem], by simp [go_sem], by simp [go_sem], by simp [go_sem], by simp [go_sem]⟩ ?_
      rintro w1 ⟨hB1, hl, k00, k01, k10, k11, r0, r1, f0, f1⟩
      have lt0 : w.heap.size < w1.heap.size := by omega
      have lt1 : w.heap.size + 1 < w1.heap.size := by omega
      refine wp_drawn mixed [⟨34, [], [], [5]⟩, ⟨35, [], [], [2]⟩, ⟨36, [1], [1], []⟩, ⟨37, [], [], [3]⟩, ⟨38, [3], [3], []⟩, ⟨39, [4], [3, 4], []⟩, ⟨40, [2, 5], [1, 2, 3, 4, 5], []⟩, ⟨41, [0, 6], [0, 1, 2, 3, 4, 5, 6], []⟩] [] (by kernel_rfl) 84 rfl (by kernel_rfl) (fun (i : Nat) (v : Value) (wq : World) => match i with | 0 => v = .bool ((!(decide (s < 0) == decide (t < 0)))) | 1 => v = .pointer (some ⟨w.heap.size, 1, none⟩) | 2 => v = .slice (some a) (n) (c) | 3 => v = .pointer (some ⟨w.heap.size + 1, 0, none⟩) | 4 => v = .int .i64 (t) | 5 => v = .int .u64 ((t.natAbs : Int)) | 6 => ∃ n, Mag wq v (x.natAbs * t.natAbs) n | 7 => IsInt wq v (x * t) | _ => True) (fun _ wq => Below w1.heap.size w1 wq) (fun wx wy => Below wx.heap.size wx wy) (Below.refl _ _).drew (fun i v wx wy h hx => match i, h with | 0, h => h | 1, h => h | 2, h => h | 3, h => h | 4, h => h | 5, h => h | 6, h => by obtain ⟨n, h⟩ := h; exact ⟨n, h.below hx⟩ | 7, h => h.below hx | n + 8, _ => trivial) ?_ ?_
      · intro i o r ho hr L fr wx hW hL hpr hds hdef hpre hfree
        clear hL hpr hds hdef
        match i, ho, hr with
        | 0, ho, hr =>
          obtain rfl := Option.some.inj ho; obtain rfl := Option.some.inj hr
          have t5 := ev_tmp (show fr.eval (.tmp 5) = .bool ((!(decide (s < 0) == decide (t < 0)))) from hfree 5 (by decide))
          clear hpre hfree
          refine stpK rfl rfl fun K hK => ?_
          go_simp
          exact hK _ _ ⟨rfl, hW, Below.refl _ _, fun h => (List.not_mem_nil h).elim⟩
        | 1, ho, hr =>
          obtain rfl := Option.some.inj ho; obtain rfl := Option.some.inj hr
          have t2 := ev_tmp (show fr.eval (.tmp 2) = .pointer (some ⟨w.heap.size, 0, none⟩) from hfree 2 (by decide))
          clear hpre hfree
          refine stpK rfl rfl fun K hK => ?_
          go_simp
          exact hK _ _ ⟨rfl, hW, Below.refl _ _, fun h => (List.not_mem_nil h).elim⟩
        | 2, ho, hr =>
          obtain rfl := Option.some.inj ho; obtain rfl := Option.some.inj hr
          have e1 := ev_tmp (show fr.eval (.tmp 35) = .pointer (some ⟨w.heap.size, 1, none⟩) from hpre 1 (by decide) _ rfl)
          clear hpre hfree
          have c0 := (hW.cell (p := ⟨w.heap.size, 1, none⟩) lt0).trans k01
          refine stpK rfl rfl fun K hK => ?_
          go_simp
          exact hK _ _ ⟨rfl, hW, Below.refl _ _, fun h => (List.not_mem_nil h).elim⟩
        | 3, ho, hr =>
          obtain rfl := Option.some.inj ho; obtain rfl := Option.some.inj hr
          have t3 := ev_tmp (show fr.eval (.tmp 3) = .pointer (some ⟨w.heap.size + 1, 0, none⟩) from hfree 3 (by decide))
          clear hpre hfree
          refine stpK rfl rfl fun K hK => ?_
          go_simp
          exact hK _ _ ⟨rfl, hW, Below.refl _ _, fun h => (List.not_mem_nil h).elim⟩
        | 4, ho, hr =>
          obtain rfl := Option.some.inj ho; obtain rfl := Option.some.inj hr
          have e3 := ev_tmp (show fr.eval (.tmp 37) = .pointer (some ⟨w.heap.size + 1, 0, none⟩) from hpre 3 (by decide) _ rfl)
          clear hpre hfree
          have c0 := (hW.cell (p := ⟨w.heap.size + 1, 0, none⟩) lt1).trans k10
          refine stpK rfl rfl fun K hK => ?_
          go_simp
          exact hK _ _ ⟨rfl, hW, Below.refl _ _, fun h => (List.not_mem_nil h).elim⟩
        | 5, ho, hr =>
          obtain rfl := Option.some.inj ho; obtain rfl := Option.some.inj hr
          have e4 := ev_tmp (show fr.eval (.tmp 38) = .int .i64 (t) from hpre 4 (by decide) _ rfl)
          clear hpre hfree
          refine stpK rfl rfl fun K hK => ?_
          go_simp
          refine (sizeOf_any t i1 i2 wx).mono ?_
          rintro e wy ⟨rfl, rfl⟩
          exact hK _ _ ⟨rfl, hW, Below.refl _ _, fun h => (List.not_mem_nil h).elim⟩
        | 6, ho, hr =>
          obtain rfl := Option.some.inj ho; obtain rfl := Option.some.inj hr
          have e2 := ev_tmp (show fr.eval (.tmp 36) = .slice (some a) (n) (c) from hpre 2 (by decide) _ rfl)
          have e5 := ev_tmp (show fr.eval (.tmp 39) = .int .u64 ((t.natAbs : Int)) from hpre 5 (by decide) _ rfl)
          clear hpre hfree
          refine stpK rfl rfl fun K hK => ?_
          go_simp
          refine (mulWord_any wx _ _ _ t.natAbs ((hX wx (hB1.trans (hW.mono hB1.size))).mag.1) (by unfold B; omega) (by omega)).mono ?_
          rintro e wy ⟨v4, n4, rfl, hb, hm4, _⟩
          exact hK _ _ ⟨⟨n4, hm4⟩, hW.trans (hb.mono hW.size), hb, fun h => (List.not_mem_nil h).elim⟩
        | 7, ho, hr =>
          obtain rfl := Option.some.inj ho; obtain rfl := Option.some.inj hr
          have e0 := ev_tmp (show fr.eval (.tmp 34) = .bool ((!(decide (s < 0) == decide (t < 0)))) from hpre 0 (by decide) _ rfl)
          obtain ⟨u6, q6⟩ : ∃ u, fr.eval (.tmp 40) = u := ⟨_, rfl⟩
          have p6 : ∃ n, Mag wx u6 (x.natAbs * t.natAbs) n := by rw [← q6]; exact hpre 6 (by decide) _ rfl
          have e6 := ev_tmp q6; clear q6
          clear hpre hfree
          refine stpK rfl rfl fun K hK => ?_
          obtain ⟨n4, hm4⟩ := p6
          go_simp
          refine (signed_any wx (!(decide (s < 0) == decide (t < 0))) _ _ _ hm4).mono ?_
          rintro e wy ⟨v5, rfl, hb, hm5⟩
          exact hK _ _ ⟨by rw [hsg.out] at hm5; exact hm5, hW.trans (hb.mono hW.size), hb, fun h => (List.not_mem_nil h).elim⟩
        | n + 8, ho, hr => exact absurd hr (by simp)
      · intro vs wn hvs hW1 hap0
        clear hap0
        have e0 : vs 0 = .bool ((!(decide (s < 0) == decide (t < 0)))) := hvs 0 (by decide)
        have e1 : vs 1 = .pointer (some ⟨w.heap.size, 1, none⟩) := hvs 1 (by decide)
        have e2 : vs 2 = .slice (some a) (n) (c) := hvs 2 (by decide)
        have e3 : vs 3 = .pointer (some ⟨w.heap.size + 1, 0, none⟩) := hvs 3 (by decide)
        have e4 : vs 4 = .int .i64 (t) := hvs 4 (by decide)
        have e5 : vs 5 = .int .u64 ((t.natAbs : Int)) := hvs 5 (by decide)
        obtain ⟨u6, e6⟩ : ∃ u, vs 6 = u := ⟨_, rfl⟩
        have p6 : ∃ n, Mag wn u6 (x.natAbs * t.natAbs) n := by rw [← e6]; exact hvs 6 (by decide)
        obtain ⟨u7, e7⟩ : ∃ u, vs 7 = u := ⟨_, rfl⟩
        have p7 : IsInt wn u7 (x * t) := by rw [← e7]; exact hvs 7 (by decide)
        simp only [puts, Nat.reduceAdd, e0, e1, e2, e3, e4, e5, e6, e7, Act.put, List.setIfInBounds_toArray, List.set_cons_zero, List.set_cons_succ, List.drop_succ_cons, List.drop_zero, List.length_cons, List.length_nil]
        clear hvs e0 e1 e2 e3 e4 e5 e6 e7
        replace k00 := (hW1.cell (p := ⟨w.heap.size, 0, none⟩) lt0).trans k00
        replace k01 := (hW1.cell (p := ⟨w.heap.size, 1, none⟩) lt0).trans k01
        replace k10 := (hW1.cell (p := ⟨w.heap.size + 1, 0, none⟩) lt1).trans k10
        replace k11 := (hW1.cell (p := ⟨w.heap.size + 1, 1, none⟩) lt1).trans k11
        replace r0 := (hW1.cell (p := ⟨w.heap.size + 2, 0, none⟩) hl).trans r0
        replace f0 := (hW1.frozen (p := ⟨w.heap.size + 2, 0, none⟩) hl).trans f0
        replace r1 := (hW1.cell (p := ⟨w.heap.size + 2, 1, none⟩) hl).trans r1
        replace f1 := (hW1.frozen (p := ⟨w.heap.size + 2, 1, none⟩) hl).trans f1
        replace lt0 := Nat.lt_of_lt_of_le lt0 hW1.size
        replace lt1 := Nat.lt_of_lt_of_le lt1 hW1.size
        replace hl := Nat.lt_of_lt_of_le hl hW1.size
        replace hB1 := hB1.trans (hW1.mono hB1.size)
        clear hW1 p6
        obtain ⟨s5, a5, n5, c5, rfl⟩ := p7.form
        have hE := ((hB1.setCell (p := ⟨w.heap.size + 2, 0, none⟩) (by simp; try omega) (.int .i64 s5)).setCell (p := ⟨w.heap.size + 2, 1, none⟩) (by simp; try omega) (.slice a5 n5 c5))
        have hI := p7.stored (u1 := .int .i64 s5) (u2 := .slice a5 n5 c5) r0 r1 (by intro q; simp)
        have HE : Hid _ := hE
        have HI : Hid _ := hI
        clear p7 hB1 hl hE hI
        go_wp2
        refine bodyPost_ret (v := .agg #[.int .i64 s5, .slice a5 n5 c5]) (by simp [results, go_sem, loadVar, World.cell?_setCell_same, *]) rfl ?_
        exact ⟨_, rfl, HE.out, HI.out⟩
    · have hY' := hy.mag.1
      clear g5 i5 hx hy
      go_enter Tryz.func26, Tryz.ntmps26
      go_wp2_with (go_at_call 82; fail)
      refine (mulWords_any _ _ _ _ _ _ _ ((hX _ (bel3 _ _ _ _)).mag.1) ((hY _ (bel3 _ _ _ _)).mag.1) (by have := hX'.len_le hbx; have := hY'.len_le hby; omega)).mono ?_
      rintro e w5 ⟨v5, n5, rfl, hb5, hm5, _⟩
      have r0 := (hb5.cell (p := ⟨w.heap.size + 2, 0, none⟩) (by simp)).trans (by simp [go_sem] : _ = some (.int .i64 0))
      have r1 := (hb5.cell (p := ⟨w.heap.size + 2, 1, none⟩) (by simp)).trans (by simp [go_sem] : _ = some (.slice none 0 0))
      have f0 := (hb5.frozen (p := ⟨w.heap.size + 2, 0, none⟩) (by simp)).trans (by simp [go_sem] : _ = false)
      have f1 := (hb5.frozen (p := ⟨w.heap.size + 2, 1, none⟩) (by simp)).trans (by simp [go_sem] : _ = false)
      have hB1 := (bel3 _ _ _ _).trans (hb5.mono (by simp; omega))
      have hl : w.heap.size + 2 < w5.heap.size := Nat.lt_of_lt_of_le (by simp) hb5.size
      clear hb5
      go_wp2_with (go_at_call 76; fail)
      refine (signed_any _ _ _ _ _ hm5).mono ?_
      rintro e w6 ⟨v6, rfl, hb6, hm6⟩
      rw [hsg.out] at hm6
      replace r0 := (hb6.cell (p := ⟨w.heap.size + 2, 0, none⟩) hl).trans r0
      replace r1 := (hb6.cell (p := ⟨w.heap.size + 2, 1, none⟩) hl).trans r1
      replace f0 := (hb6.frozen (p := ⟨w.heap.size + 2, 0, none⟩) hl).trans f0
      replace f1 := (hb6.frozen (p := ⟨w.heap.size + 2, 1, none⟩) hl).trans f1
      replace hB1 := hB1.trans (hb6.mono hB1.size)
      clear hb6 hm5
      obtain ⟨s5, a5, n5, c5, rfl⟩ := hm6.form
      have hE := ((hB1.setCell (p := ⟨w.heap.size + 2, 0, none⟩) (by simp; try omega) (.int .i64 s5)).setCell (p := ⟨w.heap.size + 2, 1, none⟩) (by simp; try omega) (.slice a5 n5 c5))
      have hI := hm6.stored (u1 := .int .i64 s5) (u2 := .slice a5 n5 c5) r0 r1 (by intro q; simp)
      have HE : Hid _ := hE
      have HI : Hid _ := hI
      clear hm6 hB1 hl hE hI
      go_wp2
      refine bodyPost_ret (v := .agg #[.int .i64 s5, .slice a5 n5 c5]) (by simp [results, go_sem, loadVar, World.cell?_setCell_same, *]) rfl ?_
      exact ⟨_, rfl, HE.out, HI.out⟩
end Go.Proofs.YtjlkplidpdhgbaaGreatDoor
