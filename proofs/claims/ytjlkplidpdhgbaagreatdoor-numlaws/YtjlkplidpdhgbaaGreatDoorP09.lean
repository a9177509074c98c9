/- A part of the proof: W18, Pm11. -/
import Derived.Test.YtjlkplidpdhgbaaGreatDoorP07
import Derived.Test.YtjlkplidpdhgbaaGreatDoorP03
import Derived.Test.YtjlkplidpdhgbaaGreatDoorP08
import Derived.Deep.RegionHeld
set_option linter.all false

namespace Go.Proofs.YtjlkplidpdhgbaaGreatDoor
open Go Go.Proofs Go.RowKit Go.Rad

theorem IsInt.below {w w' : World} {v : Value} {z : Int} (h : IsInt w v z) (hb : Below w.heap.size w w') : IsInt w' v z := by
  rcases h with h | ⟨s, a, n, c, m, hv, hm, hs⟩
  · exact .inl h
  · exact .inr ⟨s, a, n, c, m, hv, hm.below hb, hs⟩
theorem IsInt.form {w : World} {v : Value} {z : Int} (h : IsInt w v z) : ∃ s a n c, v = .agg #[.int .i64 s, .slice a n c] := by
  rcases h with ⟨rfl, _, _⟩ | ⟨s, a, n, c, m, rfl, hm, hs⟩
  · exact ⟨_, _, _, _, rfl⟩
  · exact ⟨_, _, _, _, rfl⟩
theorem isInt_small (w : World) (z : Int) (h1 : -9223372036854775808 ≤ z) (h2 : z ≤ 9223372036854775807) : IsInt w (.agg #[.int .i64 z, .slice none 0 0]) z := .inl ⟨rfl, h1, h2⟩
/-- The sign of the value's first part is that of the number. -/
theorem IsInt.sgn {w : World} {s z : Int} {a : Option Addr} {n c : Nat} (h : IsInt w (.agg #[.int .i64 s, .slice a n c]) z) :
    -9223372036854775808 ≤ s ∧ s ≤ 9223372036854775807 ∧ (s < 0 ↔ z < 0) ∧ (0 < s ↔ 0 < z) ∧ (a = none → s = z ∧ n = 0 ∧ c = 0) := by
  rcases h with ⟨h, h1, h2⟩ | ⟨s', a', n', c', m, h, hm, hs⟩
  · simp only [Value.agg.injEq, Array.mk.injEq, List.cons.injEq, Value.int.injEq, Value.slice.injEq, and_true, true_and] at h
    obtain ⟨rfl, rfl, rfl, rfl⟩ := h
    exact ⟨h1, h2, Iff.rfl, Iff.rfl, fun _ => ⟨rfl, rfl, rfl⟩⟩
  · simp only [Value.agg.injEq, Array.mk.injEq, List.cons.injEq, Value.int.injEq, Value.slice.injEq, and_true, true_and] at h
    obtain ⟨rfl, rfl, rfl, rfl⟩ := h
    exact ⟨by omega, by omega, by omega, by omega, fun h => by simp at h⟩
/-- A wide value is a magnitude. -/
theorem IsInt.mag {w : World} {s z : Int} {a : Addr} {n c : Nat} (h : IsInt w (.agg #[.int .i64 s, .slice (some a) n c]) z) : Mag w (.slice (some a) n c) z.natAbs n ∧ (s = 1 ∧ 0 < z ∨ s = -1 ∧ z < 0) := by
  rcases h with ⟨h, h1, h2⟩ | ⟨s', a', n', c', m, h, hm, hs⟩
  · simp at h
  · simp only [Value.agg.injEq, Array.mk.injEq, List.cons.injEq, Value.int.injEq, Value.slice.injEq, and_true, true_and] at h
    obtain ⟨rfl, h1, rfl, rfl⟩ := h
    obtain rfl := Option.some.inj h1
    have e : z.natAbs = m := by omega
    rw [e]
    exact ⟨hm, by omega⟩
/-- A store where no word of a number stands. -/
theorem Mag.set {w : World} {v u : Value} {x n : Nat} {p : Addr} (h : Mag w v x n) (hp : ∀ y, w.cell? p ≠ some (.int .u64 y)) (hs : p = ⟨p.block, p.off, none⟩) : Mag (w.setCell p u) v x n := by
  obtain ⟨ao, b, o, c, hv, hs', hc, ha, hx, hn⟩ := h
  rw [hs] at hp ⊢
  generalize p.block = pb at hp ⊢
  generalize p.off = po at hp ⊢
  have hd : pb ≠ b ∨ po < o ∨ o + n ≤ po := by
    by_cases hb : pb = b
    · subst hb
      right
      refine Classical.byContradiction fun hcon => ?_
      have h2 := (ha (po - o) (by omega)).1
      rw [show o + (po - o) = po by omega] at h2
      exact hp _ h2
    · exact .inl hb
  refine ⟨ao, b, o, c, hv, hs', hc, ha.set' hd, by rw [num_set_other hd, hx], ?_⟩
  rcases hn with h0 | h0
  · exact .inl h0
  · by_cases hz : n = 0
    · exact .inl hz
    · right; rw [word_set_other (by omega)]; exact h0
theorem IsInt.set {w : World} {v u : Value} {z : Int} {p : Addr} (h : IsInt w v z) (hp : ∀ y, w.cell? p ≠ some (.int .u64 y)) (hs : p = ⟨p.block, p.off, none⟩) : IsInt (w.setCell p u) v z := by
  rcases h with h | ⟨s, a, n, c, m, hv, hm, hz⟩
  · exact .inl h
  · exact .inr ⟨s, a, n, c, m, hv, hm.set hp hs, hz⟩
/-- A number stored in a variable of its own. -/
theorem IsInt.stored {w : World} {v u1 u2 y : Value} {z : Int} {b : Nat} {x : Int} (h : IsInt w v z) (h0 : w.cell? ⟨b, 0, none⟩ = some (.int .i64 x)) (h1 : w.cell? ⟨b, 1, none⟩ = some y)
    (hy : ∀ q, y ≠ .int .u64 q) : IsInt ((w.setCell ⟨b, 0, none⟩ u1).setCell ⟨b, 1, none⟩ u2) v z := by
  refine (h.set (by rw [h0]; intro q; simp) rfl).set ?_ rfl
  rw [cell_other (by omega), h1]
  intro q hq
  exact hy q (Option.some.inj hq)

theorem qEq (w : World) (a : Option Addr) (n c : Nat) : (binOp .eql 22 (.slice a n c) (.slice none 0 0)).run Tryz.prog w = .ok (.bool a.isNone) w := Lib.run_eql_slice_nil w 22 98 a n c 0 0 Tryz.underlying22
theorem qNe (w : World) (a : Option Addr) (n c : Nat) : (binOp .neq 22 (.slice a n c) (.slice none 0 0)).run Tryz.prog w = .ok (.bool (!a.isNone)) w := run_neq_slice_nil_any w 22 98 a n c 0 0 Tryz.underlying22
/-- The world by a letter, with what is known of it. -/
theorem wp_world {P : Program} {Q : Exit → Act → World → Prop} {a : Act} {w : World} {c : Code} (F : World → Prop) (hF : F w) (h : ∀ w1, F w1 → c.wp P Q a w1) : c.wp P Q a w := h w hF
theorem bel1 (w : World) (X : Obj) : Below w.heap.size w (w.alloc X) := (Below.refl _ _).alloc (Nat.le_refl _) _
theorem bel2 (w : World) (X Y : Obj) : Below w.heap.size w ((w.alloc X).alloc Y) := (bel1 w X).alloc (by simp) _
theorem bel3 (w : World) (X Y Z : Obj) : Below w.heap.size w (((w.alloc X).alloc Y).alloc Z) := (bel2 w X Y).alloc (by simp; omega) _

set_option maxRecDepth 10000 in
theorem sign_any (w : World) (v : Value) (z : Int) (hv : IsInt w v z) :
    Calls Tryz.prog 18 #[v] w fun e w' => e = .returned (.int .i64 (cmpI z 0)) ∧ Below w.heap.size w w' := by
  obtain ⟨s, a, n, c, rfl⟩ := hv.form
  obtain ⟨g1, g2, g3, g4, g5⟩ := hv.sgn
  have e : cmpI z 0 = cmpI s 0 := by unfold cmpI; split <;> split <;> first | omega | (split <;> split <;> omega) | (split <;> omega)
  rw [e]
  clear hv e g1 g2 g3 g4 g5
  go_enter Tryz.func18, Tryz.ntmps18
  go_wp2_with (go_at_call 74; refine (compare_i _ _ _).mono ?_; rintro e w' ⟨rfl, hw⟩; subst hw)
  go_ret
  exact ⟨rfl, bel1 _ _⟩

set_option maxRecDepth 10000 in
theorem of_any (w : World) (z : Int) (h1 : -9223372036854775808 ≤ z) (h2 : z ≤ 9223372036854775807) :
    Calls Tryz.prog 16 #[.int .i64 z] w fun e w' => ∃ v, e = .returned v ∧ Below w.heap.size w w' ∧ IsInt w' v z := by
  go_enter Tryz.func16, Tryz.ntmps16
  go_wp2
  refine bodyPost_ret (v := .agg #[.int .i64 z, .slice none 0 0]) (by simp [results, go_sem, loadVar]) rfl ?_
  exact ⟨_, rfl, bel1 _ _, isInt_small _ _ h1 h2⟩

set_option maxRecDepth 10000 in
theorem small_any (w : World) (v : Value) (z : Int) (hv : IsInt w v z) :
    Calls Tryz.prog 12 #[v] w fun e w' => Below w.heap.size w w' ∧ ((-9223372036854775808 ≤ z ∧ z ≤ 9223372036854775807 ∧ e = .returned (.tuple #[.int .i64 z, .bool true])) ∨ ((z < -9223372036854775808 ∨ 9223372036854775807 < z) ∧ e = .returned (.tuple #[.int .i64 0, .bool false]))) := by
  have q := qNe
  rcases hv with ⟨rfl, h1, h2⟩ | ⟨s, a, n, c, m, rfl, hm, hs⟩
  · go_enter Tryz.func12, Tryz.ntmps12
    go_wp2
    go_ret2
    exact ⟨bel1 _ _, .inl ⟨h1, h2, rfl⟩⟩
  · have hz : z < -9223372036854775808 ∨ 9223372036854775807 < z := by omega
    have HZ : Hid _ := hz
    clear hm hs hz
    go_enter Tryz.func12, Tryz.ntmps12
    go_wp2
    go_ret2
    exact ⟨bel1 _ _, .inr ⟨HZ.out, rfl⟩⟩

set_option maxRecDepth 10000 in
set_option maxHeartbeats 1000000 in
theorem neg_any (w : World) (v : Value) (z : Int) (hv : IsInt w v z) :
    Calls Tryz.prog 20 #[v] w fun e w' => ∃ v, e = .returned v ∧ Below w.heap.size w w' ∧ IsInt w' v (-z) := by
  have q := qEq
  obtain ⟨s, a, n, c, rfl⟩ := hv.form
  obtain ⟨g1, g2, g3, g4, g5⟩ := hv.sgn
  by_cases hf : a = none ∧ s ≠ -9223372036854775808
  · obtain ⟨rfl, hs⟩ := hf
    obtain ⟨rfl, rfl, rfl⟩ := g5 rfl
    have hz' : ((s != -9223372036854775808) = true) := by simpa using hs
    clear hv
    go_enter Tryz.func20, Tryz.ntmps20
    go_wp2
    refine bodyPost_ret (v := .agg #[.int .i64 (-s), .slice none 0 0]) (by simp [results, go_sem, loadVar]) rfl ?_
    exact ⟨_, rfl, bel2 _ _ _, isInt_small _ _ (by omega) (by omega)⟩
  · have hV : ∀ w1, Below w.heap.size w w1 → IsInt w1 (.agg #[.int .i64 s, .slice a n c]) z := fun w1 h => hv.below h
    have hsg : Hid (sgn (decide (s > 0)) z.natAbs = -z) := by
      show sgn (decide (s > 0)) z.natAbs = -z
      by_cases h0 : 0 < s
      · rw [decide_eq_true h0, sgn_neg]; omega
      · rw [decide_eq_false h0, sgn_pos]; omega
    clear g3 g4 g5 hv
    rcases a with _ | a
    · have hs' : (s != -9223372036854775808) = false := by simpa using hf
      clear hf
      go_enter Tryz.func20, Tryz.ntmps20
      go_wp2
      refine wp_world (fun w1 => Below w.heap.size w w1 ∧ w.heap.size + 1 < w1.heap.size ∧ w1.cell? ⟨w.heap.size, 0, none⟩ = some (.int .i64 s) ∧ w1.cell? ⟨w.heap.size, 1, none⟩ = some (.slice none n c) ∧ w1.cell? ⟨w.heap.size + 1, 0, none⟩ = some (.int .i64 0) ∧ w1.cell? ⟨w.heap.size + 1, 1, none⟩ = some (.slice none 0 0) ∧ w1.frozen? ⟨w.heap.size + 1, 0, none⟩ = false ∧ w1.frozen? ⟨w.heap.size + 1, 1, none⟩ = false) ⟨bel2 _ _ _, by simp, by go_keep, by go_keep, by go_keep, by go_keep, by go_keep, by go_keep⟩ ?_
      rintro w1 ⟨hB1, hl, k00, k01, r0, r1, f0, f1⟩
      have lt0 : w.heap.size < w1.heap.size := by omega
      refine wp_drawn mixed [⟨15, [], [], [1]⟩, ⟨16, [0], [0], []⟩, ⟨17, [1], [0, 1], []⟩, ⟨18, [], [], [1]⟩, ⟨19, [3], [3], []⟩, ⟨20, [2, 4], [0, 1, 2, 3, 4], []⟩] [] (by kernel_rfl) 21 rfl (by kernel_rfl) (fun (i : Nat) (v : Value) (wq : World) => match i with | 0 => v = .pointer (some ⟨w.heap.size, 0, none⟩) | 1 => v = .int .i64 (s) | 2 => v = .bool (decide ((s) > (0))) | 3 => v = .agg #[.int .i64 (s), .slice none (n) (c)] | 4 => ∃ n, Mag wq v z.natAbs n | 5 => IsInt wq v (-z) | _ => True) (fun _ wq => Below w1.heap.size w1 wq) (fun wx wy => Below wx.heap.size wx wy) (Below.refl _ _).drew (fun i v wx wy h hx => match i, h with | 0, h => h | 1, h => h | 2, h => h | 3, h => h | 4, h => by obtain ⟨n, h⟩ := h; exact ⟨n, h.below hx⟩ | 5, h => h.below hx | n + 6, _ => trivial) ?_ ?_
      · intro i o r ho hr L fr wx hW hL hpr hds hdef hpre hfree
        clear hL hpr hds hdef
        match i, ho, hr with
        | 0, ho, hr =>
          obtain rfl := Option.some.inj ho; obtain rfl := Option.some.inj hr
          have t1 := ev_tmp (show fr.eval (.tmp 1) = .pointer (some ⟨w.heap.size, 0, none⟩) from hfree 1 (by decide))
          clear hpre hfree
          refine stpK rfl rfl fun K hK => ?_
          go_simp
          exact hK _ _ ⟨rfl, hW, Below.refl _ _, fun h => (List.not_mem_nil h).elim⟩
        | 1, ho, hr =>
          obtain rfl := Option.some.inj ho; obtain rfl := Option.some.inj hr
          have e0 := ev_tmp (show fr.eval (.tmp 15) = .pointer (some ⟨w.heap.size, 0, none⟩) from hpre 0 (by decide) _ rfl)
          clear hpre hfree
          have c0 := (hW.cell (p := ⟨w.heap.size, 0, none⟩) lt0).trans k00
          refine stpK rfl rfl fun K hK => ?_
          go_simp
          exact hK _ _ ⟨rfl, hW, Below.refl _ _, fun h => (List.not_mem_nil h).elim⟩
        | 2, ho, hr =>
          obtain rfl := Option.some.inj ho; obtain rfl := Option.some.inj hr
          have e1 := ev_tmp (show fr.eval (.tmp 16) = .int .i64 (s) from hpre 1 (by decide) _ rfl)
          clear hpre hfree
          refine stpK rfl rfl fun K hK => ?_
          go_simp
          exact hK _ _ ⟨rfl, hW, Below.refl _ _, fun h => (List.not_mem_nil h).elim⟩
        | 3, ho, hr =>
          obtain rfl := Option.some.inj ho; obtain rfl := Option.some.inj hr
          have t1 := ev_tmp (show fr.eval (.tmp 1) = .pointer (some ⟨w.heap.size, 0, none⟩) from hfree 1 (by decide))
          clear hpre hfree
          have c0 := (hW.cell (p := ⟨w.heap.size, 0, none⟩) lt0).trans k00
          have c1 := (hW.cell (p := ⟨w.heap.size, 1, none⟩) lt0).trans k01
          refine stpK rfl rfl fun K hK => ?_
          go_simp
          exact hK _ _ ⟨rfl, hW, Below.refl _ _, fun h => (List.not_mem_nil h).elim⟩
        | 4, ho, hr =>
          obtain rfl := Option.some.inj ho; obtain rfl := Option.some.inj hr
          have e3 := ev_tmp (show fr.eval (.tmp 18) = .agg #[.int .i64 (s), .slice none (n) (c)] from hpre 3 (by decide) _ rfl)
          clear hpre hfree
          refine stpK rfl rfl fun K hK => ?_
          go_simp
          refine (magnitude_any wx _ z (hV wx (hB1.trans (hW.mono hB1.size)))).mono ?_
          rintro e wy ⟨v4, n4, rfl, hb, hm4⟩
          exact hK _ _ ⟨⟨n4, hm4⟩, hW.trans (hb.mono hW.size), hb, fun h => (List.not_mem_nil h).elim⟩
        | 5, ho, hr =>
          obtain rfl := Option.some.inj ho; obtain rfl := Option.some.inj hr
          have e2 := ev_tmp (show fr.eval (.tmp 17) = .bool (decide ((s) > (0))) from hpre 2 (by decide) _ rfl)
          obtain ⟨u4, q4⟩ : ∃ u, fr.eval (.tmp 19) = u := ⟨_, rfl⟩
          have p4 : ∃ n, Mag wx u4 z.natAbs n := by rw [← q4]; exact hpre 4 (by decide) _ rfl
          have e4 := ev_tmp q4; clear q4
          clear hpre hfree
          refine stpK rfl rfl fun K hK => ?_
          obtain ⟨n4, hm4⟩ := p4
          go_simp
          refine (signed_any wx (decide ((s) > (0))) _ _ _ hm4).mono ?_
          rintro e wy ⟨v5, rfl, hb, hm5⟩
          exact hK _ _ ⟨by rw [hsg.out] at hm5; exact hm5, hW.trans (hb.mono hW.size), hb, fun h => (List.not_mem_nil h).elim⟩
        | n + 6, ho, hr => exact absurd hr (by simp)
      · intro vs wn hvs hW1 hap0
        clear hap0
        have e0 : vs 0 = .pointer (some ⟨w.heap.size, 0, none⟩) := hvs 0 (by decide)
        have e1 : vs 1 = .int .i64 (s) := hvs 1 (by decide)
        have e2 : vs 2 = .bool (decide ((s) > (0))) := hvs 2 (by decide)
        have e3 : vs 3 = .agg #[.int .i64 (s), .slice none (n) (c)] := hvs 3 (by decide)
        obtain ⟨u4, e4⟩ : ∃ u, vs 4 = u := ⟨_, rfl⟩
        have p4 : ∃ n, Mag wn u4 z.natAbs n := by rw [← e4]; exact hvs 4 (by decide)
        obtain ⟨u5, e5⟩ : ∃ u, vs 5 = u := ⟨_, rfl⟩
        have p5 : IsInt wn u5 (-z) := by rw [← e5]; exact hvs 5 (by decide)
        simp only [puts, Nat.reduceAdd, e0, e1, e2, e3, e4, e5, Act.put, List.setIfInBounds_toArray, List.set_cons_zero, List.set_cons_succ, List.drop_succ_cons, List.drop_zero, List.length_cons, List.length_nil]
        clear hvs e0 e1 e2 e3 e4 e5
        have r0' := (hW1.cell (p := ⟨w.heap.size + 1, 0, none⟩) hl).trans r0
        have r1' := (hW1.cell (p := ⟨w.heap.size + 1, 1, none⟩) hl).trans r1
        have f0' := (hW1.frozen (p := ⟨w.heap.size + 1, 0, none⟩) hl).trans f0
        have f1' := (hW1.frozen (p := ⟨w.heap.size + 1, 1, none⟩) hl).trans f1
        obtain ⟨s5, a5, n5, c5, rfl⟩ := p5.form
        have hE := (((hB1.trans (hW1.mono hB1.size)).setCell (p := ⟨w.heap.size + 1, 0, none⟩) (by simp) (.int .i64 s5)).setCell (p := ⟨w.heap.size + 1, 1, none⟩) (by simp) (.slice a5 n5 c5))
        have hI := p5.stored (u1 := .int .i64 s5) (u2 := .slice a5 n5 c5) r0' r1' (by intro q; simp)
        clear p5 hB1 hW1 r0 r1 f0 f1 hl
        go_wp2
        refine bodyPost_ret (v := .agg #[.int .i64 s5, .slice a5 n5 c5]) (by simp [results, go_sem, loadVar, World.cell?_setCell_same, *]) rfl ?_
        exact ⟨_, rfl, hE, hI⟩
    · clear hf
      go_enter Tryz.func20, Tryz.ntmps20
      go_wp2
      refine wp_world (fun w1 => Below w.heap.size w w1 ∧ w.heap.size + 1 < w1.heap.size ∧ w1.cell? ⟨w.heap.size, 0, none⟩ = some (.int .i64 s) ∧ w1.cell? ⟨w.heap.size, 1, none⟩ = some (.slice (some a) n c) ∧ w1.cell? ⟨w.heap.size + 1, 0, none⟩ = some (.int .i64 0) ∧ w1.cell? ⟨w.heap.size + 1, 1, none⟩ = some (.slice none 0 0) ∧ w1.frozen? ⟨w.heap.size + 1, 0, none⟩ = false ∧ w1.frozen? ⟨w.heap.size + 1, 1, none⟩ = false) ⟨bel2 _ _ _, by simp, by go_keep, by go_keep, by go_keep, by go_keep, by go_keep, by go_keep⟩ ?_
      rintro w1 ⟨hB1, hl, k00, k01, r0, r1, f0, f1⟩
      have lt0 : w.heap.size < w1.heap.size := by omega
      refine wp_drawn mixed [⟨15, [], [], [1]⟩, ⟨16, [0], [0], []⟩, ⟨17, [1], [0, 1], []⟩, ⟨18, [], [], [1]⟩, ⟨19, [3], [3], []⟩, ⟨20, [2, 4], [0, 1, 2, 3, 4], []⟩] [] (by kernel_rfl) 21 rfl (by kernel_rfl) (fun (i : Nat) (v : Value) (wq : World) => match i with | 0 => v = .pointer (some ⟨w.heap.size, 0, none⟩) | 1 => v = .int .i64 (s) | 2 => v = .bool (decide ((s) > (0))) | 3 => v = .agg #[.int .i64 (s), .slice (some a) (n) (c)] | 4 => ∃ n, Mag wq v z.natAbs n | 5 => IsInt wq v (-z) | _ => True) (fun _ wq => Below w1.heap.size w1 wq) (fun wx wy => Below wx.heap.size wx wy) (Below.refl _ _).drew (fun i v wx wy h hx => match i, h with | 0, h => h | 1, h => h | 2, h => h | 3, h => h | 4, h => by obtain ⟨n, h⟩ := h; exact ⟨n, h.below hx⟩ | 5, h => h.below hx | n + 6, _ => trivial) ?_ ?_
      · intro i o r ho hr L fr wx hW hL hpr hds hdef hpre hfree
        clear hL hpr hds hdef
        match i, ho, hr with
        | 0, ho, hr =>
          obtain rfl := Option.some.inj ho; obtain rfl := Option.some.inj hr
          have t1 := ev_tmp (show fr.eval (.tmp 1) = .pointer (some ⟨w.heap.size, 0, none⟩) from hfree 1 (by decide))
          clear hpre hfree
          refine stpK rfl rfl fun K hK => ?_
          go_simp
          exact hK _ _ ⟨rfl, hW, Below.refl _ _, fun h => (List.not_mem_nil h).elim⟩
        | 1, ho, hr =>
          obtain rfl := Option.some.inj ho; obtain rfl := Option.some.inj hr
          have e0 := ev_tmp (show fr.eval (.tmp 15) = .pointer (some ⟨w.heap.size, 0, none⟩) from hpre 0 (by decide) _ rfl)
          clear hpre hfree
          have c0 := (hW.cell (p := ⟨w.heap.size, 0, none⟩) lt0).trans k00
          refine stpK rfl rfl fun K hK => ?_
          go_simp
          exact hK _ _ ⟨rfl, hW, Below.refl _ _, fun h => (List.not_mem_nil h).elim⟩
        | 2, ho, hr =>
          obtain rfl := Option.some.inj ho; obtain rfl := Option.some.inj hr
          have e1 := ev_tmp (show fr.eval (.tmp 16) = .int .i64 (s) from hpre 1 (by decide) _ rfl)
          clear hpre hfree
          refine stpK rfl rfl fun K hK => ?_
          go_simp
          exact hK _ _ ⟨rfl, hW, Below.refl _ _, fun h => (List.not_mem_nil h).elim⟩
        | 3, ho, hr =>
          obtain rfl := Option.some.inj ho; obtain rfl := Option.some.inj hr
          have t1 := ev_tmp (show fr.eval (.tmp 1) = .pointer (some ⟨w.heap.size, 0, none⟩) from hfree 1 (by decide))
          clear hpre hfree
          have c0 := (hW.cell (p := ⟨w.heap.size, 0, none⟩) lt0).trans k00
          have c1 := (hW.cell (p := ⟨w.heap.size, 1, none⟩) lt0).trans k01
          refine stpK rfl rfl fun K hK => ?_
          go_simp
          exact hK _ _ ⟨rfl, hW, Below.refl _ _, fun h => (List.not_mem_nil h).elim⟩
        | 4, ho, hr =>
          obtain rfl := Option.some.inj ho; obtain rfl := Option.some.inj hr
          have e3 := ev_tmp (show fr.eval (.tmp 18) = .agg #[.int .i64 (s), .slice (some a) (n) (c)] from hpre 3 (by decide) _ rfl)
          clear hpre hfree
          refine stpK rfl rfl fun K hK => ?_
          go_simp
          refine (magnitude_any wx _ z (hV wx (hB1.trans (hW.mono hB1.size)))).mono ?_
          rintro e wy ⟨v4, n4, rfl, hb, hm4⟩
          exact hK _ _ ⟨⟨n4, hm4⟩, hW.trans (hb.mono hW.size), hb, fun h => (List.not_mem_nil h).elim⟩
        | 5, ho, hr =>
          obtain rfl := Option.some.inj ho; obtain rfl := Option.some.inj hr
          have e2 := ev_tmp (show fr.eval (.tmp 17) = .bool (decide ((s) > (0))) from hpre 2 (by decide) _ rfl)
          obtain ⟨u4, q4⟩ : ∃ u, fr.eval (.tmp 19) = u := ⟨_, rfl⟩
          have p4 : ∃ n, Mag wx u4 z.natAbs n := by rw [← q4]; exact hpre 4 (by decide) _ rfl
          have e4 := ev_tmp q4; clear q4
          clear hpre hfree
          refine stpK rfl rfl fun K hK => ?_
          obtain ⟨n4, hm4⟩ := p4
          go_simp
          refine (signed_any wx (decide ((s) > (0))) _ _ _ hm4).mono ?_
          rintro e wy ⟨v5, rfl, hb, hm5⟩
          exact hK _ _ ⟨by rw [hsg.out] at hm5; exact hm5, hW.trans (hb.mono hW.size), hb, fun h => (List.not_mem_nil h).elim⟩
        | n + 6, ho, hr => exact absurd hr (by simp)
      · intro vs wn hvs hW1 hap0
        clear hap0
        have e0 : vs 0 = .pointer (some ⟨w.heap.size, 0, none⟩) := hvs 0 (by decide)
        have e1 : vs 1 = .int .i64 (s) := hvs 1 (by decide)
        have e2 : vs 2 = .bool (decide ((s) > (0))) := hvs 2 (by decide)
        have e3 : vs 3 = .agg #[.int .i64 (s), .slice (some a) (n) (c)] := hvs 3 (by decide)
        obtain ⟨u4, e4⟩ : ∃ u, vs 4 = u := ⟨_, rfl⟩
        have p4 : ∃ n, Mag wn u4 z.natAbs n := by rw [← e4]; exact hvs 4 (by decide)
        obtain ⟨u5, e5⟩ : ∃ u, vs 5 = u := ⟨_, rfl⟩
        have p5 : IsInt wn u5 (-z) := by rw [← e5]; exact hvs 5 (by decide)
        simp only [puts, Nat.reduceAdd, e0, e1, e2, e3, e4, e5, Act.put, List.setIfInBounds_toArray, List.set_cons_zero, List.set_cons_succ, List.drop_succ_cons, List.drop_zero, List.length_cons, List.length_nil]
        clear hvs e0 e1 e2 e3 e4 e5
        have r0' := (hW1.cell (p := ⟨w.heap.size + 1, 0, none⟩) hl).trans r0
        have r1' := (hW1.cell (p := ⟨w.heap.size + 1, 1, none⟩) hl).trans r1
        have f0' := (hW1.frozen (p := ⟨w.heap.size + 1, 0, none⟩) hl).trans f0
        have f1' := (hW1.frozen (p := ⟨w.heap.size + 1, 1, none⟩) hl).trans f1
        obtain ⟨s5, a5, n5, c5, rfl⟩ := p5.form
        have hE := (((hB1.trans (hW1.mono hB1.size)).setCell (p := ⟨w.heap.size + 1, 0, none⟩) (by simp) (.int .i64 s5)).setCell (p := ⟨w.heap.size + 1, 1, none⟩) (by simp) (.slice a5 n5 c5))
        have hI := p5.stored (u1 := .int .i64 s5) (u2 := .slice a5 n5 c5) r0' r1' (by intro q; simp)
        clear p5 hB1 hW1 r0 r1 f0 f1 hl
        go_wp2
        refine bodyPost_ret (v := .agg #[.int .i64 s5, .slice a5 n5 c5]) (by simp [results, go_sem, loadVar, World.cell?_setCell_same, *]) rfl ?_
        exact ⟨_, rfl, hE, hI⟩
end Go.Proofs.YtjlkplidpdhgbaaGreatDoor

/- What a turn does to two rows of words, word by word; and that it keeps the greatest divisor: plain arithmetic. -/
namespace Rad
/-- One more word of p X - q Y: L is what stands already, W the next place's worth, P and Q the carries, c what was borrowed. -/
theorem mix_word {L X Y W β p q P Q c a b l1 l2 P' Q' z c' : Nat} (h : L + q * Y + W * P = p * X + W * (Q + c))
    (h1 : l1 + β * P' = p * a + P) (h2 : l2 + β * Q' = q * b + Q) (h3 : z + l2 + c = l1 + β * c') :
    (L + W * z) + q * (Y + W * b) + W * β * P' = p * (X + W * a) + W * β * (Q' + c') := by
  have e1 : W * (l1 + β * P') = W * (p * a + P) := by rw [h1]
  have e2 : W * (l2 + β * Q') = W * (q * b + Q) := by rw [h2]
  have e3 : W * (z + l2 + c) = W * (l1 + β * c') := by rw [h3]
  have f1 : q * (Y + W * b) = q * Y + W * (q * b) := by rw [Nat.mul_add]; congr 1; rw [← Nat.mul_assoc, Nat.mul_comm q W, Nat.mul_assoc]
  have f2 : p * (X + W * a) = p * X + W * (p * a) := by rw [Nat.mul_add]; congr 1; rw [← Nat.mul_assoc, Nat.mul_comm p W, Nat.mul_assoc]
  rw [f1, f2]
  simp only [Nat.mul_add, Nat.mul_assoc] at *
  omega
/-- At the end nothing is left over. -/
theorem mix_end {L X Y W p q P Q c z : Nat} (h : L + q * Y + W * P = p * X + W * (Q + c)) (hz : p * X = q * Y + z) (hL : L < W) (hzW : z < W) : L = z := by
  have h1 : L + W * P = z + W * (Q + c) := by omega
  have h2 : (L + W * P) % W = (z + W * (Q + c)) % W := by rw [h1]
  rw [Nat.add_mul_mod_self_left, Nat.add_mul_mod_self_left, Nat.mod_eq_of_lt hL, Nat.mod_eq_of_lt hzW] at h2
  exact h2
theorem gcd_turn {p q r s X Y x y : Nat} (e1 : p * X = q * Y + x) (e2 : s * Y = r * X + y) (e3 : p * s = q * r + 1) : Nat.gcd x y = Nat.gcd X Y := by
  apply Nat.dvd_antisymm
  · have d1 := Nat.gcd_dvd_left x y
    have d2 := Nat.gcd_dvd_right x y
    apply Nat.dvd_gcd
    · have e : s * x + q * y = X := by
        have i1 : s * (p * X) = s * (q * Y + x) := by rw [e1]
        have i2 : q * (s * Y) = q * (r * X + y) := by rw [e2]
        have i3 : (p * s) * X = (q * r + 1) * X := by rw [e3]
        rw [Nat.add_mul, Nat.one_mul] at i3
        have i4 : s * (p * X) = p * s * X := by rw [← Nat.mul_assoc, Nat.mul_comm s p]
        have i5 : q * (r * X) = q * r * X := by rw [← Nat.mul_assoc]
        have i6 : s * (q * Y) = q * (s * Y) := by rw [← Nat.mul_assoc, Nat.mul_comm s q, Nat.mul_assoc]
        rw [Nat.mul_add] at i1 i2
        omega
      rw [← e]
      exact Nat.dvd_add (Nat.dvd_trans d1 (Nat.dvd_mul_left x s)) (Nat.dvd_trans d2 (Nat.dvd_mul_left y q))
    · have e : r * x + p * y = Y := by
        have i1 : r * (p * X) = r * (q * Y + x) := by rw [e1]
        have i2 : p * (s * Y) = p * (r * X + y) := by rw [e2]
        have i3 : (p * s) * Y = (q * r + 1) * Y := by rw [e3]
        rw [Nat.add_mul, Nat.one_mul] at i3
        have i4 : p * (s * Y) = p * s * Y := by rw [← Nat.mul_assoc]
        have i5 : r * (q * Y) = q * r * Y := by rw [← Nat.mul_assoc, Nat.mul_comm r q]
        have i6 : r * (p * X) = p * (r * X) := by rw [← Nat.mul_assoc, Nat.mul_comm r p, Nat.mul_assoc]
        rw [Nat.mul_add] at i1 i2
        omega
      rw [← e]
      exact Nat.dvd_add (Nat.dvd_trans d1 (Nat.dvd_mul_left x r)) (Nat.dvd_trans d2 (Nat.dvd_mul_left y p))
  · have d1 := Nat.gcd_dvd_left X Y
    have d2 := Nat.gcd_dvd_right X Y
    apply Nat.dvd_gcd
    · exact (Nat.dvd_add_right (Nat.dvd_trans d2 (Nat.dvd_mul_left Y q))).1 (e1 ▸ Nat.dvd_trans d1 (Nat.dvd_mul_left X p))
    · exact (Nat.dvd_add_right (Nat.dvd_trans d1 (Nat.dvd_mul_left X r))).1 (e2 ▸ Nat.dvd_trans d2 (Nat.dvd_mul_left Y s))
/-- What both rows are behind a turn: the row of x is X or, where odd, Y turned. -/
theorem turn_gcd {X Y p q r s x y : Nat} {odd : Bool} (e : odd = false → p * X = q * Y + x ∧ s * Y = r * X + y ∧ p * s = q * r + 1)
    (o : odd = true → q * Y = p * X + x ∧ r * X = s * Y + y ∧ q * r = p * s + 1) : Nat.gcd x y = Nat.gcd X Y := by
  cases odd
  · obtain ⟨h1, h2, h3⟩ := e rfl
    exact gcd_turn h1 h2 h3
  · obtain ⟨h1, h2, h3⟩ := o rfl
    rw [gcd_turn (X := Y) (Y := X) h1 h2 h3, Nat.gcd_comm]
end Rad
