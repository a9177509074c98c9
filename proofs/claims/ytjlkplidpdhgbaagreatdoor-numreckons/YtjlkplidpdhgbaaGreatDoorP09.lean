/- A part of the proof: W18, V1, V2. -/
import Derived.Test.YtjlkplidpdhgbaaGreatDoorP03
import Derived.Test.YtjlkplidpdhgbaaGreatDoorP04
import Derived.Test.YtjlkplidpdhgbaaGreatDoorP08
import Derived.Deep.RegionHeld
import Derived.Test.YtjlkplidpdhgbaaGreatDoorP00
import Derived.Test.YtjlkplidpdhgbaaGreatDoorP01
import Derived.Test.YtjlkplidpdhgbaaGreatDoorShelf
import Derived.Lib.ConvBytes
set_option linter.all false

namespace Go.Proofs.YtjlkplidpdhgbaaGreatDoor
open Go Go.Proofs Go.RowKit Go.Rad

theorem IsInt.below {w w' : World} {v : Value} {z : Int} (h : IsInt w v z) (hb : Below w.heap.size w w') : IsInt w' v z := by
  rcases h with h | ⟨s, a, n, c, m, hv, hm, hs⟩
  · exact .inl h
  · exact .inr ⟨s, a, n, c, m, hv, hm.below hb, hs⟩
theorem IsInt.form {w : World} {v : Value} {z : Int} (h : IsInt w v z) : ∃ s a n c, v = .agg #[.int .i64 s, .slice a n c] := by
  rcases h with ⟨rfl, _, _⟩ | ⟨s, a, n, c, m, rfl, hm, hs⟩
  · exact ⟨_, _, _, _, rfl⟩
  · exact ⟨_, _, _, _, rfl⟩
theorem isInt_small (w : World) (z : Int) (h1 : -9223372036854775808 ≤ z) (h2 : z ≤ 9223372036854775807) : IsInt w (.agg #[.int .i64 z, .slice none 0 0]) z := .inl ⟨rfl, h1, h2⟩
/-- The sign of the value's first part is that of the number. -/
theorem IsInt.sgn {w : World} {s z : Int} {a : Option Addr} {n c : Nat} (h : IsInt w (.agg #[.int .i64 s, .slice a n c]) z) :
    -9223372036854775808 ≤ s ∧ s ≤ 9223372036854775807 ∧ (s < 0 ↔ z < 0) ∧ (0 < s ↔ 0 < z) ∧ (a = none → s = z ∧ n = 0 ∧ c = 0) := by
  rcases h with ⟨h, h1, h2⟩ | ⟨s', a', n', c', m, h, hm, hs⟩
  · simp only [Value.agg.injEq, Array.mk.injEq, List.cons.injEq, Value.int.injEq, Value.slice.injEq, and_true, true_and] at h
    obtain ⟨rfl, rfl, rfl, rfl⟩ := h
    exact ⟨h1, h2, Iff.rfl, Iff.rfl, fun _ => ⟨rfl, rfl, rfl⟩⟩
  · simp only [Value.agg.injEq, Array.mk.injEq, List.cons.injEq, Value.int.injEq, Value.slice.injEq, and_true, true_and] at h
    obtain ⟨rfl, rfl, rfl, rfl⟩ := h
    exact ⟨by omega, by omega, by omega, by omega, fun h => by simp at h⟩
/-- A wide value is a magnitude. -/
theorem IsInt.mag {w : World} {s z : Int} {a : Addr} {n c : Nat} (h : IsInt w (.agg #[.int .i64 s, .slice (some a) n c]) z) : Mag w (.slice (some a) n c) z.natAbs n ∧ (s = 1 ∧ 0 < z ∨ s = -1 ∧ z < 0) := by
  rcases h with ⟨h, h1, h2⟩ | ⟨s', a', n', c', m, h, hm, hs⟩
  · simp at h
  · simp only [Value.agg.injEq, Array.mk.injEq, List.cons.injEq, Value.int.injEq, Value.slice.injEq, and_true, true_and] at h
    obtain ⟨rfl, h1, rfl, rfl⟩ := h
    obtain rfl := Option.some.inj h1
    have e : z.natAbs = m := by omega
    rw [e]
    exact ⟨hm, by omega⟩
/-- A store where no word of a number stands. -/
theorem Mag.set {w : World} {v u : Value} {x n : Nat} {p : Addr} (h : Mag w v x n) (hp : ∀ y, w.cell? p ≠ some (.int .u64 y)) (hs : p = ⟨p.block, p.off, none⟩) : Mag (w.setCell p u) v x n := by
  obtain ⟨ao, b, o, c, hv, hs', hc, ha, hx, hn⟩ := h
  rw [hs] at hp ⊢
  generalize p.block = pb at hp ⊢
  generalize p.off = po at hp ⊢
  have hd : pb ≠ b ∨ po < o ∨ o + n ≤ po := by
    by_cases hb : pb = b
    · subst hb
      right
      refine Classical.byContradiction fun hcon => ?_
      have h2 := (ha (po - o) (by omega)).1
      rw [show o + (po - o) = po by omega] at h2
      exact hp _ h2
    · exact .inl hb
  refine ⟨ao, b, o, c, hv, hs', hc, ha.set' hd, by rw [num_set_other hd, hx], ?_⟩
  rcases hn with h0 | h0
  · exact .inl h0
  · by_cases hz : n = 0
    · exact .inl hz
    · right; rw [word_set_other (by omega)]; exact h0
theorem IsInt.set {w : World} {v u : Value} {z : Int} {p : Addr} (h : IsInt w v z) (hp : ∀ y, w.cell? p ≠ some (.int .u64 y)) (hs : p = ⟨p.block, p.off, none⟩) : IsInt (w.setCell p u) v z := by
  rcases h with h | ⟨s, a, n, c, m, hv, hm, hz⟩
  · exact .inl h
  · exact .inr ⟨s, a, n, c, m, hv, hm.set hp hs, hz⟩
/-- A number stored in a variable of its own. -/
theorem IsInt.stored {w : World} {v u1 u2 y : Value} {z : Int} {b : Nat} {x : Int} (h : IsInt w v z) (h0 : w.cell? ⟨b, 0, none⟩ = some (.int .i64 x)) (h1 : w.cell? ⟨b, 1, none⟩ = some y)
    (hy : ∀ q, y ≠ .int .u64 q) : IsInt ((w.setCell ⟨b, 0, none⟩ u1).setCell ⟨b, 1, none⟩ u2) v z := by
  refine (h.set (by rw [h0]; intro q; simp) rfl).set ?_ rfl
  rw [cell_other (by omega), h1]
  intro q hq
  exact hy q (Option.some.inj hq)

theorem qEq (w : World) (a : Option Addr) (n c : Nat) : (binOp .eql 22 (.slice a n c) (.slice none 0 0)).run Tryz.prog w = .ok (.bool a.isNone) w := Lib.run_eql_slice_nil w 22 98 a n c 0 0 Tryz.underlying22
theorem qNe (w : World) (a : Option Addr) (n c : Nat) : (binOp .neq 22 (.slice a n c) (.slice none 0 0)).run Tryz.prog w = .ok (.bool (!a.isNone)) w := run_neq_slice_nil_any w 22 98 a n c 0 0 Tryz.underlying22
/-- The world by a letter, with what is known of it. -/
theorem wp_world {P : Program} {Q : Exit → Act → World → Prop} {a : Act} {w : World} {c : Code} (F : World → Prop) (hF : F w) (h : ∀ w1, F w1 → c.wp P Q a w1) : c.wp P Q a w := h w hF
theorem bel1 (w : World) (X : Obj) : Below w.heap.size w (w.alloc X) := (Below.refl _ _).alloc (Nat.le_refl _) _
theorem bel2 (w : World) (X Y : Obj) : Below w.heap.size w ((w.alloc X).alloc Y) := (bel1 w X).alloc (by simp) _
theorem bel3 (w : World) (X Y Z : Obj) : Below w.heap.size w (((w.alloc X).alloc Y).alloc Z) := (bel2 w X Y).alloc (by simp; omega) _

set_option maxRecDepth 10000 in
theorem sign_any (w : World) (v : Value) (z : Int) (hv : IsInt w v z) :
    Calls Tryz.prog 18 #[v] w fun e w' => e = .returned (.int .i64 (cmpI z 0)) ∧ Below w.heap.size w w' := by
  obtain ⟨s, a, n, c, rfl⟩ := hv.form
  obtain ⟨g1, g2, g3, g4, g5⟩ := hv.sgn
  have e : cmpI z 0 = cmpI s 0 := by unfold cmpI; split <;> split <;> first | omega | (split <;> split <;> omega) | (split <;> omega)
  rw [e]
  clear hv e g1 g2 g3 g4 g5
  go_enter Tryz.func18, Tryz.ntmps18
  go_wp2_with (go_at_call 74; refine (compare_i _ _ _).mono ?_; rintro e w' ⟨rfl, hw⟩; subst hw)
  go_ret
  exact ⟨rfl, bel1 _ _⟩

set_option maxRecDepth 10000 in
theorem of_any (w : World) (z : Int) (h1 : -9223372036854775808 ≤ z) (h2 : z ≤ 9223372036854775807) :
    Calls Tryz.prog 16 #[.int .i64 z] w fun e w' => ∃ v, e = .returned v ∧ Below w.heap.size w w' ∧ IsInt w' v z := by
  go_enter Tryz.func16, Tryz.ntmps16
  go_wp2
  refine bodyPost_ret (v := .agg #[.int .i64 z, .slice none 0 0]) (by simp [results, go_sem, loadVar]) rfl ?_
  exact ⟨_, rfl, bel1 _ _, isInt_small _ _ h1 h2⟩

set_option maxRecDepth 10000 in
theorem small_any (w : World) (v : Value) (z : Int) (hv : IsInt w v z) :
    Calls Tryz.prog 12 #[v] w fun e w' => Below w.heap.size w w' ∧ ((-9223372036854775808 ≤ z ∧ z ≤ 9223372036854775807 ∧ e = .returned (.tuple #[.int .i64 z, .bool true])) ∨ ((z < -9223372036854775808 ∨ 9223372036854775807 < z) ∧ e = .returned (.tuple #[.int .i64 0, .bool false]))) := by
  have q := qNe
  rcases hv with ⟨rfl, h1, h2⟩ | ⟨s, a, n, c, m, rfl, hm, hs⟩
  · go_enter Tryz.func12, Tryz.ntmps12
    go_wp2
    go_ret2
    exact ⟨bel1 _ _, .inl ⟨h1, h2, rfl⟩⟩
  · have hz : z < -9223372036854775808 ∨ 9223372036854775807 < z := by omega
    have HZ : Hid _ := hz
    clear hm hs hz
    go_enter Tryz.func12, Tryz.ntmps12
    go_wp2
    go_ret2
    exact ⟨bel1 _ _, .inr ⟨HZ.out, rfl⟩⟩

set_option maxRecDepth 10000 in
set_option maxHeartbeats 1000000 in
theorem neg_any (w : World) (v : Value) (z : Int) (hv : IsInt w v z) :
    Calls Tryz.prog 20 #[v] w fun e w' => ∃ v, e = .returned v ∧ Below w.heap.size w w' ∧ IsInt w' v (-z) := by
  have q := qEq
  obtain ⟨s, a, n, c, rfl⟩ := hv.form
  obtain ⟨g1, g2, g3, g4, g5⟩ := hv.sgn
  by_cases hf : a = none ∧ s ≠ -9223372036854775808
  · obtain ⟨rfl, hs⟩ := hf
    obtain ⟨rfl, rfl, rfl⟩ := g5 rfl
    have hz' : ((s != -9223372036854775808) = true) := by simpa using hs
    clear hv
    go_enter Tryz.func20, Tryz.ntmps20
    go_wp2
    refine bodyPost_ret (v := .agg #[.int .i64 (-s), .slice none 0 0]) (by simp [results, go_sem, loadVar]) rfl ?_
    exact ⟨_, rfl, bel2 _ _ _, isInt_small _ _ (by omega) (by omega)⟩
  · have hV : ∀ w1, Below w.heap.size w w1 → IsInt w1 (.agg #[.int .i64 s, .slice a n c]) z := fun w1 h => hv.below h
    have hsg : Hid (sgn (decide (s > 0)) z.natAbs = -z) := by
      show sgn (decide (s > 0)) z.natAbs = -z
      by_cases h0 : 0 < s
      · rw [decide_eq_true h0, sgn_neg]; omega
      · rw [decide_eq_false h0, sgn_pos]; omega
    clear g3 g4 g5 hv
    rcases a with _ | a
    · have hs' : (s != -9223372036854775808) = false := by simpa using hf
      clear hf
      go_enter Tryz.func20, Tryz.ntmps20
      go_wp2
      refine wp_world (fun w1 => Below w.heap.size w w1 ∧ w.heap.size + 1 < w1.heap.size ∧ w1.cell? ⟨w.heap.size, 0, none⟩ = some (.int .i64 s) ∧ w1.cell? ⟨w.heap.size, 1, none⟩ = some (.slice none n c) ∧ w1.cell? ⟨w.heap.size + 1, 0, none⟩ = some (.int .i64 0) ∧ w1.cell? ⟨w.heap.size + 1, 1, none⟩ = some (.slice none 0 0) ∧ w1.frozen? ⟨w.heap.size + 1, 0, none⟩ = false ∧ w1.frozen? ⟨w.heap.size + 1, 1, none⟩ = false) ⟨bel2 _ _ _, by simp, by go_keep, by go_keep, by go_keep, by go_keep, by go_keep, by go_keep⟩ ?_
      rintro w1 ⟨hB1, hl, k00, k01, r0, r1, f0, f1⟩
      have lt0 : w.heap.size < w1.heap.size := by omega
      refine wp_drawn mixed [⟨15, [], [], [1]⟩, ⟨16, [0], [0], []⟩, ⟨17, [1], [0, 1], []⟩, ⟨18, [], [], [1]⟩, ⟨19, [3], [3], []⟩, ⟨20, [2, 4], [0, 1, 2, 3, 4], []⟩] [] (by kernel_rfl) 21 rfl (by kernel_rfl) (fun (i : Nat) (v : Value) (wq : World) => match i with | 0 => v = .pointer (some ⟨w.heap.size, 0, none⟩) | 1 => v = .int .i64 (s) | 2 => v = .bool (decide ((s) > (0))) | 3 => v = .agg #[.int .i64 (s), .slice none (n) (c)] | 4 => ∃ n, Mag wq v z.natAbs n | 5 => IsInt wq v (-z) | _ => True) (fun _ wq => Below w1.heap.size w1 wq) (fun wx wy => Below wx.heap.size wx wy) (Below.refl _ _).drew (fun i v wx wy h hx => match i, h with | 0, h => h | 1, h => h | 2, h => h | 3, h => h | 4, h => by obtain ⟨n, h⟩ := h; exact ⟨n, h.below hx⟩ | 5, h => h.below hx | n + 6, _ => trivial) ?_ ?_
      · intro i o r ho hr L fr wx hW hL hpr hds hdef hpre hfree
        clear hL hpr hds hdef
        match i, ho, hr with
        | 0, ho, hr =>
          obtain rfl := Option.some.inj ho; obtain rfl := Option.some.inj hr
          have t1 := ev_tmp (show fr.eval (.tmp 1) = .pointer (some ⟨w.heap.size, 0, none⟩) from hfree 1 (by decide))
          clear hpre hfree
          refine stpK rfl rfl fun K hK => ?_
          go_simp
          exact hK _ _ ⟨rfl, hW, Below.refl _ _, fun h => (List.not_mem_nil h).elim⟩
        | 1, ho, hr =>
          obtain rfl := Option.some.inj ho; obtain rfl := Option.some.inj hr
          have e0 := ev_tmp (show fr.eval (.tmp 15) = .pointer (some ⟨w.heap.size, 0, none⟩) from hpre 0 (by decide) _ rfl)
          clear hpre hfree
          have c0 := (hW.cell (p := ⟨w.heap.size, 0, none⟩) lt0).trans k00
          refine stpK rfl rfl fun K hK => ?_
          go_simp
          exact hK _ _ ⟨rfl, hW, Below.refl _ _, fun h => (List.not_mem_nil h).elim⟩
        | 2, ho, hr =>
          obtain rfl := Option.some.inj ho; obtain rfl := Option.some.inj hr
          have e1 := ev_tmp (show fr.eval (.tmp 16) = .int .i64 (s) from hpre 1 (by decide) _ rfl)
          clear hpre hfree
          refine stpK rfl rfl fun K hK => ?_
          go_simp
          exact hK _ _ ⟨rfl, hW, Below.refl _ _, fun h => (List.not_mem_nil h).elim⟩
        | 3, ho, hr =>
          obtain rfl := Option.some.inj ho; obtain rfl := Option.some.inj hr
          have t1 := ev_tmp (show fr.eval (.tmp 1) = .pointer (some ⟨w.heap.size, 0, none⟩) from hfree 1 (by decide))
          clear hpre hfree
          have c0 := (hW.cell (p := ⟨w.heap.size, 0, none⟩) lt0).trans k00
          have c1 := (hW.cell (p := ⟨w.heap.size, 1, none⟩) lt0).trans k01
          refine stpK rfl rfl fun K hK => ?_
          go_simp
          exact hK _ _ ⟨rfl, hW, Below.refl _ _, fun h => (List.not_mem_nil h).elim⟩
        | 4, ho, hr =>
          obtain rfl := Option.some.inj ho; obtain rfl := Option.some.inj hr
          have e3 := ev_tmp (show fr.eval (.tmp 18) = .agg #[.int .i64 (s), .slice none (n) (c)] from hpre 3 (by decide) _ rfl)
          clear hpre hfree
          refine stpK rfl rfl fun K hK => ?_
          go_simp
          refine (magnitude_any wx _ z (hV wx (hB1.trans (hW.mono hB1.size)))).mono ?_
          rintro e wy ⟨v4, n4, rfl, hb, hm4⟩
          exact hK _ _ ⟨⟨n4, hm4⟩, hW.trans (hb.mono hW.size), hb, fun h => (List.not_mem_nil h).elim⟩
        | 5, ho, hr =>
          obtain rfl := Option.some.inj ho; obtain rfl := Option.some.inj hr
          have e2 := ev_tmp (show fr.eval (.tmp 17) = .bool (decide ((s) > (0))) from hpre 2 (by decide) _ rfl)
          obtain ⟨u4, q4⟩ : ∃ u, fr.eval (.tmp 19) = u := ⟨_, rfl⟩
          have p4 : ∃ n, Mag wx u4 z.natAbs n := by rw [← q4]; exact hpre 4 (by decide) _ rfl
          have e4 := ev_tmp q4; clear q4
          clear hpre hfree
          refine stpK rfl rfl fun K hK => ?_
          obtain ⟨n4, hm4⟩ := p4
          go_simp
          refine (signed_any wx (decide ((s) > (0))) _ _ _ hm4).mono ?_
          rintro e wy ⟨v5, rfl, hb, hm5⟩
          exact hK _ _ ⟨by rw [hsg.out] at hm5; exact hm5, hW.trans (hb.mono hW.size), hb, fun h => (List.not_mem_nil h).elim⟩
        | n + 6, ho, hr => exact absurd hr (by simp)
      · intro vs wn hvs hW1 hap0
        clear hap0
        have e0 : vs 0 = .pointer (some ⟨w.heap.size, 0, none⟩) := hvs 0 (by decide)
        have e1 : vs 1 = .int .i64 (s) := hvs 1 (by decide)
        have e2 : vs 2 = .bool (decide ((s) > (0))) := hvs 2 (by decide)
        have e3 : vs 3 = .agg #[.int .i64 (s), .slice none (n) (c)] := hvs 3 (by decide)
        obtain ⟨u4, e4⟩ : ∃ u, vs 4 = u := ⟨_, rfl⟩
        have p4 : ∃ n, Mag wn u4 z.natAbs n := by rw [← e4]; exact hvs 4 (by decide)
        obtain ⟨u5, e5⟩ : ∃ u, vs 5 = u := ⟨_, rfl⟩
        have p5 : IsInt wn u5 (-z) := by rw [← e5]; exact hvs 5 (by decide)
        simp only [puts, Nat.reduceAdd, e0, e1, e2, e3, e4, e5, Act.put, List.setIfInBounds_toArray, List.set_cons_zero, List.set_cons_succ, List.drop_succ_cons, List.drop_zero, List.length_cons, List.length_nil]
        clear hvs e0 e1 e2 e3 e4 e5
        have r0' := (hW1.cell (p := ⟨w.heap.size + 1, 0, none⟩) hl).trans r0
        have r1' := (hW1.cell (p := ⟨w.heap.size + 1, 1, none⟩) hl).trans r1
        have f0' := (hW1.frozen (p := ⟨w.heap.size + 1, 0, none⟩) hl).trans f0
        have f1' := (hW1.frozen (p := ⟨w.heap.size + 1, 1, none⟩) hl).trans f1
        obtain ⟨s5, a5, n5, c5, rfl⟩ := p5.form
        have hE := (((hB1.trans (hW1.mono hB1.size)).setCell (p := ⟨w.heap.size + 1, 0, none⟩) (by simp) (.int .i64 s5)).setCell (p := ⟨w.heap.size + 1, 1, none⟩) (by simp) (.slice a5 n5 c5))
        have hI := p5.stored (u1 := .int .i64 s5) (u2 := .slice a5 n5 c5) r0' r1' (by intro q; simp)
        clear p5 hB1 hW1 r0 r1 f0 f1 hl
        go_wp2
        refine bodyPost_ret (v := .agg #[.int .i64 s5, .slice a5 n5 c5]) (by simp [results, go_sem, loadVar, World.cell?_setCell_same, *]) rfl ?_
        exact ⟨_, rfl, hE, hI⟩
    · clear hf
      go_enter Tryz.func20, Tryz.ntmps20
      go_wp2
      refine wp_world (fun w1 => Below w.heap.size w w1 ∧ w.heap.size + 1 < w1.heap.size ∧ w1.cell? ⟨w.heap.size, 0, none⟩ = some (.int .i64 s) ∧ w1.cell? ⟨w.heap.size, 1, none⟩ = some (.slice (some a) n c) ∧ w1.cell? ⟨w.heap.size + 1, 0, none⟩ = some (.int .i64 0) ∧ w1.cell? ⟨w.heap.size + 1, 1, none⟩ = some (.slice none 0 0) ∧ w1.frozen? ⟨w.heap.size + 1, 0, none⟩ = false ∧ w1.frozen? ⟨w.heap.size + 1, 1, none⟩ = false) ⟨bel2 _ _ _, by simp, by go_keep, by go_keep, by go_keep, by go_keep, by go_keep, by go_keep⟩ ?_
      rintro w1 ⟨hB1, hl, k00, k01, r0, r1, f0, f1⟩
      have lt0 : w.heap.size < w1.heap.size := by omega
      refine wp_drawn mixed [⟨15, [], [], [1]⟩, ⟨16, [0], [0], []⟩, ⟨17, [1], [0, 1], []⟩, ⟨18, [], [], [1]⟩, ⟨19, [3], [3], []⟩, ⟨20, [2, 4], [0, 1, 2, 3, 4], []⟩] [] (by kernel_rfl) 21 rfl (by kernel_rfl) (fun (i : Nat) (v : Value) (wq : World) => match i with | 0 => v = .pointer (some ⟨w.heap.size, 0, none⟩) | 1 => v = .int .i64 (s) | 2 => v = .bool (decide ((s) > (0))) | 3 => v = .agg #[.int .i64 (s), .slice (some a) (n) (c)] | 4 => ∃ n, Mag wq v z.natAbs n | 5 => IsInt wq v (-z) | _ => True) (fun _ wq => Below w1.heap.size w1 wq) (fun wx wy => Below wx.heap.size wx wy) (Below.refl _ _).drew (fun i v wx wy h hx => match i, h with | 0, h => h | 1, h => h | 2, h => h | 3, h => h | 4, h => by obtain ⟨n, h⟩ := h; exact ⟨n, h.below hx⟩ | 5, h => h.below hx | n + 6, _ => trivial) ?_ ?_
      · intro i o r ho hr L fr wx hW hL hpr hds hdef hpre hfree
        clear hL hpr hds hdef
        match i, ho, hr with
        | 0, ho, hr =>
          obtain rfl := Option.some.inj ho; obtain rfl := Option.some.inj hr
          have t1 := ev_tmp (show fr.eval (.tmp 1) = .pointer (some ⟨w.heap.size, 0, none⟩) from hfree 1 (by decide))
          clear hpre hfree
          refine stpK rfl rfl fun K hK => ?_
          go_simp
          exact hK _ _ ⟨rfl, hW, Below.refl _ _, fun h => (List.not_mem_nil h).elim⟩
        | 1, ho, hr =>
          obtain rfl := Option.some.inj ho; obtain rfl := Option.some.inj hr
          have e0 := ev_tmp (show fr.eval (.tmp 15) = .pointer (some ⟨w.heap.size, 0, none⟩) from hpre 0 (by decide) _ rfl)
          clear hpre hfree
          have c0 := (hW.cell (p := ⟨w.heap.size, 0, none⟩) lt0).trans k00
          refine stpK rfl rfl fun K hK => ?_
          go_simp
          exact hK _ _ ⟨rfl, hW, Below.refl _ _, fun h => (List.not_mem_nil h).elim⟩
        | 2, ho, hr =>
          obtain rfl := Option.some.inj ho; obtain rfl := Option.some.inj hr
          have e1 := ev_tmp (show fr.eval (.tmp 16) = .int .i64 (s) from hpre 1 (by decide) _ rfl)
          clear hpre hfree
          refine stpK rfl rfl fun K hK => ?_
          go_simp
          exact hK _ _ ⟨rfl, hW, Below.refl _ _, fun h => (List.not_mem_nil h).elim⟩
        | 3, ho, hr =>
          obtain rfl := Option.some.inj ho; obtain rfl := Option.some.inj hr
          have t1 := ev_tmp (show fr.eval (.tmp 1) = .pointer (some ⟨w.heap.size, 0, none⟩) from hfree 1 (by decide))
          clear hpre hfree
          have c0 := (hW.cell (p := ⟨w.heap.size, 0, none⟩) lt0).trans k00
          have c1 := (hW.cell (p := ⟨w.heap.size, 1, none⟩) lt0).trans k01
          refine stpK rfl rfl fun K hK => ?_
          go_simp
          exact hK _ _ ⟨rfl, hW, Below.refl _ _, fun h => (List.not_mem_nil h).elim⟩
        | 4, ho, hr =>
          obtain rfl := Option.some.inj ho; obtain rfl := Option.some.inj hr
          have e3 := ev_tmp (show fr.eval (.tmp 18) = .agg #[.int .i64 (s), .slice (some a) (n) (c)] from hpre 3 (by decide) _ rfl)
          clear hpre hfree
          refine stpK rfl rfl fun K hK => ?_
          go_simp
          refine (magnitude_any wx _ z (hV wx (hB1.trans (hW.mono hB1.size)))).mono ?_
          rintro e wy ⟨v4, n4, rfl, hb, hm4⟩
          exact hK _ _ ⟨⟨n4, hm4⟩, hW.trans (hb.mono hW.size), hb, fun h => (List.not_mem_nil h).elim⟩
        | 5, ho, hr =>
          obtain rfl := Option.some.inj ho; obtain rfl := Option.some.inj hr
          have e2 := ev_tmp (show fr.eval (.tmp 17) = .bool (decide ((s) > (0))) from hpre 2 (by decide) _ rfl)
          obtain ⟨u4, q4⟩ : ∃ u, fr.eval (.tmp 19) = u := ⟨_, rfl⟩
          have p4 : ∃ n, Mag wx u4 z.natAbs n := by rw [← q4]; exact hpre 4 (by decide) _ rfl
          have e4 := ev_tmp q4; clear q4
          clear hpre hfree
          refine stpK rfl rfl fun K hK => ?_
          obtain ⟨n4, hm4⟩ := p4
          go_simp
          refine (signed_any wx (decide ((s) > (0))) _ _ _ hm4).mono ?_
          rintro e wy ⟨v5, rfl, hb, hm5⟩
          exact hK _ _ ⟨by rw [hsg.out] at hm5; exact hm5, hW.trans (hb.mono hW.size), hb, fun h => (List.not_mem_nil h).elim⟩
        | n + 6, ho, hr => exact absurd hr (by simp)
      · intro vs wn hvs hW1 hap0
        clear hap0
        have e0 : vs 0 = .pointer (some ⟨w.heap.size, 0, none⟩) := hvs 0 (by decide)
        have e1 : vs 1 = .int .i64 (s) := hvs 1 (by decide)
        have e2 : vs 2 = .bool (decide ((s) > (0))) := hvs 2 (by decide)
        have e3 : vs 3 = .agg #[.int .i64 (s), .slice (some a) (n) (c)] := hvs 3 (by decide)
        obtain ⟨u4, e4⟩ : ∃ u, vs 4 = u := ⟨_, rfl⟩
        have p4 : ∃ n, Mag wn u4 z.natAbs n := by rw [← e4]; exact hvs 4 (by decide)
        obtain ⟨u5, e5⟩ : ∃ u, vs 5 = u := ⟨_, rfl⟩
        have p5 : IsInt wn u5 (-z) := by rw [← e5]; exact hvs 5 (by decide)
        simp only [puts, Nat.reduceAdd, e0, e1, e2, e3, e4, e5, Act.put, List.setIfInBounds_toArray, List.set_cons_zero, List.set_cons_succ, List.drop_succ_cons, List.drop_zero, List.length_cons, List.length_nil]
        clear hvs e0 e1 e2 e3 e4 e5
        have r0' := (hW1.cell (p := ⟨w.heap.size + 1, 0, none⟩) hl).trans r0
        have r1' := (hW1.cell (p := ⟨w.heap.size + 1, 1, none⟩) hl).trans r1
        have f0' := (hW1.frozen (p := ⟨w.heap.size + 1, 0, none⟩) hl).trans f0
        have f1' := (hW1.frozen (p := ⟨w.heap.size + 1, 1, none⟩) hl).trans f1
        obtain ⟨s5, a5, n5, c5, rfl⟩ := p5.form
        have hE := (((hB1.trans (hW1.mono hB1.size)).setCell (p := ⟨w.heap.size + 1, 0, none⟩) (by simp) (.int .i64 s5)).setCell (p := ⟨w.heap.size + 1, 1, none⟩) (by simp) (.slice a5 n5 c5))
        have hI := p5.stored (u1 := .int .i64 s5) (u2 := .slice a5 n5 c5) r0' r1' (by intro q; simp)
        clear p5 hB1 hW1 r0 r1 f0 f1 hl
        go_wp2
        refine bodyPost_ret (v := .agg #[.int .i64 s5, .slice a5 n5 c5]) (by simp [results, go_sem, loadVar, World.cell?_setCell_same, *]) rfl ?_
        exact ⟨_, rfl, hE, hI⟩
end Go.Proofs.YtjlkplidpdhgbaaGreatDoor

namespace Go.Proofs.YtjlkplidpdhgbaaGreatDoor
open Go Go.Proofs Go.RowKit Go.Rad

theorem below_bytes (w : World) (e : TypeId) (s : ByteArray) : Below w.heap.size w (Lib.bytesWorld w e s) :=
  ⟨rfl, rfl, rfl, by rw [Lib.bytesWorld_size]; omega, fun k hk => Lib.bytesWorld_at_old w e s k (by omega)⟩
theorem parseUint_any (w : World) (s : ByteArray) (d : Nat) (h0 : s.data.toList ≠ []) (h : ∀ b ∈ s.data.toList, _root_.Rad.IsDg b) (hl : s.size ≤ 19) (hd : d = _root_.Rad.dval s.data.toList) :
    Calls Tryz.prog 103 #[.string s, .int .i64 10, .int .i64 64] w fun e w' => e = .returned (.tuple #[.int .u64 (d : Nat), .nilIface]) ∧ Below w.heap.size w w' := by
  refine (Tryz.strconv_ParseUint_10_at64_ok s (by omega) d (by rw [hd]; exact _root_.Rad.pu_ok h0 h (by rw [ba_size]; exact hl)) w).mono ?_
  rintro e w' ⟨rfl, hw⟩
  refine ⟨rfl, ?_⟩
  rcases hw with rfl | rfl
  · exact Below.refl _ _
  · exact below_bytes _ _ _
theorem atoi_any (w : World) (s : ByteArray) (z : Int) (h : _root_.Rad.Valid s.data.toList) (hl : (_root_.Rad.digs s.data.toList).length ≤ 18) (hs : s.size ≤ 1001) (hz : z = _root_.Rad.val s.data.toList) :
    Calls Tryz.prog 102 #[.string s] w fun e w' => e = .returned (.tuple #[.int .i64 z, .nilIface]) ∧ Below w.heap.size w w' := by
  refine (Tryz.strconv_Atoi_ok s (by omega) z (by rw [hz]; exact _root_.Rad.atoi_ok h hl) w).mono ?_
  rintro e w' ⟨rfl, hw⟩
  refine ⟨rfl, ?_⟩
  rcases hw with rfl | ⟨t, rfl⟩
  · exact Below.refl _ _
  · exact below_bytes _ _ _
end Go.Proofs.YtjlkplidpdhgbaaGreatDoor

namespace Go.Proofs.YtjlkplidpdhgbaaGreatDoor
open Go Go.Proofs Go.RowKit Go.Rad

theorem below_drewN (B : Nat) (w : World) (n : Nat) : Below B w (w.drewN n) := ⟨rfl, rfl, rfl, Nat.le_refl _, fun _ _ => rfl⟩
/-- A result of type Int that has its variable in block b, not yet written. -/
structure Res (w w1 : World) (b : Nat) : Prop where
  below : Below w.heap.size w w1
  ge : w.heap.size ≤ b
  lt : b < w1.heap.size
  c0 : w1.cell? ⟨b, 0, none⟩ = some (.int .i64 0)
  c1 : w1.cell? ⟨b, 1, none⟩ = some (.slice none 0 0)
  f0 : w1.frozen? ⟨b, 0, none⟩ = false
  f1 : w1.frozen? ⟨b, 1, none⟩ = false
theorem Res.mk0 (w : World) : Res w (w.alloc (Obj.cells #[Value.int IntKind.i64 0, Value.slice none 0 0] 24)) w.heap.size :=
  ⟨bel1 _ _, Nat.le_refl _, by simp, by simp [go_sem], by simp [go_sem], by simp [go_sem], by simp [go_sem]⟩
theorem Res.step {w w1 w2 : World} {b B : Nat} (h : Res w w1 b) (hb : Below B w1 w2) (hB : b < B) : Res w w2 b := by
  have hg := h.ge
  refine ⟨h.below.trans (hb.mono (by omega)), h.ge, Nat.lt_of_lt_of_le h.lt hb.size, ?_, ?_, ?_, ?_⟩
  · exact (World.cell?_of_block (hb.block b hB)).trans h.c0
  · exact (World.cell?_of_block (hb.block b hB)).trans h.c1
  · exact (World.frozen?_of_block (hb.block b hB)).trans h.f0
  · exact (World.frozen?_of_block (hb.block b hB)).trans h.f1
/-- The number that is stored there is the function's. -/
theorem Res.done {w w1 : World} {b : Nat} (h : Res w w1 b) {s : Int} {a : Option Addr} {n c : Nat} {z : Int} (hI : IsInt w1 (.agg #[.int .i64 s, .slice a n c]) z) :
    Below w.heap.size w ((w1.setCell ⟨b, 0, none⟩ (.int .i64 s)).setCell ⟨b, 1, none⟩ (.slice a n c)) ∧ IsInt ((w1.setCell ⟨b, 0, none⟩ (.int .i64 s)).setCell ⟨b, 1, none⟩ (.slice a n c)) (.agg #[.int .i64 s, .slice a n c]) z :=
  ⟨(h.below.setCell (p := ⟨b, 0, none⟩) h.ge _).setCell (p := ⟨b, 1, none⟩) h.ge _, hI.stored h.c0 h.c1 (by intro q; simp)⟩

set_option maxRecDepth 10000 in
set_option maxHeartbeats 1000000 in
theorem value_short (w : World) (s : ByteArray) (hV : _root_.Rad.Valid s.data.toList) (hs : s.size ≤ 1001) (hl : (_root_.Rad.digs s.data.toList).length ≤ 18) (z : Int) (hz : z = _root_.Rad.val s.data.toList) (hr : -9223372036854775808 ≤ z ∧ z ≤ 9223372036854775807) (h0 : 0 < s.size) :
    Calls Tryz.prog 65 #[.string s] w fun e w' => ∃ v, e = .returned v ∧ Below w.heap.size w w' ∧ IsInt w' v z := by
  have R := Res.mk0 w
  go_enter Tryz.func65, Tryz.ntmps65
  go_wp2_with (go_at_call 101; fail)
  have CW := withoutSign_any (w.alloc (Obj.cells #[Value.int IntKind.i64 0, Value.slice none 0 0] 24)) s (by omega) h0
  refine CW.mono ?_
  rintro e w2 ⟨b, t, rfl, ht, -, htl, n, hw⟩
  have R2 : Res w w2 w.heap.size := R.step (B := w.heap.size + 1) (by subst hw; exact below_drewN _ _ _) (by omega)
  have htl' : t.size ≤ 18 := by rw [← ba_size, ht]; exact hl
  clear hw R CW
  have c1 : (t.size : Int) ≤ 18 := by omega
  have CA := atoi_any w2 s z hV hl hs hz
  clear ht hz
  go_wp2_with (go_at_call 102; fail)
  refine CA.mono ?_
  rintro e w3 ⟨rfl, hb3⟩
  have R3 := R2.step hb3 R2.lt
  clear R2 CA
  have CO := of_any w3 z hr.1 hr.2
  go_wp2_with (go_at_call 16; fail)
  refine CO.mono ?_
  rintro e w4 ⟨v, rfl, hb4, hI⟩
  have R4 := R3.step hb4 R3.lt
  clear R3 CO hb4 hb3
  obtain ⟨s5, a5, n5, c5, rfl⟩ := hI.form
  obtain ⟨HE, HI⟩ := R4.done hI
  have HE' : Hid _ := HE
  have HI' : Hid _ := HI
  obtain ⟨-, -, lt, k0, k1, f0, f1⟩ := R4
  clear HE HI hI
  go_wp2
  refine bodyPost_ret (v := .agg #[.int .i64 s5, .slice a5 n5 c5]) (by simp [results, go_sem, loadVar, World.cell?_setCell_same, *]) rfl ?_
  exact ⟨_, rfl, HE'.out, HI'.out⟩
end Go.Proofs.YtjlkplidpdhgbaaGreatDoor
