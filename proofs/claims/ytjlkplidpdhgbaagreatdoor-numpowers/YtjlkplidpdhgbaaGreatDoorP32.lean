/- A part of the proof: R12, Draw2. -/
import Derived.Test.YtjlkplidpdhgbaaGreatDoorP31
import Derived.Test.YtjlkplidpdhgbaaGreatDoorP04
set_option linter.all false

namespace Go.Proofs.YtjlkplidpdhgbaaGreatDoor
open Go Go.Proofs Go.RowKit Go.Rad


set_option maxRecDepth 10000 in
set_option maxHeartbeats 2000000 in
theorem zSub_any (w : World) (vx vy : Value) (x y : Int) (LX : Nat) (hx : IsZ w vx x) (hy : IsZ w vy y) (hbx : x.natAbs < 10000 ^ LX) (hby : y.natAbs < 10000 ^ LX) (hL : LX ≤ 1073741824) :
    Calls Tryz.prog 25 #[vx, vy] w fun e w' => ∃ v, e = .returned v ∧ Below w.heap.size w w' ∧ IsZ w' v (x - y) := by
  obtain ⟨sx, a, n, c, rfl⟩ := hx.form
  obtain ⟨sy, b, m, d, rfl⟩ := hy.form
  have hX : ∀ w1, Below w.heap.size w w1 → IsZ w1 (.agg #[.bool sx, .slice a n c]) x := fun w1 h => hx.below h
  have hY : ∀ w1, Below w.heap.size w w1 → IsZ w1 (.agg #[.bool sy, .slice b m d]) y := fun w1 h => hy.below h
  have hbny : (-y).natAbs < 10000 ^ LX := by rw [Int.natAbs_neg]; exact hby
  clear hx hy hby
  go_enter Tryz.func25, Tryz.ntmps25
  go_wp2
  refine wp_world (fun w1 => Below w.heap.size w w1 ∧ w.heap.size + 2 < w1.heap.size ∧ w1.cell? ⟨w.heap.size, 0, none⟩ = some (.bool sx) ∧ w1.cell? ⟨w.heap.size, 1, none⟩ = some (.slice a n c) ∧ w1.cell? ⟨w.heap.size + 1, 0, none⟩ = some (.bool sy) ∧ w1.cell? ⟨w.heap.size + 1, 1, none⟩ = some (.slice b m d) ∧ w1.cell? ⟨w.heap.size + 2, 0, none⟩ = some (.bool false) ∧ w1.cell? ⟨w.heap.size + 2, 1, none⟩ = some (.slice none 0 0) ∧ w1.frozen? ⟨w.heap.size + 2, 0, none⟩ = false ∧ w1.frozen? ⟨w.heap.size + 2, 1, none⟩ = false) ⟨bel3 _ _ _ _, by simp, by simp [go_sem], by simp [go_sem], by simp [go_sem], by simp [go_sem], by simp [go_sem], by simp [go_sem], by simp [go_sem], by simp [go_sem]⟩ ?_
  rintro w1 ⟨hB1, hl, k00, k01, k10, k11, r0, r1, f0, f1⟩
  have lt0 : w.heap.size < w1.heap.size := by omega
  have lt1 : w.heap.size + 1 < w1.heap.size := by omega
  refine wp_drawn mixed [⟨5, [], [], [2]⟩, ⟨6, [], [], [3]⟩, ⟨7, [1], [1], []⟩, ⟨8, [0, 2], [0, 1, 2], []⟩] [] (by kernel_rfl) 9 rfl (by kernel_rfl) (fun (i : Nat) (v : Value) (wq : World) => match i with | 0 => v = .agg #[.bool (sx), .slice a (n) (c)] | 1 => v = .agg #[.bool (sy), .slice b (m) (d)] | 2 => IsZ wq v (-y) | 3 => IsZ wq v (x - y) | _ => True) (fun _ wq => Below w1.heap.size w1 wq) (fun wx wy => Below wx.heap.size wx wy) (Below.refl _ _).drew (fun i v wx wy h hx => match i, h with | 0, h => h | 1, h => h | 2, h => (h : IsZ _ _ _).below hx | 3, h => (h : IsZ _ _ _).below hx | n + 4, _ => trivial) ?_ ?_
  · intro i o r ho hr L fr wx hW hL hpr hds hdef hpre hfree
    clear hL hpr hds hdef
    match i, ho, hr with
    | 0, ho, hr =>
      obtain rfl := Option.some.inj ho; obtain rfl := Option.some.inj hr
      have t2 := ev_tmp (show fr.eval (.tmp 2) = .pointer (some ⟨w.heap.size, 0, none⟩) from hfree 2 (by decide))
      clear hpre hfree
      have c0 := (hW.cell (p := ⟨w.heap.size, 0, none⟩) lt0).trans k00
      have c1 := (hW.cell (p := ⟨w.heap.size, 1, none⟩) lt0).trans k01
      refine stpK rfl rfl fun K hK => ?_
      go_simp
      exact hK _ _ ⟨rfl, hW, Below.refl _ _, fun h => (List.not_mem_nil h).elim⟩
    | 1, ho, hr =>
      obtain rfl := Option.some.inj ho; obtain rfl := Option.some.inj hr
      have t3 := ev_tmp (show fr.eval (.tmp 3) = .pointer (some ⟨w.heap.size + 1, 0, none⟩) from hfree 3 (by decide))
      clear hpre hfree
      have c0 := (hW.cell (p := ⟨w.heap.size + 1, 0, none⟩) lt1).trans k10
      have c1 := (hW.cell (p := ⟨w.heap.size + 1, 1, none⟩) lt1).trans k11
      refine stpK rfl rfl fun K hK => ?_
      go_simp
      exact hK _ _ ⟨rfl, hW, Below.refl _ _, fun h => (List.not_mem_nil h).elim⟩
    | 2, ho, hr =>
      obtain rfl := Option.some.inj ho; obtain rfl := Option.some.inj hr
      have e1 := ev_tmp (show fr.eval (.tmp 6) = .agg #[.bool (sy), .slice b (m) (d)] from hpre 1 (by decide) _ rfl)
      clear hpre hfree
      refine stpK rfl rfl fun K hK => ?_
      go_simp
      refine (zNeg_any wx _ y (hY wx (hB1.trans (hW.mono hB1.size)))).mono ?_
      rintro e wy ⟨v4, rfl, hb, hm4⟩
      exact hK _ _ ⟨hm4, hW.trans (hb.mono hW.size), hb, fun h => (List.not_mem_nil h).elim⟩
    | 3, ho, hr =>
      obtain rfl := Option.some.inj ho; obtain rfl := Option.some.inj hr
      have e0 := ev_tmp (show fr.eval (.tmp 5) = .agg #[.bool (sx), .slice a (n) (c)] from hpre 0 (by decide) _ rfl)
      obtain ⟨u2, q2⟩ : ∃ u, fr.eval (.tmp 7) = u := ⟨_, rfl⟩
      have p2 : IsZ wx u2 (-y) := by rw [← q2]; exact hpre 2 (by decide) _ rfl
      have e2 := ev_tmp q2; clear q2
      clear hpre hfree
      refine stpK rfl rfl fun K hK => ?_
      go_simp
      refine (zAdd_any wx _ _ x (-y) LX (hX wx (hB1.trans (hW.mono hB1.size))) p2 hbx hbny hL).mono ?_
      rintro e wy ⟨v4, rfl, hb, hm4⟩
      exact hK _ _ ⟨by rw [← Int.sub_eq_add_neg] at hm4; exact hm4, hW.trans (hb.mono hW.size), hb, fun h => (List.not_mem_nil h).elim⟩
    | n + 4, ho, hr => exact absurd hr (by simp)
  · intro vs wn hvs hW1 hap0
    clear hap0
    have e0 : vs 0 = .agg #[.bool (sx), .slice a (n) (c)] := hvs 0 (by decide)
    have e1 : vs 1 = .agg #[.bool (sy), .slice b (m) (d)] := hvs 1 (by decide)
    obtain ⟨u2, e2⟩ : ∃ u, vs 2 = u := ⟨_, rfl⟩
    have p2 : IsZ wn u2 (-y) := by rw [← e2]; exact hvs 2 (by decide)
    obtain ⟨u3, e3⟩ : ∃ u, vs 3 = u := ⟨_, rfl⟩
    have p3 : IsZ wn u3 (x - y) := by rw [← e3]; exact hvs 3 (by decide)
    simp only [puts, Nat.reduceAdd, e0, e1, e2, e3, Act.put, List.setIfInBounds_toArray, List.set_cons_zero, List.set_cons_succ, List.drop_succ_cons, List.drop_zero, List.length_cons, List.length_nil]
    clear hvs e0 e1 e2 e3
    replace k00 := (hW1.cell (p := ⟨w.heap.size, 0, none⟩) lt0).trans k00
    replace k01 := (hW1.cell (p := ⟨w.heap.size, 1, none⟩) lt0).trans k01
    replace k10 := (hW1.cell (p := ⟨w.heap.size + 1, 0, none⟩) lt1).trans k10
    replace k11 := (hW1.cell (p := ⟨w.heap.size + 1, 1, none⟩) lt1).trans k11
    replace r0 := (hW1.cell (p := ⟨w.heap.size + 2, 0, none⟩) hl).trans r0
    replace f0 := (hW1.frozen (p := ⟨w.heap.size + 2, 0, none⟩) hl).trans f0
    replace r1 := (hW1.cell (p := ⟨w.heap.size + 2, 1, none⟩) hl).trans r1
    replace f1 := (hW1.frozen (p := ⟨w.heap.size + 2, 1, none⟩) hl).trans f1
    replace lt0 := Nat.lt_of_lt_of_le lt0 hW1.size
    replace lt1 := Nat.lt_of_lt_of_le lt1 hW1.size
    replace hl := Nat.lt_of_lt_of_le hl hW1.size
    replace hB1 := hB1.trans (hW1.mono hB1.size)
    obtain ⟨s5, a5, n5, c5, rfl⟩ := p3.form
    have HE : Hid _ := ((hB1.setCell (p := ⟨w.heap.size + 2, 0, none⟩) (by simp; try omega) (.bool s5)).setCell (p := ⟨w.heap.size + 2, 1, none⟩) (by simp; try omega) (.slice a5 n5 c5))
    have HI : Hid _ := p3.stored (u1 := .bool s5) (u2 := .slice a5 n5 c5) r0 r1 (by intro q; simp) (by intro q; simp)
    clear p3 hB1 hl
    go_wp2
    refine bodyPost_ret (v := .agg #[.bool s5, .slice a5 n5 c5]) (by simp [results, go_sem, loadVar, World.cell?_setCell_same, *]) rfl ?_
    exact ⟨_, rfl, HE.out, HI.out⟩

set_option maxRecDepth 10000 in
set_option maxHeartbeats 2000000 in
theorem zCmp_any (w : World) (vx vy : Value) (x y : Int) (LX : Nat) (hx : IsZ w vx x) (hy : IsZ w vy y) (hbx : x.natAbs < 10000 ^ LX) (hby : y.natAbs < 10000 ^ LX) (hL : LX ≤ 1073741824) :
    Calls Tryz.prog 29 #[vx, vy] w fun e w' => e = .returned (.int .i64 (cmpI x y)) ∧ Below w.heap.size w w' := by
  obtain ⟨sx, a, n, c, rfl⟩ := hx.form
  obtain ⟨sy, b, m, d, rfl⟩ := hy.form
  have b2 := bel2 w (Obj.cells #[Value.bool sx, Value.slice a n c] 31) (Obj.cells #[Value.bool sy, Value.slice b m d] 31)
  have C := zSub_any _ _ _ _ _ LX (hx.below b2) (hy.below b2) hbx hby hL
  have e0 : cmpI (x - y) 0 = cmpI x y := by unfold cmpI; split <;> split <;> first | omega | (split <;> split <;> omega) | (split <;> omega)
  have E0 : Hid _ := e0
  clear hx hy b2 hbx hby e0
  go_enter Tryz.func29, Tryz.ntmps29
  go_wp2_with (go_at_call 25; fail)
  refine C.mono ?_
  rintro e w2 ⟨v2, rfl, hb2, hm2⟩
  have hB := (bel2 w (Obj.cells #[Value.bool sx, Value.slice a n c] 31) (Obj.cells #[Value.bool sy, Value.slice b m d] 31)).trans (hb2.mono (by simp; omega))
  have C2 := zsign_any w2 v2 _ hm2
  rw [E0.out] at C2
  clear C hb2 hm2
  go_wp2_with (go_at_call 75; fail)
  refine C2.mono ?_
  rintro e w3 ⟨rfl, hb3⟩
  have hB3 := hB.trans (hb3.mono hB.size)
  clear C2 hb3
  go_wp2
  go_ret
  exact ⟨rfl, hB3⟩
end Go.Proofs.YtjlkplidpdhgbaaGreatDoor

namespace Go.Rad
open Go Go.RowKit
/-- A guarded operation whose guard says no. -/
theorem stpN {P : Program} {ops : List Oper} {Q : Exit → Act → World → Prop} {o : Oper} {a : Act} {w : World} {K : Act → World → Prop} {E : Prop} {j : Nat} {b c : Bool} {d : Nat} (hg : o.guard = some (j, b)) (hd : dstOf ops j = some d)
    (hv : a.tmps[d]?.getD undef = .bool c) (hc : c ≠ b) (h : E) : if Region.wanted o (yielded ops.toArray a.tmps) = true then o.wp P a w K Q else E := by
  have hy : yielded ops.toArray a.tmps j = some c := by
    unfold yielded
    unfold dstOf at hd
    have : (ops.toArray[j]?.bind (·.dst)) = some d := by simpa using hd
    rw [this]
    cases h2 : a.tmps[d]? with
    | none => rw [h2] at hv; simp [undef] at hv
    | some u => rw [h2] at hv; simp at hv; subst hv; simp [h2]
  rw [if_neg]
  · exact h
  · simp [Region.wanted, hg, hy, hc]
end Go.Rad
