/- A part of the proof: QH, QI. -/
import Derived.Test.YtffdemplaodbcaaDoorP29
import Derived.Test.YtffdemplaodbcaaDoorP20
import Derived.Test.YtffdemplaodbcaaDoorShelf
set_option linter.all false
namespace Go.Proofs.YtffdemplaodbcaaDoor
open Go Go.Proofs Go.RowKit Go.Rad

theorem wpList_appendV {w : World} {ops : Array Oper} {rest : List Oper} {o : Oper} {a : Act} {Q : Exit → Act → World → Prop} (hgd : o.guard = none) (s x : Operand)
    (ho : o.op = .call { callee := .builtin .append, args := #[s, x], argTypes := #[64, 64] }) (hs : a.eval s = .slice none 0 0) (g7 m7 : Nat) (c : Value) (a1 : Option Addr) (n1 c1 : Nat) (hcv : c = .slice a1 n1 c1)
    (hx : a.eval x = .slice (some ⟨g7, 0, none⟩) 1 m7) (hc : w.cell? ⟨g7, 0, none⟩ = some c)
    (h : ∀ g cap w', w.heap.size ≤ g → g < w'.heap.size → w'.cell? ⟨g, 0, none⟩ = some c → Below w.heap.size w w' → wpList Tryd.prog ops Q rest (a.put o.dst (.slice (some ⟨g, 0, none⟩) 1 cap)) w') : wpList Tryd.prog ops Q (o :: rest) a w := by
  obtain ⟨i, hi0, hi1⟩ := Option.map_eq_some_iff.1 info22
  simp only [Prod.mk.injEq] at hi1
  obtain ⟨z0, z1, z2⟩ := hi1
  obtain ⟨g, cap, w', hrun, hrow, hgr, hg, hlt⟩ := run_append_lies (P := Tryd.prog) w 64 o.type w.heap.size 22 i (.slice none 0 0) 1 24 Tryd.underlying64 hi0 z0 z1 z2 rfl (by omega) (.slice none 0 0) 0 [] ⟨rfl, .inl ⟨rfl, rfl⟩⟩ ⟨g7, 0, none⟩ 1 m7 [c] rfl
    (fun j u hj => by
      cases j with
      | zero =>
        simp at hj
        subst hj
        exact hc
      | succ j => simp at hj) (fun u hu => by simp at hu; subst hu; subst hcv; rfl) (by omega) (by unfold maxLen; omega) (by omega) (Nat.le_refl _) w.heap.size rfl
  refine wpList_plain hgd fun K hK => ?_
  unfold Oper.wp execOp
  simp only [ho, resolve, invoke, builtin, Sem.run_bind, Sem.run_pure, Result.andThen_ok, List.map_toArray, List.map_cons, List.map_nil, hs, hx, hrun]
  have hgg : w.heap.size ≤ g := by
    rcases hg with h9 | h9
    · simp [Value.ownBlock] at h9
    · omega
  refine hK _ _ (h g cap w' hgg hlt ?_ ?_)
  · have := World.ownsRow.cellAt hrow 0 (by omega)
    simpa using this
  · refine ⟨hgr.os, hgr.tape, hgr.output, hgr.size, fun k hk => hgr.block k (by omega) (fun he => ?_)⟩
    simp [Value.ownBlock] at he
inductive FixPost (w : World) (e : Ending) (w' : World) : Prop
  | mk (g c : Nat) (u : Value) (he : e = .returned (.slice (some ⟨g, 0, none⟩) 1 c)) (hg : g < w'.heap.size) (hc : w'.cell? ⟨g, 0, none⟩ = some u) (hb : Below w.heap.size w w')
set_option maxRecDepth 10000 in
set_option maxHeartbeats 2000000 in
theorem fixed_begun (w : World) (b2 o2 c2 : Nat) (y : Nat → Int) (hM : MD w 2 b2 o2 2 c2 y) (hb2 : b2 < w.heap.size) (hy : lst y 3 = [1, 1, 1]) :
    Calls Tryd.prog 51 #[FV 2 4, .slice (some ⟨b2, o2, none⟩) 3 c2] w fun e w' => FixPost w e w' := by
  have HM : Hid (MD w 2 b2 o2 2 c2 y) := hM
  have HB2 : Hid (b2 < w.heap.size) := hb2
  have HY : Hid (lst y 3 = [1, 1, 1]) := hy
  clear hM hb2 hy
  go_enter Tryd.func51, Tryd.ntmps51
  go_upto_region 1 with fail
  refine wp_world (fun w1 => Below w.heap.size w w1 ∧ FB w1 w.heap.size (.int .i64 2) (.int .i64 4)) ⟨bel1 _ _, FB.mk0 _ _ _ _⟩ ?_
  rintro w1 ⟨hB1, hF1⟩
  obtain ⟨b4, hb4⟩ : ∃ x, x = w.heap.size := ⟨_, rfl⟩
  rw [← hb4] at hF1 ⊢
  have H4 : Hid (b4 = w.heap.size) := hb4
  have HB1 : Hid (Below w.heap.size w w1) := hB1
  have HF1 : Hid (FB w1 b4 (.int .i64 2) (.int .i64 4)) := hF1
  clear hB1 hb4
  obtain ⟨l4, k40, k41, z4, z5⟩ := hF1
  go_wp2_with (go_at_call 70; fail)
  refine (equations_begun w1 b2 o2 c2 y (HM.out.below HB1.out) (Nat.lt_of_lt_of_le HB2.out HB1.out.size) HY.out).mono ?_
  rintro e w2 ⟨R, r0, r1, rfl, hX2, hb2⟩
  have HX2 : Hid (MX w2 w1.heap.size R r0 r1 2 1 0 2) := hX2
  have HB2w : Hid (Below w1.heap.size w1 w2) := hb2
  have HF2 : Hid (FB w2 b4 (.int .i64 2) (.int .i64 4)) := HF1.out.below hb2
  have HG : Hid (b4 < w1.heap.size) := HF1.out.lt
  clear l4 k40 k41 z4 z5 hX2 hb2
  obtain ⟨l4, k40, k41, z4, z5⟩ := HF2.out
  go_wp2
  refine wp_loop_rounds 3 ?_
  rw [rounds_succ]
  go_wp2_with (go_at_call 71; fail)
  refine (find_0 w2 w1.heap.size R r0 r1 HX2.out).mono ?_
  rintro e w3 ⟨rfl, hb3⟩
  have HX3 : Hid (MX w3 w1.heap.size R r0 r1 2 1 0 2) := HX2.out.below hb3
  have HF3 : Hid (FB w3 b4 (.int .i64 2) (.int .i64 4)) := HF2.out.below hb3
  have HB3 : Hid (Below w1.heap.size w1 w3) := HB2w.out.trans (hb3.mono HB2w.out.size)
  clear l4 k40 k41 z4 z5 hb3
  obtain ⟨l4, k40, k41, z4, z5⟩ := HF3.out
  go_wp2_with (go_at_call 72; fail)
  refine (solution_0 w3 R).mono ?_
  rintro e w4 ⟨⟨bs, rfl⟩, hb4⟩
  have HX4 : Hid (MX w4 w1.heap.size R r0 r1 2 1 0 2) := HX3.out.below hb4
  have HF4 : Hid (FB w4 b4 (.int .i64 2) (.int .i64 4)) := HF3.out.below hb4
  have HB4 : Hid (Below w1.heap.size w1 w4) := HB3.out.trans (hb4.mono HB3.out.size)
  clear l4 k40 k41 z4 z5 hb4
  go_wp2_with (refine wpList_appendV (by rfl) _ _ (by rfl) (by rfl) _ _ (.slice (some ⟨bs, 0, none⟩) 1 1) _ _ _ rfl (by rfl) (by simp [go_sem]) ?_; intro g cap w5 hg hlg hcg hb5)
  have hb45 : Below w4.heap.size w4 w5 := (bel1 w4 _).trans (hb5.mono (by simp))
  have HX5 : Hid (MX w5 w1.heap.size R r0 r1 2 1 0 2) := HX4.out.below hb45
  have HF5 : Hid (FB w5 b4 (.int .i64 2) (.int .i64 4)) := HF4.out.below hb45
  have HB5 : Hid (Below w1.heap.size w1 w5) := HB4.out.trans (hb45.mono HB4.out.size)
  have HCG : Hid (w5.cell? ⟨g, 0, none⟩ = some (.slice (some ⟨bs, 0, none⟩) 1 1)) := hcg
  have HGG : Hid (g ≠ R ∧ g ≠ r1 ∧ g < w5.heap.size) := by
    rw [World.size_alloc] at hg
    have h1 := HX4.out.hR.lt
    have h2 := HX4.out.h1.lt
    show _ ∧ _ ∧ _
    omega
  clear hb5 hb45 hg hlg hcg
  rw [rounds_succ]
  obtain ⟨l4, k40, k41, z4, z5⟩ := HF5.out
  go_wp2_with (go_at_call 71; fail)
  refine (find_1 w5 w1.heap.size R r0 r1 HX5.out).mono ?_
  rintro e w6 ⟨rfl, hb6⟩
  have HX6 : Hid (MX w6 w1.heap.size R r0 r1 2 1 0 2) := HX5.out.below hb6
  have HF6 : Hid (FB w6 b4 (.int .i64 2) (.int .i64 4)) := HF5.out.below hb6
  have HB6 : Hid (Below w1.heap.size w1 w6) := HB5.out.trans (hb6.mono HB5.out.size)
  have HC6 : Hid (w6.cell? ⟨g, 0, none⟩ = some (.slice (some ⟨bs, 0, none⟩) 1 1)) := (hb6.cell (p := ⟨g, 0, none⟩) HGG.out.2.2).trans HCG.out
  have HG6 : Hid (g < w6.heap.size) := Nat.lt_of_lt_of_le HGG.out.2.2 hb6.size
  clear l4 k40 k41 z4 z5 hb6
  go_upto_region 11 with fail
  obtain ⟨lR, R0, R1, Rz0, Rz1⟩ := HX6.out.hR
  go_cut [] from 37 to 50 (fun wx => MX wx w1.heap.size R r0 r1 2 1 0 2 ∧ Kept (fun k => k = R ∨ k = r1) w6 wx)
  case first =>
    go_region
    go_wp2_with fail
    go_meet
    case rel =>
      have hn := HX6.out.ne
      have hM : MX ((w6.setCell ⟨R, 0, none⟩ (.slice (some ⟨r0, 0, none⟩) 2 2)).setCell ⟨R, 0, none⟩ (.slice (some ⟨r0, 0, none⟩) 2 2)) w1.heap.size R r0 r1 2 1 0 2 :=
        ⟨(HX6.out.hR.set0 _).set0 _, (HX6.out.h0.keep _ (fun e => hn.1 e.symm)).keep _ (fun e => hn.1 e.symm), (HX6.out.h1.keep _ (fun e => hn.2.1 e.symm)).keep _ (fun e => hn.2.1 e.symm), hn, HX6.out.base⟩
      exact ⟨hM.below (bel_drew _), (((Kept.refl _ w6).set (b := R) (i := 0) (.inl rfl) _).set (b := R) (i := 0) (.inl rfl) _).trans (.of_below (bel_drew _))⟩
  case rest =>
  obtain ⟨hX7, hK7⟩ := hcut
  have HX7 : Hid (MX wc w1.heap.size R r0 r1 2 1 0 2) := hX7
  have HK7 : Hid (Kept (fun k => k = R ∨ k = r1) w6 wc) := hK7
  have HF7 : Hid (FB wc b4 (.int .i64 2) (.int .i64 4)) := by
    have h1 := HG.out
    have h2 := HX6.out.base
    have hn : ¬ (b4 = R ∨ b4 = r1) := by omega
    exact ⟨Nat.lt_of_lt_of_le HF6.out.lt hK7.size, (hK7.cell HF6.out.lt hn).trans HF6.out.c0, (hK7.cell HF6.out.lt hn).trans HF6.out.c1, (hK7.froz HF6.out.lt hn).trans HF6.out.f0, (hK7.froz HF6.out.lt hn).trans HF6.out.f1⟩
  clear hX7 hK7 lR R0 R1 Rz0 Rz1
  obtain ⟨l4, k40, k41, z4, z5⟩ := HF7.out
  go_wp2_with (go_at_call 73; fail)
  refine (sweep_begun wc w1.heap.size R r0 r1 HX7.out).mono ?_
  rintro e w8 ⟨rfl, hK8⟩
  have HK8 : Hid (Kept (fun k => k = R ∨ k = r1) w6 w8) := HK7.out.trans hK8
  have HC8 : Hid (w8.cell? ⟨g, 0, none⟩ = some (.slice (some ⟨bs, 0, none⟩) 1 1)) := (HK8.out.cell HG6.out (by have := HGG.out; omega)).trans HC6.out
  have HB8 : Hid (Below w1.heap.size w1 w8) := HB6.out.trans (HK8.out.below HB6.out.size (fun k hk => by have := HX6.out.base; omega))
  clear hK8 l4 k40 k41 z4 z5
  go_wp2_with (refine wpList_appendI (by rfl) _ _ (by rfl) (by rfl) (OWI.nil _ w8.heap.size) _ _ 1 (by rfl) (by simp [go_sem]) (by decide) (by simp) ?_; intro v' w9 ho9 hb9)
  rw [rounds_succ]
  have HC9 : Hid (w9.cell? ⟨g, 0, none⟩ = some (.slice (some ⟨bs, 0, none⟩) 1 1)) := (hb9.cell (p := ⟨g, 0, none⟩) (Nat.lt_of_lt_of_le HG6.out HK8.out.size)).trans (((bel1 w8 _).cell (p := ⟨g, 0, none⟩) (Nat.lt_of_lt_of_le HG6.out HK8.out.size)).trans HC8.out)
  have HB9 : Hid (Below w1.heap.size w1 w9) := (HB8.out.alloc HB8.out.size _).trans (hb9.mono HB8.out.size)
  have HG9 : Hid (g < w9.heap.size) := by
    have h1 := hb9.size
    rw [World.size_alloc] at h1
    have h2 := HK8.out.size
    have h3 := HG6.out
    show _ < _
    omega
  clear ho9 hb9
  go_wp2
  refine bodyPost_ret (v := .slice (some ⟨g, 0, none⟩) 1 cap) (by simp [results, go_sem, loadVar]) rfl ?_
  exact .mk g cap _ rfl HG9.out HC9.out (HB1.out.trans (HB9.out.mono HB1.out.size))
inductive FacPost (w : World) (v : Value) (e : Ending) (w' : World) : Prop
  | mk (g : Nat) (he : e = .returned (.slice (some ⟨g, 0, none⟩) 1 1)) (hl : g < w'.heap.size) (hg : w.heap.size ≤ g) (hc : w'.cell? ⟨g, 0, none⟩ = some v) (hb : Below w.heap.size w w')
set_option maxRecDepth 10000 in
set_option maxHeartbeats 2000000 in
theorem factors_begun (w : World) (b2 o2 c2 : Nat) (y : Nat → Int) (hM : MD w 2 b2 o2 2 c2 y) (hb2 : b2 < w.heap.size) (hy : lst y 3 = [1, 1, 1]) :
    Calls Tryd.prog 46 #[FV 2 4, .slice (some ⟨b2, o2, none⟩) 3 c2] w fun e w' => FacPost w (.slice (some ⟨b2, o2, none⟩) 3 c2) e w' := by
  have HM : Hid (MD w 2 b2 o2 2 c2 y) := hM
  have HB2 : Hid (b2 < w.heap.size) := hb2
  have HY : Hid (lst y 3 = [1, 1, 1]) := hy
  clear hM hb2 hy
  go_enter Tryd.func46, Tryd.ntmps46
  go_upto_region 1 with fail
  refine wp_world (fun w1 => Below w.heap.size w w1 ∧ FB w1 w.heap.size (.int .i64 2) (.int .i64 4)) ⟨bel1 _ _, FB.mk0 _ _ _ _⟩ ?_
  rintro w1 ⟨hB1, hF1⟩
  obtain ⟨b4, hb4⟩ : ∃ x, x = w.heap.size := ⟨_, rfl⟩
  rw [← hb4] at hF1 ⊢
  have HB1 : Hid (Below w.heap.size w w1) := hB1
  clear hB1 hb4
  obtain ⟨l4, k40, k41, z4, z5⟩ := hF1
  go_wp2_with (go_at_call 51; fail)
  refine (fixed_begun w1 b2 o2 c2 y (HM.out.below HB1.out) (Nat.lt_of_lt_of_le HB2.out HB1.out.size) HY.out).mono ?_
  rintro e w2 ⟨g, c, u, rfl, hg, hc, hb2⟩
  have HB2w : Hid (Below w.heap.size w w2) := HB1.out.trans (hb2.mono HB1.out.size)
  have HG : Hid (g < w2.heap.size) := hg
  have HC : Hid (w2.cell? ⟨g, 0, none⟩ = some u) := hc
  clear l4 k40 k41 z4 z5 hg hc hb2
  go_wp2
  refine wp_world (fun w3 => Below w.heap.size w w3 ∧ w3.cell? ⟨g, 0, none⟩ = some u ∧ w3.cell? ⟨w2.heap.size, 0, none⟩ = some (.slice (some ⟨b2, o2, none⟩) 3 c2) ∧ w2.heap.size < w3.heap.size)
    ⟨HB2w.out.alloc HB2w.out.size _, ((bel1 w2 _).cell (p := ⟨g, 0, none⟩) HG.out).trans HC.out, by simp [go_sem], by simp⟩ ?_
  rintro w3 ⟨hB3, hC3, hP3, hl3⟩
  have HB3 : Hid (Below w.heap.size w w3) := hB3
  have HP3 : Hid (w3.cell? ⟨w2.heap.size, 0, none⟩ = some (.slice (some ⟨b2, o2, none⟩) 3 c2) ∧ w2.heap.size < w3.heap.size ∧ w.heap.size ≤ w2.heap.size) := ⟨hP3, hl3, HB2w.out.size⟩
  obtain ⟨P, hP⟩ : ∃ x, x = w2.heap.size := ⟨_, rfl⟩
  rw [← hP] at HP3 ⊢
  clear hB3 hP3 hl3 hP
  refine wp_loop_rounds 1 ?_
  rw [rounds_succ]
  go_wp2
  refine bodyPost_ret (v := .slice (some ⟨P, 0, none⟩) 1 1) (by simp [results, go_sem, loadVar]) rfl ?_
  exact .mk P rfl HP3.out.2.1 HP3.out.2.2 HP3.out.1 HB3.out
end Go.Proofs.YtffdemplaodbcaaDoor
namespace Go.Proofs.YtffdemplaodbcaaDoor
open Go Go.Proofs Go.RowKit Go.Rad

theorem pr2 : PrI 2 := ⟨2, rfl, ⟨by decide, fun d hd => by
  have h1 := Nat.le_of_dvd (by decide) hd
  have h2 : d ≠ 0 := fun h => by
    rw [h] at hd
    have := Nat.eq_zero_of_zero_dvd hd
    omega
  omega⟩, by decide⟩
theorem isF_f : IsF 2 [1, 0, 1, 0, 1] := ⟨pr2, by decide, fun j hj => by
  match j, hj with
  | 0, _ => decide
  | 1, _ => decide
  | 2, _ => decide
  | 3, _ => decide
  | 4, _ => decide, fun _ => by decide⟩
theorem isP_f : IsP 2 [1, 0, 1, 0, 1] := ⟨isF_f.all, isF_f.last⟩
theorem isP_g : IsP 2 [1, 1, 1] := ⟨fun j => by
  match j with
  | 0 => decide
  | 1 => decide
  | 2 => decide
  | j + 3 => rw [getD_of_ge _ _ (by simp)]; omega, fun _ => by decide⟩
theorem isP_1 : IsP 2 [1] := ⟨bd1, fun _ => by decide⟩
theorem IsP.nrm {p : Int} {x : List Int} (h : IsP p x) : Nrm p (row x) x := ⟨fun j => by rw [row_getD]; exact (Int.emod_eq_of_lt (h.bd j).1 (h.bd j).2).symm, h.top⟩
theorem isMon2 {x z : List Int} (hx : IsP 2 x) (hl : 0 < x.length) (h : IsMon 2 x z) : z = x := by
  cases h with
  | nil h1 h2 => rw [h1] at hl; simp at hl
  | mk r h0 hr hr2 h1 hz =>
    obtain rfl : r = 1 := by omega
    exact hz.uniq hx.nrm (fun j => by rw [Int.one_mul])
theorem gcd_f {z : List Int} (h : GcdR 2 [1, 0, 1, 0, 1] [] z) : z = [1, 0, 1, 0, 1] := by
  cases h with
  | nil f z h => exact isMon2 isP_f (by decide) h
  | step f g r z h0 => simp at h0
theorem gcd_g {z : List Int} (h : GcdR 2 [1, 1, 1] [1] z) : z = [1] := by
  cases h with
  | step f g r z h0 hr h =>
    have hl := hr.len
    obtain rfl : r = [] := List.length_eq_zero_iff.1 (by have : r.length < 1 := hl; omega)
    cases h with
    | nil f z h => exact isMon2 isP_1 (by decide) h
    | step f g r z h0 => simp at h0
theorem der_f {z : List Int} (h : Nrm 2 (fun j => ((j + 1 : Nat) : Int) * row [1, 0, 1, 0, 1] (j + 1)) z) : z = [] := by
  refine List.length_eq_zero_iff.1 (Nat.le_zero.1 (h.len (n := 0) fun j _ => ?_))
  rw [row_getD]
  match j with
  | 0 => decide
  | 1 => decide
  | 2 => decide
  | 3 => decide
  | j + 4 => rw [getD_of_ge _ _ (by simp)]; simp
theorem der_g {z : List Int} (h : Nrm 2 (fun j => ((j + 1 : Nat) : Int) * row [1, 1, 1] (j + 1)) z) : z = [1] := by
  refine h.uniq isP_1.nrm (fun j => ?_)
  rw [row_getD, row_getD]
  match j with
  | 0 => decide
  | 1 => decide
  | j + 2 => rw [getD_of_ge _ _ (by simp), getD_of_ge _ _ (by simp)]; simp
theorem act1 (a : Int) (u : Nat → Int) (j : Nat) : act [a] u j = a * u j := by
  show a * u j + sft (fun _ => 0) j = _
  cases j <;> simp [sft]
theorem quo_ff {Q z : List Int} (h : Dvd 2 [1, 0, 1, 0, 1] [1, 0, 1, 0, 1] Q z) : Q = [1] := by
  have hl : Q.length = 1 := h.len
  obtain ⟨a, rfl⟩ := List.length_eq_one_iff.1 hl
  have hb := h.bd 0
  have hz : z.length ≤ 4 := by have := h.rl; simp at this; omega
  have he := h.eq 4
  rw [act1, row_getD, row_getD, getD_of_ge z 4 hz] at he
  have hb' : 0 ≤ a ∧ a < 2 := hb
  have he' : (1 : Int) % 2 = (0 + a * 1) % 2 := he
  have : a = 1 := by omega
  rw [this]
theorem row1 (j : Nat) : row [1] j = one0 j := row_one j
theorem act_one (x : List Int) (j : Nat) : act x (row [1]) j = row x j := act_congr x row_one j
theorem quo_1 {x Q z : List Int} (hx : IsP 2 x) (h : Dvd 2 [1] x Q z) : Q = x := by
  have hl : Q.length = x.length := h.len
  have hz : z = [] := List.length_eq_zero_iff.1 (by have : z.length < 1 := h.rl; omega)
  subst hz
  have e : ∀ j, x.getD j 0 = Q.getD j 0 := fun j => by
    have he := h.eq j
    rw [act_one, row_getD, row_getD, row_getD, getD_of_ge [] j (Nat.zero_le _), Int.zero_add, Int.emod_eq_of_lt (hx.bd j).1 (hx.bd j).2, Int.emod_eq_of_lt (h.bd j).1 (h.bd j).2] at he
    exact he
  refine List.ext_getElem hl fun i h1 h2 => ?_
  have h3 := e i
  simpa [List.getD_eq_getElem?_getD, h1, h2] using h3.symm
theorem root_f {z : List Int} (hz : ∀ j, j < z.length → z.getD j 0 = ([1, 0, 1, 0, 1] : List Int).getD (2 * j) 0) (h1 : ([1, 0, 1, 0, 1] : List Int).length ≤ 2 * z.length) (h2 : 0 < z.length → 2 * (z.length - 1) < ([1, 0, 1, 0, 1] : List Int).length) : z = [1, 1, 1] := by
  have hl : z.length = 3 := by simp at h1 h2; omega
  refine List.ext_getElem hl fun i h3 h4 => ?_
  have h5 := hz i h3
  rw [hl] at h3
  have h6 : z.getD i 0 = z[i] := by simp [List.getD_eq_getElem?_getD, hl, h3]
  rw [← h6, h5]
  match i, h3 with
  | 0, _ => rfl
  | 1, _ => rfl
  | 2, _ => rfl
theorem root_1 {z : List Int} (hz : ∀ j, j < z.length → z.getD j 0 = ([1] : List Int).getD (2 * j) 0) (h1 : ([1] : List Int).length ≤ 2 * z.length) (h2 : 0 < z.length → 2 * (z.length - 1) < ([1] : List Int).length) : z = [1] := by
  have hl : z.length = 1 := by simp at h1 h2; omega
  obtain ⟨a, rfl⟩ := List.length_eq_one_iff.1 hl
  have h5 := hz 0 (Nat.succ_pos _)
  have : a = 1 := h5
  rw [this]
set_option maxRecDepth 10000 in
theorem ins_one (w : World) (g c : Nat) (v : Value) : Calls Tryd.prog 81 #[.slice (some ⟨g, 0, none⟩) 1 c, .int .i64 0, .int .i64 1, v] w fun e w' => e = .returned (.tuple #[]) ∧ Below w.heap.size w w' := by
  go_enter Tryd.func81, Tryd.ntmps81
  have hw1 : wrap64 1 = 1 := wrap_in (by decide) (by decide)
  go_wp2
  refine wp_loop_rounds 1 ?_
  rw [rounds_succ]
  go_wp2
  go_end0
  exact ⟨rfl, Below.refl _ _⟩
set_option maxRecDepth 10000 in
theorem pdq_one (w : World) (g c : Nat) (v : Value) (k : Int) : Calls Tryd.prog 68 #[.slice (some ⟨g, 0, none⟩) 1 c, .int .i64 0, .int .i64 1, .int .i64 k, v] w fun e w' => e = .returned (.tuple #[]) ∧ Below w.heap.size w w' := by
  go_enter Tryd.func68, Tryd.ntmps68
  have hw1 : wrap64 1 = 1 := wrap_in (by decide) (by decide)
  go_wp2
  refine wp_loop_rounds 1 ?_
  rw [rounds_succ]
  go_wp2_with (go_at_call 81; fail)
  refine (ins_one w g c v).mono ?_
  rintro e w1 ⟨rfl, hb1⟩
  have HB : Hid (Below w.heap.size w w1) := hb1
  clear hb1
  go_wp2
  refine bodyPost_ret (results_none rfl _ _ _) rfl ?_
  exact ⟨rfl, HB.out⟩
set_option maxRecDepth 10000 in
theorem sort_one (w : World) (g c : Nat) (v : Value) : Calls Tryd.prog 47 #[.slice (some ⟨g, 0, none⟩) 1 c, v] w fun e w' => e = .returned (.tuple #[]) ∧ Below w.heap.size w w' := by
  have CL := fun w => Tryd.bits_Len 1 w (by decide) (by decide)
  go_enter Tryd.func47, Tryd.ntmps47
  go_wp2_with (go_at_call 61; fail)
  refine (CL w).mono ?_
  rintro e w1 ⟨rfl, rfl⟩
  go_wp2_with (go_at_call 68; fail)
  refine (pdq_one _ g c v _).mono ?_
  rintro e w2 ⟨rfl, hb2⟩
  have HB : Hid (Below w1.heap.size w1 w2) := hb2
  clear hb2
  go_wp2
  go_end0
  exact ⟨rfl, HB.out⟩
set_option maxRecDepth 10000 in
theorem checkSome_begun (w : World) (v : Value) (hv : IL w v [1, 0, 1, 0, 1]) (ht : TabB w) : Calls Tryd.prog 43 #[v, .int .i64 2] w fun e w' => e = .returned (Flt 0 0) ∧ Below w.heap.size w w' := by
  have CB := fun wx (hb : Below w.heap.size w wx) => check_any wx v _ 2 (hv.below hb) (ht.below hb)
  rw [isF_f.ck.1, isF_f.ck.2] at CB
  have HV : Hid (∃ a c, v = .slice a 5 c) := by
    obtain ⟨a, b, o, n, c, hv, hn, ha, hc, hm⟩ := hv
    exact ⟨a, c, by rw [hv, ← hn]; rfl⟩
  clear hv ht
  obtain ⟨a, c, rfl⟩ := HV.out
  go_enter Tryd.func43, Tryd.ntmps43
  go_wp2_with (go_at_call 13; fail)
  refine (CB _ (bel1 _ _)).mono ?_
  rintro e w1 ⟨rfl, hb1⟩
  have hB1 : Below w.heap.size w w1 := (bel1 w _).trans (hb1.mono (by simp))
  have hF := (FB.mk0 w (.int .i64 0) (.int .i64 0) 24).below hb1
  have HB1 : Hid (Below w.heap.size w w1) := hB1
  obtain ⟨b4, hb4⟩ : ∃ x, x = w.heap.size := ⟨_, rfl⟩
  rw [← hb4] at hF ⊢
  have HG : Hid (w.heap.size ≤ b4) := by show _ ≤ _; omega
  have HR : Hid (∀ X, Below w.heap.size w (((w1.setCell ⟨b4, 0, none⟩ (.int .i64 0)).setCell ⟨b4, 1, none⟩ (.int .i64 0)).alloc X)) := fun X => (below_set2 HB1.out HG.out _ _).alloc (by have := HB1.out.size; simp; omega) X
  clear hb1 hB1 hb4 CB
  obtain ⟨l4, d0, d1, f0, f1⟩ := hF
  go_wp2
  refine bodyPost_ret (v := Flt 0 0) (by simp [results, go_sem, loadVar, World.cell?_setCell_same, World.cell?_setCell_other, *]; try rfl) rfl ?_
  exact ⟨rfl, HR.out _⟩
end Go.Proofs.YtffdemplaodbcaaDoor
