/- A part of the proof: RA, RB, RC. -/
import Derived.Test.YtffdemplaodbcaaDoorP25
import Derived.Test.YtffdemplaodbcaaDoorP22
import Derived.Test.YtffdemplaodbcaaDoorP32
set_option linter.all false
namespace Go.Proofs.YtffdemplaodbcaaDoor
open Go Go.Proofs Go.RowKit Go.Rad

/-- What the document's example divides out is monic. -/
theorem ScPost.isMon {p : Int} {x z : List Int} {r : Int} (hp : 1 < p) (h0 : 0 < x.length) (hl : z.length = x.length) (hz : ∀ j, z.getD j 0 = x.getD j 0 * r % p) (hr : 0 < r) (hr2 : r < p) (h1 : r * x.getD (x.length - 1) 0 % p = 1) : IsMon p x z :=
  .mk r h0 hr hr2 h1 ⟨fun j => by rw [row_getD, hz, row_getD, Int.mul_comm], fun _ => by rw [hz, hl, Int.mul_comm, h1]; decide⟩
theorem mscaled_nil (w : World) (a : Option Addr) (c : Nat) (p : Int) : Calls Tryd.prog 40 #[.slice a 0 c, .int .i64 p] w fun e w' => e = .returned (.slice a 0 c) ∧ w' = w := by
  go_enter Tryd.func40, Tryd.ntmps40
  go_wp2
  refine bodyPost_ret (v := .slice a 0 c) (by simp [results, go_sem, loadVar]) rfl ?_
  exact ⟨rfl, rfl⟩
inductive MgPost (w : World) (p : Int) (f g : List Int) (e : Ending) (w' : World) : Prop
  | mk (u : Value) (z : List Int) (he : e = .returned u) (hV : VW w' u z) (hb : Below w.heap.size w w') (hG : GcdR p f g z)
set_option maxRecDepth 10000 in
set_option maxHeartbeats 4000000 in
theorem mgcd_any (w : World) (v1 v2 : Value) (xs ys : List Int) (p : Int) (h1 : VW w v1 xs) (h2 : VW w v2 ys) (hX : IsF p xs) (hY : IsF p ys) :
    Calls Tryd.prog 20 #[v1, v2, .int .i64 p] w fun e w' => MgPost w p xs ys e w' := by
  have hp : 1 < p ∧ p < 2147483648 := by
    obtain ⟨P, h1, h2, h3⟩ := hX.pr
    have := h2.1
    omega
  have HPR : Hid (PrI p) := hX.pr
  have H1 : Hid (VW w v1 xs) := h1
  have H2 : Hid (VW w v2 ys) := h2
  have HX : Hid (IsF p xs) := hX
  have HY : Hid (IsF p ys) := hY
  clear h1 h2 hX hY
  go_enter Tryd.func20, Tryd.ntmps20
  go_wp2
  go_loopw [0, 1] (fun s t wr => ∃ (X Y : List Int), VW wr s X ∧ VW wr t Y ∧ IsP p X ∧ IsP p Y ∧ X.length ≤ 65 ∧ Y.length ≤ 65 ∧ (∀ z, GcdR p X Y z → GcdR p xs ys z) ∧ Below w.heap.size w wr) (fun _ t _ => vlen t)
  case atStart => exact ⟨xs, ys, H1.out, H2.out, ⟨HX.out.all, HX.out.last⟩, ⟨HY.out.all, HY.out.last⟩, HX.out.len, HY.out.len, fun z h => h, Below.refl _ _⟩
  case round =>
    obtain ⟨X, Y, hX, hY, hPX, hPY, hlX, hlY, hGG, hB⟩ := hrel
    have HX1 : Hid (VW wr u0 X) := hX
    have HY1 : Hid (VW wr u1 Y) := hY
    have HPX : Hid (IsP p X) := hPX
    have HPY : Hid (IsP p Y) := hPY
    have HLL : Hid (X.length ≤ 65 ∧ Y.length ≤ 65) := ⟨hlX, hlY⟩
    have HGG : Hid (∀ z, GcdR p X Y z → GcdR p xs ys z) := hGG
    have HB : Hid (Below w.heap.size w wr) := hB
    clear hX hPX hPY hlX hlY hGG hB
    obtain ⟨a, b, o, c, rfl, ha, hA⟩ := hY
    clear ha hA
    by_cases h0 : 0 < Y.length
    · have CS := mscaled_any wr (.slice a Y.length c) Y p
      obtain ⟨r0, hr1, hr2, hr3⟩ := HPR.out.inv (a := Y.getD (Y.length - 1) 0) (by have := (HPY.out.bd (Y.length - 1)).1; have := HPY.out.top h0; omega) (HPY.out.bd _).2
      replace CS := CS r0 HY1.out hp HPY.out.bd (by have := HLL.out.2; omega) h0 ⟨hr1, hr2, hr3⟩
      have HY0 : Hid (0 < Y.length) := h0
      have h0i : (0 : Int) < (Y.length : Int) := by omega
      clear hr1 hr2 hr3
      go_wp2_with (go_at_call 40; fail)
      refine CS.mono ?_
      rintro e w1 ⟨u4, zs, r, rfl, hS1, hb1, hzl, hz, hr1, hr2, hr3⟩
      have HB1 : Hid (Below wr.heap.size wr w1) := hb1
      have CR := mrest_any w1 u0 u4 X zs p (HX1.out.below hb1) hS1.view hp HPX.out.bd (fun j => by rw [hz]; exact ⟨Int.emod_nonneg _ (by omega), Int.emod_lt_of_pos _ (by omega)⟩) HPX.out.top (by omega)
        (by rw [hz, hzl, Int.mul_comm]; exact hr3) (by have := HLL.out.1; omega) (by have := HLL.out.2; omega)
      have HZ : Hid (zs.length = Y.length ∧ ∀ j, zs.getD j 0 % p = Y.getD j 0 * r % p) := ⟨hzl, fun j => by rw [hz, Int.emod_emod]⟩
      clear hS1 hb1 hzl hz hr1 hr2 hr3 CS
      go_wp2_with (go_at_call 41; fail)
      refine CR.mono ?_
      rintro e w2 ⟨u5, z, rfl, hV5, hb5, hR5⟩
      have HREL : Hid ((∃ (X1 Y1 : List Int), VW w2 (.slice a Y.length c) X1 ∧ VW w2 u5 Y1 ∧ IsP p X1 ∧ IsP p Y1 ∧ X1.length ≤ 65 ∧ Y1.length ≤ 65 ∧ (∀ z, GcdR p X1 Y1 z → GcdR p xs ys z) ∧ Below w.heap.size w w2) ∧ vlen u5 < Y.length) := by
        have hR : Res p Y (row X) z := ⟨by rw [← HZ.out.1]; exact hR5.len, hR5.bd, hR5.top, hR5.cg.scale HZ.out.2⟩
        have hlen := hR.len
        have hll := HLL.out
        have hbb := HB1.out.trans (hb5.mono HB1.out.size)
        refine ⟨⟨Y, z, HY1.out.below hbb, hV5, HPY.out, ⟨hR.bd, hR.top⟩, hll.2, by omega, fun z' h => HGG.out z' (.step X Y z z' HY0.out hR h), HB.out.trans (hbb.mono HB.out.size)⟩, ?_⟩
        obtain ⟨a9, b9, o9, c9, rfl, _⟩ := hV5
        exact hlen
      clear hV5 hb5 hR5 CR
      go_wp2
      exact HREL.out
    · have hy0 : Y = [] := List.length_eq_zero_iff.1 (by omega)
      have HYN : Hid (Y = []) := hy0
      have hy1 : Y.length = 0 := by omega
      have h00 : ¬ (0 : Int) < ((Y.length : Nat) : Int) := by omega
      obtain ⟨a1, b1, o1, c1, rfl, -⟩ : VW wr u0 X := HX1.out
      by_cases hx0 : 0 < X.length
      · have CS := mscaled_any wr (.slice a1 X.length c1) X p
        obtain ⟨r0, hr1, hr2, hr3⟩ := HPR.out.inv (a := X.getD (X.length - 1) 0) (by have := (HPX.out.bd (X.length - 1)).1; have := HPX.out.top hx0; omega) (HPX.out.bd _).2
        replace CS := CS r0 HX1.out hp HPX.out.bd (by have := HLL.out.1; omega) hx0 ⟨hr1, hr2, hr3⟩
        clear hr1 hr2 hr3
        go_wp2_with (go_at_call 40; fail)
        refine CS.mono ?_
        rintro e w1 ⟨u4, zs, r, rfl, hS1, hb1, hzl, hz, hr1, hr2, hr3⟩
        have R : Hid (MgPost w p xs ys (.returned u4) w1) :=
          .mk u4 zs rfl hS1.view (HB.out.trans (hb1.mono HB.out.size)) (HGG.out zs (by rw [HYN.out]; exact .nil X zs (ScPost.isMon hp.1 hx0 hzl hz hr1 hr2 hr3)))
        clear hS1 hb1 hzl hz hr1 hr2 hr3 CS
        go_wp2
        refine bodyPost_ret (v := u4) (by simp [results, go_sem, loadVar]) rfl ?_
        exact R.out
      · have hx1 : X = [] := List.length_eq_zero_iff.1 (by omega)
        subst hx1
        go_wp2_with (go_at_call 40; fail)
        refine (mscaled_nil wr a1 c1 p).mono ?_
        rintro e w1 ⟨rfl, rfl⟩
        have R : Hid (MgPost w p xs ys (.returned (.slice a1 0 c1)) w1) :=
          .mk _ [] rfl HX1.out HB.out (HGG.out [] (by rw [HYN.out]; exact .nil [] [] (.nil rfl rfl)))
        go_wp2
        refine bodyPost_ret (v := .slice a1 0 c1) (by simp [results, go_sem, loadVar]) rfl ?_
        exact R.out
end Go.Proofs.YtffdemplaodbcaaDoor
namespace Go.Proofs.YtffdemplaodbcaaDoor
open Go Go.Proofs Go.RowKit Go.Rad

theorem IsMon.uniq {p : Int} {x y z : List Int} (hp : 0 < p) (h : IsMon p x y) (k : IsMon p x z) : y = z := by
  cases h with
  | nil hx hz =>
    cases k with
    | nil _ hz' => rw [hz, hz']
    | mk r h0 => subst hx; simp at h0
  | mk r h0 hr hr2 h1 hz =>
    cases k with
    | nil hx _ => subst hx; simp at h0
    | mk s _ hs hs2 h1' hz' =>
      have e : r = s := by
        obtain ⟨d, hd⟩ : ∃ d, x.getD (x.length - 1) 0 = d := ⟨_, rfl⟩
        rw [hd] at h1 h1'
        have e1 : r * (s * d) % p = r % p := by rw [Int.mul_emod, h1', Int.mul_one, Int.emod_emod]
        have e2 : s * (r * d) % p = s % p := by rw [Int.mul_emod, h1, Int.mul_one, Int.emod_emod]
        have e3 : r * (s * d) = s * (r * d) := by rw [← Int.mul_assoc, ← Int.mul_assoc, Int.mul_comm r s]
        rw [e3, e2, Int.emod_eq_of_lt (by omega) hs2, Int.emod_eq_of_lt (by omega) hr2] at e1
        exact e1.symm
      subst e
      exact hz.uniq hz' fun j => rfl
theorem GcdR.uniq {p : Int} (hpr : PrI p) {f g y z : List Int} (hg : IsP p g) (h : GcdR p f g y) (k : GcdR p f g z) : y = z := by
  have hp : 0 < p := by
    obtain ⟨P, h1, h2, h3⟩ := hpr
    have := h2.1
    omega
  induction h generalizing z with
  | nil f y h =>
    cases k with
    | nil _ _ h' => exact h.uniq hp h'
    | step _ _ r _ h0 => simp at h0
  | step f g r y h0 hr h ih =>
    cases k with
    | nil _ _ h' => simp at h0
    | step _ _ r' _ h0' hr' h' =>
      obtain rfl : r = r' := hr.eq h0 (hpr.gcd (hg.bd _).1 (hg.top h0) (hg.bd _).2) hr' (.of fun j => rfl)
      exact ih ⟨hr.bd, hr.top⟩ h'
inductive GdPost (w : World) (p : Int) (xs ys : List Int) (e : Ending) (w' : World) : Prop
  | mk (u : Value) (he : e = .returned (.tuple #[u, Flt (ckBC p xs ys) (if ckBC p xs ys = 0 then 0 else ckBA p xs ys)])) (hb : Below w.heap.size w w') (hf : ckBC p xs ys ≠ 0 → u = .slice none 0 0)
      (ho : ckBC p xs ys = 0 → ∃ z, SR w' w.heap.size u z ∧ GcdR p xs ys z)
set_option maxRecDepth 10000 in
set_option maxHeartbeats 1000000 in
theorem rGcd_any (w : World) (v1 v2 : Value) (xs ys : List Int) (p : Int) (h1 : IL w v1 xs) (h2 : IL w v2 ys) (ht : TabB w) :
    Calls Tryd.prog 19 #[v1, v2, .int .i64 p] w fun e w' => GdPost w p xs ys e w' := by
  have CB := fun wx (hb : Below w.heap.size w wx) => checkBoth_any wx v1 v2 xs ys p (h1.below hb) (h2.below hb) (ht.below hb)
  obtain ⟨cB, hcB⟩ : ∃ c, ckBC p xs ys = c := ⟨_, rfl⟩
  obtain ⟨aB, haB⟩ : ∃ c, ckBA p xs ys = c := ⟨_, rfl⟩
  have HC : Hid (ckBC p xs ys = cB ∧ ckBA p xs ys = aB) := ⟨hcB, haB⟩
  simp only [hcB, haB] at CB
  have H1 : Hid (IL w v1 xs) := h1
  have H2 : Hid (IL w v2 ys) := h2
  clear h1 h2 ht hcB haB
  go_enter Tryd.func19, Tryd.ntmps19
  go_wp2_with (go_at_call 30; fail)
  refine (CB _ (bel1 _ _)).mono ?_
  rintro e w1 ⟨rfl, hb1⟩
  have hB1 : Below w.heap.size w w1 := (bel1 w _).trans (hb1.mono (by simp))
  have hF := (FB.mk0 w (.int .i64 0) (.int .i64 0) 24).below hb1
  have HB1 : Hid (Below w.heap.size w w1) := hB1
  obtain ⟨b4, hb4⟩ : ∃ x, x = w.heap.size := ⟨_, rfl⟩
  rw [← hb4] at hF ⊢
  have HG : Hid (w.heap.size ≤ b4) := by show _ ≤ _; omega
  clear hb1 hB1 hb4 CB
  by_cases h0 : cB = 0
  · subst h0
    obtain ⟨fx, fy⟩ := ckBC_zero HC.out.1
    have HFX : Hid (IsF p xs) := fx
    have HFY : Hid (IsF p ys) := fy
    clear fx fy
    have hpp : 1 < p ∧ p < 2147483648 := by
      obtain ⟨P, h1, h2, h3⟩ := HFX.out.pr
      have := h2.1
      omega
    go_wp2_with (go_at_call 31; fail)
    refine (fieldOf_any _ p (p * p) (by omega) hpp.2 rfl).mono ?_
    rintro e w2 ⟨rfl, hb2⟩
    have hF2 := (hF.alloc (Obj.cells #[Value.int IntKind.i64 0, Value.int IntKind.i64 aB] 24)).below hb2
    have HB2w : Hid (Below w.heap.size w w2) := (HB1.out.alloc HB1.out.size (Obj.cells #[Value.int IntKind.i64 0, Value.int IntKind.i64 aB] 24)).trans (hb2.mono (by have := HB1.out.size; simp; omega))
    clear hb2 hF
    go_wp2_with (go_at_call 42; fail)
    refine (gcd_any w2 p (p * p) v1 v2 xs ys (H1.out.vw.below HB2w.out) (H2.out.vw.below HB2w.out) rfl HFX.out.pr ⟨HFX.out.all, HFX.out.last⟩ ⟨HFY.out.all, HFY.out.last⟩ (by have := HFX.out.len; omega) (by have := HFY.out.len; omega)).mono ?_
    rintro e w3 ⟨u2, z, rfl, hS3, hb3, hG3⟩
    have hF3 := hF2.below hb3
    have HP : Hid (GdPost w p xs ys (.returned (.tuple #[u2, Flt 0 0])) ((w3.setCell ⟨b4, 0, none⟩ (.int .i64 0)).setCell ⟨b4, 1, none⟩ (.int .i64 0))) :=
      .mk u2 (by rw [HC.out.1, if_pos rfl]) (below_set2 (HB2w.out.trans (hb3.mono HB2w.out.size)) HG.out _ _) (fun h => absurd HC.out.1 h) (fun _ => ⟨z, (hS3.set2 hF2.lt _ _).mono HB2w.out.size, hG3⟩)
    clear hS3 hb3 hG3 hF2
    obtain ⟨l4, d0, d1, f0, f1⟩ := hF3
    go_wp2
    refine bodyPost_ret (v := .tuple #[u2, Flt 0 0]) (by simp [results, go_sem, loadVar, World.cell?_setCell_same, World.cell?_setCell_other, *]; try rfl) rfl ?_
    exact HP.out
  · have h0b : (cB != 0) = true := by simpa using h0
    have HR : Hid (∀ X, Below w.heap.size w (((w1.setCell ⟨b4, 0, none⟩ (.int .i64 cB)).setCell ⟨b4, 1, none⟩ (.int .i64 aB)).alloc X)) := fun X => (below_set2 HB1.out HG.out _ _).alloc (by have := HB1.out.size; simp; omega) X
    have HP : Hid (∀ W, Below w.heap.size w W → GdPost w p xs ys (.returned (.tuple #[.slice none 0 0, Flt cB aB])) W) := fun W hW => .mk _ (by rw [HC.out.1, HC.out.2, if_neg h0]) hW (fun _ => rfl) (fun h => absurd (HC.out.1.symm.trans h) h0)
    obtain ⟨l4, d0, d1, f0, f1⟩ := hF
    go_wp2
    go_region
    all_goals
      go_wp2
      refine bodyPost_ret (v := .tuple #[.slice none 0 0, Flt cB aB]) (by simp [results, go_sem, loadVar, World.cell?_setCell_same, World.cell?_setCell_other, *]; try rfl) rfl ?_
      exact HP.out _ (by first | exact HR.out _ | exact (HR.out _).drew)
end Go.Proofs.YtffdemplaodbcaaDoor
namespace Go.Proofs.YtffdemplaodbcaaDoor
open Go Go.Proofs Go.RowKit Go.Rad

theorem GcdR.len {p : Int} {N : Nat} {f g z : List Int} (h : GcdR p f g z) (hf : f.length ≤ N) (hg : g.length ≤ N) : z.length ≤ N := by
  induction h with
  | nil f z h =>
    cases h with
    | nil hx hz => rw [hz]; simp
    | mk r h0 hr hr2 h1 hz =>
      have := hz.len (n := f.length) (fun j hj => by rw [row_getD, getD_of_ge f j hj]; simp)
      omega
  | step f g r z h0 hr h ih => exact ih hg (by have := hr.len; omega)
/-- What Gcd answers. -/
inductive GcdV (p : Int) (xs ys : List Int) (u : Value) (wx : World) : Prop
  | bad (h : ckBC p xs ys ≠ 0) (hu : u = .slice none 0 0)
  | ok (h : ckBC p xs ys = 0) (z : List Int) (hV : VW wx u z) (hG : GcdR p xs ys z)
/-- All that the walk has at hand behind Gcd. -/
structure GS (w0 w3 wx : World) (p : Int) (xs ys : List Int) (v1 v2 vd : Value) (b8 b9 : Nat) (c8 a8 c9 a9 : Int) : Prop where
  B : Below w0.heap.size w0 w3
  i1 : IL w3 v1 xs
  i2 : IL w3 v2 ys
  T : TabB w3
  d : GcdV p xs ys vd w3
  B3 : Below w3.heap.size w3 wx
  ne : w3.heap.size ≤ b8 ∧ b8 < b9
  f8 : FB wx b8 (.int .i64 c8) (.int .i64 a8)
  f9 : FB wx b9 (.int .i64 c9) (.int .i64 a9)
theorem GS.below {w0 w3 wx wy : World} {p : Int} {xs ys : List Int} {v1 v2 vd : Value} {b8 b9 : Nat} {c8 a8 c9 a9 : Int} (h : GS w0 w3 wx p xs ys v1 v2 vd b8 b9 c8 a8 c9 a9) (hb : Below wx.heap.size wx wy) : GS w0 w3 wy p xs ys v1 v2 vd b8 b9 c8 a8 c9 a9 :=
  ⟨h.B, h.i1, h.i2, h.T, h.d, h.B3.trans (hb.mono h.B3.size), h.ne, h.f8.below hb, h.f9.below hb⟩
theorem GS.set {w0 w3 wx : World} {p : Int} {xs ys : List Int} {v1 v2 vd : Value} {b8 b9 : Nat} {c8 a8 c9 a9 : Int} (h : GS w0 w3 wx p xs ys v1 v2 vd b8 b9 c8 a8 c9 a9) (x y : Int) :
    GS w0 w3 ((wx.setCell ⟨b9, 0, none⟩ (.int .i64 x)).setCell ⟨b9, 1, none⟩ (.int .i64 y)) p xs ys v1 v2 vd b8 b9 c8 a8 x y := by
  have hn := h.ne
  exact ⟨h.B, h.i1, h.i2, h.T, h.d, below_set2 h.B3 (by omega) _ _, hn, h.f8.other _ _ (by omega), h.f9.set _ _⟩
theorem GS.all {w0 w3 wx : World} {p : Int} {xs ys : List Int} {v1 v2 vd : Value} {b8 b9 : Nat} {c8 a8 c9 a9 : Int} (h : GS w0 w3 wx p xs ys v1 v2 vd b8 b9 c8 a8 c9 a9) : Below w0.heap.size w0 wx ∧ IL wx v1 xs ∧ IL wx v2 ys ∧ TabB wx :=
  ⟨h.B.trans (h.B3.mono h.B.size), h.i1.below h.B3, h.i2.below h.B3, h.T.below h.B3⟩
set_option maxRecDepth 20000 in
set_option maxHeartbeats 4000000 in
theorem fpGcds_any (w : World) (v1 v2 : Value) (xs ys : List Int) (p : Int) (h1 : IL w v1 xs) (h2 : IL w v2 ys) (ht : TabB w) :
    Calls Tryd.prog 4 #[v1, v2, .int .i64 p] w fun e w' => e = .returned (.bool true) ∧ Below w.heap.size w w' := by
  have CG := rGcd_any w v1 v2 xs ys p h1 h2 ht
  have HBS0 : Hid (IL w v1 xs ∧ IL w v2 ys ∧ TabB w) := ⟨h1, h2, ht⟩
  clear h1 h2 ht
  obtain ⟨c1, hc1⟩ : ∃ c, ckC p xs = c := ⟨_, rfl⟩
  obtain ⟨a1, ha1⟩ : ∃ c, ckA p xs = c := ⟨_, rfl⟩
  obtain ⟨c2, hc2⟩ : ∃ c, ckC p ys = c := ⟨_, rfl⟩
  obtain ⟨a2, ha2⟩ : ∃ c, ckA p ys = c := ⟨_, rfl⟩
  obtain ⟨c8, hc8⟩ : ∃ c, ckBC p xs ys = c := ⟨_, rfl⟩
  obtain ⟨a8, ha8⟩ : ∃ c, (if ckBC p xs ys = 0 then 0 else ckBA p xs ys) = c := ⟨_, rfl⟩
  have HE : Hid ((ckC p xs = c1 ∧ ckA p xs = a1 ∧ ckC p ys = c2 ∧ ckA p ys = a2) ∧ ckBC p xs ys = c8 ∧ (if ckBC p xs ys = 0 then 0 else ckBA p xs ys) = a8) := ⟨⟨hc1, ha1, hc2, ha2⟩, hc8, ha8⟩
  clear hc1 ha1 hc2 ha2 hc8 ha8
  go_enter Tryd.func4, Tryd.ntmps4
  go_wp2_with (go_at_call 19; fail)
  refine CG.mono ?_
  rintro e w3 ⟨vd, he, hb3, hf3, ho3⟩
  rw [HE.out.2.2, HE.out.2.1] at he
  subst he
  have HD3 : Hid (GcdV p xs ys vd w3) := by
    by_cases h0 : ckBC p xs ys = 0
    · obtain ⟨z, hz, hN⟩ := ho3 h0
      exact .ok h0 z hz.view hN
    · exact .bad h0 (hf3 h0)
  have HB3 : Hid (Below w.heap.size w w3 ∧ IL w3 v1 xs ∧ IL w3 v2 ys ∧ TabB w3) := ⟨hb3, HBS0.out.1.below hb3, HBS0.out.2.1.below hb3, HBS0.out.2.2.below hb3⟩
  clear hb3 hf3 ho3 HBS0 CG
  go_upto_region 2 with fail
  refine wp_world (fun w4 => FB w4 w3.heap.size (.int .i64 c8) (.int .i64 a8) ∧ Below w3.heap.size w3 w4) ⟨FB.mk0 w3 _ _ _, bel1 _ _⟩ ?_
  rintro w4 ⟨hF4, hB4⟩
  obtain ⟨b8, hb8⟩ : ∃ x, x = w3.heap.size := ⟨_, rfl⟩
  rw [← hb8] at hF4 ⊢
  have HF4 : Hid (FB w4 b8 (.int .i64 c8) (.int .i64 a8) ∧ Below w3.heap.size w3 w4 ∧ w3.heap.size ≤ b8) := ⟨hF4, hB4, by omega⟩
  clear hb8 hF4 hB4
  have C1 := checkMod_any w4 v1 xs p (HB3.out.2.1.below HF4.out.2.1)
  rw [HE.out.1.1, HE.out.1.2.1] at C1
  go_wp2_with (go_at_call 8; fail)
  refine C1.mono ?_
  rintro e w5 ⟨rfl, hb5⟩
  have HF5 : Hid (FB w5 b8 (.int .i64 c8) (.int .i64 a8) ∧ Below w3.heap.size w3 w5) := ⟨HF4.out.1.below hb5, HF4.out.2.1.trans (hb5.mono HF4.out.2.1.size)⟩
  clear hb5 C1
  go_upto_region 3 with fail
  refine wp_world (fun w6 => GS w w3 w6 p xs ys v1 v2 vd b8 w5.heap.size c8 a8 c1 a1)
    ⟨HB3.out.1, HB3.out.2.1, HB3.out.2.2.1, HB3.out.2.2.2, HD3.out, HF5.out.2.alloc HF5.out.2.size _, ⟨HF4.out.2.2, HF5.out.1.lt⟩, HF5.out.1.alloc _, FB.mk0 w5 _ _ _⟩ ?_
  rintro w6 hST
  obtain ⟨b9, hb9⟩ : ∃ x, x = w5.heap.size := ⟨_, rfl⟩
  rw [← hb9] at hST ⊢
  have HST : Hid (GS w w3 w6 p xs ys v1 v2 vd b8 b9 c8 a8 c1 a1) := hST
  clear hb9 hST HF4 HF5 HD3 HB3
  have C2 := fun wx (hb : Below w6.heap.size w6 wx) => checkMod_any wx v2 ys p (HST.out.all.2.2.1.below hb)
  rw [HE.out.1.2.2.1, HE.out.1.2.2.2] at C2
  have HC2 : Hid _ := C2
  have HZ : Hid (c1 = 0 → c8 = c2 ∧ a8 = a2) := fun h => by
    have h1 := HE.out
    have hb : ckBC p xs ys = c2 := by unfold ckBC; rw [if_pos (by rw [h1.1.1, h]), h1.1.2.2.1]
    refine ⟨by rw [← h1.2.1, hb], ?_⟩
    rw [← h1.2.2]
    by_cases h2 : ckBC p xs ys = 0
    · rw [if_pos h2, ← h1.1.2.2.2, (ck_isF (h1.1.2.2.1.trans (hb.symm.trans h2))).ck.2]
    · rw [if_neg h2]; unfold ckBA; rw [if_pos (by rw [h1.1.1, h]), h1.1.2.2.2]
  have HNZ : Hid (c1 ≠ 0 → c8 = c1 ∧ a8 = a1) := fun h => by
    have h1 := HE.out
    have hb : ckBC p xs ys = c1 := by unfold ckBC; rw [if_neg (by rw [h1.1.1]; exact h), h1.1.1]
    refine ⟨by rw [← h1.2.1, hb], ?_⟩
    rw [← h1.2.2, if_neg (by rw [hb]; exact h)]
    unfold ckBA; rw [if_neg (by rw [h1.1.1]; exact h), h1.1.2.1]
  clear C2
  obtain ⟨l9, d0, d1, z0, z1⟩ := HST.out.f9
  go_upto_if 22 with fail
  generalize hBB : (c1 == 0) = BB
  have HBB : Hid ((c1 == 0) = BB) := hBB
  clear hBB
  go_cut [] from 23 to 25 (fun wx => GS w w3 wx p xs ys v1 v2 vd b8 b9 c8 a8 c8 a8)
  case first =>
    cases BB with
    | true =>
      have H0 : Hid (c1 = 0) := by show c1 = 0; simpa using HBB.out
      clear HBB
      go_wp2_with (go_at_call 8; fail)
      refine (HC2.out w6 (Below.refl _ _)).mono ?_
      rintro e w13 ⟨rfl, hb13⟩
      have HST4 : Hid (GS w w3 w13 p xs ys v1 v2 vd b8 b9 c8 a8 c1 a1) := HST.out.below hb13
      clear hb13 l9 d0 d1 z0 z1
      obtain ⟨l9, d0, d1, z0, z1⟩ := HST4.out.f9
      go_wp2_with fail
      go_meet
      case rel =>
        have h := HST4.out.set c2 a2
        have e := HZ.out H0.out
        rw [← e.1, ← e.2] at h ⊢
        exact h
    | false =>
      have H0 : Hid (c1 ≠ 0) := by show ¬ c1 = 0; simpa using HBB.out
      clear HBB
      go_wp2_with fail
      go_meet
      case rel =>
        have h := HST.out
        have e := HNZ.out H0.out
        rw [← e.1, ← e.2] at h
        exact h
  case rest =>
  have HST5 : Hid (GS w w3 wc p xs ys v1 v2 vd b8 b9 c8 a8 c8 a8) := hcut
  clear hcut HBB HST HC2 HZ HNZ l9 d0 d1 z0 z1
  obtain ⟨wz, hwz⟩ : ∃ x, x = wc := ⟨_, rfl⟩
  rw [← hwz] at HST5 ⊢
  clear hwz wc
  obtain ⟨l8, e0, e1, y0, y1⟩ := HST5.out.f8
  obtain ⟨l9, d0, d1, z0, z1⟩ := HST5.out.f9
  go_upto_region 5 with fail
  go_cut [32] from 26 to 31 (fun v wx => v = .bool false ∧ GS w w3 wx p xs ys v1 v2 vd b8 b9 c8 a8 c8 a8)
  case first =>
    go_wp2_with (go_at_call 12; fail)
    refine (begun_any _ HST5.out.all.2.2.2).mono ?_
    rintro e w11 ⟨rfl, hb11⟩
    have HST6 : Hid (GS w w3 w11 p xs ys v1 v2 vd b8 b9 c8 a8 c8 a8) := HST5.out.below hb11
    clear hb11 l8 e0 e1 y0 y1 l9 d0 d1 z0 z1
    obtain ⟨l8, e0, e1, y0, y1⟩ := HST6.out.f8
    obtain ⟨l9, d0, d1, z0, z1⟩ := HST6.out.f9
    go_wp2_with fail
    go_meet
    case rel => exact ⟨rfl, HST6.out⟩
  case rest =>
  obtain ⟨rfl, hst⟩ := hcut
  have HST7 : Hid (GS w w3 wc p xs ys v1 v2 vd b8 b9 c8 a8 c8 a8) := hst
  clear hst HST5 l8 e0 e1 y0 y1 l9 d0 d1 z0 z1
  obtain ⟨l8, e0, e1, y0, y1⟩ := HST7.out.f8
  by_cases h0 : c8 = 0
  · have H0 : Hid (ckBC p xs ys = 0) := by show _ = _; rw [HE.out.2.1]; exact h0
    have HFF : Hid (IsF p xs ∧ IsF p ys) := ckBC_zero H0.out
    subst h0
    by_cases h5 : 5000 < p
    · go_wp2
      refine bodyPost_ret (v := .bool true) (by simp [results, go_sem, loadVar]) rfl ?_
      exact ⟨rfl, HST7.out.all.1⟩
    · have h5' : p ≤ 5000 := by omega
      go_wp2_with (go_at_call 20; fail)
      refine (mgcd_any wc v1 v2 xs ys p HST7.out.all.2.1.vw HST7.out.all.2.2.1.vw HFF.out.1 HFF.out.2).mono ?_
      rintro e w16 ⟨u16, z16, rfl, hV16, hb16, hG16⟩
      have HST8 : Hid (GS w w3 w16 p xs ys v1 v2 vd b8 b9 0 a8 0 a8) := HST7.out.below hb16
      have HV16 : Hid (VW w16 u16 z16) := hV16
      have HZ16 : Hid (∃ z, VW w16 vd z ∧ z = z16) := by
        cases HST8.out.d with
        | bad h hu => exact absurd H0.out h
        | ok h z hV hG => exact ⟨z, hV.below HST8.out.B3, hG.uniq HFF.out.1.pr ⟨HFF.out.2.all, HFF.out.2.last⟩ hG16⟩
      have HL16 : Hid (z16.length ≤ 1000) := by
        have := hG16.len HFF.out.1.len HFF.out.2.len
        show _ ≤ _
        omega
      clear hV16 hb16 hG16 HST7
      obtain ⟨zm, hzm, ezm⟩ := HZ16.out
      subst ezm
      have CS := same_any w16 vd u16 zm zm hzm HV16.out (by have := HL16.out; omega) (by have := HL16.out; omega)
      clear hzm HZ16
      go_wp2_with (go_at_call 14; fail)
      refine CS.mono ?_
      rintro e w17 ⟨r, rfl, hr, hb17⟩
      obtain rfl : r = true := hr.2 (by trivial)
      have HB17 : Hid (Below w.heap.size w w17) := HST8.out.all.1.trans (hb17.mono HST8.out.all.1.size)
      clear hr hb17
      go_wp2
      refine bodyPost_ret (v := .bool true) (by simp [results, go_sem, loadVar]) rfl ?_
      exact ⟨rfl, HB17.out⟩
  · have h0b : (c8 != 0) = true := by simpa using h0
    have HVD : Hid (vd = .slice none 0 0) := by
      cases HST7.out.d with
      | bad h hu => exact hu
      | ok h z hV hG => exact absurd (HE.out.2.1.symm.trans h) h0
    obtain rfl := HVD.out
    go_wp2
    refine bodyPost_ret (v := .bool true) (by simp [results, go_sem, loadVar]) rfl ?_
    exact ⟨rfl, HST7.out.all.1⟩
end Go.Proofs.YtffdemplaodbcaaDoor
