/- A part of the proof: MJ, ZG. -/
import Derived.Test.YtffdemplaodbcaaDoorP37
import Derived.Test.YtffdemplaodbcaaDoorP40
import Derived.Test.YtffdemplaodbcaaDoorP39
set_option linter.all false
namespace Go.Proofs.YtffdemplaodbcaaDoor
open Go Go.Proofs Go.RowKit Go.Rad

/-- What fixed answers. -/
inductive FixP (w : World) (p : Int) (f : List Int) (n : Nat) (e : Ending) (w' : World) : Prop
  | mk (M0 : Nat → Nat → Int) (s : List Int) (ql : Nat → List Int) (k m : Nat) (N : Nat → Nat → Int) (pv fr vb : Nat → Nat) (V : Nat → Nat → Int) (v : Value) (vs : List Value) (he : e = .returned v) (hb : Below w.heap.size w w')
      (hs : Res p f (row (ppow [0, 1] p.toNat)) s) (hql : ∀ c, c < n → Res p f (row (ppow s c)) (ql c)) (hM0 : ∀ r c, r < n → c < n → M0 r c % p = ((if r = c then p - 1 else 0) + row (ql c) r) % p)
      (hX : FX p n M0 n k N pv m fr V) (hO : OWS w' w.heap.size v vs) (hl : vs.length = m) (hi : ∀ i, i < m → vs[i]? = some (.slice (some ⟨vb i, 0, none⟩) (fr i + 1 : Nat) (fr i + 1 : Nat))) (ha : ∀ i, i < m → OA w' w.heap.size (vb i) (fr i + 1) (V i))
      (hn : ∀ i, i < m → v.ownBlock ≠ some (vb i))
/-- The state of fixed's loop. -/
inductive FS (w wr : World) (B R n : Nat) (p q : Int) (M0 : Nat → Nat → Int) (b4 : Nat) (vv pp i : Value) (c : Nat) : Prop
  | mk (k m : Nat) (rb : Nat → Nat) (N : Nat → Nat → Int) (pv fr vb : Nat → Nat) (V : Nat → Nat → Int) (vs : List Value) (pl : List Int) (hi : i = .int .i64 c) (hX : FX p n M0 c k N pv m fr V) (hM : MT wr B R n rb N)
      (hN : ∀ i j, i < n → j < n → 0 ≤ N i j ∧ N i j < q) (hO : OV wr B (SwK R n rb) vv vs m fr vb V pp pl) (hpl : pl.length = k) (hpv : ∀ i, i < k → pl.getD i 0 = pv i) (hF : FB wr b4 (.int .i64 p) (.int .i64 q)) (hB : Below B w wr) 
theorem swk_lt {w : World} {B R n : Nat} {rb : Nat → Nat} {M : Nat → Nat → Int} (h : MT w B R n rb M) : ∀ g, SwK R n rb g → g < w.heap.size := fun g hg => by
  rcases hg with rfl | ⟨i, hi, rfl⟩
  · exact h.lt
  · exact (h.row i hi).lt
theorem swk_ge {w : World} {B R n : Nat} {rb : Nat → Nat} {M : Nat → Nat → Int} (h : MT w B R n rb M) : ∀ g, SwK R n rb g → B ≤ g := fun g hg => by
  rcases hg with rfl | ⟨i, hi, rfl⟩
  · exact h.base
  · exact (h.row i hi).base
theorem FB.kept9 {w w' : World} {b : Nat} {u0 u1 : Value} {S : Nat → Prop} (h : FB w b u0 u1) (hk : Kept S w w') (hs : ¬ S b) : FB w' b u0 u1 :=
  ⟨Nat.lt_of_lt_of_le h.lt hk.size, (hk.cell h.lt hs).trans h.c0, (hk.cell h.lt hs).trans h.c1, (hk.froz h.lt hs).trans h.f0, (hk.froz h.lt hs).trans h.f1⟩
set_option maxRecDepth 20000 in
set_option maxHeartbeats 4000000 in
theorem fixed_any (w : World) (p q : Int) (b2 o2 n c2 : Nat) (y : Nat → Int) (hM : MD w p b2 o2 n c2 y) (hb2 : b2 < w.heap.size) (hq : q = p * p) (hpr : PrI p) (hn : n ≤ 1000) (hn0 : 0 < n) :
    Calls Tryd.prog 51 #[FV p q, .slice (some ⟨b2, o2, none⟩) (n + 1 : Nat) c2] w fun e w' => FixP w p (lst y (n + 1)) n e w' := by
  have hp : 1 < p ∧ p < 2147483648 := by
    obtain ⟨P, h1, h2, h3⟩ := hpr
    have := h2.1
    omega
  have hq2 : q < 4611686018427387904 := by
    have h1 := sq_lt (by omega : (0 : Int) ≤ p) hp.2 (by omega) hp.2
    rw [hq]; exact h1.2
  have HPR : Hid (PrI p) := hpr
  have HM : Hid (MD w p b2 o2 n c2 y) := hM
  have HB2 : Hid (b2 < w.heap.size) := hb2
  have HQ : Hid (q = p * p) := hq
  have HN1 : Hid (n ≤ 1000) := hn
  have hni : (n : Int) ≤ 1000 := by omega
  clear hM hb2 hq hpr hn
  go_enter Tryd.func51, Tryd.ntmps51
  go_upto_region 1 with fail
  refine wp_world (fun w1 => Below w.heap.size w w1 ∧ FB w1 w.heap.size (.int .i64 p) (.int .i64 q)) ⟨bel1 _ _, FB.mk0 _ _ _ _⟩ ?_
  rintro w1 ⟨hB1, hF1⟩
  obtain ⟨b4, hb4⟩ : ∃ x, x = w.heap.size := ⟨_, rfl⟩
  rw [← hb4] at hF1 ⊢
  have H4 : Hid (b4 = w.heap.size) := hb4
  have HB1 : Hid (Below w.heap.size w w1) := hB1
  have HF1 : Hid (FB w1 b4 (.int .i64 p) (.int .i64 q)) := hF1
  clear hB1 hb4
  obtain ⟨l4, k40, k41, z4, z5⟩ := hF1
  go_wp2_with (go_at_call 70; fail)
  refine (equations_any w1 p q b2 o2 n c2 y (HM.out.below HB1.out) (Nat.lt_of_lt_of_le HB2.out HB1.out.size) HQ.out hp HN1.out hn0).mono ?_
  rintro e w2 ⟨R, rb0, M0, s, ql, rfl, hM2, hb2', hbd, hs, hql, hM0⟩
  have HR1 : Hid (Res p (lst y (n + 1)) (row (ppow [0, 1] p.toNat)) s ∧ (∀ c, c < n → Res p (lst y (n + 1)) (row (ppow s c)) (ql c)) ∧ ∀ r c, r < n → c < n → M0 r c % p = ((if r = c then p - 1 else 0) + row (ql c) r) % p) := ⟨hs, hql, hM0⟩
  have HS0 : Hid (FS w1 w2 w1.heap.size R n p q M0 b4 (.slice none 0 0) (.slice none 0 0) (.int .i64 0) 0) :=
    .mk 0 0 rb0 M0 (fun _ => 0) (fun _ => 0) (fun _ => 0) (fun _ _ => 0) [] [] rfl (.start _ _ _ _) hM2 hbd (.start _ _ _ _ _ _) rfl (fun i hi => by omega) (HF1.out.below hb2') hb2'
  have HG : Hid (b4 < w1.heap.size) := HF1.out.lt
  clear l4 k40 k41 z4 z5 hM2 hb2' hbd hs hql hM0
  go_wp2
  go_loopw [6, 7, 16] (fun vv pp i wr => ∃ c, c ≤ n ∧ FS w1 wr w1.heap.size R n p q M0 b4 vv pp i c) (fun _ _ i _ => n - (Lib.intOf i).toNat)
  case atStart => exact ⟨0, by omega, HS0.out⟩
  case round =>
    obtain ⟨c, hcn, hFS⟩ := hrel
    obtain ⟨k, m, rb, N, pv, fr, vb, V, vs, pl, rfl, hX, hM, hN, hO, hpl, hpv, hF, hB⟩ := hFS
    have HX : Hid (FX p n M0 c k N pv m fr V) := hX
    have HMr : Hid (MT wr w1.heap.size R n rb N) := hM
    have HN : Hid (∀ i j, i < n → j < n → 0 ≤ N i j ∧ N i j < q) := hN
    have HO : Hid (OV wr w1.heap.size (SwK R n rb) u6 vs m fr vb V u7 pl) := hO
    have HPL : Hid (pl.length = k ∧ ∀ i, i < k → pl.getD i 0 = pv i) := ⟨hpl, hpv⟩
    have HF : Hid (FB wr b4 (.int .i64 p) (.int .i64 q)) := hF
    have HB : Hid (Below w1.heap.size w1 wr) := hB
    clear hX hM hN hO hpl hpv hF hB
    by_cases hc : c < n
    · have hci : (c : Int) < (n : Int) := by omega
      obtain ⟨cap7, a7, hu7⟩ : ∃ cap a, u7 = .slice a k cap := by
        have h := HO.out.op
        have hk := HPL.out.1
        rcases h.2 with ⟨hv, h0⟩ | ⟨g, cap, cur, hv, _⟩
        · exact ⟨0, none, by rw [hv, ← hk, h0]⟩
        · exact ⟨cap, _, by rw [hv, hk]⟩
      have hkm := HX.out.cnt
      have hkn : k ≤ n := by omega
      have hw4 : wrap64 ((c : Int) + 1) = (c : Int) + 1 := wrap_in (by omega) (by omega)
      subst hu7
      obtain ⟨l4, k40, k41, z4, z5⟩ := HF.out
      clear hkm
      go_wp2_with (go_at_call 71; fail)
      refine (find_any wr p q w1.heap.size R n c k rb N HMr.out hp hq2 hc hkn HN1.out HN.out).mono ?_
      rintro e w3 hfp
      cases hfp with
      | none he hb3 h0 =>
        subst he
        have HO3 : Hid (OV w3 w1.heap.size (SwK R n rb) u6 vs m fr vb V (.slice a7 k cap7) pl) := HO.out.below hb3
        have HM3 : Hid (MT w3 w1.heap.size R n rb N) := HMr.out.below hb3
        have HF3 : Hid (FB w3 b4 (.int .i64 p) (.int .i64 q)) := HF.out.below hb3
        have HB3 : Hid (Below w1.heap.size w1 w3) := HB.out.trans (hb3.mono HB.out.size)
        have H0 : Hid (∀ r, k ≤ r → r < n → N r c % p = 0) := h0
        clear l4 k40 k41 z4 z5 hb3 h0
        obtain ⟨l4, k40, k41, z4, z5⟩ := HF3.out
        have HVP : Hid (VW w3 (.slice a7 k cap7) pl) := (sr_of_row HO3.out.op).view
        have CS := solution_any w3 p q w1.heap.size R n c rb N (.slice a7 k cap7) pl HM3.out HVP.out hp hq2 hc HN1.out HN.out (by rw [HPL.out.1]; exact hkn) (fun j hj => by
          have h1 := HPL.out.1
          rw [HPL.out.2 j (by omega)]
          have := HX.out.el.lt j (by omega)
          omega) (fun i j hij hj => by
          have h1 := HPL.out.1
          rw [HPL.out.2 i (by omega), HPL.out.2 j (by omega)]
          have := HX.out.el.inc i j hij (by omega)
          omega)
        go_wp2_with (go_at_call 72; fail)
        refine CS.mono ?_
        rintro e w4 ⟨bs, ys, rfl, hOs, hb4', hys⟩
        have HO4 : Hid (OV w4 w1.heap.size (SwK R n rb) u6 vs m fr vb V (.slice a7 k cap7) pl) := HO3.out.below hb4'
        have HM4 : Hid (MT w4 w1.heap.size R n rb N) := HM3.out.below hb4'
        have HF4 : Hid (FB w4 b4 (.int .i64 p) (.int .i64 q)) := HF3.out.below hb4'
        have HB4 : Hid (Below w1.heap.size w1 w4) := HB3.out.trans (hb4'.mono HB3.out.size)
        have HOS : Hid (OA w4 w3.heap.size bs (c + 1) ys) := hOs
        have HSM : Hid (∀ g, SwK R n rb g → g < w3.heap.size) := swk_lt HM3.out
        have HYS : Hid (SolV p N c pl pl.length ys) := hys
        clear l4 k40 k41 z4 z5 hOs hb4' hys CS
        have hown : OWS (w4.alloc (.cells #[.slice (some ⟨bs, 0, none⟩) (c + 1 : Nat) (c + 1 : Nat)] 22)) w1.heap.size u6 vs := (HO4.out.below (bel1 w4 _)).ov
        go_wp2_with (refine wpList_appendS (by rfl) _ _ (by rfl) (by rfl) (HO4.out.below (bel1 w4 _)).ov _ _ (.slice (some ⟨bs, 0, none⟩) (c + 1 : Nat) (c + 1 : Nat)) _ _ _ rfl (by rfl) (by simp [go_sem]) (by have := HO4.out.vl; have := HX.out.cnt; omega) (by have := HB4.out.size; simp; omega) ?_; intro v' w5 ho5 hk5 hg5)
        have HNEW : Hid (∃ c₁, c₁ ≤ n ∧ FS w1 w5 w1.heap.size R n p q M0 b4 v' (.slice a7 k cap7) (.int .i64 ((c : Int) + 1)) c₁) := by
          have hsz : w4.heap.size ≤ (w4.alloc (.cells #[.slice (some ⟨bs, 0, none⟩) (c + 1 : Nat) (c + 1 : Nat)] 22)).heap.size := (bel1 w4 _).size
          have h34 : w3.heap.size ≤ bs := HOS.out.base
          have hbs : ∀ g, SwK R n rb g → g ≠ bs := fun g hg e => by have := HSM.out g hg; omega
          have hob : ∀ g, u6.ownBlock = some g → g ≠ bs := fun g hg e => by
            have := (ownsRow_at HO3.out.ov hg).2.1
            omega
          have hop : ∀ g, (Value.slice a7 k cap7).ownBlock = some g → g ≠ bs := fun g hg e => by
            have := (ownsRow_at HO3.out.op hg).2.1
            omega
          have hOO := HO4.out.below (bel1 w4 (.cells #[.slice (some ⟨bs, 0, none⟩) (c + 1 : Nat) (c + 1 : Nat)] 22))
          have hMM := HM4.out.below (bel1 w4 (.cells #[.slice (some ⟨bs, 0, none⟩) (c + 1 : Nat) (c + 1 : Nat)] 22))
          have hB2 := HB4.out.trans ((bel1 w4 (.cells #[.slice (some ⟨bs, 0, none⟩) (c + 1 : Nat) (c + 1 : Nat)] 22)).mono HB4.out.size)
          refine ⟨c + 1, hc, .mk k (m + 1) rb N pv _ _ _ _ pl rfl
            (HX.out.free hp.1 H0.out HPL.out.1 HPL.out.2 HYS.out (fun j hj => HYS.out.zero j (by omega) fun r hr => by have h1 := HPL.out.1; rw [HPL.out.2 r (by omega)]; have := HX.out.el.lt r (by omega); omega)) (hMM.kept hk5 fun g h1 h2 => hOO.nv g h1 h2) HN.out
            (hOO.addV (b := bs) (c := c) (y := ys) ((HOS.out.below (bel1 w4 _)).mono (by have := HB3.out.size; omega)) (fun e => hbs _ e rfl) ⟨fun e => hob _ e rfl, fun e => hop _ e rfl⟩ (fun g hg => by have := HSM.out g hg; have := HB4.out.size; have h9 := HOS.out.lt; omega) ho5 hk5 hg5) HPL.out.1 HPL.out.2
            ((HF4.out.below (bel1 w4 _)).kept9 hk5 fun e => by have := (ownsRow_at hOO.ov e).1; have := HG.out; omega) (hB2.trans ⟨hk5.os, hk5.tape, hk5.output, hk5.size, fun g hg => hk5.block g (by have := hB2.size; omega) fun e => by have := (ownsRow_at hOO.ov e).1; omega⟩)⟩
        clear ho5 hk5 hg5 hown
        go_wp2
        try rw [hw4]
        exact ⟨HNEW.out, meas_up hc⟩
      | some r he hb3 h1 h2 h3 =>
        subst he
        obtain ⟨rk, hrk⟩ : ∃ x, x = rb k := ⟨_, rfl⟩
        obtain ⟨rr, hrr⟩ : ∃ x, x = rb r := ⟨_, rfl⟩
        have HRR : Hid (rk = rb k ∧ rr = rb r) := ⟨hrk, hrr⟩
        have HO3 : Hid (OV w3 w1.heap.size (SwK R n rb) u6 vs m fr vb V (.slice a7 k cap7) pl) := HO.out.below hb3
        have HM3 : Hid (MT w3 w1.heap.size R n rb N) := HMr.out.below hb3
        have HF3 : Hid (FB w3 b4 (.int .i64 p) (.int .i64 q)) := HF.out.below hb3
        have HB3 : Hid (Below w1.heap.size w1 w3) := HB.out.trans (hb3.mono HB.out.size)
        have HNE : Hid (N r c % p ≠ 0) := h3
        have hkn2 : k < n := by omega
        have hkni : (k : Int) < (n : Int) := by omega
        have hrni : (r : Int) < (n : Int) := by omega
        have hr0 : ¬ ((r : Int) < 0) := by omega
        have HRN : Hid (k ≤ r ∧ r < n) := ⟨h1, h2⟩
        have ck := HM3.out.cR k hkn2
        have cr := HM3.out.cR r h2
        rw [← hrk] at ck
        rw [← hrr] at cr
        have zk := HM3.out.zR k hkn2
        have zr := HM3.out.zR r h2
        have lR := HM3.out.lt
        clear l4 k40 k41 z4 z5 hb3 h3 hrk hrr h1 h2
        go_upto_region 11 with fail
        go_cut [] from 37 to 50 (fun wx => MT wx w1.heap.size R n (fun i => if i = k then rb r else if i = r then rb k else rb i) (swp k r N) ∧ Kept (fun g => g = R) w3 wx)
        case first =>
          by_cases hkr : r = k
          · have hkr' : rr = rk := by rw [HRR.out.1, HRR.out.2, hkr]
            subst hkr
            subst hkr'
            go_region
            go_wp2_with fail
            go_meet
            case rel =>
              have hm := HM3.out.swap hkn2 HRN.out.2
              rw [← HRR.out.1] at hm ⊢
              exact ⟨hm.below (bel_drew _), (Kept.set (S := fun g => g = R) (Kept.set (S := fun g => g = R) (Kept.refl _ w3) rfl _) rfl _).trans (.of_below (bel_drew _))⟩
          · have hkr2 : ¬ k = r := fun e => hkr e.symm
            go_region
            go_wp2_with fail
            go_meet
            case rel =>
              have hm := HM3.out.swap hkn2 HRN.out.2
              rw [← HRR.out.1, ← HRR.out.2] at hm
              rw [← HRR.out.1, ← HRR.out.2]
              exact ⟨hm.below (bel_drew _), (Kept.set (S := fun g => g = R) (Kept.set (S := fun g => g = R) (Kept.refl _ w3) rfl _) rfl _).trans (.of_below (bel_drew _))⟩
        case rest =>
        obtain ⟨hMc, hKc⟩ := hcut
        obtain ⟨rb1, hrb1⟩ : ∃ f : Nat → Nat, f = fun i => if i = k then rb r else if i = r then rb k else rb i := ⟨_, rfl⟩
        rw [← hrb1] at hMc
        have HT1 : Hid (∀ g, SwK R n rb1 g → SwK R n rb g) := by
          intro g hg
          rcases hg with e | ⟨i, hi, e⟩
          · exact .inl e
          · rw [hrb1] at e
            have e2 : g = (if i = k then rb r else if i = r then rb k else rb i) := e
            split at e2
            · exact .inr ⟨r, HRN.out.2, e2⟩
            · split at e2
              · exact .inr ⟨k, hkn2, e2⟩
              · exact .inr ⟨i, hi, e2⟩
        have HRW : Hid (w1.heap.size ≤ R) := HM3.out.base
        have HMc : Hid (MT wc w1.heap.size R n rb1 (swp k r N)) := hMc
        have HOc : Hid (OV wc w1.heap.size (SwK R n rb1) u6 vs m fr vb V (.slice a7 k cap7) pl) := HO3.out.move (hKc.mono fun g e => .inl e) fun g _ => HT1.out g
        have HFc : Hid (FB wc b4 (.int .i64 p) (.int .i64 q)) := HF3.out.kept9 hKc (by have := HG.out; have := HRW.out; omega)
        have HBc : Hid (Below w1.heap.size w1 wc) := HB3.out.trans (hKc.below HB3.out.size fun g hg e => by have := HRW.out; omega)
        have HNb : Hid (∀ i j, i < n → j < n → 0 ≤ swp k r N i j ∧ swp k r N i j < q) := fun i j hi hj => by
          unfold swp
          split
          · exact HN.out r j HRN.out.2 hj
          · split
            · exact HN.out k j hkn2 hj
            · exact HN.out i j hi hj
        have HNe : Hid (swp k r N k c % p ≠ 0) := by unfold swp; rw [if_pos rfl]; exact HNE.out
        have HXs : Hid (FX p n M0 c k (swp k r N) pv m fr V) := HX.out.swap HRN.out.1 HRN.out.2
        clear hMc hKc hrb1 ck cr zk zr lR HO3 HM3 HF3 HB3
        obtain ⟨l4, k40, k41, z4, z5⟩ := HFc.out
        have CW := sweep_any wc p q w1.heap.size R n k c rb1 (swp k r N) HMc.out HBc.out.size HQ.out HPR.out hkn2 hc HN1.out HNb.out HNe.out
        go_wp2_with (go_at_call 73; fail)
        refine CW.mono ?_
        rintro e w8 ⟨rb2, N2, ys, r8, rfl, hM8, hb8, hk8, hrb8, hN8, hr8, hy8, hh8⟩
        have HM8 : Hid (MT w8 w1.heap.size R n rb2 N2) := hM8
        have HO8 : Hid (OV w8 w1.heap.size (SwK R n rb2) u6 vs m fr vb V (.slice a7 k cap7) pl) := HOc.out.move hk8 fun g hg hg2 => by
          rcases hg2 with e | ⟨i, hi, e⟩
          · exact .inl e
          · rcases hrb8 i hi with h9 | h9
            · exact .inr ⟨i, hi, e.trans h9⟩
            · omega
        have HF8 : Hid (FB w8 b4 (.int .i64 p) (.int .i64 q)) := HFc.out.kept9 hk8 fun hg => by have := swk_ge HMc.out _ hg; have := HG.out; omega
        have HB8 : Hid (Below w1.heap.size w1 w8) := HBc.out.trans hb8
        have HN8 : Hid (∀ i j, i < n → j < n → 0 ≤ N2 i j ∧ N2 i j < q) := hN8
        have HX8 : Hid (FX p n M0 (c + 1) (k + 1) N2 (fun i => if i = k then c else pv i) m fr V) := HXs.out.step hp.1 hkn2 hc hr8 hy8 hh8
        have HPL8 : Hid ((pl ++ [(c : Int)]).length = k + 1 ∧ ∀ i, i < k + 1 → (pl ++ [(c : Int)]).getD i 0 = (((if i = k then c else pv i) : Nat) : Int)) := by
          have h1 := HPL.out.1
          refine ⟨by simp [h1], fun i hi => ?_⟩
          by_cases hik : i = k
          · rw [if_pos hik, List.getD_eq_getElem?_getD, List.getElem?_append_right (by omega), hik, h1, Nat.sub_self]; rfl
          · rw [if_neg hik, List.getD_eq_getElem?_getD, List.getElem?_append_left (by omega), ← List.getD_eq_getElem?_getD]
            exact HPL.out.2 i (by omega)
        clear l4 k40 k41 z4 z5 hM8 hb8 hk8 hrb8 hN8 hr8 hy8 hh8 CW
        go_wp2_with (refine wpList_appendI2 (by rfl) _ _ (by rfl) (by rfl) (HO8.out.below (bel1 w8 _)).op _ _ (c : Int) (by rfl) (by simp [go_sem]) (by have := HPL.out.1; omega) (by have := HB8.out.size; simp; omega) ?_; intro v' w9 ho9 hk9 hg9)
        have HNEW : Hid (∃ c₁, c₁ ≤ n ∧ FS w1 w9 w1.heap.size R n p q M0 b4 u6 v' (.int .i64 ((c : Int) + 1)) c₁) := by
          have hOO := HO8.out.below (bel1 w8 (.cells #[.int .i64 (c : Int)] 3))
          have hMM := HM8.out.below (bel1 w8 (.cells #[.int .i64 (c : Int)] 3))
          have hB2 := HB8.out.trans ((bel1 w8 (.cells #[.int .i64 (c : Int)] 3)).mono HB8.out.size)
          exact ⟨c + 1, hc, .mk (k + 1) m rb2 N2 _ fr vb V vs (pl ++ [(c : Int)]) rfl HX8.out (hMM.kept hk9 fun g h1 h2 => hOO.np g h1 h2) HN8.out
            (hOO.addP (swk_lt hMM) ho9 hk9 hg9) HPL8.out.1 HPL8.out.2
            ((HF8.out.below (bel1 w8 _)).kept9 hk9 fun e => by have := (ownsRow_at hOO.op e).1; have := HG.out; omega) (hB2.trans ⟨hk9.os, hk9.tape, hk9.output, hk9.size, fun g hg => hk9.block g (by have := hB2.size; omega) fun e => by have := (ownsRow_at hOO.op e).1; omega⟩)⟩
        clear ho9 hk9 hg9
        go_wp2
        try rw [hw4]
        exact ⟨HNEW.out, meas_up hc⟩
    · obtain rfl : c = n := by omega
      have hki : ¬ ((c : Int) < (c : Int)) := by omega
      have RR : Hid (FixP w p (lst y (c + 1)) c (.returned u6) wr) := by
        have hb9 : ∀ {b l : Nat} {g : Nat → Int}, OA wr w1.heap.size b l g → OA wr w.heap.size b l g := fun h => h.mono HB1.out.size
        exact .mk M0 s ql k m N pv fr vb V u6 vs rfl (HB1.out.trans (HB.out.mono HB1.out.size)) HR1.out.1 HR1.out.2.1 HR1.out.2.2 HX.out ⟨HO.out.ov.1, by
          rcases HO.out.ov.2 with h | ⟨g, cap, cur, h1, h2, h3⟩
          · exact .inl h
          · exact .inr ⟨g, cap, cur, h1, Nat.le_trans HB1.out.size h2, h3⟩⟩ HO.out.vl HO.out.vi (fun i hi => hb9 (HO.out.oa i hi)) (fun i hi => (HO.out.nb i hi).1)
      go_wp2
      refine bodyPost_ret (v := u6) (by simp [results, go_sem, loadVar]) rfl ?_
      exact RR.out
end Go.Proofs.YtffdemplaodbcaaDoor
namespace Go.Proofs.YtffdemplaodbcaaDoor
open Go Go.Proofs Go.RowKit Go.Rad
open _root_.Rad (CR Prm)

/-! The equations for what is its own power by p. -/
theorem pmul_one (a b : Int) (j : Nat) : row (pmul [a] [b]) j = row [a * b] j := by
  rw [row_pmul]
  show a * row [b] j + sft (fun _ => 0) j = _
  cases j with
  | zero => rw [row_getD, row_getD]; show a * b + 0 = a * b; omega
  | succ j => rw [row_getD, row_getD]; show a * 0 + 0 = 0; omega
theorem mq_num_pw {p : Int} {m : List Int} (a : Int) : ∀ n, CR.pw (mq [a] : Am p m) n = mq [a ^ n]
  | 0 => by rw [Int.pow_zero]; rfl
  | n + 1 => by
    show CR.pw (mq [a] : Am p m) n * mq [a] = _
    rw [mq_num_pw a n, mk_mul]
    exact mk_row fun j => by rw [pmul_one, Int.pow_succ]
theorem mq_num {p : Int} {m : List Int} {a b : Int} (h : a % p = b % p) : (mq [a] : Am p m) = mq [b] := by
  refine mk_eq.2 (.of fun j => ?_)
  rw [row_getD, row_getD]
  cases j with
  | zero => exact h
  | succ j => rfl
theorem mq_fermat {P : Nat} {m : List Int} (hp : Prm P) (k : Int) : CR.pw (mq [k] : Am (P : Int) m) P = mq [k] := by
  have h2 := hp.two
  obtain ⟨a, ha⟩ : ∃ a : Nat, k % (P : Int) = a := ⟨(k % (P : Int)).toNat, by have := Int.emod_nonneg k (show (P : Int) ≠ 0 by omega); omega⟩
  have e : (mq [k] : Am (P : Int) m) = mq [(a : Int)] := mq_num (by rw [← ha, Int.emod_emod])
  rw [e, mq_num_pw]
  refine mq_num ?_
  have h := _root_.Rad.fermat hp a
  have h3 : (((a ^ P : Nat) : Int)) % (P : Int) = (a : Int) % (P : Int) := by
    rw [← Int.natCast_emod, ← Int.natCast_emod, h]
  rw [← h3, Int.natCast_pow]
theorem ev_pw {P : Nat} {m : List Int} (hp : Prm P) (t : Am (P : Int) m) : ∀ x : List Int, CR.pw (CR.ev (x.map fun k => (mq [k] : Am (P : Int) m)) t) P = CR.ev (x.map fun k => (mq [k] : Am (P : Int) m)) (CR.pw t P)
  | [] => CR.zero_pw (by have := hp.two; omega)
  | k :: x => by
    show CR.pw (mq [k] + t * CR.ev (x.map fun k => (mq [k] : Am (P : Int) m)) t) P = mq [k] + CR.pw t P * CR.ev (x.map fun k => (mq [k] : Am (P : Int) m)) (CR.pw t P)
    rw [CR.dream hp (am_char P m), CR.mul_pw, mq_fermat hp, ev_pw hp t x]
theorem ev_sum {p : Int} {m : List Int} (t : Am p m) : ∀ x : List Int, CR.ev (x.map fun k => (mq [k] : Am p m)) t = CR.sA (fun c => mq [row x c] * CR.pw t c) x.length
  | [] => rfl
  | k :: x => by
    show mq [k] + t * CR.ev (x.map fun k => (mq [k] : Am p m)) t = CR.sA (fun c => mq [row (k :: x) c] * CR.pw t c) (x.length + 1)
    rw [CR.sA_succ, ev_sum t x]
    congr 1
    · rw [row_getD]; exact (CR.mul_one _).symm
    · rw [CR.mul_comm, ← CR.sA_mul]
      refine CR.sA_congr fun c hc => ?_
      have e : row (k :: x) (c + 1) = row x c := by rw [row_getD, row_getD]; rfl
      rw [e, CR.mul_assoc]
      rfl
theorem sum_rows {p : Int} {m : List Int} {n : Nat} (v : Nat → Int) (pl : Nat → List Int) (hl : ∀ c, c < n → (pl c).length ≤ n) : ∀ k, k ≤ n → CR.sA (fun c => (mq [v c] : Am p m) * mq (pl c)) k = mq (lst (fun r => sI (fun c => row (pl c) r * v c) k) n)
  | 0, _ => by
    show (0 : Am p m) = _
    rw [mk_zero]
    refine mk_row fun j => ?_
    rw [row_nil, row_lst]
    unfold cut
    split <;> rfl
  | k + 1, hk => by
    show CR.sA (fun c => (mq [v c] : Am p m) * mq (pl c)) k + mq [v k] * mq (pl k) = _
    rw [sum_rows v pl hl k (by omega), mk_mul, mk_add]
    refine mk_row fun j => ?_
    rw [row_padd, row_lst, row_lst, row_pmul]
    show cut _ n j + (v k * row (pl k) j + sft (fun _ => 0) j) = _
    have e : sft (fun _ => 0) j = 0 := by cases j <;> rfl
    rw [e, Int.add_zero]
    unfold cut
    split
    · show _ = sI (fun c => row (pl c) j * v c) k + row (pl k) j * v k
      rw [Int.mul_comm (v k)]
    · rename_i hj
      rw [row_ge (pl k) j (by have := hl k (by omega); omega), Int.mul_zero]; rfl
/-- What is its own power by P solves the equations. -/
theorem Mo.sol {P : Nat} {f : List Int} {n : Nat} (h : Mo P f n) (hp : Prm P) (s : List Int) (hs : (mq s : Am (P : Int) f) = CR.pw (mq [0, 1]) P) (pl : Nat → List Int) (hl : ∀ c, c < n → (pl c).length ≤ n)
    (hpl : ∀ c, c < n → (mq (pl c) : Am (P : Int) f) = CR.pw (mq s) c) (M : Nat → Nat → Int) (hM : ∀ r c, r < n → c < n → M r c % (P : Int) = ((if r = c then (P : Int) - 1 else 0) + row (pl c) r) % (P : Int))
    (v : List Int) (hv : v.length = n) (he : CR.pw (mq v : Am (P : Int) f) P = mq v) : Sol P n M (row v) := by
  have h2 := hp.two
  have e1 : (mq v : Am (P : Int) f) = mq (lst (fun r => sI (fun c => row (pl c) r * row v c) n) n) := by
    rw [← sum_rows (row v) pl hl n (Nat.le_refl _), ← he]
    conv => lhs; rw [← mk_ev (p := (P : Int)) (m := f) v, ev_pw hp, ← hs, ev_sum, hv]
    exact CR.sA_congr fun c hc => by rw [hpl c hc]
  have e2 := h.same (by omega) (fun j hj => row_ge v j (by omega)) (fun j hj => row_ge _ j (by rw [lst_length]; exact hj)) e1
  intro r hr
  have e3 := e2 r
  rw [row_lst] at e3
  unfold cut at e3
  rw [if_pos hr] at e3
  have e4 : sI (fun j => M r j * row v j) n % (P : Int) = sI (fun j => (if j = r then ((P : Int) - 1) * row v r else 0) + row (pl j) r * row v j) n % (P : Int) := sI_cong fun j hj => by
    rw [Int.mul_emod, hM r j hr hj, ← Int.mul_emod, Int.add_mul]
    congr 2
    by_cases hj' : j = r
    · rw [if_pos hj'.symm, if_pos hj', hj']
    · rw [if_neg (fun e => hj' e.symm), if_neg hj', Int.zero_mul]
  rw [e4, sI_add, sI_one r _ n hr, Int.add_emod, ← e3, ← Int.add_emod]
  have e5 : ((P : Int) - 1) * row v r + row v r = (P : Int) * row v r := by rw [Int.sub_mul, Int.one_mul]; omega
  rw [e5, Int.mul_emod_right]
/-- At the end of elimination with one free column what is its own power by P is a number. -/
theorem Mo.const {P : Nat} {f : List Int} {n : Nat} (h : Mo P f n) (hp : Prm P) (s : List Int) (hs : (mq s : Am (P : Int) f) = CR.pw (mq [0, 1]) P) (pl : Nat → List Int) (hl : ∀ c, c < n → (pl c).length ≤ n)
    (hpl : ∀ c, c < n → (mq (pl c) : Am (P : Int) f) = CR.pw (mq s) c) (M N : Nat → Nat → Int) (hM : ∀ r c, r < n → c < n → M r c % (P : Int) = ((if r = c then (P : Int) - 1 else 0) + row (pl c) r) % (P : Int))
    (hMN : ∀ v, Sol P n M v → Sol P n N v) {k : Nat} (hn : n = k + 1) (pv : Nat → Nat) (hE : Elim P n n k N pv) (a : Am (P : Int) f) (ha : CR.pw a P = a) : ∃ k : Int, a = mq [k] := by
  have h2 := hp.two
  have sol := fun (v : List Int) (hv : v.length = n) (he : CR.pw (mq v : Am (P : Int) f) P = mq v) => hMN _ (h.sol hp s hs pl hl hpl M hM v hv he)
  have e1 : (mq (lst (row [1]) n) : Am (P : Int) f) = 1 := by
    rw [mk_one]
    refine mk_row fun j => ?_
    rw [row_lst]
    unfold cut
    split
    · rfl
    · rw [row_ge [1] j (by simp; omega)]
  have s1 := sol (lst (row [1]) n) (lst_length _ _) (by rw [e1, CR.one_pw])
  have s1' : Sol P n N (fun j => if j = 0 then 1 else 0) := fun r hr => by
    refine (sI_cong fun j hj => ?_).trans (s1 r hr)
    rw [row_lst]
    unfold cut
    rw [if_pos hj, row_getD]
    cases j <;> rfl
  obtain ⟨x, rfl⟩ := mk_rep a
  obtain ⟨z, hz, hc⟩ := h.rest _ x (Nat.le_refl _)
  have e2 : (mq x : Am (P : Int) f) = mq (lst (row z) n) := by
    rw [mk_eq.2 hc]
    refine mk_row fun j => ?_
    rw [row_lst]
    unfold cut
    split
    · rfl
    · rw [row_ge z j (by omega)]
  rw [e2] at ha ⊢
  have s2 := hE.const (by omega) hn s1' _ (sol _ (lst_length _ _) ha)
  refine ⟨row (lst (row z) n) 0, mk_eq.2 (.of fun j => ?_)⟩
  cases j with
  | zero => rw [row_getD [row (lst (row z) n) 0]]; rfl
  | succ j =>
    rw [row_getD [row (lst (row z) n) 0]]
    show _ = (0 : Int) % _
    rcases Nat.lt_or_ge (j + 1) n with h3 | h3
    · rw [s2 (j + 1) (by omega) h3]; rfl
    · rw [row_ge _ (j + 1) (by rw [lst_length]; exact h3)]
/-- Fermat's theorem from what Irreducible finds. -/
theorem Mo.irreducible {P : Nat} {f : List Int} {n : Nat} (h : Mo P f n) (hp : Prm P) (hP : PrI (P : Int)) (hn : 0 < n) {g z : List Int} (hG : GcdR P f g z) (hg : (mq g : Am (P : Int) []) = mq (der f)) (hz : z.length ≤ 1)
    (hc : ∀ a : Am (P : Int) f, CR.pw a P = a → ∃ k : Int, a = mq [k]) (N : Nat) : CR.pw (mq [0, 1] : Am (P : Int) f) (P ^ N) = mq [0, 1] ↔ N % n = 0 := by
  have hs := hG.sqf hP (by have := h.len; omega) hz
  rw [hg] at hs
  exact h.fermat hp hn (fun a ha => h.unit hp hP hn hs hc a ha) hc N
end Go.Proofs.YtffdemplaodbcaaDoor
