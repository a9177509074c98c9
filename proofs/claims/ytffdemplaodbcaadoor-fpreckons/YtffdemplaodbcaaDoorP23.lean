/- A part of the proof: QB, QC. -/
import Derived.Test.YtffdemplaodbcaaDoorP22
set_option linter.all false
namespace Go.Proofs.YtffdemplaodbcaaDoor
open Go Go.Proofs Go.RowKit Go.Rad

def vlen : Value → Nat
  | .slice _ n _ => n
  | _ => 0
/-- All blocks that are there stay as they are, but those of S. -/
structure Kept (S : Nat → Prop) (w w' : World) : Prop where
  os : w'.os = w.os
  tape : w'.tape = w.tape
  output : w'.output = w.output
  size : w.heap.size ≤ w'.heap.size
  block : ∀ k, k < w.heap.size → ¬ S k → w'.heap[k]? = w.heap[k]?
theorem Kept.refl (S : Nat → Prop) (w : World) : Kept S w w := ⟨rfl, rfl, rfl, Nat.le_refl _, fun _ _ _ => rfl⟩
theorem Kept.trans {S : Nat → Prop} {a b c : World} (h : Kept S a b) (k : Kept S b c) : Kept S a c :=
  ⟨k.os.trans h.os, k.tape.trans h.tape, k.output.trans h.output, Nat.le_trans h.size k.size, fun i hi hs => (k.block i (Nat.lt_of_lt_of_le hi h.size) hs).trans (h.block i hi hs)⟩
theorem Kept.mono {S T : Nat → Prop} {w w' : World} (h : Kept S w w') (hst : ∀ k, S k → T k) : Kept T w w' := ⟨h.os, h.tape, h.output, h.size, fun k hk ht => h.block k hk fun hs => ht (hst k hs)⟩
theorem Kept.of_below {S : Nat → Prop} {w w' : World} (h : Below w.heap.size w w') : Kept S w w' := ⟨h.os, h.tape, h.output, h.size, fun k hk _ => h.block k hk⟩
theorem Kept.of_chg {w w' : World} {b lo hi : Nat} (h : Chg w w' b lo hi) : Kept (· = b) w w' := ⟨h.os, h.tape, h.output, h.size, fun k hk hs => h.block k hk hs⟩
theorem Kept.cell {S : Nat → Prop} {w w' : World} (h : Kept S w w') {b i : Nat} (hb : b < w.heap.size) (hs : ¬ S b) : w'.cell? ⟨b, i, none⟩ = w.cell? ⟨b, i, none⟩ := World.cell?_of_block (h.block b hb hs)
theorem Kept.froz {S : Nat → Prop} {w w' : World} (h : Kept S w w') {b i : Nat} (hb : b < w.heap.size) (hs : ¬ S b) : w'.frozen? ⟨b, i, none⟩ = w.frozen? ⟨b, i, none⟩ := World.frozen?_of_block (h.block b hb hs)
theorem Kept.below {S : Nat → Prop} {w w' : World} (h : Kept S w w') {B : Nat} (hB : B ≤ w.heap.size) (hs : ∀ k, k < B → ¬ S k) : Below B w w' := ⟨h.os, h.tape, h.output, h.size, fun k hk => h.block k (by omega) (hs k hk)⟩
theorem Kept.set {S : Nat → Prop} {a w : World} (h : Kept S a w) {b i : Nat} (hb : S b) (v : Value) : Kept S a (w.setCell ⟨b, i, none⟩ v) :=
  h.trans ⟨rfl, rfl, rfl, by simp [World.setCell], fun k _ hs => Below.heap_setCell _ _ _ _ (fun e => hs (by rw [e]; exact hb))⟩
/-- v stands for the polynomial x, in block b, where it may be written. -/
inductive SB (w : World) (b : Nat) (v : Value) (x : List Int) : Prop
  | nil (a : Option Addr) (c : Nat) (hv : v = .slice a 0 c) (hx : x = [])
  | row (o c : Nat) (hv : v = .slice (some ⟨b, o, none⟩) x.length c) (h0 : 0 < x.length) (hc : x.length ≤ c) (hl : b < w.heap.size) (hA : AR w b o x.length (fun j => x.getD j 0)) (hz : Free w b o x.length)
theorem SB.sr {w : World} {b B : Nat} {v : Value} {x : List Int} (h : SB w b v x) (hB : B ≤ b) : SR w B v x := by
  cases h with
  | nil a c hv hx => exact .nil a c hv hx
  | row o c hv h0 hc hl hA hz => exact .row b o c hv h0 hc hB hl hA hz
theorem SR.sb {w : World} {B : Nat} {v : Value} {x : List Int} (h : SR w B v x) (d : Nat) (hd : B ≤ d) : ∃ b, B ≤ b ∧ SB w b v x ∧ (x = [] ∧ b = d ∨ b < w.heap.size) := by
  cases h with
  | nil a c hv hx => exact ⟨d, hd, .nil a c hv hx, .inl ⟨hx, rfl⟩⟩
  | row b o c hv h0 hc hB hl hA hz => exact ⟨b, hB, .row o c hv h0 hc hl hA hz, .inr hl⟩
theorem SB.kept {S : Nat → Prop} {w w' : World} {b : Nat} {v : Value} {x : List Int} (h : SB w b v x) (hk : Kept S w w') (hs : ¬ S b) : SB w' b v x := by
  cases h with
  | nil a c hv hx => exact .nil a c hv hx
  | row o c hv h0 hc hl hA hz => exact .row o c hv h0 hc (Nat.lt_of_lt_of_le hl hk.size) (fun i hi => (hk.cell hl hs).trans (hA i hi)) (fun i hi => (hk.froz hl hs).trans (hz i hi))
theorem SB.view {w : World} {b : Nat} {v : Value} {x : List Int} (h : SB w b v x) : VW w v x := (h.sr (Nat.le_refl _)).view
theorem rest_ne (w : World) (p q : Int) (b : Nat) (v : Value) (x : List Int) (b2 o2 n c2 : Nat) (y : Nat → Int) (hv : SB w b v x) (hM : MD w p b2 o2 n c2 y) (hne : b ≠ b2) (hq : q = p * p) (hp : 1 < p ∧ p < 2147483648)
    (hx : ∀ j, 0 ≤ x.getD j 0 ∧ x.getD j 0 < q) (hl : x.length ≤ 2097152) :
    Calls Tryd.prog 60 #[FV p q, v, .slice (some ⟨b2, o2, none⟩) (n + 1 : Nat) c2] w fun e w' => ∃ u z, e = .returned u ∧ SB w' b u z ∧ Kept (· = b) w w' ∧ Res p (lst y (n + 1)) (row x) z := by
  cases hv with
  | nil a c hv hx =>
    subst hv
    subst hx
    refine (rest_zero w p q a c b2 o2 n c2 hM.small).mono ?_
    rintro e w' ⟨he, hb⟩
    refine ⟨_, [], he, .nil a c rfl rfl, .of_below hb, by rw [lst_length]; exact Nat.succ_pos _, fun j => ?_, fun h => by simp at h, .refl _ _ _⟩
    rw [getD_of_ge [] j (Nat.zero_le _)]; omega
  | row o c hv h0 hc hbl hA hz =>
    subst hv
    refine (rest_any w p q _ b o x.length c b2 o2 n c2 (fun j => x.getD j 0) y (fun _ => rfl) hc hbl hA hz hM.row hne hq hp hM.cap hl hM.small (fun i _ => hx i) hM.bd hM.g hM.ne).mono ?_
    intro e w' h
    obtain ⟨u, z, he, h1, h2, h3⟩ := h.sr (B := 0) (by omega) (Nat.zero_le _) hbl hc hz
    obtain ⟨m, aa, r, Q, he', ha, hm, hmn, hC, hA', hb', hlst, hh⟩ := h
    rw [he] at he'
    obtain rfl := Ending.returned.inj he'
    refine ⟨_, z, he, ?_, .of_chg hC, h3.len, h3.bd, h3.top, (Cg.of fun j => by rw [cut_getD]).trans h3.cg⟩
    cases h1 with
    | nil a c hv hx => exact .nil a c hv hx
    | row b' o' c' hv g0 gc gb gl gA gz =>
      simp only [Value.slice.injEq] at hv
      obtain ⟨e1, e2, e3⟩ := hv
      rw [ha (by omega)] at e1
      simp only [Option.some.injEq, Addr.mk.injEq] at e1
      obtain ⟨rfl, rfl, -⟩ := e1
      subst e3
      refine .row o c (by rw [ha (by omega), e2]) g0 gc gl gA gz
/-- The greatest common divisor by Euclid's way. -/
inductive GcdR (p : Int) : List Int → List Int → List Int → Prop
  | nil (f z : List Int) (h : IsMon p f z) : GcdR p f [] z
  | step (f g r z : List Int) (h0 : 0 < g.length) (hr : Res p g (row f) r) (h : GcdR p g r z) : GcdR p f g z
inductive GcdPost (w : World) (p : Int) (f g : List Int) (e : Ending) (w' : World) : Prop
  | mk (u : Value) (z : List Int) (he : e = .returned u) (hS : SR w' w.heap.size u z) (hb : Below w.heap.size w w') (hG : GcdR p f g z)
theorem SB.md {w : World} {p : Int} {b : Nat} {v : Value} {x : List Int} (h : SB w b v x) (hp : PrI p) (hx : IsP p x) (hl : x.length ≤ 1048576) (h0 : 0 < x.length) :
    ∃ o n c, v = .slice (some ⟨b, o, none⟩) (n + 1 : Nat) c ∧ MD w p b o n c (fun j => x.getD j 0) ∧ x.length = n + 1 ∧ lst (fun j => x.getD j 0) (n + 1) = x := by
  cases h with
  | nil a c hv hx => subst hx; simp at h0
  | row o c hv h0 hc hbl hA hz =>
    obtain ⟨n, hn⟩ : ∃ n, x.length = n + 1 := ⟨x.length - 1, by omega⟩
    have ht := hx.top h0
    rw [hn, Nat.add_sub_cancel] at ht
    refine ⟨o, n, c, by rw [hv, hn], ⟨by rw [← hn]; exact hA, by omega, fun i _ => hx.bd i, hp.gcd (hx.bd n).1 ht (hx.bd n).2, ht, by omega⟩, hn, ?_⟩
    rw [← hn]; exact lst_self x
set_option maxRecDepth 10000 in
set_option maxHeartbeats 2000000 in
theorem gcd_any (w : World) (p q : Int) (v1 v2 : Value) (f g : List Int) (h1 : VW w v1 f) (h2 : VW w v2 g) (hq : q = p * p) (hpr : PrI p) (hf : IsP p f) (hg : IsP p g) (hl1 : f.length ≤ 1000) (hl2 : g.length ≤ 1000) :
    Calls Tryd.prog 42 #[FV p q, v1, v2] w fun e w' => GcdPost w p f g e w' := by
  have hp : 1 < p ∧ p < 2147483648 := by
    obtain ⟨P, h1, h2, h3⟩ := hpr
    have := h2.1
    omega
  have H1 : Hid (VW w v1 f) := h1
  have H2 : Hid (VW w v2 g) := h2
  have HPR : Hid (PrI p) := hpr
  have HF : Hid (IsP p f) := hf
  have HG : Hid (IsP p g) := hg
  have HQ : Hid (q = p * p) := hq
  have hpq : p ≤ q := by
    have h9 := Int.mul_le_mul_of_nonneg_left (show 1 ≤ p by omega) (show 0 ≤ p by omega)
    rw [Int.mul_one, ← hq] at h9
    exact h9
  clear h1 h2 hpr hf hg hq
  go_enter Tryd.func42, Tryd.ntmps42
  go_upto_region 1 with fail
  refine wp_world (fun w1 => Below w.heap.size w w1 ∧ w1.heap.size = w.heap.size + 1 ∧ w1.cell? ⟨w.heap.size, 0, none⟩ = some (.int .i64 p) ∧ w1.cell? ⟨w.heap.size, 1, none⟩ = some (.int .i64 q)) ⟨bel1 _ _, by simp, by simp [go_sem], by simp [go_sem]⟩ ?_
  rintro w1 ⟨hB1, hl1', c0, c1'⟩
  obtain ⟨b4, hb4⟩ : ∃ x, x = w.heap.size := ⟨_, rfl⟩
  rw [← hb4] at c0 c1' hl1' ⊢
  have HB4 : Hid (b4 = w.heap.size ∧ w1.heap.size = b4 + 1) := ⟨hb4, hl1'⟩
  have HB1 : Hid (Below w.heap.size w w1) := hB1
  clear hB1 hl1' hb4
  go_wp2_with (go_at_call 35; fail)
  refine (clone_sr w1 v1 f (H1.out.below HB1.out) (by omega)).mono ?_
  rintro e w2 ⟨u1, rfl, hS2, hb2⟩
  have HS2 : Hid (SR w2 w1.heap.size u1 f) := hS2
  have HB2 : Hid (Below w1.heap.size w1 w2) := hb2
  clear hS2 hb2
  go_wp2_with (go_at_call 35; fail)
  refine (clone_sr w2 v2 g ((H2.out.below HB1.out).below HB2.out) (by omega)).mono ?_
  rintro e w3 ⟨u2, rfl, hS3, hb3⟩
  have HS : Hid (∃ b1 b2, b1 ≠ b2 ∧ b4 < b1 ∧ b4 < b2 ∧ SB w3 b1 u1 f ∧ SB w3 b2 u2 g) := by
    have h9 := HB4.out.2
    have h8 := HB2.out.size
    obtain ⟨b2, hb2, hs2, -⟩ := hS3.sb w2.heap.size (Nat.le_refl _)
    obtain ⟨b1, hb1, hs1, hd1⟩ := (HS2.out.below hb3).sb (b2 + 1) (by omega)
    cases HS2.out.below hb3 with
    | nil a c hv hx => exact ⟨b2 + 1, b2, by omega, by omega, by omega, .nil a c hv hx, hs2⟩
    | row b o c hv h0 hc hb hl hA hz =>
      have hlt : b < w2.heap.size := by
        cases HS2.out with
        | nil a' c' hv' hx' => rw [hx'] at h0; simp at h0
        | row b' o' c' hv' h0' hc' hb' hl' hA' hz' =>
          rw [hv'] at hv
          simp only [Value.slice.injEq, Option.some.injEq, Addr.mk.injEq] at hv
          omega
      exact ⟨b, b2, by omega, by omega, by omega, .row o c hv h0 hc hl hA hz, hs2⟩
  have HB3 : Hid (Below (b4 + 1) w1 w3) := by
    have h9 := HB4.out.2
    show Below _ _ _
    rw [← h9]; exact HB2.out.trans (hb3.mono HB2.out.size)
  clear hS3 hb3
  go_wp2
  go_loopw [1, 2] (fun s t wr => ∃ (X Y : List Int) (b1 b2 : Nat), SB wr b1 s X ∧ SB wr b2 t Y ∧ b1 ≠ b2 ∧ b4 < b1 ∧ b4 < b2 ∧ IsP p X ∧ IsP p Y ∧ X.length ≤ 1000 ∧ Y.length ≤ 1000 ∧ (∀ z, GcdR p X Y z → GcdR p f g z) ∧ Below (b4 + 1) w1 wr) (fun _ t _ => vlen t)
  case atStart =>
    obtain ⟨b1, b2, h1, h2, h3, h4, h5⟩ := HS.out
    exact ⟨f, g, b1, b2, h4, h5, h1, h2, h3, HF.out, HG.out, hl1, hl2, fun z h => h, HB3.out⟩
  case round =>
    obtain ⟨X, Y, b1, b2, hX, hY, hne, hb1, hb2, hPX, hPY, hlX, hlY, hGG, hB⟩ := hrel
    have HX : Hid (SB wr b1 u1 X) := hX
    have HY : Hid (SB wr b2 u2 Y) := hY
    have HNE : Hid (b1 ≠ b2 ∧ b4 < b1 ∧ b4 < b2) := ⟨hne, hb1, hb2⟩
    have HPX : Hid (IsP p X) := hPX
    have HPY : Hid (IsP p Y) := hPY
    have HGG : Hid (∀ z, GcdR p X Y z → GcdR p f g z) := hGG
    have HB : Hid (Below (b4 + 1) w1 wr) := hB
    have hlr : b4 < wr.heap.size := by have := HB4.out.2; have := hB.size; omega
    have d0 : wr.cell? ⟨b4, 0, none⟩ = some (.int .i64 p) := (hB.cell (p := ⟨b4, 0, none⟩) (Nat.lt_succ_self _)).trans c0
    have d1 : wr.cell? ⟨b4, 1, none⟩ = some (.int .i64 q) := (hB.cell (p := ⟨b4, 1, none⟩) (Nat.lt_succ_self _)).trans c1'
    clear hX hY hne hb1 hb2 hPX hPY hGG hB c0 c1'
    by_cases h0 : 0 < Y.length
    · obtain ⟨o, n, c, rfl, hM, hYn, hYl⟩ := HY.out.md HPR.out HPY.out (by omega) h0
      have CR := rest_ne wr p q b1 u1 X b2 o n c _ HX.out hM HNE.out.1 HQ.out hp (fun j => ⟨(HPX.out.bd j).1, by have := (HPX.out.bd j).2; omega⟩) (by omega)
      rw [hYl] at CR
      have HYN : Hid (Y.length = n + 1) := hYn
      have hn0 : (0 : Int) < ((n : Int) + 1) := by omega
      clear hM hYn hYl
      go_wp2_with (go_at_call 60; fail)
      refine CR.mono ?_
      rintro e w5 ⟨u, z, rfl, hS5, hK5, hR5⟩
      have HREL : Hid ((∃ (X Y : List Int) (b1 b2_1 : Nat), SB w5 b1 (.slice (some ⟨b2, o, none⟩) (n + 1 : Nat) c) X ∧ SB w5 b2_1 u Y ∧ b1 ≠ b2_1 ∧ b4 < b1 ∧ b4 < b2_1 ∧ IsP p X ∧ IsP p Y ∧ X.length ≤ 1000 ∧ Y.length ≤ 1000 ∧ (∀ z, GcdR p X Y z → GcdR p f g z) ∧ Below (b4 + 1) w1 w5) ∧ vlen u < n + 1) := by
        have h9 := HNE.out
        have hlen := hR5.len
        refine ⟨⟨Y, z, b2, b1, HY.out.kept hK5 (fun e => h9.1 e.symm), hS5, fun e => h9.1 e.symm, h9.2.2, h9.2.1, HPY.out, ⟨hR5.bd, hR5.top⟩, hlY, by omega, fun z' h => HGG.out z' (.step X Y z z' h0 hR5 h), HB.out.trans (hK5.below (by have := HB4.out.2; have := HB.out.size; omega) (fun k hk e => by omega))⟩, ?_⟩
        have h7 := HYN.out
        obtain ⟨a9, b9, o9, c9, rfl, _⟩ := hS5.view
        show z.length < n + 1
        omega
      clear hS5 hK5 hR5 CR
      go_wp2
      exact HREL.out
    · have hy0 : Y = [] := List.length_eq_zero_iff.1 (by omega)
      obtain ⟨a, c, rfl⟩ : ∃ a c, u2 = .slice a 0 c := by
        cases HY.out with
        | nil a c hv hx => exact ⟨a, c, hv⟩
        | row o c hv h0' hc hl hA hz => exact absurd h0' h0
      have h00 : ¬ (0 : Int) < 0 := by omega
      have CM := monic_any wr p q u1 X HX.out.view HQ.out hp HPX.out.bd (fun h => HPR.out.gcd (HPX.out.bd _).1 (HPX.out.top h) (HPX.out.bd _).2) HPX.out.top (by omega)
      go_wp2_with (go_at_call 45; fail)
      refine CM.mono ?_
      rintro e w5 ⟨u, z, rfl, hS5, hb5, hm5⟩
      have R : Hid (GcdPost w p f g (.returned u) w5) := by
        have h9 := HB4.out
        have h8 := HB.out.size
        refine .mk u z rfl (hS5.mono (by omega)) (HB1.out.trans ((HB.out.mono (by omega)).trans (hb5.mono (by omega)))) (HGG.out z ?_)
        rw [hy0]; exact .nil X z hm5
      clear hS5 hb5 hm5 CM
      go_wp2
      refine bodyPost_ret (v := u) (by simp [results, go_sem, loadVar]) rfl ?_
      exact R.out
end Go.Proofs.YtffdemplaodbcaaDoor
namespace Go.Proofs.YtffdemplaodbcaaDoor
open Go Go.Proofs Go.RowKit Go.Rad

inductive NrmPost (w : World) (p : Int) (t : Nat → Int) (e : Ending) (w' : World) : Prop
  | mk (u : Value) (z : List Int) (he : e = .returned u) (hS : SR w' w.heap.size u z) (hb : Below w.heap.size w w') (hN : Nrm p t z)
set_option maxRecDepth 10000 in
set_option maxHeartbeats 2000000 in
theorem derivative_any (w : World) (p q : Int) (v : Value) (x : List Int) (n : Nat) (hv : VW w v x) (hq : q = p * p) (hp : 1 < p ∧ p < 2147483648) (hx : ∀ j, 0 ≤ x.getD j 0 ∧ x.getD j 0 < p) (hn : x.length = n + 1) (hl : n ≤ 1000000) :
    Calls Tryd.prog 50 #[FV p q, v] w fun e w' => NrmPost w p (fun j => ((j + 1 : Nat) : Int) * row x (j + 1)) e w' := by
  obtain ⟨a, b, o, c, rfl, ha, hA⟩ := hv
  obtain ⟨L, hL⟩ : ∃ L, x.length = L := ⟨_, rfl⟩
  have HL : Hid (x.length = L ∧ L = n + 1) := ⟨hL, by omega⟩
  rw [hL] at ha hA ⊢
  obtain rfl := ha (by omega)
  have HA : Hid (AR w b o L (fun j => x.getD j 0)) := hA
  have HX : Hid (∀ j, 0 ≤ x.getD j 0 ∧ x.getD j 0 < p) := hx
  have hqq := sq_lt (by omega : (0 : Int) ≤ p) hp.2 (by omega) hp.2
  rw [← hq] at hqq
  have HQ : Hid (q = p * p) := hq
  have hLn : (L : Int) - 1 = (n : Int) := by omega
  have hL0 : 0 < L := by omega
  clear hA hx hq hn hL ha
  have hwL : wrap64 (n : Int) = (n : Int) := wrap_in (by omega) (by omega)
  go_enter Tryd.func50, Tryd.ntmps50
  go_wp2_with (at_make; refine wpList_makeI rfl _ _ rfl _ n rfl rfl (by first | rfl | omega) (by omega) ?_; intro w3 ho3 hb3)
  have hB3 : Below w.heap.size w w3 := (bel1 w _).trans (hb3.mono (by simp))
  have c0 : w3.cell? ⟨w.heap.size, 0, none⟩ = some (.int .i64 p) := (hb3.cell (p := ⟨w.heap.size, 0, none⟩) (by simp)).trans (by simp [go_sem])
  have c1' : w3.cell? ⟨w.heap.size, 1, none⟩ = some (.int .i64 q) := (hb3.cell (p := ⟨w.heap.size, 1, none⟩) (by simp)).trans (by simp [go_sem])
  have hl3 : w.heap.size < w3.heap.size := by have := hb3.size; simp at this; omega
  have ho : OA w3 w.heap.size (w.heap.size + 1) n (fun _ => 0) := by
    have h9 := ho3.mono (C := w.heap.size) (by simp)
    simpa using h9
  obtain ⟨bn, hbn⟩ : ∃ x, x = w.heap.size + 1 := ⟨_, rfl⟩
  obtain ⟨b4, hb4⟩ : ∃ x, x = w.heap.size := ⟨_, rfl⟩
  rw [← hbn] at ho ⊢
  rw [← hb4] at c0 c1' hl3 ⊢
  have HBN : Hid (bn = w.heap.size + 1 ∧ b4 = w.heap.size) := ⟨hbn, hb4⟩
  have HB3 : Hid (Below w.heap.size w w3) := hB3
  have HO : Hid (OA w3 w.heap.size bn n (fun _ => 0)) := ho
  have HBL : Hid (b < w.heap.size) := HA.out.lt hL0
  clear ho3 hb3 hB3 hbn hb4 ho
  obtain ⟨h, he⟩ : ∃ h : Nat → Nat → Int, ∀ k j, h k j = if j < k then ((j + 1 : Nat) : Int) % p * x.getD (j + 1) 0 else 0 := ⟨_, fun _ _ => rfl⟩
  have HE : Hid (∀ k j, h k j = if j < k then ((j + 1 : Nat) : Int) % p * x.getD (j + 1) 0 else 0) := he
  clear he
  go_loopw [13] (fun i wr => ∃ k : Nat, k ≤ n ∧ i = .int .i64 k ∧ Below w.heap.size w wr ∧ OA wr w.heap.size bn n (h k) ∧ b4 < wr.heap.size ∧ wr.cell? ⟨b4, 0, none⟩ = some (.int .i64 p) ∧ wr.cell? ⟨b4, 1, none⟩ = some (.int .i64 q)) (fun i _ => n - (Lib.intOf i).toNat)
  case atStart =>
    refine ⟨0, by omega, rfl, HB3.out, ⟨HO.out.base, HO.out.lt, fun i hi => ?_, HO.out.z⟩, hl3, c0, c1'⟩
    rw [HE.out, if_neg (by omega)]
    exact HO.out.c i hi
  case round =>
    obtain ⟨k, hk, rfl, hB, hO, hl4, d0, d1⟩ := hrel
    have HB : Hid (Below w.heap.size w wr) := hB
    have HOk : Hid (OA wr w.heap.size bn n (h k)) := hO
    clear hB hO c0 c1' hl3
    by_cases hkn : k < n
    · have hki : (k : Int) < (n : Int) := by omega
      obtain ⟨s, hs⟩ : ∃ s, s = k + 1 := ⟨_, rfl⟩
      have hks : (k : Int) + 1 = (s : Int) := by omega
      have hsL : (s : Int) < (L : Int) := by omega
      have HS : Hid (s = k + 1) := hs
      obtain ⟨X, hX⟩ : ∃ X, x.getD s 0 = X := ⟨_, rfl⟩
      have hXb := HX.out s
      rw [hX] at hXb
      have cs : wr.cell? ⟨b, o + s, none⟩ = some (.int .i64 X) := by rw [← hX]; exact (HA.out.below HB.out) s (by omega)
      have hbr : b < wr.heap.size := Nat.lt_of_lt_of_le HBL.out HB.out.size
      obtain ⟨T, hT⟩ : ∃ T, (s : Int) % p = T := ⟨_, rfl⟩
      have hTb : 0 ≤ T ∧ T < p := by rw [← hT]; exact ⟨Int.emod_nonneg _ (by omega), Int.emod_lt_of_pos _ (by omega)⟩
      have CL := fun w => least_any w p q (s : Int) (by omega) hp.2 (by omega) (by omega)
      simp only [hT] at CL
      have hZb := sq_lt hTb.1 (by omega) hXb.1 (by omega)
      obtain ⟨Z, hZ⟩ : ∃ Z, T * X = Z := ⟨_, rfl⟩
      rw [hZ] at hZb
      have hws : IntKind.i64.wrap (s : Int) = (s : Int) := by rw [IntKind.wrap_i64]; omega
      have hwz : IntKind.i64.wrap Z = Z := by rw [IntKind.wrap_i64]; omega
      have HZ : Hid (((k + 1 : Nat) : Int) % p * x.getD (k + 1) 0 = Z) := by
        show _ = _
        rw [← HS.out, hT, hX, hZ]
      have ck : wr.cell? ⟨bn, 0 + k, none⟩ = some (.int .i64 0) := by
        have h9 := HOk.out.c k hkn
        rw [HE.out, if_neg (by omega)] at h9
        exact h9
      have zk : wr.frozen? ⟨bn, 0 + k, none⟩ = false := HOk.out.z k hkn
      have HFIN : Hid (∀ w5, Below wr.heap.size wr w5 → ∃ k₁ : Nat, k₁ ≤ n ∧ Value.int .i64 (s : Int) = .int .i64 k₁ ∧ Below w.heap.size w (w5.setCell ⟨bn, k, none⟩ (.int .i64 Z)) ∧ OA (w5.setCell ⟨bn, k, none⟩ (.int .i64 Z)) w.heap.size bn n (h k₁) ∧ b4 < (w5.setCell ⟨bn, k, none⟩ (.int .i64 Z)).heap.size ∧ (w5.setCell ⟨bn, k, none⟩ (.int .i64 Z)).cell? ⟨b4, 0, none⟩ = some (.int .i64 p) ∧ (w5.setCell ⟨bn, k, none⟩ (.int .i64 Z)).cell? ⟨b4, 1, none⟩ = some (.int .i64 q)) := by
        intro w5 hb5
        have ck5 : w5.cell? ⟨bn, k, none⟩ = some (.int .i64 0) := by
          have := (hb5.cell (p := ⟨bn, 0 + k, none⟩) HOk.out.lt).trans ck
          rwa [Nat.zero_add] at this
        have hne : b4 ≠ bn := by have := HBN.out; omega
        have hO5 := HOk.out.below hb5
        refine ⟨k + 1, by omega, congrArg (Value.int .i64) (by omega), (HB.out.trans (hb5.mono HB.out.size)).setCell (p := ⟨bn, k, none⟩) HOk.out.base _, ⟨HOk.out.base, by simpa [World.setCell] using hO5.lt, fun i hi => ?_, fun i hi => ?_⟩, by have := hb5.size; simp [World.setCell]; omega, ?_, ?_⟩
        · rw [Nat.zero_add, HE.out]
          by_cases h5 : i = k
          · subst h5
            rw [if_pos (by omega), HZ.out]
            exact cell_same (u := .int .i64 0) ck5
          · rw [cell_other (.inr h5)]
            have h9 := hO5.c i hi
            rw [Nat.zero_add, HE.out] at h9
            rw [h9]
            by_cases h6 : i < k
            · rw [if_pos h6, if_pos (by omega)]
            · rw [if_neg h6, if_neg (by omega)]
        · rw [World.frozen?_setCell]; exact hO5.z i hi
        · rw [cell_other (.inl hne)]; exact (hb5.cell (p := ⟨b4, 0, none⟩) hl4).trans d0
        · rw [cell_other (.inl hne)]; exact (hb5.cell (p := ⟨b4, 1, none⟩) hl4).trans d1
      clear hs hX hT
      rw [Nat.zero_add] at ck zk
      have hbl : bn < wr.heap.size := HOk.out.lt
      go_upto_region 5 with fail
      refine wp_drawn mixed [⟨16, [], [], [5]⟩, ⟨17, [], [], [6]⟩, ⟨18, [], [], [2]⟩, ⟨19, [], [], [6]⟩, ⟨20, [3], [3], []⟩, ⟨21, [2, 4], [2, 3, 4], []⟩, ⟨22, [], [], [1]⟩, ⟨23, [], [], [6]⟩, ⟨24, [7], [7], []⟩, ⟨25, [6, 8], [6, 7, 8], []⟩, ⟨26, [9], [6, 7, 8, 9], []⟩, ⟨27, [5, 10], [2, 3, 4, 5, 6, 7, 8, 9, 10], []⟩] [] (by kernel_rfl) 33 rfl (by kernel_rfl) (fun (i : Nat) (v : Value) (wq : World) => match i with | 0 => v = .slice (some ⟨bn, 0, none⟩) (n) (n) | 1 => v = .int .i64 ((k : Int)) | 2 => v = .agg #[.int .i64 (p), .int .i64 (q)] | 3 => v = .int .i64 ((k : Int)) | 4 => v = .int .i64 ((s : Int)) | 5 => v = .int .i64 (T) | 6 => v = .slice (some ⟨b, o, none⟩) (L) (c) | 7 => v = .int .i64 ((k : Int)) | 8 => v = .int .i64 ((s : Int)) | 9 => v = .pointer (some ⟨b, o + s, none⟩) | 10 => v = .int .i64 (X) | 11 => v = .int .i64 (Z) | _ => True) (fun _ wq => Below wr.heap.size wr wq) (fun wx wy => Below wx.heap.size wx wy) (Below.refl _ _).drew (fun i v wx wy h hx => match i, h with | 0, h => h | 1, h => h | 2, h => h | 3, h => h | 4, h => h | 5, h => h | 6, h => h | 7, h => h | 8, h => h | 9, h => h | 10, h => h | 11, h => h  | n + 12, _ => trivial) ?_ ?_
      · intro i o r ho hr L fr wx hW hL hpr hds hdef hpre hfree
        clear hL hpr hds hdef
        match i, ho, hr with
        | 0, ho, hr => ?_
        | 1, ho, hr => ?_
        | 2, ho, hr => ?_
        | 3, ho, hr => ?_
        | 4, ho, hr =>
          obtain rfl := Option.some.inj ho; obtain rfl := Option.some.inj hr
          have e3 := ev_tmp (show fr.eval (.tmp 19) = .int .i64 ((k : Int)) from hpre 3 (by decide) _ rfl)
          clear hpre hfree
          refine stpK rfl rfl fun K hK => ?_
          go_simp
          exact hK _ _ ⟨(by first | (show Value.int _ (IntKind.i64.wrap _) = _; rw [hws]) | rfl), hW, Below.refl _ _, fun h => (List.not_mem_nil h).elim⟩
        | 5, ho, hr =>
          obtain rfl := Option.some.inj ho; obtain rfl := Option.some.inj hr
          have e2 := ev_tmp (show fr.eval (.tmp 18) = .agg #[.int .i64 (p), .int .i64 (q)] from hpre 2 (by decide) _ rfl)
          have e4 := ev_tmp (show fr.eval (.tmp 20) = .int .i64 ((s : Int)) from hpre 4 (by decide) _ rfl)
          clear hpre hfree
          refine stpK rfl rfl fun K hK => ?_
          go_simp
          refine (CL wx).mono ?_
          rintro e wy ⟨rfl, hb⟩
          exact hK _ _ ⟨rfl, hW.trans (hb.mono hW.size), hb, fun h => (List.not_mem_nil h).elim⟩
        | 6, ho, hr => ?_
        | 7, ho, hr => ?_
        | 8, ho, hr =>
          obtain rfl := Option.some.inj ho; obtain rfl := Option.some.inj hr
          have e7 := ev_tmp (show fr.eval (.tmp 23) = .int .i64 ((k : Int)) from hpre 7 (by decide) _ rfl)
          clear hpre hfree
          refine stpK rfl rfl fun K hK => ?_
          go_simp
          exact hK _ _ ⟨(by first | (show Value.int _ (IntKind.i64.wrap _) = _; rw [hws]) | rfl), hW, Below.refl _ _, fun h => (List.not_mem_nil h).elim⟩
        | 9, ho, hr => ?_
        | 10, ho, hr => ?_
        | 11, ho, hr =>
          obtain rfl := Option.some.inj ho; obtain rfl := Option.some.inj hr
          have e5 := ev_tmp (show fr.eval (.tmp 21) = .int .i64 (T) from hpre 5 (by decide) _ rfl)
          have e10 := ev_tmp (show fr.eval (.tmp 26) = .int .i64 (X) from hpre 10 (by decide) _ rfl)
          clear hpre hfree
          refine stpK rfl rfl fun K hK => ?_
          go_simp
          exact hK _ _ ⟨(by first | (show Value.int _ (IntKind.i64.wrap _) = _; rw [hwz]) | rfl), hW, Below.refl _ _, fun h => (List.not_mem_nil h).elim⟩
        | n + 12, ho, hr => exact absurd hr (by simp)
        all_goals
          obtain rfl := Option.some.inj ho; obtain rfl := Option.some.inj hr
          simp only [List.mem_cons, List.not_mem_nil, or_false, false_imp_iff, implies_true, forall_eq_or_imp, forall_eq, List.getElem?_cons_zero, List.getElem?_cons_succ, Option.some.injEq, forall_eq', evt] at hpre hfree
          have c0 := (hW.cell (p := ⟨b4, 0, none⟩) hl4).trans d0
          have c1 := (hW.cell (p := ⟨b4, 1, none⟩) hl4).trans d1
          have c2 := (hW.cell (p := ⟨b, o + s, none⟩) hbr).trans cs
          refine stpK rfl rfl fun K hK => ?_ <;> (go_simp; exact hK _ _ ⟨rfl, hW, Below.refl _ _, fun h => (List.not_mem_nil h).elim⟩)
      · intro vs wm hvs hW1 hap0
        clear hap0
        have e0 : vs 0 = .slice (some ⟨bn, 0, none⟩) (n) (n) := hvs 0 (by decide)
        have e1 : vs 1 = .int .i64 ((k : Int)) := hvs 1 (by decide)
        have e2 : vs 2 = .agg #[.int .i64 (p), .int .i64 (q)] := hvs 2 (by decide)
        have e3 : vs 3 = .int .i64 ((k : Int)) := hvs 3 (by decide)
        have e4 : vs 4 = .int .i64 ((s : Int)) := hvs 4 (by decide)
        have e5 : vs 5 = .int .i64 (T) := hvs 5 (by decide)
        have e6 : vs 6 = .slice (some ⟨b, o, none⟩) (L) (c) := hvs 6 (by decide)
        have e7 : vs 7 = .int .i64 ((k : Int)) := hvs 7 (by decide)
        have e8 : vs 8 = .int .i64 ((s : Int)) := hvs 8 (by decide)
        have e9 : vs 9 = .pointer (some ⟨b, o + s, none⟩) := hvs 9 (by decide)
        have e10 : vs 10 = .int .i64 (X) := hvs 10 (by decide)
        have e11 : vs 11 = .int .i64 (Z) := hvs 11 (by decide)
        simp only [puts, Nat.reduceAdd, e0, e1, e2, e3, e4, e5, e6, e7, e8, e9, e10, e11, Act.put, List.setIfInBounds_toArray, List.set_cons_zero, List.set_cons_succ, List.drop_succ_cons, List.drop_zero, List.length_cons, List.length_nil]
        clear hvs e0 e1 e2 e3 e4 e5 e6 e7 e8 e9 e10 e11
        have ck5 : wm.cell? ⟨bn, k, none⟩ = some (.int .i64 0) := (hW1.cell (p := ⟨bn, k, none⟩) hbl).trans ck
        have zk5 : wm.frozen? ⟨bn, k, none⟩ = false := (hW1.frozen (p := ⟨bn, k, none⟩) hbl).trans zk
        have HREL : Hid _ := HFIN.out wm hW1
        clear hW1 cs ck zk CL d0 d1
        go_wp2
        exact ⟨HREL.out, by simp only [Lib.intOf]; omega⟩
    · obtain rfl : k = n := by omega
      have hki : ¬ ((k : Int) < (k : Int)) := by omega
      have S6 : SR wr w.heap.size (.slice (some ⟨bn, 0, none⟩) k k) (lst (h k) k) := sr_lst (fun _ => rfl) (Nat.le_refl _) HOk.out.base HOk.out.lt HOk.out.c HOk.out.z
      have hbd : ∀ j, j < k → 0 ≤ h k j ∧ h k j < 4611686018427387904 := fun j hj => by
        rw [HE.out, if_pos hj]
        have h3 := HX.out (j + 1)
        exact sq_lt (Int.emod_nonneg _ (by omega)) (by have := Int.emod_lt_of_pos ((j + 1 : Nat) : Int) (show 0 < p by omega); omega) h3.1 (by omega)
      have CS := settled_sr wr p q w.heap.size _ _ S6 HB.out.size ⟨by omega, hp.2⟩ (fun j => by
        rw [lst_getD]; unfold cut
        split
        · have := hbd j (by assumption); omega
        · omega) (by rw [lst_length]; omega)
      clear S6 hbd
      go_wp2_with (go_at_call 32; fail)
      refine CS.mono ?_
      rintro e w7 ⟨u, z, rfl, hS7, hb7, hN7⟩
      have R : Hid (NrmPost w p (fun j => ((j + 1 : Nat) : Int) * row x (j + 1)) (.returned u) w7) := by
        refine .mk u z rfl hS7 (HB.out.trans hb7) ⟨fun j => ?_, hN7.top⟩
        rw [hN7.eq, row_lst]; unfold cut
        by_cases hj : j < k
        · rw [if_pos hj, HE.out, if_pos hj, row_getD, Int.mul_emod, Int.emod_emod, ← Int.mul_emod]
        · rw [if_neg hj, row_getD, getD_of_ge x (j + 1) (by have := HL.out; omega), Int.mul_zero]
      clear hS7 hb7 hN7 CS
      go_wp2
      refine bodyPost_ret (v := u) (by simp [results, go_sem, loadVar]) rfl ?_
      exact R.out
inductive QuoPost (w : World) (p : Int) (x m : List Int) (e : Ending) (w' : World) : Prop
  | mk (u : Value) (Q z : List Int) (he : e = .returned u) (hS : SR w' w.heap.size u Q) (hb : Below w.heap.size w w') (hD : Dvd p m x Q z)
set_option maxRecDepth 10000 in
set_option maxHeartbeats 2000000 in
theorem quotient_any (w : World) (p q : Int) (v : Value) (x m : List Int) (b2 o2 n c2 : Nat) (y : Nat → Int) (hv : VW w v x) (hM : MD w p b2 o2 n c2 y) (hb2 : b2 < w.heap.size) (hm : lst y (n + 1) = m) (hq : q = p * p) (hp : 1 < p ∧ p < 2147483648)
    (hx : ∀ j, 0 ≤ x.getD j 0 ∧ x.getD j 0 < p) (hl : x.length ≤ 1048576) :
    Calls Tryd.prog 65 #[FV p q, v, .slice (some ⟨b2, o2, none⟩) (n + 1 : Nat) c2] w fun e w' => QuoPost w p x m e w' := by
  have hpq : p ≤ q := by
    have h9 := Int.mul_le_mul_of_nonneg_left (show 1 ≤ p by omega) (show 0 ≤ p by omega)
    rw [Int.mul_one, ← hq] at h9
    exact h9
  have HV : Hid (VW w v x) := hv
  have HM : Hid (MD w p b2 o2 n c2 y) := hM
  have HQ : Hid (q = p * p) := hq
  have HX : Hid (∀ j, 0 ≤ x.getD j 0 ∧ x.getD j 0 < p) := hx
  have HMM : Hid (lst y (n + 1) = m) := hm
  clear hv hM hq hx hm
  go_enter Tryd.func65, Tryd.ntmps65
  go_upto_region 1 with fail
  refine wp_world (fun w1 => Below w.heap.size w w1 ∧ w.heap.size < w1.heap.size ∧ w1.cell? ⟨w.heap.size, 0, none⟩ = some (.int .i64 p) ∧ w1.cell? ⟨w.heap.size, 1, none⟩ = some (.int .i64 q)) ⟨bel1 _ _, by simp, by simp [go_sem], by simp [go_sem]⟩ ?_
  rintro w1 ⟨hB1, hl4, c0, c1'⟩
  obtain ⟨b4, hb4⟩ : ∃ x, x = w.heap.size := ⟨_, rfl⟩
  rw [← hb4] at c0 c1' hl4 ⊢
  have H4 : Hid (b4 = w.heap.size) := hb4
  have HB1 : Hid (Below w.heap.size w w1) := hB1
  have HB2 : Hid (b2 < w.heap.size) := hb2
  clear hB1 hb4 hb2
  go_cut [7] from 8 to 17 (fun v wx => ∃ Q z, SR wx w.heap.size v Q ∧ Below w.heap.size w wx ∧ Dvd p m x Q z)
  case first =>
    go_region_with (first
      | (go_at_call 35
         refine (clone_sr _ v x ((HV.out.below HB1.out).below (bel_drew w1)) hl).mono ?_
         rintro e w2 ⟨u, rfl, hS2, hb2⟩
         have HS2 : Hid (SR w2 w1.heap.size u x) := hS2
         have HB2w : Hid (Below w1.heap.size w1 w2) := (bel_drew w1).trans hb2
         have f0 : w2.cell? ⟨b4, 0, none⟩ = some (.int .i64 p) := (HB2w.out.cell (p := ⟨b4, 0, none⟩) hl4).trans c0
         have f1 : w2.cell? ⟨b4, 1, none⟩ = some (.int .i64 q) := (HB2w.out.cell (p := ⟨b4, 1, none⟩) hl4).trans c1'
         clear hS2 hb2)
      | (go_at_call 34
         refine (divide_sr w2 p q w1.heap.size u x b2 o2 n c2 y HS2.out HB2w.out.size ((HM.out.below HB1.out).below HB2w.out) (by have := HB2.out; have := H4.out; omega) HQ.out hp (fun j => ⟨(HX.out j).1, by have := (HX.out j).2; omega⟩) (by omega)).mono ?_
         rintro e w3 ⟨u1, u2, Q, z, rfl, hS3, hS3z, hb3, hD3⟩
         have HP : Hid (∃ Q z, SR w3 w.heap.size u1 Q ∧ Below w.heap.size w w3 ∧ Dvd p m x Q z) :=
           ⟨Q, z, hS3.mono (by have := H4.out; omega), HB1.out.trans ((HB2w.out.trans hb3).mono (by have := H4.out; omega)), by rw [← HMM.out]; exact hD3⟩
         clear hS3 hS3z hb3 hD3 f0 f1))
    all_goals
      go_wp2_with fail
      go_meet
      case rel => exact HP.out
  case rest =>
  obtain ⟨Q, z, hS, hB, hD⟩ := hcut
  have R : Hid (QuoPost w p x m (.returned u7) wc) := .mk u7 Q z rfl hS hB hD
  clear hS hB hD c0 c1'
  go_wp2
  refine bodyPost_ret (v := u7) (by simp [results, go_sem, loadVar]) rfl ?_
  exact R.out
end Go.Proofs.YtffdemplaodbcaaDoor
