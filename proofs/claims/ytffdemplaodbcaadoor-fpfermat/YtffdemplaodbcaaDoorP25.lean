/- A part of the proof: QB, PS. -/
import Derived.Test.YtffdemplaodbcaaDoorP24
import Derived.Test.YtffdemplaodbcaaDoorP22
set_option linter.all false
namespace Go.Proofs.YtffdemplaodbcaaDoor
open Go Go.Proofs Go.RowKit Go.Rad

def vlen : Value → Nat
  | .slice _ n _ => n
  | _ => 0
/-- All blocks that are there stay as they are, but those of S. -/
structure Kept (S : Nat → Prop) (w w' : World) : Prop where
  os : w'.os = w.os
  tape : w'.tape = w.tape
  output : w'.output = w.output
  size : w.heap.size ≤ w'.heap.size
  block : ∀ k, k < w.heap.size → ¬ S k → w'.heap[k]? = w.heap[k]?
theorem Kept.refl (S : Nat → Prop) (w : World) : Kept S w w := ⟨rfl, rfl, rfl, Nat.le_refl _, fun _ _ _ => rfl⟩
theorem Kept.trans {S : Nat → Prop} {a b c : World} (h : Kept S a b) (k : Kept S b c) : Kept S a c :=
  ⟨k.os.trans h.os, k.tape.trans h.tape, k.output.trans h.output, Nat.le_trans h.size k.size, fun i hi hs => (k.block i (Nat.lt_of_lt_of_le hi h.size) hs).trans (h.block i hi hs)⟩
theorem Kept.mono {S T : Nat → Prop} {w w' : World} (h : Kept S w w') (hst : ∀ k, S k → T k) : Kept T w w' := ⟨h.os, h.tape, h.output, h.size, fun k hk ht => h.block k hk fun hs => ht (hst k hs)⟩
theorem Kept.of_below {S : Nat → Prop} {w w' : World} (h : Below w.heap.size w w') : Kept S w w' := ⟨h.os, h.tape, h.output, h.size, fun k hk _ => h.block k hk⟩
theorem Kept.of_chg {w w' : World} {b lo hi : Nat} (h : Chg w w' b lo hi) : Kept (· = b) w w' := ⟨h.os, h.tape, h.output, h.size, fun k hk hs => h.block k hk hs⟩
theorem Kept.cell {S : Nat → Prop} {w w' : World} (h : Kept S w w') {b i : Nat} (hb : b < w.heap.size) (hs : ¬ S b) : w'.cell? ⟨b, i, none⟩ = w.cell? ⟨b, i, none⟩ := World.cell?_of_block (h.block b hb hs)
theorem Kept.froz {S : Nat → Prop} {w w' : World} (h : Kept S w w') {b i : Nat} (hb : b < w.heap.size) (hs : ¬ S b) : w'.frozen? ⟨b, i, none⟩ = w.frozen? ⟨b, i, none⟩ := World.frozen?_of_block (h.block b hb hs)
theorem Kept.below {S : Nat → Prop} {w w' : World} (h : Kept S w w') {B : Nat} (hB : B ≤ w.heap.size) (hs : ∀ k, k < B → ¬ S k) : Below B w w' := ⟨h.os, h.tape, h.output, h.size, fun k hk => h.block k (by omega) (hs k hk)⟩
theorem Kept.set {S : Nat → Prop} {a w : World} (h : Kept S a w) {b i : Nat} (hb : S b) (v : Value) : Kept S a (w.setCell ⟨b, i, none⟩ v) :=
  h.trans ⟨rfl, rfl, rfl, by simp [World.setCell], fun k _ hs => Below.heap_setCell _ _ _ _ (fun e => hs (by rw [e]; exact hb))⟩
/-- v stands for the polynomial x, in block b, where it may be written. -/
inductive SB (w : World) (b : Nat) (v : Value) (x : List Int) : Prop
  | nil (a : Option Addr) (c : Nat) (hv : v = .slice a 0 c) (hx : x = [])
  | row (o c : Nat) (hv : v = .slice (some ⟨b, o, none⟩) x.length c) (h0 : 0 < x.length) (hc : x.length ≤ c) (hl : b < w.heap.size) (hA : AR w b o x.length (fun j => x.getD j 0)) (hz : Free w b o x.length)
theorem SB.sr {w : World} {b B : Nat} {v : Value} {x : List Int} (h : SB w b v x) (hB : B ≤ b) : SR w B v x := by
  cases h with
  | nil a c hv hx => exact .nil a c hv hx
  | row o c hv h0 hc hl hA hz => exact .row b o c hv h0 hc hB hl hA hz
theorem SR.sb {w : World} {B : Nat} {v : Value} {x : List Int} (h : SR w B v x) (d : Nat) (hd : B ≤ d) : ∃ b, B ≤ b ∧ SB w b v x ∧ (x = [] ∧ b = d ∨ b < w.heap.size) := by
  cases h with
  | nil a c hv hx => exact ⟨d, hd, .nil a c hv hx, .inl ⟨hx, rfl⟩⟩
  | row b o c hv h0 hc hB hl hA hz => exact ⟨b, hB, .row o c hv h0 hc hl hA hz, .inr hl⟩
theorem SB.kept {S : Nat → Prop} {w w' : World} {b : Nat} {v : Value} {x : List Int} (h : SB w b v x) (hk : Kept S w w') (hs : ¬ S b) : SB w' b v x := by
  cases h with
  | nil a c hv hx => exact .nil a c hv hx
  | row o c hv h0 hc hl hA hz => exact .row o c hv h0 hc (Nat.lt_of_lt_of_le hl hk.size) (fun i hi => (hk.cell hl hs).trans (hA i hi)) (fun i hi => (hk.froz hl hs).trans (hz i hi))
theorem SB.view {w : World} {b : Nat} {v : Value} {x : List Int} (h : SB w b v x) : VW w v x := (h.sr (Nat.le_refl _)).view
theorem rest_ne (w : World) (p q : Int) (b : Nat) (v : Value) (x : List Int) (b2 o2 n c2 : Nat) (y : Nat → Int) (hv : SB w b v x) (hM : MD w p b2 o2 n c2 y) (hne : b ≠ b2) (hq : q = p * p) (hp : 1 < p ∧ p < 2147483648)
    (hx : ∀ j, 0 ≤ x.getD j 0 ∧ x.getD j 0 < q) (hl : x.length ≤ 2097152) :
    Calls Tryd.prog 60 #[FV p q, v, .slice (some ⟨b2, o2, none⟩) (n + 1 : Nat) c2] w fun e w' => ∃ u z, e = .returned u ∧ SB w' b u z ∧ Kept (· = b) w w' ∧ Res p (lst y (n + 1)) (row x) z := by
  cases hv with
  | nil a c hv hx =>
    subst hv
    subst hx
    refine (rest_zero w p q a c b2 o2 n c2 hM.small).mono ?_
    rintro e w' ⟨he, hb⟩
    refine ⟨_, [], he, .nil a c rfl rfl, .of_below hb, by rw [lst_length]; exact Nat.succ_pos _, fun j => ?_, fun h => by simp at h, .refl _ _ _⟩
    rw [getD_of_ge [] j (Nat.zero_le _)]; omega
  | row o c hv h0 hc hbl hA hz =>
    subst hv
    refine (rest_any w p q _ b o x.length c b2 o2 n c2 (fun j => x.getD j 0) y (fun _ => rfl) hc hbl hA hz hM.row hne hq hp hM.cap hl hM.small (fun i _ => hx i) hM.bd hM.g hM.ne).mono ?_
    intro e w' h
    obtain ⟨u, z, he, h1, h2, h3⟩ := h.sr (B := 0) (by omega) (Nat.zero_le _) hbl hc hz
    obtain ⟨m, aa, r, Q, he', ha, hm, hmn, hC, hA', hb', hlst, hh⟩ := h
    rw [he] at he'
    obtain rfl := Ending.returned.inj he'
    refine ⟨_, z, he, ?_, .of_chg hC, h3.len, h3.bd, h3.top, (Cg.of fun j => by rw [cut_getD]).trans h3.cg⟩
    cases h1 with
    | nil a c hv hx => exact .nil a c hv hx
    | row b' o' c' hv g0 gc gb gl gA gz =>
      simp only [Value.slice.injEq] at hv
      obtain ⟨e1, e2, e3⟩ := hv
      rw [ha (by omega)] at e1
      simp only [Option.some.injEq, Addr.mk.injEq] at e1
      obtain ⟨rfl, rfl, -⟩ := e1
      subst e3
      refine .row o c (by rw [ha (by omega), e2]) g0 gc gl gA gz
/-- The greatest common divisor by Euclid's way. -/
inductive GcdR (p : Int) : List Int → List Int → List Int → Prop
  | nil (f z : List Int) (h : IsMon p f z) : GcdR p f [] z
  | step (f g r z : List Int) (h0 : 0 < g.length) (hr : Res p g (row f) r) (h : GcdR p g r z) : GcdR p f g z
inductive GcdPost (w : World) (p : Int) (f g : List Int) (e : Ending) (w' : World) : Prop
  | mk (u : Value) (z : List Int) (he : e = .returned u) (hS : SR w' w.heap.size u z) (hb : Below w.heap.size w w') (hG : GcdR p f g z)
theorem SB.md {w : World} {p : Int} {b : Nat} {v : Value} {x : List Int} (h : SB w b v x) (hp : PrI p) (hx : IsP p x) (hl : x.length ≤ 1048576) (h0 : 0 < x.length) :
    ∃ o n c, v = .slice (some ⟨b, o, none⟩) (n + 1 : Nat) c ∧ MD w p b o n c (fun j => x.getD j 0) ∧ x.length = n + 1 ∧ lst (fun j => x.getD j 0) (n + 1) = x := by
  cases h with
  | nil a c hv hx => subst hx; simp at h0
  | row o c hv h0 hc hbl hA hz =>
    obtain ⟨n, hn⟩ : ∃ n, x.length = n + 1 := ⟨x.length - 1, by omega⟩
    have ht := hx.top h0
    rw [hn, Nat.add_sub_cancel] at ht
    refine ⟨o, n, c, by rw [hv, hn], ⟨by rw [← hn]; exact hA, by omega, fun i _ => hx.bd i, hp.gcd (hx.bd n).1 ht (hx.bd n).2, ht, by omega⟩, hn, ?_⟩
    rw [← hn]; exact lst_self x
set_option maxRecDepth 10000 in
set_option maxHeartbeats 2000000 in
theorem gcd_any (w : World) (p q : Int) (v1 v2 : Value) (f g : List Int) (h1 : VW w v1 f) (h2 : VW w v2 g) (hq : q = p * p) (hpr : PrI p) (hf : IsP p f) (hg : IsP p g) (hl1 : f.length ≤ 1000) (hl2 : g.length ≤ 1000) :
    Calls Tryd.prog 42 #[FV p q, v1, v2] w fun e w' => GcdPost w p f g e w' := by
  have hp : 1 < p ∧ p < 2147483648 := by
    obtain ⟨P, h1, h2, h3⟩ := hpr
    have := h2.1
    omega
  have H1 : Hid (VW w v1 f) := h1
  have H2 : Hid (VW w v2 g) := h2
  have HPR : Hid (PrI p) := hpr
  have HF : Hid (IsP p f) := hf
  have HG : Hid (IsP p g) := hg
  have HQ : Hid (q = p * p) := hq
  have hpq : p ≤ q := by
    have h9 := Int.mul_le_mul_of_nonneg_left (show 1 ≤ p by omega) (show 0 ≤ p by omega)
    rw [Int.mul_one, ← hq] at h9
    exact h9
  clear h1 h2 hpr hf hg hq
  go_enter Tryd.func42, Tryd.ntmps42
  go_upto_region 1 with fail
  refine wp_world (fun w1 => Below w.heap.size w w1 ∧ w1.heap.size = w.heap.size + 1 ∧ w1.cell? ⟨w.heap.size, 0, none⟩ = some (.int .i64 p) ∧ w1.cell? ⟨w.heap.size, 1, none⟩ = some (.int .i64 q)) ⟨bel1 _ _, by simp, by simp [go_sem], by simp [go_sem]⟩ ?_
  rintro w1 ⟨hB1, hl1', c0, c1'⟩
  obtain ⟨b4, hb4⟩ : ∃ x, x = w.heap.size := ⟨_, rfl⟩
  rw [← hb4] at c0 c1' hl1' ⊢
  have HB4 : Hid (b4 = w.heap.size ∧ w1.heap.size = b4 + 1) := ⟨hb4, hl1'⟩
  have HB1 : Hid (Below w.heap.size w w1) := hB1
  clear hB1 hl1' hb4
  go_wp2_with (go_at_call 35; fail)
  refine (clone_sr w1 v1 f (H1.out.below HB1.out) (by omega)).mono ?_
  rintro e w2 ⟨u1, rfl, hS2, hb2⟩
  have HS2 : Hid (SR w2 w1.heap.size u1 f) := hS2
  have HB2 : Hid (Below w1.heap.size w1 w2) := hb2
  clear hS2 hb2
  go_wp2_with (go_at_call 35; fail)
  refine (clone_sr w2 v2 g ((H2.out.below HB1.out).below HB2.out) (by omega)).mono ?_
  rintro e w3 ⟨u2, rfl, hS3, hb3⟩
  have HS : Hid (∃ b1 b2, b1 ≠ b2 ∧ b4 < b1 ∧ b4 < b2 ∧ SB w3 b1 u1 f ∧ SB w3 b2 u2 g) := by
    have h9 := HB4.out.2
    have h8 := HB2.out.size
    obtain ⟨b2, hb2, hs2, -⟩ := hS3.sb w2.heap.size (Nat.le_refl _)
    obtain ⟨b1, hb1, hs1, hd1⟩ := (HS2.out.below hb3).sb (b2 + 1) (by omega)
    cases HS2.out.below hb3 with
    | nil a c hv hx => exact ⟨b2 + 1, b2, by omega, by omega, by omega, .nil a c hv hx, hs2⟩
    | row b o c hv h0 hc hb hl hA hz =>
      have hlt : b < w2.heap.size := by
        cases HS2.out with
        | nil a' c' hv' hx' => rw [hx'] at h0; simp at h0
        | row b' o' c' hv' h0' hc' hb' hl' hA' hz' =>
          rw [hv'] at hv
          simp only [Value.slice.injEq, Option.some.injEq, Addr.mk.injEq] at hv
          omega
      exact ⟨b, b2, by omega, by omega, by omega, .row o c hv h0 hc hl hA hz, hs2⟩
  have HB3 : Hid (Below (b4 + 1) w1 w3) := by
    have h9 := HB4.out.2
    show Below _ _ _
    rw [← h9]; exact HB2.out.trans (hb3.mono HB2.out.size)
  clear hS3 hb3
  go_wp2
  go_loopw [1, 2] (fun s t wr => ∃ (X Y : List Int) (b1 b2 : Nat), SB wr b1 s X ∧ SB wr b2 t Y ∧ b1 ≠ b2 ∧ b4 < b1 ∧ b4 < b2 ∧ IsP p X ∧ IsP p Y ∧ X.length ≤ 1000 ∧ Y.length ≤ 1000 ∧ (∀ z, GcdR p X Y z → GcdR p f g z) ∧ Below (b4 + 1) w1 wr) (fun _ t _ => vlen t)
  case atStart =>
    obtain ⟨b1, b2, h1, h2, h3, h4, h5⟩ := HS.out
    exact ⟨f, g, b1, b2, h4, h5, h1, h2, h3, HF.out, HG.out, hl1, hl2, fun z h => h, HB3.out⟩
  case round =>
    obtain ⟨X, Y, b1, b2, hX, hY, hne, hb1, hb2, hPX, hPY, hlX, hlY, hGG, hB⟩ := hrel
    have HX : Hid (SB wr b1 u1 X) := hX
    have HY : Hid (SB wr b2 u2 Y) := hY
    have HNE : Hid (b1 ≠ b2 ∧ b4 < b1 ∧ b4 < b2) := ⟨hne, hb1, hb2⟩
    have HPX : Hid (IsP p X) := hPX
    have HPY : Hid (IsP p Y) := hPY
    have HGG : Hid (∀ z, GcdR p X Y z → GcdR p f g z) := hGG
    have HB : Hid (Below (b4 + 1) w1 wr) := hB
    have hlr : b4 < wr.heap.size := by have := HB4.out.2; have := hB.size; omega
    have d0 : wr.cell? ⟨b4, 0, none⟩ = some (.int .i64 p) := (hB.cell (p := ⟨b4, 0, none⟩) (Nat.lt_succ_self _)).trans c0
    have d1 : wr.cell? ⟨b4, 1, none⟩ = some (.int .i64 q) := (hB.cell (p := ⟨b4, 1, none⟩) (Nat.lt_succ_self _)).trans c1'
    clear hX hY hne hb1 hb2 hPX hPY hGG hB c0 c1'
    by_cases h0 : 0 < Y.length
    · obtain ⟨o, n, c, rfl, hM, hYn, hYl⟩ := HY.out.md HPR.out HPY.out (by omega) h0
      have CR := rest_ne wr p q b1 u1 X b2 o n c _ HX.out hM HNE.out.1 HQ.out hp (fun j => ⟨(HPX.out.bd j).1, by have := (HPX.out.bd j).2; omega⟩) (by omega)
      rw [hYl] at CR
      have HYN : Hid (Y.length = n + 1) := hYn
      have hn0 : (0 : Int) < ((n : Int) + 1) := by omega
      clear hM hYn hYl
      go_wp2_with (go_at_call 60; fail)
      refine CR.mono ?_
      rintro e w5 ⟨u, z, rfl, hS5, hK5, hR5⟩
      have HREL : Hid ((∃ (X Y : List Int) (b1 b2_1 : Nat), SB w5 b1 (.slice (some ⟨b2, o, none⟩) (n + 1 : Nat) c) X ∧ SB w5 b2_1 u Y ∧ b1 ≠ b2_1 ∧ b4 < b1 ∧ b4 < b2_1 ∧ IsP p X ∧ IsP p Y ∧ X.length ≤ 1000 ∧ Y.length ≤ 1000 ∧ (∀ z, GcdR p X Y z → GcdR p f g z) ∧ Below (b4 + 1) w1 w5) ∧ vlen u < n + 1) := by
        have h9 := HNE.out
        have hlen := hR5.len
        refine ⟨⟨Y, z, b2, b1, HY.out.kept hK5 (fun e => h9.1 e.symm), hS5, fun e => h9.1 e.symm, h9.2.2, h9.2.1, HPY.out, ⟨hR5.bd, hR5.top⟩, hlY, by omega, fun z' h => HGG.out z' (.step X Y z z' h0 hR5 h), HB.out.trans (hK5.below (by have := HB4.out.2; have := HB.out.size; omega) (fun k hk e => by omega))⟩, ?_⟩
        have h7 := HYN.out
        obtain ⟨a9, b9, o9, c9, rfl, _⟩ := hS5.view
        show z.length < n + 1
        omega
      clear hS5 hK5 hR5 CR
      go_wp2
      exact HREL.out
    · have hy0 : Y = [] := List.length_eq_zero_iff.1 (by omega)
      obtain ⟨a, c, rfl⟩ : ∃ a c, u2 = .slice a 0 c := by
        cases HY.out with
        | nil a c hv hx => exact ⟨a, c, hv⟩
        | row o c hv h0' hc hl hA hz => exact absurd h0' h0
      have h00 : ¬ (0 : Int) < 0 := by omega
      have CM := monic_any wr p q u1 X HX.out.view HQ.out hp HPX.out.bd (fun h => HPR.out.gcd (HPX.out.bd _).1 (HPX.out.top h) (HPX.out.bd _).2) HPX.out.top (by omega)
      go_wp2_with (go_at_call 45; fail)
      refine CM.mono ?_
      rintro e w5 ⟨u, z, rfl, hS5, hb5, hm5⟩
      have R : Hid (GcdPost w p f g (.returned u) w5) := by
        have h9 := HB4.out
        have h8 := HB.out.size
        refine .mk u z rfl (hS5.mono (by omega)) (HB1.out.trans ((HB.out.mono (by omega)).trans (hb5.mono (by omega)))) (HGG.out z ?_)
        rw [hy0]; exact .nil X z hm5
      clear hS5 hb5 hm5 CM
      go_wp2
      refine bodyPost_ret (v := u) (by simp [results, go_sem, loadVar]) rfl ?_
      exact R.out
end Go.Proofs.YtffdemplaodbcaaDoor
namespace Go.Proofs.YtffdemplaodbcaaDoor
open Go Go.Proofs Go.RowKit Go.Rad

/-- A prime's numbers have inverses. -/
theorem PrI.inv {p a : Int} (h : PrI p) (h0 : 0 < a) (h1 : a < p) : ∃ r, 0 < r ∧ r < p ∧ r * a % p = 1 := by
  obtain ⟨N, rfl, hN, _⟩ := h
  obtain ⟨A, rfl⟩ : ∃ A : Nat, a = A := ⟨a.toNat, by omega⟩
  have hnd : ¬ N ∣ A := fun hd => by have := Nat.le_of_dvd (by omega) hd; omega
  have h2 := hN.two
  have hf := _root_.Rad.fermat1 hN hnd
  have e1 : N - 1 = (N - 2) + 1 := by omega
  rw [e1, Nat.pow_succ] at hf
  obtain ⟨X, hX⟩ : ∃ X, A ^ (N - 2) % N = X := ⟨_, rfl⟩
  have hX2 : X < N := by rw [← hX]; exact Nat.mod_lt _ (by omega)
  have hm : X * A % N = 1 := by rw [← hX, Nat.mod_mul_mod]; exact hf
  have hX0 : X ≠ 0 := fun h => by rw [h, Nat.zero_mul, Nat.zero_mod] at hm; omega
  refine ⟨X, by omega, by omega, ?_⟩
  have : ((X * A % N : Nat) : Int) = (1 : Nat) := by rw [hm]
  push_cast at this
  exact this
theorem Res.next {p : Int} {m f A X Y Q : List Int} {a b : Nat} (hA : Res p m (row (ppow f a)) A) (hX : Res p m (row (ppow f b)) X) (hN : Nrm p (row (pmul A X)) Y) (hQ : Res p m (row Y) Q) : Res p m (row (ppow f (a + b))) Q := by
  have h1 := hA.cg.mul hX.cg
  have h2 : Cg p m (row (ppow f (a + b))) (row (pmul (ppow f a) (ppow f b))) := .of fun j => by rw [row_ppow_add]
  have h3 : Cg p m (row (pmul A X)) (row Y) := .of fun j => by rw [hN.eq, Int.emod_emod]
  exact hQ.of ((h2.trans h1).trans h3)
theorem meas_lt {i j : Int} (h0 : 0 < i) (h : j < i) : (Lib.intOf (.int .i64 j)).toNat < (Lib.intOf (.int .i64 i)).toNat := by simp only [Lib.intOf]; omega
theorem pw_odd {a b k j N : Nat} (h : a + b * (k + 1) = N) (e : k + 1 = j + j + 1) : a + b + (b + b) * j = N := by
  rw [e] at h
  rw [← h, Nat.mul_add, Nat.mul_add, Nat.mul_one, Nat.add_mul]; omega
theorem pw_even {a b k j N : Nat} (h : a + b * (k + 1) = N) (e : k + 1 = j + j) : a + (b + b) * j = N := by
  rw [e] at h
  rw [← h, Nat.mul_add, Nat.add_mul]
theorem IsF.top {p : Int} {xs : List Int} (h : IsF p xs) : 0 < xs.length → xs.getD (xs.length - 1) 0 ≠ 0 := h.last
/-- What is the same modulo a multiple of m is so modulo m. -/
theorem Cg.scale {p r : Int} {m z : List Int} {u v : Nat → Int} (hz : ∀ j, z.getD j 0 % p = m.getD j 0 * r % p) (h : Cg p z u v) : Cg p m u v := by
  obtain ⟨q, hq⟩ := h
  refine ⟨q.map (r * ·), fun j => ?_⟩
  rw [hq j, Int.add_emod, Int.add_emod (v j) (act (q.map (r * ·)) (row m) j)]
  congr 2
  rw [act_map, ← act_smul]
  exact act_cong q (fun i => by rw [row_getD, row_getD, hz, Int.mul_comm]) j
set_option maxRecDepth 10000 in
set_option maxHeartbeats 4000000 in
theorem mpower_any (w : World) (v1 v2 : Value) (xs ys : List Int) (p : Int) (N : Nat) (h1 : VW w v1 xs) (h2 : VW w v2 ys) (hX : IsF p xs) (hY : IsF p ys) (hy0 : 0 < ys.length) (hN : N < 9223372036854775808) :
    Calls Tryd.prog 18 #[v1, .int .i64 N, v2, .int .i64 p] w fun e w' => MrPost w p (ppow xs N) ys e w' := by
  have hp : 1 < p ∧ p < 2147483648 := by
    obtain ⟨P, h1, h2, h3⟩ := hX.pr
    have := h2.1
    omega
  have H1 : Hid (VW w v1 xs) := h1
  have HX : Hid (IsF p xs) := hX
  have HY : Hid (IsF p ys) := hY
  have CS := mscaled_any w v2 ys p
  obtain ⟨r0, hr1, hr2, hr3⟩ := hY.pr.inv (a := ys.getD (ys.length - 1) 0) (by have := (hY.all (ys.length - 1)).1; have := hY.last hy0; omega) (hY.all _).2
  replace CS := CS r0 h2 hp hY.all (by have := hY.len; omega) hy0 ⟨hr1, hr2, hr3⟩
  have HY0 : Hid (0 < ys.length) := hy0
  clear h1 h2 hX hY hr1 hr2 hr3 hy0
  go_enter Tryd.func18, Tryd.ntmps18
  go_wp2_with (go_at_call 40; fail)
  refine CS.mono ?_
  rintro e w1 ⟨u1, zs, r, rfl, hS1, hb1, hzl, hz, hr1, hr2, hr3⟩
  have HS1 : Hid (VW w1 u1 zs) := hS1.view
  have HB1 : Hid (Below w.heap.size w w1) := hb1
  have HZL : Hid (zs.length = ys.length) := hzl
  have hzb : ∀ j, 0 ≤ zs.getD j 0 ∧ zs.getD j 0 < p := fun j => by
    rw [hz]; exact ⟨Int.emod_nonneg _ (by omega), Int.emod_lt_of_pos _ (by omega)⟩
  have HZB : Hid (∀ j, 0 ≤ zs.getD j 0 ∧ zs.getD j 0 < p) := hzb
  have HZT : Hid (zs.getD (zs.length - 1) 0 = 1) := by
    show _ = _
    rw [hz, hzl, Int.mul_comm]; exact hr3
  have HZ : Hid (∀ j, zs.getD j 0 % p = ys.getD j 0 * r % p) := fun j => by rw [hz, Int.emod_emod]
  have HLZ : Hid (zs.length ≤ 65 ∧ 0 < zs.length) := by
    have h1 := HY.out.len
    have h2 := HY0.out
    show _ ∧ _
    omega
  clear hS1 hb1 hzl hz hzb hr1 hr2 hr3 CS
  -- what MRest tells of any list
  have CR : ∀ (wx : World) (v : Value) (x : List Int), Below w1.heap.size w1 wx → VW wx v x → (∀ j, 0 ≤ x.getD j 0 ∧ x.getD j 0 < p) → (0 < x.length → x.getD (x.length - 1) 0 ≠ 0) → x.length ≤ 1000 →
      Calls Tryd.prog 41 #[v, u1, .int .i64 p] wx fun e w' => MrPost wx p x zs e w' := fun wx v x hb hV hxb hxt hxl =>
    mrest_any wx v u1 x zs p hV (HS1.out.below hb) hp hxb HZB.out hxt HLZ.out.2 HZT.out hxl (by have := HLZ.out.1; omega)
  have HCR : Hid _ := CR
  clear CR
  go_wp2_with (go_at_call 41; fail)
  have HS2 : SR (w1.alloc (Obj.cells #[Value.int IntKind.i64 1] 3)) w1.heap.size (.slice (some ⟨w1.heap.size, 0, none⟩) 1 1) [1] :=
    .row w1.heap.size 0 1 rfl (by decide) (by decide) (Nat.le_refl _) (by simp) (fun i hi => by
      have h0 : i = 0 := by simp at hi; omega
      subst h0
      simp [go_sem]) (fun i hi => by
      have h0 : i = 0 := by simp at hi; omega
      subst h0
      simp [go_sem])
  refine (HCR.out _ _ [1] (bel1 _ _) HS2.view (fun j => by
    cases j with
    | zero => show 0 ≤ (1 : Int) ∧ (1 : Int) < p; omega
    | succ j => rw [getD_of_ge [1] (j + 1) (by simp)]; omega) (fun _ => by decide) (by decide)).mono ?_
  rintro e w2 ⟨u2, A, rfl, hV2, hb2, hR2⟩
  have HB2 : Hid (Below w1.heap.size w1 w2) := (bel1 w1 _).trans (hb2.mono (by simp))
  have HV2 : Hid (VW w2 u2 A) := hV2
  have HR2 : Hid (Res p zs (row (ppow xs 0)) A) := hR2
  clear HS2 hV2 hb2 hR2
  go_wp2_with (go_at_call 41; fail)
  refine (HCR.out w2 v1 xs HB2.out ((H1.out.below HB1.out).below HB2.out) HX.out.all HX.out.last (by have := HX.out.len; omega)).mono ?_
  rintro e w3 ⟨u3, X, rfl, hV3, hb3, hR3⟩
  have HB3 : Hid (Below w1.heap.size w1 w3) := HB2.out.trans (hb3.mono HB2.out.size)
  have HV3 : Hid (VW w3 u3 X) := hV3
  have HV23 : Hid (VW w3 u2 A) := HV2.out.below hb3
  have HR3 : Hid (Res p zs (row (ppow xs 1)) X) := hR3.of (.of fun j => by rw [row_ppow_one])
  clear hV3 hb3 hR3 HV2
  go_wp2
  go_loopw [0, 1, 9] (fun x i o wr => ∃ (k a b : Nat) (A X : List Int), i = .int .i64 k ∧ a + b * k = N ∧ k ≤ N ∧ VW wr o A ∧ Res p zs (row (ppow xs a)) A ∧ VW wr x X ∧ Res p zs (row (ppow xs b)) X ∧ Below w1.heap.size w1 wr) (fun _ i _ _ => (Lib.intOf i).toNat)
  case atStart => exact ⟨N, 0, 1, A, X, rfl, by omega, Nat.le_refl _, HV23.out, HR2.out, HV3.out, HR3.out, HB3.out⟩
  case round =>
    obtain ⟨k, a, b, A, X, rfl, hk, hkN, hVA, hRA, hVX, hRX, hB⟩ := hrel
    have HK : Hid (a + b * k = N) := hk
    have HVA : Hid (VW wr _ A) := hVA
    have HRA : Hid (Res p zs (row (ppow xs a)) A) := hRA
    have HVX : Hid (VW wr _ X) := hVX
    have HRX : Hid (Res p zs (row (ppow xs b)) X) := hRX
    have HB : Hid (Below w1.heap.size w1 wr) := hB
    clear hk hVA hRA hVX hRX hB HV23 HV3 HR2 HR3
    have HLL : Hid (A.length ≤ 65 ∧ X.length ≤ 65) := by
      have h1 := HRA.out.len
      have h2 := HRX.out.len
      have h3 := HLZ.out
      show _ ∧ _
      omega
    cases k with
    | zero =>
      have h00 : ¬ (0 : Int) < 0 := by omega
      go_wp2
      refine bodyPost_ret (v := u9) (by simp [results, go_sem, loadVar]) rfl ?_
      have hk := HK.out
      rw [Nat.mul_zero, Nat.add_zero] at hk
      subst hk
      refine .mk u9 A rfl HVA.out (HB1.out.trans (HB.out.mono HB1.out.size)) ⟨by rw [← HZL.out]; exact HRA.out.len, HRA.out.bd, HRA.out.top, HRA.out.cg.scale HZ.out⟩
    | succ k =>
      obtain ⟨i, hi⟩ : ∃ i : Int, i = ((k + 1 : Nat) : Int) := ⟨_, rfl⟩
      obtain ⟨j, hj⟩ : ∃ j : Nat, j = (k + 1) / 2 := ⟨_, rfl⟩
      rw [← hi]
      have hi0 : 0 < i := by omega
      have htd : i.tdiv 2 = (j : Int) := by rw [Int.tdiv_eq_ediv_of_nonneg (by omega)]; omega
      have hiN : i < 9223372036854775808 := by omega
      have HJN : Hid (j ≤ N ∧ (j : Int) < i) := by show _ ∧ _; omega
      have hwj : wrap64 (j : Int) = (j : Int) := wrap_in (by omega) (by omega)
      have HJ : Hid (j = (k + 1) / 2) := hj
      have HI : Hid (i = ((k + 1 : Nat) : Int)) := hi
      have CM := fun (wx : World) (v1 v2 : Value) (x y : List Int) (h1 : VW wx v1 x) (h2 : VW wx v2 y) (hx : ∀ j, 0 ≤ x.getD j 0 ∧ x.getD j 0 < p) (hy : ∀ j, 0 ≤ y.getD j 0 ∧ y.getD j 0 < p) (hl1 : x.length ≤ 65) (hl2 : y.length ≤ 65) => mmul_any wx v1 v2 x y p h1 h2 (by omega) hx hy (by omega) (by omega)
      have HCM : Hid _ := CM
      clear CM hj hi
      by_cases hodd : (k + 1) % 2 = 1
      · have htm : i.tmod 2 = 1 := by rw [Int.tmod_eq_emod_of_nonneg (by omega)]; have := HI.out; omega
        have HE : Hid (k + 1 = j + j + 1) := by have := HJ.out; show _ = _; omega
        clear hodd
        go_wp2_with (go_at_call 15; fail)
        refine (HCM.out wr _ _ A X HVA.out HVX.out HRA.out.bd HRX.out.bd HLL.out.1 HLL.out.2).mono ?_
        rintro e w4 ⟨u4, Y, rfl, hS4, hb4, hN4⟩
        have HB4 : Hid (Below w1.heap.size w1 w4) := HB.out.trans (hb4.mono HB.out.size)
        have HV4 : Hid (VW w4 u4 Y) := hS4.view
        have HN4 : Hid (Nrm p (row (pmul A X)) Y) := hN4
        have HX4 : Hid (VW w4 _ X) := HVX.out.below hb4
        have HL4 : Hid (Y.length ≤ 1000) := by
          have h1 := HLL.out
          have := hN4.len (n := A.length + X.length) (fun j hj => by rw [row_pmul_ge A X j (by omega)]; simp)
          show _ ≤ _
          omega
        clear hS4 hb4 hN4
        go_wp2_with (go_at_call 41; fail)
        refine (HCR.out w4 u4 Y HB4.out HV4.out (HN4.out.isP (by omega)).bd HN4.out.top HL4.out).mono ?_
        rintro e w5 ⟨u5, Q, rfl, hV5, hb5, hR5⟩
        have HB5 : Hid (Below w1.heap.size w1 w5) := HB4.out.trans (hb5.mono HB4.out.size)
        have HV5 : Hid (VW w5 u5 Q) := hV5
        have HX5 : Hid (VW w5 _ X) := HX4.out.below hb5
        have HR5 : Hid (Res p zs (row (ppow xs (a + b))) Q) := HRA.out.next HRX.out HN4.out hR5
        clear hV5 hb5 hR5
        go_wp2_with (go_at_call 15; fail)
        refine (HCM.out w5 _ _ X X HX5.out HX5.out HRX.out.bd HRX.out.bd HLL.out.2 HLL.out.2).mono ?_
        rintro e w6 ⟨u6, G0, rfl, hS6, hb6, hN6⟩
        have HB6 : Hid (Below w1.heap.size w1 w6) := HB5.out.trans (hb6.mono HB5.out.size)
        have HV6 : Hid (VW w6 u6 G0) := hS6.view
        have HN6 : Hid (Nrm p (row (pmul X X)) G0) := hN6
        have HQ6 : Hid (VW w6 _ Q) := HV5.out.below hb6
        have HL6 : Hid (G0.length ≤ 1000) := by
          have h1 := HLL.out
          have := hN6.len (n := X.length + X.length) (fun j hj => by rw [row_pmul_ge X X j (by omega)]; simp)
          show _ ≤ _
          omega
        clear hS6 hb6 hN6
        go_wp2_with (go_at_call 41; fail)
        refine (HCR.out w6 u6 G0 HB6.out HV6.out (HN6.out.isP (by omega)).bd HN6.out.top HL6.out).mono ?_
        rintro e w7 ⟨u7, G, rfl, hV7, hb7, hR7⟩
        have HB7 : Hid (Below w1.heap.size w1 w7) := HB6.out.trans (hb7.mono HB6.out.size)
        have HV7 : Hid (VW w7 u7 G) := hV7
        have HQ7 : Hid (VW w7 _ Q) := HQ6.out.below hb7
        have HR7 : Hid (Res p zs (row (ppow xs (b + b))) G) := HRX.out.next HRX.out HN6.out hR7
        clear hV7 hb7 hR7
        go_wp2
        exact ⟨⟨j, a + b, b + b, Q, G, congrArg (Value.int .i64) hwj, pw_odd HK.out HE.out, HJN.out.1, HQ7.out, HR5.out, HV7.out, HR7.out, HB7.out⟩, meas_lt hi0 (by rw [hwj]; exact HJN.out.2)⟩
      · have htm : i.tmod 2 = 0 := by rw [Int.tmod_eq_emod_of_nonneg (by omega)]; have := HI.out; omega
        have HE : Hid (k + 1 = j + j) := by have := HJ.out; show _ = _; omega
        clear hodd
        go_wp2_with (go_at_call 15; fail)
        refine (HCM.out wr _ _ X X HVX.out HVX.out HRX.out.bd HRX.out.bd HLL.out.2 HLL.out.2).mono ?_
        rintro e w6 ⟨u6, G0, rfl, hS6, hb6, hN6⟩
        have HB6 : Hid (Below w1.heap.size w1 w6) := HB.out.trans (hb6.mono HB.out.size)
        have HV6 : Hid (VW w6 u6 G0) := hS6.view
        have HN6 : Hid (Nrm p (row (pmul X X)) G0) := hN6
        have HQ6 : Hid (VW w6 _ A) := HVA.out.below hb6
        have HL6 : Hid (G0.length ≤ 1000) := by
          have h1 := HLL.out
          have := hN6.len (n := X.length + X.length) (fun j hj => by rw [row_pmul_ge X X j (by omega)]; simp)
          show _ ≤ _
          omega
        clear hS6 hb6 hN6
        go_wp2_with (go_at_call 41; fail)
        refine (HCR.out w6 u6 G0 HB6.out HV6.out (HN6.out.isP (by omega)).bd HN6.out.top HL6.out).mono ?_
        rintro e w7 ⟨u7, G, rfl, hV7, hb7, hR7⟩
        have HB7 : Hid (Below w1.heap.size w1 w7) := HB6.out.trans (hb7.mono HB6.out.size)
        have HV7 : Hid (VW w7 u7 G) := hV7
        have HQ7 : Hid (VW w7 _ A) := HQ6.out.below hb7
        have HR7 : Hid (Res p zs (row (ppow xs (b + b))) G) := HRX.out.next HRX.out HN6.out hR7
        clear hV7 hb7 hR7
        go_wp2
        exact ⟨⟨j, a, b + b, A, G, congrArg (Value.int .i64) hwj, pw_even HK.out HE.out, HJN.out.1, HQ7.out, HRA.out, HV7.out, HR7.out, HB7.out⟩, meas_lt hi0 (by rw [hwj]; exact HJN.out.2)⟩
end Go.Proofs.YtffdemplaodbcaaDoor
