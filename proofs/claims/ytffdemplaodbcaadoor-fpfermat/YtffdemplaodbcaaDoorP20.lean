/- A part of the proof: FC, FD, PB, PC, PE. -/
import Derived.Test.YtffdemplaodbcaaDoorP19
import Derived.Test.YtffdemplaodbcaaDoorP17
import Derived.Test.YtffdemplaodbcaaDoorShelf
import Derived.Test.YtffdemplaodbcaaDoorP16
set_option linter.all false
namespace Go.Proofs.YtffdemplaodbcaaDoor
open Go Go.Proofs Go.RowKit Go.Rad

/-- What rest leaves. -/
inductive RestPost (w : World) (p : Int) (b o n1 c1 n : Nat) (f y : Nat → Int) (e : Ending) (w' : World) : Prop
  | mk (m : Nat) (aa : Option Addr) (r Q : Nat → Int) (he : e = .returned (.slice aa m c1)) (ha : 0 < m → aa = some ⟨b, o, none⟩) (hm : m ≤ n) (hn : m ≤ n1) (hC : Chg w w' b o (o + n1)) (hA : AR w' b o m r)
      (hb : ∀ i, i < m → 0 ≤ r i ∧ r i < p) (hl : 0 < m → r (m - 1) ≠ 0) (hh : ∀ j, j < n1 → f j % p = ((if j < m then r j else 0) + cvp Q y (n + 1) (n1 - n) j) % p)
theorem DivPost.rest {w w' : World} {p : Int} {a : Option Addr} {b o n1 c1 n : Nat} {f y : Nat → Int} {e : Ending} (hp : 0 < p) (hs : 0 < n1 → a = some ⟨b, o, none⟩) (h : DivPost w p a b o n1 c1 n f y e w') :
    ∃ (v : Value) (u : Value), e = .returned (.tuple #[v, u]) ∧ RestPost w p b o n1 c1 n f y (.returned u) w' := by
  cases h with
  | short m he h1 hm hC hA hz hl =>
    obtain ⟨r, re⟩ : ∃ r : Nat → Int, ∀ j, r j = f j % p := ⟨_, fun _ => rfl⟩
    refine ⟨_, _, he, .mk m a r (fun _ => 0) rfl (fun h0 => hs (by omega)) (by omega) hm hC ?_ ?_ ?_ ?_⟩
    · intro i hi; rw [re]; exact hA i (by omega)
    · intro i hi; rw [re]; exact ⟨Int.emod_nonneg _ (by omega), Int.emod_lt_of_pos _ hp⟩
    · intro h0; rw [re]; exact hl h0
    · intro j hj
      rw [show n1 - n = 0 by omega]
      show _ = (_ + 0) % p
      by_cases h5 : j < m
      · rw [if_pos h5, re, Int.add_zero, Int.emod_emod]
      · rw [if_neg h5, Int.add_zero, hz j (by omega) hj]; simp
  | long m h he h1 hm hC hA hb hz hl hh =>
    refine ⟨_, _, he, .mk m _ h (fun t => h (t + n)) rfl (fun _ => rfl) hm (by omega) hC (fun i hi => hA i (by omega)) (fun i hi => hb i (by omega)) hl ?_⟩
    intro j hj
    rw [hh j hj]
    by_cases h5 : j < m
    · rw [if_pos h5, if_pos (by omega)]
    · by_cases h6 : j < n
      · rw [if_neg h5, if_pos h6, hz j (by omega) h6]
      · rw [if_neg h5, if_neg h6]
set_option maxRecDepth 10000 in
set_option maxHeartbeats 1000000 in
theorem rest_any (w : World) (p q : Int) (a : Option Addr) (b o n1 c1 b2 o2 n c2 : Nat) (f y : Nat → Int) (hs : 0 < n1 → a = some ⟨b, o, none⟩) (hc : n1 ≤ c1) (hb : b < w.heap.size) (hF : AR w b o n1 f) (hfz : Free w b o n1) (hY : AR w b2 o2 (n + 1) y) (hne : b ≠ b2)
    (hq : q = p * p) (hp : 1 < p ∧ p < 2147483648) (hc2 : n + 1 ≤ c2) (hm1 : n1 ≤ 2097152) (hm2 : n ≤ 1048576) (hf : ∀ i, i < n1 → 0 ≤ f i ∧ f i < q) (hy : ∀ i, i < n + 1 → 0 ≤ y i ∧ y i < p) (hg : Int.gcd (y n) p = 1) (hy0 : y n ≠ 0) :
    Calls Tryd.prog 60 #[FV p q, .slice a n1 c1, .slice (some ⟨b2, o2, none⟩) (n + 1 : Nat) c2] w fun e w' => RestPost w p b o n1 c1 n f y e w' := by
  have CD := fun wx (hbx : Below w.heap.size w wx) => divide_any wx p q a b o n1 c1 b2 o2 n c2 f y hs hc (Nat.lt_of_lt_of_le hb hbx.size) (hF.below hbx) (fun i hi => (hbx.frozen (p := ⟨b, o + i, none⟩) hb).trans (hfz i hi)) (hY.below hbx) hne hq hp hc2 hm1 hm2 hf hy hg hy0
  have HB : Hid (b < w.heap.size) := hb
  clear hF hfz hY hq hf hy hg
  go_enter Tryd.func60, Tryd.ntmps60
  go_wp2_with (go_at_call 34; fail)
  refine (CD _ (by first | exact bel1 _ _ | exact (bel1 _ _).drew)).mono ?_
  rintro e w2 hd
  obtain ⟨v, u, rfl, hr⟩ := hd.rest (by omega) hs
  have R : Hid (RestPost w p b o n1 c1 n f y (.returned u) w2) := by
    obtain ⟨m, aa, r, Q, he, ha, hm, hn, hC, hA, hb, hl, hh⟩ := hr
    exact .mk m aa r Q he ha hm hn ((chg_of_below (by first | exact bel1 _ _ | exact (bel1 _ _).drew) HB.out _ _).trans hC) hA hb hl hh
  clear hd hr CD
  go_wp2
  refine bodyPost_ret (v := u) (by simp [results, go_sem, loadVar]) rfl ?_
  exact R.out
end Go.Proofs.YtffdemplaodbcaaDoor
namespace Go.Proofs.YtffdemplaodbcaaDoor
open Go Go.Proofs Go.RowKit Go.Rad

set_option maxRecDepth 10000 in
set_option maxHeartbeats 1000000 in
theorem settled_zero (w : World) (p q : Int) (a : Option Addr) (c : Nat) :
    Calls Tryd.prog 32 #[FV p q, .slice a 0 c] w fun e w' => e = .returned (.slice a 0 c) ∧ Below w.heap.size w w' := by
  go_enter Tryd.func32, Tryd.ntmps32
  go_wp2
  refine wp_world (fun w1 => Below w.heap.size w w1) (bel1 _ _) ?_
  intro w1 hb1
  have HB : Hid (Below w.heap.size w w1) := hb1
  clear hb1
  go_loopw [5, 10] (fun mv i wr => i = .int .i64 0 ∧ mv = .int .i64 0 ∧ Below w.heap.size w wr) (fun _ _ _ => 0)
  case atStart => exact ⟨rfl, rfl, HB.out⟩
  case round =>
    obtain ⟨rfl, rfl, hB⟩ := hrel
    have HW : Hid (Below w.heap.size w wr) := hB
    clear hB
    have hc0 : (0 : Int) ≤ (c : Int) := by omega
    go_wp2
    refine bodyPost_ret (v := .slice a 0 c) (by simp [results, go_sem, loadVar]) rfl ?_
    exact ⟨rfl, HW.out⟩
set_option maxRecDepth 10000 in
set_option maxHeartbeats 1000000 in
theorem divide_zero (w : World) (p q : Int) (a : Option Addr) (c : Nat) (b2 o2 n c2 : Nat) (hm2 : n ≤ 1048576) :
    Calls Tryd.prog 34 #[FV p q, .slice a 0 c, .slice (some ⟨b2, o2, none⟩) (n + 1 : Nat) c2] w fun e w' => e = .returned (.tuple #[.slice none 0 0, .slice a 0 c]) ∧ Below w.heap.size w w' := by
  have CS := fun w => settled_zero w p q a c
  have hsi : (0 : Int) ≤ (n : Int) := by omega
  go_enter Tryd.func34, Tryd.ntmps34
  go_wp2_with (go_at_call 32; fail)
  refine (CS _).mono ?_
  rintro e w2 ⟨rfl, hb⟩
  have R : Hid (Below w.heap.size w w2) := Below.trans (by first | exact bel1 _ _ | exact (bel1 _ _).drew) (hb.mono (by simp))
  clear CS hb
  go_wp2
  refine bodyPost_ret (v := .tuple #[.slice none 0 0, .slice a 0 c]) (by simp [results, go_sem, loadVar]) rfl ?_
  exact ⟨rfl, R.out⟩
set_option maxRecDepth 10000 in
set_option maxHeartbeats 1000000 in
theorem rest_zero (w : World) (p q : Int) (a : Option Addr) (c : Nat) (b2 o2 n c2 : Nat) (hm2 : n ≤ 1048576) :
    Calls Tryd.prog 60 #[FV p q, .slice a 0 c, .slice (some ⟨b2, o2, none⟩) (n + 1 : Nat) c2] w fun e w' => e = .returned (.slice a 0 c) ∧ Below w.heap.size w w' := by
  have CS := fun w => divide_zero w p q a c b2 o2 n c2 hm2
  go_enter Tryd.func60, Tryd.ntmps60
  go_wp2_with (go_at_call 34; fail)
  refine (CS _).mono ?_
  rintro e w2 ⟨rfl, hb⟩
  have R : Hid (Below w.heap.size w w2) := Below.trans (by first | exact bel1 _ _ | exact (bel1 _ _).drew) (hb.mono (by simp))
  clear CS hb
  go_wp2
  refine bodyPost_ret (v := .slice a 0 c) (by simp [results, go_sem, loadVar]) rfl ?_
  exact ⟨rfl, R.out⟩
end Go.Proofs.YtffdemplaodbcaaDoor
namespace Go.Proofs.YtffdemplaodbcaaDoor
open Go Go.Proofs Go.RowKit Go.Rad

/-- The value v stands for the polynomial x, in memory from B on. -/
inductive SR (w : World) (B : Nat) (v : Value) (x : List Int) : Prop
  | nil (a : Option Addr) (c : Nat) (hv : v = .slice a 0 c) (hx : x = [])
  | row (b o c : Nat) (hv : v = .slice (some ⟨b, o, none⟩) x.length c) (h0 : 0 < x.length) (hc : x.length ≤ c) (hb : B ≤ b) (hl : b < w.heap.size) (hA : AR w b o x.length (fun j => x.getD j 0)) (hz : Free w b o x.length)
theorem SR.below {w w' : World} {B : Nat} {v : Value} {x : List Int} (h : SR w B v x) (hb : Below w.heap.size w w') : SR w' B v x := by
  cases h with
  | nil a c hv hx => exact .nil a c hv hx
  | row b o c hv h0 hc hB hl hA hz => exact .row b o c hv h0 hc hB (Nat.lt_of_lt_of_le hl hb.size) (hA.below hb) (fun i hi => (hb.frozen (p := ⟨b, o + i, none⟩) hl).trans (hz i hi))
theorem SR.mono {w : World} {B C : Nat} {v : Value} {x : List Int} (h : SR w B v x) (hc : C ≤ B) : SR w C v x := by
  cases h with
  | nil a c hv hx => exact .nil a c hv hx
  | row b o c hv h0 hc' hB hl hA hz => exact .row b o c hv h0 hc' (by omega) hl hA hz
/-- The value v shows the polynomial x. -/
def VW (w : World) (v : Value) (x : List Int) : Prop := ∃ a b o c, v = .slice a x.length c ∧ (0 < x.length → a = some ⟨b, o, none⟩) ∧ AR w b o x.length (fun j => x.getD j 0)
theorem VW.below {w w' : World} {v : Value} {x : List Int} (h : VW w v x) (hb : Below w.heap.size w w') : VW w' v x := by
  obtain ⟨a, b, o, c, hv, ha, hA⟩ := h
  exact ⟨a, b, o, c, hv, ha, hA.below hb⟩
theorem SR.view {w : World} {B : Nat} {v : Value} {x : List Int} (h : SR w B v x) : VW w v x := by
  cases h with
  | nil a c hv hx =>
    subst hx
    exact ⟨a, 0, 0, c, hv, fun h => by simp at h, fun i hi => by simp at hi⟩
  | row b o c hv h0 hc hb hl hA hz => exact ⟨_, b, o, c, hv, fun _ => rfl, hA⟩
theorem getD_of_ge (x : List Int) (j : Nat) (h : x.length ≤ j) : x.getD j 0 = 0 := by simp [List.getD_eq_getElem?_getD, h]
theorem cut_getD (x : List Int) (j : Nat) : cut (fun i => x.getD i 0) x.length j = row x j := by
  rw [row_getD]; unfold cut
  by_cases h : j < x.length
  · rw [if_pos h]
  · rw [if_neg h, getD_of_ge x j (by omega)]
theorem lst_self (x : List Int) : lst (fun i => x.getD i 0) x.length = x := by
  refine List.ext_getElem (by simp [lst]) fun i h1 h2 => ?_
  simp [lst, List.getD_eq_getElem?_getD, h2]
theorem RestPost.sr {w w' : World} {p : Int} {b o n1 c1 n B : Nat} {f y : Nat → Int} {e : Ending} (hp : 0 < p) (h : RestPost w p b o n1 c1 n f y e w') (hB : B ≤ b) (hl : b < w.heap.size) (hc : n1 ≤ c1) (hz : Free w b o n1) :
    ∃ u z, e = .returned u ∧ SR w' B u z ∧ Below B w w' ∧ Res p (lst y (n + 1)) (cut f n1) z := by
  obtain ⟨m, aa, r, Q, he, ha, hm, hmn, hC, hA, hb, hlst, hh⟩ := h
  have hg : ∀ j, (lst r m).getD j 0 = cut r m j := fun j => lst_getD r m j
  refine ⟨_, lst r m, he, ?_, hC.below hB (by omega), ?_, ?_, ?_, ?_⟩
  · by_cases h0 : m = 0
    · subst h0; exact .nil aa c1 rfl rfl
    · obtain rfl := ha (by omega)
      refine .row b o c1 (by rw [lst_length]) (by rw [lst_length]; omega) (by rw [lst_length]; omega) hB (Nat.lt_of_lt_of_le hl hC.size) ?_ ?_
      · intro i hi
        rw [lst_length] at hi
        show _ = some (Value.int _ ((lst r m).getD i 0))
        rw [hg, hA i hi]; unfold cut; rw [if_pos hi]
      · intro i hi
        rw [lst_length] at hi
        exact (hC.froz _).trans (hz i (by omega))
  · rw [lst_length, lst_length]; omega
  · intro j
    rw [hg]; unfold cut
    by_cases h : j < m
    · rw [if_pos h]; exact hb j h
    · rw [if_neg h]; omega
  · rw [lst_length]
    intro h0
    rw [hg]; unfold cut
    rw [if_pos (by omega)]; exact hlst h0
  · refine ⟨lst Q (n1 - n), fun j => ?_⟩
    rw [row_lst, act_row_lst]
    by_cases h : j < n1
    · show (if j < n1 then f j else 0) % p = ((if j < m then r j else 0) + _) % p
      rw [if_pos h]; exact hh j h
    · show (if j < n1 then f j else 0) % p = ((if j < m then r j else 0) + _) % p
      rw [if_neg h, if_neg (by omega)]
      by_cases h2 : n1 ≤ n
      · rw [show n1 - n = 0 by omega]; rfl
      · rw [cvp_zero _ _ _ _ _ (by omega)]; rfl
/-- A modulus: a row of n + 1 numbers below p, whose last has an inverse. -/
structure MD (w : World) (p : Int) (b o n c : Nat) (y : Nat → Int) : Prop where
  row : AR w b o (n + 1) y
  cap : n + 1 ≤ c
  bd : ∀ i, i < n + 1 → 0 ≤ y i ∧ y i < p
  g : Int.gcd (y n) p = 1
  ne : y n ≠ 0
  small : n ≤ 1048576
theorem MD.below {w w' : World} {p : Int} {b o n c : Nat} {y : Nat → Int} (h : MD w p b o n c y) (hb : Below w.heap.size w w') : MD w' p b o n c y := ⟨h.row.below hb, h.cap, h.bd, h.g, h.ne, h.small⟩
theorem MD.step {w w' : World} {p : Int} {b o n c B : Nat} {y : Nat → Int} (h : MD w p b o n c y) (hb : Below B w w') (hB : b < B) : MD w' p b o n c y :=
  ⟨fun i hi => (hb.cell (p := ⟨b, o + i, none⟩) hB).trans (h.row i hi), h.cap, h.bd, h.g, h.ne, h.small⟩
theorem rest_sr (w : World) (p q : Int) (B : Nat) (v : Value) (x : List Int) (b2 o2 n c2 : Nat) (y : Nat → Int) (hv : SR w B v x) (hB : B ≤ w.heap.size) (hM : MD w p b2 o2 n c2 y) (hb2 : b2 < B) (hq : q = p * p) (hp : 1 < p ∧ p < 2147483648)
    (hx : ∀ j, 0 ≤ x.getD j 0 ∧ x.getD j 0 < q) (hl : x.length ≤ 2097152) :
    Calls Tryd.prog 60 #[FV p q, v, .slice (some ⟨b2, o2, none⟩) (n + 1 : Nat) c2] w fun e w' => ∃ u z, e = .returned u ∧ SR w' B u z ∧ Below B w w' ∧ Res p (lst y (n + 1)) (row x) z := by
  cases hv with
  | nil a c hv hx =>
    subst hv
    subst hx
    refine (rest_zero w p q a c b2 o2 n c2 hM.small).mono ?_
    rintro e w' ⟨he, hb⟩
    refine ⟨_, [], he, .nil a c rfl rfl, hb.mono hB, by rw [lst_length]; exact Nat.succ_pos _, fun j => ?_, fun h => by simp at h, .refl _ _ _⟩
    rw [getD_of_ge [] j (Nat.zero_le _)]; omega
  | row b o c hv h0 hc hb hbl hA hz =>
    subst hv
    refine (rest_any w p q _ b o x.length c b2 o2 n c2 (fun j => x.getD j 0) y (fun _ => rfl) hc hbl hA hz hM.row (by omega) hq hp hM.cap hl hM.small (fun i _ => hx i) hM.bd hM.g hM.ne).mono ?_
    intro e w' h
    obtain ⟨u, z, he, h1, h2, h3⟩ := h.sr (B := B) (by omega) hb hbl hc hz
    exact ⟨u, z, he, h1, h2, h3.len, h3.bd, h3.top, (Cg.of fun j => by rw [cut_getD]).trans h3.cg⟩
theorem product_sr (w : World) (p q : Int) (v1 v2 : Value) (x1 x2 : List Int) (h1 : VW w v1 x1) (h2 : VW w v2 x2) (hq : q = p * p) (hp : 1 < p ∧ p < 2147483648)
    (hx1 : ∀ j, 0 ≤ x1.getD j 0 ∧ x1.getD j 0 < p) (hx2 : ∀ j, 0 ≤ x2.getD j 0 ∧ x2.getD j 0 < p) (hl1 : x1.length ≤ 1048576) (hl2 : x2.length ≤ 1048576) :
    Calls Tryd.prog 33 #[FV p q, v1, v2] w fun e w' => ∃ u z, e = .returned u ∧ SR w' w.heap.size u z ∧ Below w.heap.size w w' ∧ z.length ≤ x1.length + x2.length ∧ (∀ j, 0 ≤ z.getD j 0 ∧ z.getD j 0 < q) ∧ ∀ j, row z j % p = row (pmul x1 x2) j % p := by
  obtain ⟨a, b, o, c, rfl, ha, hA⟩ := h1
  obtain ⟨a', b', o', c', rfl, ha', hA'⟩ := h2
  have hq0 : 0 < q := by rw [hq]; exact Int.mul_pos (by omega) (by omega)
  refine (product_any w p q a a' b o x1.length c b' o' x2.length c' (fun j => x1.getD j 0) (fun j => x2.getD j 0) ha ha' hA hA' hq ⟨by omega, hp.2⟩ hl1 hl2 (fun i _ => hx1 i) (fun i _ => hx2 i)).mono ?_
  intro e w' h
  cases h with
  | none he h hb =>
    refine ⟨_, [], he, .nil none 0 rfl rfl, hb, Nat.zero_le _, fun j => ?_, fun j => ?_⟩
    · rw [getD_of_ge [] j (Nat.zero_le _)]; omega
    · rw [row_pmul]
      have e0 : act x1 (row x2) j = 0 := by
        rcases h with h | h
        · rw [List.length_eq_zero_iff.1 h]; rfl
        · rw [List.length_eq_zero_iff.1 h]; exact act_zero x1 j
      rw [e0]; rfl
  | some bn h he h1 h2 hb ho hh =>
    obtain ⟨N, hN⟩ : ∃ N, N = x1.length + x2.length - 1 := ⟨_, rfl⟩
    rw [← hN] at he ho hh
    refine ⟨_, lst h N, he, .row bn 0 N (by rw [lst_length]) (by rw [lst_length]; omega) (by rw [lst_length]; exact Nat.le_refl _) ho.base ho.lt ?_ ?_, hb, by rw [lst_length]; omega, ?_, ?_⟩
    · intro i hi
      rw [lst_length] at hi
      show _ = some (Value.int _ ((lst h N).getD i 0))
      rw [lst_getD, ho.c i hi]; unfold cut; rw [if_pos hi]
    · rw [lst_length]; exact ho.z
    · intro j
      rw [lst_getD]; unfold cut
      by_cases h5 : j < N
      · rw [if_pos h5]; exact ⟨(hh j h5).1, (hh j h5).2.1⟩
      · rw [if_neg h5]; omega
    · intro j
      have e1 : row (pmul x1 x2) j = cvp (fun j => x1.getD j 0) (fun j => x2.getD j 0) x2.length x1.length j := by
        rw [row_pmul, ← act_row_lst, lst_self, lst_self]
      rw [row_lst, e1]; unfold cut
      by_cases h5 : j < N
      · rw [if_pos h5]; exact (hh j h5).2.2
      · rw [if_neg h5, cvp_zero _ _ _ _ _ (by omega)]
end Go.Proofs.YtffdemplaodbcaaDoor
namespace Go.Proofs.YtffdemplaodbcaaDoor
open Go Go.Proofs Go.RowKit Go.Rad

theorem sr_of_row {w : World} {B : Nat} {v : Value} {x : List Int} (h : w.ownsRow B 3 1 v x.length (x.map (Value.int .i64))) : SR w B v x := by
  by_cases h0 : x.length = 0
  · have hx : x = [] := List.length_eq_zero_iff.1 h0
    subst hx
    rcases h.2 with ⟨hv, _⟩ | ⟨g, cap, cur, hv, _⟩
    · exact .nil none 0 hv rfl
    · exact .nil _ cap hv rfl
  · rcases h.2 with ⟨_, hn⟩ | ⟨g, cap, cur, hv, hb, hg, hc, _⟩
    · exact absurd hn h0
    · subst hv
      refine .row g 0 cap rfl (by omega) hc hb (Array.getElem?_eq_some_iff.1 hg).1 (fun i hi => ?_) (fun i hi => ?_)
      · rw [Nat.zero_add, World.ownsRow.cellAt h i (by omega)]
        simp [List.getD_eq_getElem?_getD, hi]
      · rw [Nat.zero_add]; exact World.ownsRow.frozenAt h i
theorem clone_sr (w : World) (v : Value) (x : List Int) (h : VW w v x) (hl : x.length ≤ 1048576) :
    Calls Tryd.prog 35 #[v] w fun e w' => ∃ u, e = .returned u ∧ SR w' w.heap.size u x ∧ Below w.heap.size w w' := by
  obtain ⟨a, b, o, c, rfl, ha, hA⟩ := h
  by_cases h0 : x.length = 0
  · obtain rfl := List.length_eq_zero_iff.1 h0
    cases a with
    | none =>
      refine (Tryd.slices_Clone_int_nil 0 c w).mono ?_
      rintro e w' ⟨he, rfl⟩
      exact ⟨_, he, .nil none 0 rfl rfl, Below.refl _ _⟩
    | some a =>
      refine (Tryd.slices_Clone_int_zero a c w).mono ?_
      rintro e w' ⟨u, he, hr, _, hb⟩
      exact ⟨u, he, sr_of_row hr, hb⟩
  · obtain rfl := ha (by omega)
    refine (Tryd.slices_Clone_int b o x.length c x w (Nat.le_refl _) (by omega) (fun j hj => hA j hj)).mono ?_
    rintro e w' ⟨u, he, hr, _, hb⟩
    rw [List.take_length] at hr
    exact ⟨u, he, sr_of_row hr, hb⟩
/-- A power of a polynomial. -/
def ppow (x : List Int) : Nat → List Int
  | 0 => [1]
  | k + 1 => pmul x (ppow x k)
theorem row_one (j : Nat) : row [1] j = one0 j := by
  show 1 * one0 j + sft (fun _ => 0) j = _
  cases j <;> simp [sft]
theorem row_ppow_add (x : List Int) (b : Nat) : ∀ a j, row (pmul (ppow x a) (ppow x b)) j = row (ppow x (a + b)) j
  | 0, j => by
    rw [row_pmul, Nat.zero_add]
    show 1 * row (ppow x b) j + sft (fun _ => 0) j = _
    cases j <;> simp [sft]
  | a + 1, j => by
    rw [show a + 1 + b = (a + b) + 1 by omega]
    show row (pmul (pmul x (ppow x a)) (ppow x b)) j = row (pmul x (ppow x (a + b))) j
    rw [row_pmul, row_pmul, act_pmul]
    exact act_congr x (fun i => by rw [← row_pmul]; exact row_ppow_add x b a i) j
theorem row_ppow_one (x : List Int) (j : Nat) : row (ppow x 1) j = row x j := by
  show row (pmul x [1]) j = _
  rw [row_pmul]
  exact act_congr x row_one j
/-- Squaring, and once more. -/
theorem Cg.sq {p : Int} {m x f : List Int} {k : Nat} (h : Cg p m (row x) (row (ppow f k))) : Cg p m (row (pmul x x)) (row (ppow f (k + k))) :=
  (h.mul h).trans (.of fun j => by rw [row_ppow_add])
theorem Cg.odd {p : Int} {m x f g : List Int} {k : Nat} (h : Cg p m (row x) (row (ppow f k))) (hg : Cg p m (row g) (row f)) : Cg p m (row (pmul x g)) (row (ppow f (k + 1))) :=
  (h.mul hg).trans (.of fun j => by
    have e : row (pmul (ppow f k) f) j = row (pmul (ppow f k) (ppow f 1)) j := by
      rw [row_pmul, row_pmul]
      exact act_congr _ (fun i => (row_ppow_one f i).symm) j
    rw [e, row_ppow_add])
end Go.Proofs.YtffdemplaodbcaaDoor
namespace Go.Proofs.YtffdemplaodbcaaDoor
open Go Go.Proofs Go.RowKit Go.Rad

theorem IL.vw {w : World} {v : Value} {xs : List Int} (h : IL w v xs) : VW w v xs := by
  obtain ⟨a, b, o, n, c, hv, hn, ha, hc, hm⟩ := h
  subst hn
  exact ⟨a, b, o, c, hv, ha, hc⟩
/-- The first fault of two. -/
noncomputable def ckBC (p : Int) (xs ys : List Int) : Int := if ckC p xs = 0 then ckC p ys else ckC p xs
noncomputable def ckBA (p : Int) (xs ys : List Int) : Int := if ckC p xs = 0 then ckA p ys else ckA p xs
set_option maxRecDepth 10000 in
set_option maxHeartbeats 1000000 in
theorem checkBoth_any (w : World) (v1 v2 : Value) (xs ys : List Int) (p : Int) (h1 : IL w v1 xs) (h2 : IL w v2 ys) (ht : TabB w) :
    Calls Tryd.prog 30 #[v1, v2, .int .i64 p] w fun e w' => e = .returned (Flt (ckBC p xs ys) (ckBA p xs ys)) ∧ Below w.heap.size w w' := by
  have C1 := fun wx (hb : Below w.heap.size w wx) => check_any wx v1 xs p (h1.below hb) (ht.below hb)
  have C2 := fun wx (hb : Below w.heap.size w wx) => check_any wx v2 ys p (h2.below hb) (ht.below hb)
  clear h1 h2 ht
  obtain ⟨c1, hc1⟩ : ∃ c, ckC p xs = c := ⟨_, rfl⟩
  obtain ⟨a1, ha1⟩ : ∃ c, ckA p xs = c := ⟨_, rfl⟩
  obtain ⟨c2, hc2⟩ : ∃ c, ckC p ys = c := ⟨_, rfl⟩
  obtain ⟨a2, ha2⟩ : ∃ c, ckA p ys = c := ⟨_, rfl⟩
  have E : Hid (ckBC p xs ys = (if c1 = 0 then c2 else c1) ∧ ckBA p xs ys = (if c1 = 0 then a2 else a1)) := by
    unfold ckBC ckBA
    rw [hc1, ha1, hc2, ha2]
    exact ⟨rfl, rfl⟩
  simp only [hc1, ha1] at C1
  simp only [hc2, ha2] at C2
  clear hc1 ha1 hc2 ha2
  go_enter Tryd.func30, Tryd.ntmps30
  go_wp2_with (go_at_call 13; fail)
  refine (C1 _ (bel1 _ _)).mono ?_
  rintro e w1 ⟨rfl, hb1⟩
  have hB1 : Below w.heap.size w w1 := (bel1 w _).trans (hb1.mono (by simp))
  have hF := (FB.mk0 w (.int .i64 0) (.int .i64 0) 24).below hb1
  have HB1 : Hid (Below w.heap.size w w1) := hB1
  obtain ⟨b4, hb4⟩ : ∃ x, x = w.heap.size := ⟨_, rfl⟩
  rw [← hb4] at hF ⊢
  have HG : Hid (w.heap.size ≤ b4) := by show _ ≤ _; omega
  clear hb1 hB1 hb4 C1
  obtain ⟨l4, d0, d1, f0, f1⟩ := id hF
  by_cases h0 : c1 = 0
  · subst h0
    go_wp2_with (go_at_call 13; fail)
    refine (C2 _ (HB1.out.alloc HB1.out.size _)).mono ?_
    rintro e w2 ⟨rfl, hb2⟩
    have hF2 := (hF.alloc (Obj.cells #[Value.int IntKind.i64 0, Value.int IntKind.i64 a1] 24)).below hb2
    have hB2 : Below w.heap.size w w2 := (HB1.out.alloc HB1.out.size _).trans (hb2.mono (by have := HB1.out.size; simp; omega))
    have HR : Hid (Below w.heap.size w ((w2.setCell ⟨b4, 0, none⟩ (.int .i64 c2)).setCell ⟨b4, 1, none⟩ (.int .i64 a2))) := below_set2 hB2 HG.out _ _
    clear hF l4 d0 d1 f0 f1 hb2 hB2 C2
    obtain ⟨l4, d0, d1, f0, f1⟩ := hF2
    go_wp2
    refine bodyPost_ret (v := Flt c2 a2) (by simp [results, go_sem, loadVar, World.cell?_setCell_same, World.cell?_setCell_other, *]; try rfl) rfl ?_
    exact ⟨by rw [E.out.1, E.out.2]; simp, HR.out⟩
  · have HR : Hid (∀ X, Below w.heap.size w (((w1.setCell ⟨b4, 0, none⟩ (.int .i64 c1)).setCell ⟨b4, 1, none⟩ (.int .i64 a1)).alloc X)) := fun X => (below_set2 HB1.out HG.out _ _).alloc (by have := HB1.out.size; simp; omega) X
    have h0b : (c1 != 0) = true := by simpa using h0
    have HN : Hid (¬ c1 = 0) := h0
    clear C2
    go_wp2
    refine bodyPost_ret (v := Flt c1 a1) (by simp [results, go_sem, loadVar, World.cell?_setCell_same, World.cell?_setCell_other, *]; try rfl) rfl ?_
    exact ⟨by rw [E.out.1, E.out.2, if_neg HN.out, if_neg HN.out], HR.out _⟩
end Go.Proofs.YtffdemplaodbcaaDoor
