/- A part of the proof: F8, F9, PA. -/
import Derived.Test.YtffdemplaodbcaaDoorP16
import Derived.Deep.AppendLies
set_option linter.all false
namespace Go.Proofs.YtffdemplaodbcaaDoor
open Go Go.Proofs Go.RowKit Go.Rad

/-- What settled leaves: the sums modulo p, and the polynomial without the noughts at its end. -/
inductive SetPost (w : World) (p : Int) (a : Option Addr) (b o n c : Nat) (f : Nat → Int) (e : Ending) (w' : World) : Prop
  | mk (m : Nat) (he : e = .returned (.slice a m c)) (hm : m ≤ n) (hC : Chg w w' b o (o + n)) (hA : AR w' b o n (fun i => f i % p)) (hz : ∀ i, m ≤ i → i < n → f i % p = 0) (hl : 0 < m → f (m - 1) % p ≠ 0)
set_option maxRecDepth 10000 in
set_option maxHeartbeats 1000000 in
theorem settled_any (w : World) (p q : Int) (a : Option Addr) (b o n c : Nat) (f : Nat → Int) (hs : 0 < n → a = some ⟨b, o, none⟩) (hc : n ≤ c) (hb : b < w.heap.size) (hF : AR w b o n f) (hfz : Free w b o n)
    (hp : 0 < p ∧ p < 2147483648) (hm : n ≤ 17592186044416) (hf : ∀ i, i < n → 0 ≤ f i ∧ f i < 9223372036854775808) :
    Calls Tryd.prog 32 #[FV p q, .slice a n c] w fun e w' => SetPost w p a b o n c f e w' := by
  have HF : Hid (AR w b o n f) := hF
  have HZ : Hid (Free w b o n) := hfz
  have HB : Hid (b < w.heap.size) := hb
  have HFB : Hid (∀ i, i < n → 0 ≤ f i ∧ f i < 9223372036854775808) := hf
  clear hF hfz hb hf
  go_enter Tryd.func32, Tryd.ntmps32
  go_wp2
  refine wp_world (fun w1 => Chg w w1 b o o ∧ w.heap.size < w1.heap.size ∧ w1.cell? ⟨w.heap.size, 0, none⟩ = some (.int .i64 p) ∧ w1.cell? ⟨w.heap.size, 1, none⟩ = some (.int .i64 q)) ⟨chg_of_below (bel1 _ _) HB.out _ _, by simp, by simp [go_sem], by simp [go_sem]⟩ ?_
  rintro w1 ⟨hC1, hl1, c0, c1'⟩
  obtain ⟨b4, hb4⟩ : ∃ x, x = w.heap.size := ⟨_, rfl⟩
  rw [← hb4] at c0 c1' hl1 ⊢
  have HB4 : Hid (b ≠ b4) := by have := HB.out; show _ ≠ _; omega
  have HC1 : Hid (Chg w w1 b o o) := hC1
  clear hC1 hb4
  go_loopw [5, 10] (fun mv i wr => ∃ k m : Nat, m ≤ k ∧ k ≤ n ∧ i = .int .i64 k ∧ mv = .int .i64 m ∧ Chg w wr b o (o + k) ∧ AR wr b o k (fun i => f i % p) ∧ (∀ i, m ≤ i → i < k → f i % p = 0) ∧ (0 < m → f (m - 1) % p ≠ 0) ∧ b4 < wr.heap.size ∧ wr.cell? ⟨b4, 0, none⟩ = some (.int .i64 p) ∧ wr.cell? ⟨b4, 1, none⟩ = some (.int .i64 q)) (fun _ i _ => n - (Lib.intOf i).toNat)
  case atStart => exact ⟨0, 0, by omega, by omega, rfl, rfl, HC1.out.mono (by omega) (by omega), fun i hi => by omega, fun i h1 h2 => by omega, fun h => by omega, hl1, c0, c1'⟩
  case round =>
    obtain ⟨k, m, hmk, hk, rfl, rfl, hC, hA, hz, hlst, hl, d0, d1⟩ := hrel
    have HC : Hid (Chg w wr b o (o + k)) := hC
    have HA : Hid (AR wr b o k (fun i => f i % p)) := hA
    have HZR : Hid ((∀ i, m ≤ i → i < k → f i % p = 0) ∧ (0 < m → f (m - 1) % p ≠ 0)) := ⟨hz, hlst⟩
    clear hC hA hz hlst c0 c1' hl1
    by_cases hkn : k < n
    · obtain rfl := hs (by omega)
      have hki : (k : Int) < (n : Int) := by omega
      have ck : wr.cell? ⟨b, o + k, none⟩ = some (.int .i64 (f k)) := (HC.out.cell _ (by omega)).trans (HF.out k hkn)
      have zk : wr.frozen? ⟨b, o + k, none⟩ = false := (HC.out.froz _).trans (HZ.out k hkn)
      obtain ⟨r1, r2⟩ := HFB.out k hkn
      obtain ⟨fk, hfk⟩ : ∃ x, f k = x := ⟨_, rfl⟩
      rw [hfk] at ck r1 r2
      have HFK : Hid (f k = fk) := hfk
      have CL := fun w => least_any w p q fk hp.1 hp.2 r1 r2
      clear hfk
      go_wp2_with (go_at_call 56; fail)
      refine (CL _).mono ?_
      rintro e w2 ⟨rfl, hb2⟩
      have hbw : b < wr.heap.size := block_lt ck
      have HC2 : Hid (Chg w w2 b o (o + k)) := HC.out.trans (chg_of_below hb2 hbw _ _)
      have HA2 : Hid (AR w2 b o k (fun i => f i % p)) := HA.out.below hb2
      replace ck := (hb2.cell (p := ⟨b, o + k, none⟩) hbw).trans ck
      replace zk := (hb2.frozen (p := ⟨b, o + k, none⟩) hbw).trans zk
      replace d0 := (hb2.cell (p := ⟨b4, 0, none⟩) hl).trans d0
      replace d1 := (hb2.cell (p := ⟨b4, 1, none⟩) hl).trans d1
      replace hl := Nat.lt_of_lt_of_le hl hb2.size
      obtain ⟨y, hy⟩ : ∃ y, fk % p = y := ⟨_, rfl⟩
      rw [hy]
      have HY : Hid (f k % p = y) := by show _ = _; rw [HFK.out]; exact hy
      have HREL : Hid (∀ m' : Nat, m' ≤ k + 1 → (∀ i, m' ≤ i → i < k + 1 → f i % p = 0) → (0 < m' → f (m' - 1) % p ≠ 0) → ∃ k₁ m₁ : Nat, m₁ ≤ k₁ ∧ k₁ ≤ n ∧ Value.int .i64 ((k : Int) + 1) = .int .i64 k₁ ∧ Value.int .i64 (m' : Int) = .int .i64 m₁ ∧ Chg w (w2.setCell ⟨b, o + k, none⟩ (.int .i64 y)) b o (o + k₁) ∧ AR (w2.setCell ⟨b, o + k, none⟩ (.int .i64 y)) b o k₁ (fun i => f i % p) ∧ (∀ i, m₁ ≤ i → i < k₁ → f i % p = 0) ∧ (0 < m₁ → f (m₁ - 1) % p ≠ 0) ∧ b4 < (w2.setCell ⟨b, o + k, none⟩ (.int .i64 y)).heap.size ∧ (w2.setCell ⟨b, o + k, none⟩ (.int .i64 y)).cell? ⟨b4, 0, none⟩ = some (.int .i64 p) ∧ (w2.setCell ⟨b, o + k, none⟩ (.int .i64 y)).cell? ⟨b4, 1, none⟩ = some (.int .i64 q)) := by
        intro m' h1 h2 h3
        refine ⟨k + 1, m', h1, by omega, by congr 1, rfl, (HC2.out.mono (by omega) (by omega)).set (by omega) (by omega) _, ?_, h2, h3, by simpa using hl, ?_, ?_⟩
        · intro i hi
          rcases Nat.lt_or_ge i k with h | h
          · rw [cell_other (.inr (by omega))]
            exact HA2.out i h
          · obtain rfl : i = k := by omega
            rw [cell_same (u := .int .i64 fk) ck]
            show some (Value.int _ y) = some (Value.int _ (f i % p))
            rw [HY.out]
        · rw [cell_other (.inl HB4.out.symm)]; exact d0
        · rw [cell_other (.inl HB4.out.symm)]; exact d1
      have hs2 : (w2.setCell ⟨b, o + k, none⟩ (.int .i64 y)).cell? ⟨b, o + k, none⟩ = some (.int .i64 y) := cell_same (u := .int .i64 fk) ck
      clear CL hb2 hbw hy
      by_cases hy0 : y = 0
      · have hyb : (y != 0) = false := by simpa using hy0
        have HR := HREL.out m (by omega) (fun i h1 h2 => by
          rcases Nat.lt_or_ge i k with h | h
          · exact HZR.out.1 i h1 h
          · obtain rfl : i = k := by omega
            rw [HY.out]; exact hy0) HZR.out.2
        have HR : Hid _ := HR
        clear HREL
        subst hy0
        go_wp2
        exact ⟨HR.out, by simp only [Lib.intOf]; omega⟩
      · have hyb : (y != 0) = true := by simpa using hy0
        have HR := HREL.out (k + 1) (by omega) (fun i h1 h2 => by omega) (fun _ => by rw [Nat.add_sub_cancel, HY.out]; exact hy0)
        have HR : Hid _ := HR
        clear HREL
        have hy0' : ¬ y = 0 := hy0
        go_wp2
        exact ⟨HR.out, by simp only [Lib.intOf]; omega⟩
    · obtain rfl : k = n := by omega
      have hki : ¬ (k : Int) < (k : Int) := by omega
      go_wp2
      refine bodyPost_ret (v := .slice a m c) (by simp [results, go_sem, loadVar]) rfl ?_
      exact .mk m rfl hmk HC.out HA.out HZR.out.1 HZR.out.2
end Go.Proofs.YtffdemplaodbcaaDoor
namespace Go.Proofs.YtffdemplaodbcaaDoor
open Go Go.Proofs Go.RowKit Go.Rad

/-- An array of the call's own: n numbers at the head of a block from B on. -/
structure OA (w : World) (B b n : Nat) (f : Nat → Int) : Prop where
  base : B ≤ b
  lt : b < w.heap.size
  c : AR w b 0 n f
  z : Free w b 0 n
theorem OA.below {w w' : World} {B b n : Nat} {f : Nat → Int} (h : OA w B b n f) (hb : Below w.heap.size w w') : OA w' B b n f :=
  ⟨h.base, Nat.lt_of_lt_of_le h.lt hb.size, h.c.below hb, fun i hi => (hb.frozen (p := ⟨b, 0 + i, none⟩) h.lt).trans (h.z i hi)⟩
theorem OA.mono {w : World} {B C b n : Nat} {f : Nat → Int} (h : OA w B b n f) (hc : C ≤ B) : OA w C b n f := ⟨Nat.le_trans hc h.base, h.lt, h.c, h.z⟩
theorem info3 : (Tryd.prog.info? 3).map (fun i => (i.zero, i.size, i.bytes)) = some (some (.int .i64 0), 1, 8) := by kernel_rfl
theorem wpList_makeI {w : World} {ops : Array Oper} {rest : List Oper} {o : Oper} {a : Act} {Q : Exit → Act → World → Prop}
    (hg : o.guard = none) (l c : Operand) (hop : o.op = Op.makeSlice 22 l c) (L : Int) (n : Nat) (hl : a.eval l = .int .i64 L) (hc : a.eval c = .int .i64 L) (hL : L = (n : Int)) (hn : n ≤ 1099511627776)
    (hK : ∀ w', OA w' w.heap.size w.heap.size n (fun _ => 0) → Below w.heap.size w w' → wpList Tryd.prog ops Q rest (a.put o.dst (.slice (some ⟨w.heap.size, 0, none⟩) n n)) w') :
    wpList Tryd.prog ops Q (o :: rest) a w := by
  obtain ⟨i, hi0, hi1⟩ := Option.map_eq_some_iff.1 info3
  simp only [Prod.mk.injEq] at hi1
  obtain ⟨z0, z1, z2⟩ := hi1
  subst hL
  refine wpList_plain hg fun K hK' => ?_
  obtain ⟨w', hrun, hrow, hgr⟩ := run_make_full (P := Tryd.prog) w w.heap.size 22 3 i (.int .i64 0) 1 Tryd.underlying22 hi0 z0 z1 .i64 .i64 n (by rw [z2]; omega) (by unfold maxLen; omega) (Nat.le_refl _)
  unfold Oper.wp
  simp [execOp, hop, hl, hc, hrun, Result.andThen]
  have hB : Below w.heap.size w w' := (Below.refl _ _).grown hgr (Nat.le_refl _) (fun k hk => by cases hk)
  have e1 : (madeCells (Value.int .i64 0).cells (n * 1)).toList = List.replicate n (Value.int .i64 0) := by
    rw [Nat.mul_one]
    exact toList_madeCells_one _ _
  rw [e1] at hrow
  have hlt : w.heap.size < w'.heap.size := by
    rcases hrow.2 with ⟨h, _⟩ | ⟨g, cap, cur, hv, _, hg, _⟩
    · cases h
    · have h2 := (Array.getElem?_eq_some_iff.1 hg).1
      simp only [Value.slice.injEq, Option.some.injEq, Addr.mk.injEq] at hv
      omega
  refine hK' _ _ (hK _ ⟨Nat.le_refl _, hlt, fun j hj => ?_, fun j hj => ?_⟩ hB)
  · rw [Nat.zero_add, World.ownsRow.cellAt hrow j (by omega)]
    simp [hj]
  · rw [Nat.zero_add]; exact World.ownsRow.frozenAt hrow j

/-- The first k products that fall on place i. -/
def cvp (x y : Nat → Int) (n2 : Nat) : Nat → Nat → Int
  | 0, _ => 0
  | k + 1, i => cvp x y n2 k i + (if k ≤ i ∧ i < k + n2 then x k * y (i - k) else 0)
theorem gq_ok {p q s : Int} (hq : q = p * p) (h0 : 0 ≤ s) (h : s < 2 * q) (hq0 : 0 < q) : 0 ≤ gq q s ∧ gq q s < q ∧ gq q s % p = s % p := by
  unfold gq
  split
  · exact ⟨h0, by assumption, rfl⟩
  · refine ⟨by omega, by omega, ?_⟩
    rw [hq, Int.sub_mul_emod_self_left]
theorem mul_lt_sq {p a b : Int} (ha0 : 0 ≤ a) (ha : a < p) (hb0 : 0 ≤ b) (hb : b < p) : 0 ≤ a * b ∧ a * b < p * p := by
  refine ⟨Int.mul_nonneg ha0 hb0, ?_⟩
  have h1 := Int.mul_le_mul (show a ≤ p - 1 by omega) (show b ≤ p - 1 by omega) hb0 (by omega)
  have h2 : (p - 1) * (p - 1) = p * p - 2 * p + 1 := by grind
  omega
/-- What product leaves. -/
inductive ProdPost (w : World) (p q : Int) (n1 n2 : Nat) (x y : Nat → Int) (e : Ending) (w' : World) : Prop
  | none (he : e = .returned (.slice none 0 0)) (h : n1 = 0 ∨ n2 = 0) (hb : Below w.heap.size w w')
  | some (b : Nat) (h : Nat → Int) (he : e = .returned (.slice (some ⟨b, 0, none⟩) (n1 + n2 - 1) (n1 + n2 - 1))) (h1 : 0 < n1) (h2 : 0 < n2) (hb : Below w.heap.size w w') (ho : OA w' w.heap.size b (n1 + n2 - 1) h)
      (hh : ∀ i, i < n1 + n2 - 1 → 0 ≤ h i ∧ h i < q ∧ h i % p = cvp x y n2 n1 i % p)
set_option maxRecDepth 10000 in
set_option maxHeartbeats 1000000 in
theorem product_any (w : World) (p q : Int) (a1 a2 : Option Addr) (b1 o1 n1 c1 b2 o2 n2 c2 : Nat) (x y : Nat → Int) (hs1 : 0 < n1 → a1 = some ⟨b1, o1, none⟩) (hs2 : 0 < n2 → a2 = some ⟨b2, o2, none⟩) (hX : AR w b1 o1 n1 x) (hY : AR w b2 o2 n2 y)
    (hq : q = p * p) (hp : 0 < p ∧ p < 2147483648) (hm1 : n1 ≤ 1048576) (hm2 : n2 ≤ 1048576) (hx : ∀ i, i < n1 → 0 ≤ x i ∧ x i < p) (hy : ∀ i, i < n2 → 0 ≤ y i ∧ y i < p) :
    Calls Tryd.prog 33 #[FV p q, .slice a1 n1 c1, .slice a2 n2 c2] w fun e w' => ProdPost w p q n1 n2 x y e w' := by
  have HX : Hid (AR w b1 o1 n1 x) := hX
  have HY : Hid (AR w b2 o2 n2 y) := hY
  have HXB : Hid (∀ i, i < n1 → 0 ≤ x i ∧ x i < p) := hx
  have HYB : Hid (∀ i, i < n2 → 0 ≤ y i ∧ y i < p) := hy
  have HQ : Hid (q = p * p) := hq
  have hqq := sq_lt (by omega : (0 : Int) ≤ p) hp.2 (by omega) hp.2
  rw [← hq] at hqq
  have hq0 : 0 < q := by rw [hq]; exact Int.mul_pos hp.1 hp.1
  clear hX hY hx hy hq
  go_enter Tryd.func33, Tryd.ntmps33
  by_cases h1 : n1 = 0
  · subst h1
    go_wp2
    refine bodyPost_ret (v := .slice none 0 0) (by simp [results, go_sem, loadVar]) rfl ?_
    exact .none rfl (.inl rfl) (bel1 _ _)
  by_cases h2 : n2 = 0
  · subst h2
    go_wp2
    refine bodyPost_ret (v := .slice none 0 0) (by simp [results, go_sem, loadVar]) rfl ?_
    exact .none rfl (.inr rfl) (bel1 _ _)
  obtain rfl := hs1 (by omega)
  obtain rfl := hs2 (by omega)
  have hN : ((n1 : Int) + (n2 : Int) - 1) = ((n1 + n2 - 1 : Nat) : Int) := by omega
  obtain ⟨N, hNN⟩ : ∃ N, N = n1 + n2 - 1 := ⟨_, rfl⟩
  rw [← hNN] at hN
  have HNN : Hid (N = n1 + n2 - 1) := hNN
  have hNk : n1 ≤ N ∧ n2 ≤ N ∧ N ≤ 2097152 := by omega
  clear hNN
  have hn1b : ((n1 : Int) == 0) = false := by simpa using (show ¬ (n1 : Int) = 0 by omega)
  have hn2b : ((n2 : Int) == 0) = false := by simpa using (show ¬ (n2 : Int) = 0 by omega)
  go_wp2_with (at_make; refine wpList_makeI rfl _ _ rfl _ N rfl rfl (by first | exact hN | omega) (by omega) ?_; intro w3 ho3 hb3)
  have hB3 : Below w.heap.size w w3 := (bel1 w _).trans (hb3.mono (by simp))
  have c0 : w3.cell? ⟨w.heap.size, 0, none⟩ = some (.int .i64 p) := (hb3.cell (p := ⟨w.heap.size, 0, none⟩) (by simp)).trans (by simp [go_sem])
  have c1' : w3.cell? ⟨w.heap.size, 1, none⟩ = some (.int .i64 q) := (hb3.cell (p := ⟨w.heap.size, 1, none⟩) (by simp)).trans (by simp [go_sem])
  have hl : w.heap.size < w3.heap.size := by have := hb3.size; simp at this; omega
  have ho : OA w3 w.heap.size (w.heap.size + 1) N (fun _ => 0) := by
    have h9 := ho3.mono (C := w.heap.size) (by simp)
    simpa using h9
  obtain ⟨b, hbb⟩ : ∃ x, x = w.heap.size + 1 := ⟨_, rfl⟩
  obtain ⟨b4, hb4⟩ : ∃ x, x = w.heap.size := ⟨_, rfl⟩
  have hbn : b ≠ b4 := by omega
  rw [← hbb] at ho ⊢
  rw [← hb4] at c0 c1' hl ⊢
  have HBN : Hid (b ≠ b4 ∧ b4 = w.heap.size) := ⟨hbn, hb4⟩
  have HB3 : Hid (Below w.heap.size w w3) := hB3
  have HO : Hid (OA w3 w.heap.size b N (fun _ => 0)) := ho
  clear ho3 hb3 hB3 hbb hb4 hbn ho hN
  go_loopw [27] (fun i wr => ∃ (k : Nat) (h : Nat → Int), k ≤ n1 ∧ i = .int .i64 k ∧ Below w.heap.size w wr ∧ OA wr w.heap.size b N h ∧ (∀ i, i < N → 0 ≤ h i ∧ h i < q ∧ h i % p = cvp x y n2 k i % p) ∧ b4 < wr.heap.size ∧ wr.cell? ⟨b4, 0, none⟩ = some (.int .i64 p) ∧ wr.cell? ⟨b4, 1, none⟩ = some (.int .i64 q)) (fun i _ => n1 - (Lib.intOf i).toNat)
  case atStart => exact ⟨0, fun _ => 0, by omega, rfl, HB3.out, HO.out, fun i hi => ⟨Int.le_refl _, hq0, rfl⟩, hl, c0, c1'⟩
  case round =>
    obtain ⟨k, h, hk, rfl, hB, ho, hh, hl4, d0, d1⟩ := hrel
    have HB : Hid (Below w.heap.size w wr) := hB
    have HO : Hid (OA wr w.heap.size b N h) := ho
    have HH : Hid (∀ i, i < N → 0 ≤ h i ∧ h i < q ∧ h i % p = cvp x y n2 k i % p) := hh
    clear hB ho hh c0 c1' hl
    by_cases hkn : k < n1
    · have hki : (k : Int) < (n1 : Int) := by omega
      have xk : wr.cell? ⟨b1, o1 + k, none⟩ = some (.int .i64 (x k)) := HX.out.below HB.out k hkn
      have hxk := HXB.out k hkn
      obtain ⟨X, hXk⟩ : ∃ z, x k = z := ⟨_, rfl⟩
      rw [hXk] at xk hxk
      have HXK : Hid (x k = X) := hXk
      clear hXk
      have hs1 : ¬ N = k := by omega
      have hs2 : (k : Int) ≤ (N : Int) := by omega
      have hb2 : b2 < w.heap.size := HY.out.lt (by omega)
      have hbb2 : b ≠ b2 := by have := HO.out.base; omega
      have hq' : 0 < q ∧ q < 4611686018427387904 := ⟨hq0, hqq.2⟩
      have hmul : ∀ i, i < n2 → 0 ≤ X * y i ∧ X * y i < q := fun i hi => by
        have h3 := HYB.out i hi
        have h4 := mul_lt_sq hxk.1 hxk.2 h3.1 h3.2
        rw [← HQ.out] at h4
        exact h4
      have HM : Hid (∀ i, i < n2 → 0 ≤ X * y i ∧ X * y i < q) := hmul
      have hkk : k + n2 ≤ N := by have := HNN.out; omega
      have CG := gather_any wr.drew p q X (some ⟨b, k, none⟩) (some ⟨b2, o2, none⟩) b k (N - k) (N - k) b2 o2 n2 c2 (fun i => h (k + i)) y (fun _ => rfl) (fun _ => rfl) (by omega) (Nat.le_refl _) HO.out.lt
        (fun i hi => by
          have h5 := HO.out.c (k + i) (by omega)
          rw [Nat.zero_add] at h5
          exact h5)
        (fun i hi => by
          have h5 := HO.out.z (k + i) (by omega)
          rw [Nat.zero_add] at h5
          exact h5)
        ((HY.out.below HB.out).below (bel_drew wr)) (fun _ => hbb2) hq' (by omega) (fun i hi => ⟨(HH.out (k + i) (by omega)).1, (HH.out (k + i) (by omega)).2.1⟩) hmul
      have HBB : Hid (b ≠ b2) := hbb2
      clear hmul hbb2 hb2
      go_wp2
      go_region_with (go_at_call 57; refine CG.mono ?_; rintro e w4 ⟨rfl, hC4, hA4⟩)
      have HC4 : Hid (Chg wr.drew w4 b k (k + n2)) := hC4
      have HA4 : Hid (AR w4 b k n2 (fun i => gq q (h (k + i) + X * y i))) := hA4
      have HB4 : Hid (Below w.heap.size w w4) := by
        have h5 : Below w.heap.size wr.drew w4 := hC4.below HO.out.base HB.out.size
        exact HB.out.drew.trans h5
      have HO4 : Hid (OA w4 w.heap.size b N (fun i => if k ≤ i ∧ i < k + n2 then gq q (h i + X * y (i - k)) else h i)) := by
        refine ⟨HO.out.base, Nat.lt_of_lt_of_le HO.out.lt hC4.size, fun i hi => ?_, fun i hi => ?_⟩
        · by_cases h5 : k ≤ i ∧ i < k + n2
          · rw [if_pos h5]
            have h6 : w4.cell? ⟨b, k + (i - k), none⟩ = some (.int .i64 (gq q (h (k + (i - k)) + X * y (i - k)))) := hA4 (i - k) (by omega)
            rw [show k + (i - k) = i by omega] at h6
            rw [Nat.zero_add]; exact h6
          · rw [if_neg h5, Nat.zero_add, hC4.cell i (by omega)]
            have h6 := HO.out.c i hi
            rw [Nat.zero_add] at h6
            exact h6
        · rw [Nat.zero_add, hC4.froz]
          have h6 := HO.out.z i hi
          rw [Nat.zero_add] at h6
          exact h6
      have HH4 : Hid (∀ i, i < N → 0 ≤ (if k ≤ i ∧ i < k + n2 then gq q (h i + X * y (i - k)) else h i) ∧ (if k ≤ i ∧ i < k + n2 then gq q (h i + X * y (i - k)) else h i) < q ∧ (if k ≤ i ∧ i < k + n2 then gq q (h i + X * y (i - k)) else h i) % p = cvp x y n2 (k + 1) i % p) := by
        intro i hi
        obtain ⟨g1, g2, g3⟩ := HH.out i hi
        have ec : cvp x y n2 (k + 1) i = cvp x y n2 k i + (if k ≤ i ∧ i < k + n2 then x k * y (i - k) else 0) := rfl
        rw [ec, HXK.out]
        by_cases h5 : k ≤ i ∧ i < k + n2
        · rw [if_pos h5, if_pos h5]
          obtain ⟨g4, g5⟩ := HM.out (i - k) (by omega)
          obtain ⟨g6, g7, g8⟩ := gq_ok (p := p) (s := h i + X * y (i - k)) HQ.out (by omega) (by omega) hq0
          exact ⟨g6, g7, by rw [g8, Int.add_emod, g3, ← Int.add_emod]⟩
        · rw [if_neg h5, if_neg h5, Int.add_zero]; exact ⟨g1, g2, g3⟩
      have hb44 : b4 < w4.heap.size := Nat.lt_of_lt_of_le hl4 hC4.size
      have e0 : w4.cell? ⟨b4, 0, none⟩ = some (.int .i64 p) := (hC4.cellAt hl4 (.inl HBN.out.1.symm)).trans d0
      have e1 : w4.cell? ⟨b4, 1, none⟩ = some (.int .i64 q) := (hC4.cellAt hl4 (.inl HBN.out.1.symm)).trans d1
      clear hC4 hA4 CG d0 d1 hl4
      go_wp2
      exact ⟨⟨k + 1, _, by omega, by congr 1, HB4.out, HO4.out, HH4.out, hb44, e0, e1⟩, by simp only [Lib.intOf]; omega⟩
    · obtain rfl : k = n1 := by omega
      have hki : ¬ (k : Int) < (k : Int) := by omega
      go_wp2
      refine bodyPost_ret (v := .slice (some ⟨b, 0, none⟩) N N) (by simp [results, go_sem, loadVar]) rfl ?_
      exact .some b h (by rw [HNN.out]) (by omega) (by omega) HB.out (HNN.out ▸ HO.out) (HNN.out ▸ HH.out)
end Go.Proofs.YtffdemplaodbcaaDoor
namespace Go.Proofs.YtffdemplaodbcaaDoor
open Go Go.Proofs Go.RowKit Go.Rad

/-! Polynomials as operators on rows of numbers. -/
/-- A row, one place further. -/
def sft (u : Nat → Int) : Nat → Int
  | 0 => 0
  | j + 1 => u j
/-- A polynomial times a row. -/
def act : List Int → (Nat → Int) → Nat → Int
  | [], _ => fun _ => 0
  | a :: x, u => fun j => a * u j + sft (act x u) j
/-- 1. -/
def one0 : Nat → Int
  | 0 => 1
  | _ + 1 => 0
theorem sft_congr {u v : Nat → Int} (h : ∀ j, u j = v j) : ∀ j, sft u j = sft v j
  | 0 => rfl
  | j + 1 => h j
theorem sft_add (u v : Nat → Int) : ∀ j, sft (fun i => u i + v i) j = sft u j + sft v j
  | 0 => rfl
  | _ + 1 => rfl
theorem sft_smul (c : Int) (u : Nat → Int) : ∀ j, sft (fun i => c * u i) j = c * sft u j
  | 0 => (Int.mul_zero c).symm
  | _ + 1 => rfl
theorem act_add : ∀ (x : List Int) (u v : Nat → Int) (j : Nat), act x (fun i => u i + v i) j = act x u j + act x v j
  | [], _, _, _ => rfl
  | a :: x, u, v, j => by
    show a * (u j + v j) + sft (act x fun i => u i + v i) j = (a * u j + sft (act x u) j) + (a * v j + sft (act x v) j)
    rw [sft_congr (act_add x u v), sft_add, Int.mul_add]; omega
theorem act_smul : ∀ (x : List Int) (c : Int) (u : Nat → Int) (j : Nat), act x (fun i => c * u i) j = c * act x u j
  | [], c, _, _ => (Int.mul_zero c).symm
  | a :: x, c, u, j => by
    show a * (c * u j) + sft (act x fun i => c * u i) j = c * (a * u j + sft (act x u) j)
    rw [sft_congr (act_smul x c u), sft_smul, Int.mul_add]
    congr 1
    rw [← Int.mul_assoc, Int.mul_comm a, Int.mul_assoc]
theorem act_sft : ∀ (x : List Int) (u : Nat → Int) (j : Nat), act x (sft u) j = sft (act x u) j
  | [], _, 0 => rfl
  | [], _, _ + 1 => rfl
  | a :: x, u, 0 => by
    show a * 0 + 0 = (0 : Int)
    omega
  | a :: x, u, j + 1 => by
    show a * u j + act x (sft u) j = a * u j + sft (act x u) j
    rw [act_sft x u j]
theorem act_congr : ∀ (x : List Int) {u v : Nat → Int}, (∀ j, u j = v j) → ∀ j, act x u j = act x v j
  | [], _, _, _, _ => rfl
  | a :: x, u, v, h, j => by
    show a * u j + sft (act x u) j = a * v j + sft (act x v) j
    rw [h j, sft_congr (act_congr x h)]
theorem act_zero (x : List Int) (j : Nat) : act x (fun _ => 0) j = 0 := by
  have h := act_smul x 0 (fun _ => 0) j
  simpa using h
theorem act_comm : ∀ (x y : List Int) (u : Nat → Int) (j : Nat), act x (act y u) j = act y (act x u) j
  | [], y, u, j => (act_zero y j).symm
  | a :: x, y, u, j => by
    show a * act y u j + sft (act x (act y u)) j = act y (fun i => a * u i + sft (act x u) i) j
    rw [act_add, act_smul, act_sft, sft_congr (act_comm x y u)]
/-- The row of a polynomial. -/
def row (x : List Int) : Nat → Int := act x one0
theorem row_getD : ∀ (x : List Int) (j : Nat), row x j = x.getD j 0
  | [], _ => rfl
  | a :: x, 0 => by
    show a * 1 + 0 = a
    omega
  | a :: x, j + 1 => by
    show a * 0 + act x one0 j = x.getD j 0
    have h := row_getD x j
    unfold row at h
    rw [h]; omega
/-- Sum, and product with a number, of polynomials. -/
def padd : List Int → List Int → List Int
  | [], y => y
  | x, [] => x
  | a :: x, b :: y => (a + b) :: padd x y
theorem act_padd : ∀ (x y : List Int) (u : Nat → Int) (j : Nat), act (padd x y) u j = act x u j + act y u j
  | [], y, u, j => by show act y u j = 0 + _; omega
  | a :: x, [], u, j => by show act (a :: x) u j = _ + 0; omega
  | a :: x, b :: y, u, j => by
    show (a + b) * u j + sft (act (padd x y) u) j = (a * u j + sft (act x u) j) + (b * u j + sft (act y u) j)
    rw [sft_congr (act_padd x y u), sft_add, Int.add_mul]; omega
theorem act_map : ∀ (x : List Int) (c : Int) (u : Nat → Int) (j : Nat), act (x.map (c * ·)) u j = c * act x u j
  | [], c, _, _ => (Int.mul_zero c).symm
  | a :: x, c, u, j => by
    show c * a * u j + sft (act (x.map (c * ·)) u) j = c * (a * u j + sft (act x u) j)
    rw [sft_congr (act_map x c u), sft_smul, Int.mul_add, Int.mul_assoc]
/-- The product. -/
def pmul : List Int → List Int → List Int
  | [], _ => []
  | a :: x, y => padd (y.map (a * ·)) (0 :: pmul x y)
theorem act_pmul : ∀ (x y : List Int) (u : Nat → Int) (j : Nat), act (pmul x y) u j = act x (act y u) j
  | [], _, _, _ => rfl
  | a :: x, y, u, j => by
    show act (padd (y.map (a * ·)) (0 :: pmul x y)) u j = a * act y u j + sft (act x (act y u)) j
    rw [act_padd, act_map]
    show _ + (0 * u j + sft (act (pmul x y) u) j) = _
    rw [sft_congr (act_pmul x y u), Int.zero_mul, Int.zero_add]
/-- Rows that are the same modulo p and the polynomial m. -/
def Cg (p : Int) (m : List Int) (u v : Nat → Int) : Prop := ∃ q : List Int, ∀ j, u j % p = (v j + act q (row m) j) % p
theorem cong_sub {p a b : Int} : a % p = b % p ↔ ∃ k, a = b + k * p := by
  constructor
  · intro h
    have h1 := Int.emod_emod_of_dvd a (Int.dvd_refl p)
    refine ⟨a / p - b / p, ?_⟩
    have h2 := Int.mul_ediv_add_emod a p
    have h3 := Int.mul_ediv_add_emod b p
    rw [Int.sub_mul, Int.mul_comm (a / p), Int.mul_comm (b / p)]
    omega
  · rintro ⟨k, rfl⟩
    exact Int.add_mul_emod_self_right _ _ _
theorem Cg.refl (p : Int) (m : List Int) (u : Nat → Int) : Cg p m u u := ⟨[], fun j => by show _ = (_ + 0) % p; rw [Int.add_zero]⟩
theorem Cg.of {p : Int} {m : List Int} {u v : Nat → Int} (h : ∀ j, u j % p = v j % p) : Cg p m u v := ⟨[], fun j => by show _ = (_ + 0) % p; rw [Int.add_zero]; exact h j⟩
theorem Cg.trans {p : Int} {m : List Int} {u v x : Nat → Int} (h : Cg p m u v) (k : Cg p m v x) : Cg p m u x := by
  obtain ⟨q, hq⟩ := h
  obtain ⟨r, hr⟩ := k
  refine ⟨padd q r, fun j => ?_⟩
  rw [hq j, Int.add_emod, hr j, ← Int.add_emod, act_padd]
  congr 1; omega
theorem Cg.symm {p : Int} {m : List Int} {u v : Nat → Int} (h : Cg p m u v) : Cg p m v u := by
  obtain ⟨q, hq⟩ := h
  refine ⟨q.map (-1 * ·), fun j => ?_⟩
  rw [Int.add_emod, hq j, ← Int.add_emod, act_map]
  congr 1; omega
/-- What is done to two rows alike. -/
theorem act_cong {p : Int} : ∀ (x : List Int) {u v : Nat → Int}, (∀ j, u j % p = v j % p) → ∀ j, act x u j % p = act x v j % p
  | [], _, _, _, _ => rfl
  | a :: x, u, v, h, j => by
    show (a * u j + sft (act x u) j) % p = (a * v j + sft (act x v) j) % p
    have e1 : (a * u j) % p = (a * v j) % p := by rw [Int.mul_emod, h j, ← Int.mul_emod]
    have e2 : sft (act x u) j % p = sft (act x v) j % p := by
      cases j with
      | zero => rfl
      | succ j => exact act_cong x h j
    rw [Int.add_emod, e1, e2, ← Int.add_emod]
theorem Cg.acts {p : Int} {m : List Int} {u v : Nat → Int} (h : Cg p m u v) (x : List Int) : Cg p m (act x u) (act x v) := by
  obtain ⟨q, hq⟩ := h
  refine ⟨pmul x q, fun j => ?_⟩
  rw [act_cong x hq j, act_add, act_pmul]
theorem row_pmul (x y : List Int) (j : Nat) : row (pmul x y) j = act x (row y) j := act_pmul x y one0 j
/-- Products of what is the same. -/
theorem Cg.mul {p : Int} {m x x' y y' : List Int} (hx : Cg p m (row x) (row x')) (hy : Cg p m (row y) (row y')) : Cg p m (row (pmul x y)) (row (pmul x' y')) := by
  have h1 := hy.acts x
  have h2 := hx.acts y'
  have e0 : Cg p m (row (pmul x y)) (act x (row y)) := .of fun j => by rw [row_pmul]
  have e1 : Cg p m (act x (row y')) (act y' (row x)) := .of fun j => by rw [show act x (row y') j = act y' (row x) j from act_comm x y' one0 j]
  have e2 : Cg p m (act y' (row x')) (row (pmul x' y')) := .of fun j => by rw [row_pmul, show act x' (row y') j = act y' (row x') j from act_comm x' y' one0 j]
  exact ((((e0.trans h1).trans e1).trans h2).trans e2)
/-- A multiple of m that is nought from m's degree on is nought. -/
theorem mult_zero {p : Int} {M : Nat → Int} {n : Nat} (hM : ∀ j, n < j → M j = 0) (hg : Int.gcd (M n) p = 1) : ∀ q : List Int, (∀ j, n ≤ j → act q M j % p = 0) → ∀ j, act q M j % p = 0
  | [], _, _ => by show (0 : Int) % p = 0; simp
  | a :: q, h, j => by
    have h1 : ∀ j, act q M j % p = 0 := mult_zero hM hg q fun j hj => by
      have h2 := h (j + 1) (by omega)
      have h3 : act (a :: q) M (j + 1) = a * M (j + 1) + act q M j := rfl
      rw [h3, hM (j + 1) (by omega), Int.mul_zero, Int.zero_add] at h2
      exact h2
    have h0 : ∀ j, sft (act q M) j % p = 0 := fun j => by
      cases j with
      | zero => simp [sft]
      | succ j => exact h1 j
    have e : ∀ j, act (a :: q) M j % p = (a * M j) % p := fun j => by
      have h3 : act (a :: q) M j = a * M j + sft (act q M) j := rfl
      rw [h3, Int.add_emod, h0 j, Int.add_zero, Int.emod_emod]
    have h4 := h n (Nat.le_refl _)
    rw [e] at h4
    have h5 : p ∣ a := by
      have h6 : p ∣ a * M n := Int.dvd_of_emod_eq_zero h4
      have h7 : Int.gcd p (M n) = 1 := by rw [Int.gcd_comm]; exact hg
      have h8 := Int.natAbs_dvd_natAbs.2 h6
      rw [Int.natAbs_mul] at h8
      exact Int.natAbs_dvd_natAbs.1 (Nat.Coprime.dvd_of_dvd_mul_right h7 h8)
    obtain ⟨k, hk⟩ := h5
    rw [e, hk, Int.mul_assoc]
    exact Int.mul_emod_right _ _
/-- What is reduced and the same modulo p and m is one row. -/
theorem Cg.eq {p : Int} {m : List Int} {n : Nat} {u v : Nat → Int} (hm : ∀ j, n < j → row m j = 0) (hg : Int.gcd (row m n) p = 1) (hu : ∀ j, n ≤ j → u j = 0) (hv : ∀ j, n ≤ j → v j = 0)
    (hu' : ∀ j, 0 ≤ u j ∧ u j < p) (hv' : ∀ j, 0 ≤ v j ∧ v j < p) (h : Cg p m u v) : ∀ j, u j = v j := by
  obtain ⟨q, hq⟩ := h
  have h1 := mult_zero hm hg q fun j hj => by
    have h2 := hq j
    rw [hu j hj, hv j hj, Int.zero_add] at h2
    rw [← h2]; simp
  intro j
  have h2 := hq j
  rw [Int.add_emod, h1 j, Int.add_zero, Int.emod_emod, Int.emod_eq_of_lt (hu' j).1 (hu' j).2, Int.emod_eq_of_lt (hv' j).1 (hv' j).2] at h2
  exact h2
/-- The first n numbers of a row, as a list and as a row. -/
def lst (f : Nat → Int) (n : Nat) : List Int := (List.range n).map f
def cut (f : Nat → Int) (n : Nat) : Nat → Int := fun j => if j < n then f j else 0
theorem lst_length (f : Nat → Int) (n : Nat) : (lst f n).length = n := by simp [lst]
theorem lst_getD (f : Nat → Int) (n j : Nat) : (lst f n).getD j 0 = cut f n j := by
  unfold lst cut
  by_cases h : j < n
  · rw [if_pos h]; simp [List.getD_eq_getElem?_getD, h]
  · rw [if_neg h]; simp [List.getD_eq_getElem?_getD, Nat.not_lt.1 h]
theorem row_lst (f : Nat → Int) (n j : Nat) : row (lst f n) j = cut f n j := by rw [row_getD, lst_getD]
theorem act_app : ∀ (x : List Int) (a : Int) (u : Nat → Int) (j : Nat), act (x ++ [a]) u j = act x u j + (if x.length ≤ j then a * u (j - x.length) else 0)
  | [], a, u, j => by
    show a * u j + sft (fun _ => 0) j = 0 + (if 0 ≤ j then a * u (j - 0) else 0)
    rw [if_pos (Nat.zero_le _), Nat.sub_zero]
    cases j <;> simp [sft]
  | b :: x, a, u, 0 => by
    show b * u 0 + 0 = (b * u 0 + 0) + (if x.length + 1 ≤ 0 then _ else 0)
    rw [if_neg (by omega)]; omega
  | b :: x, a, u, j + 1 => by
    show b * u (j + 1) + act (x ++ [a]) u j = (b * u (j + 1) + act x u j) + (if x.length + 1 ≤ j + 1 then a * u (j + 1 - (x.length + 1)) else 0)
    rw [act_app x a u j, show j + 1 - (x.length + 1) = j - x.length by omega]
    by_cases h : x.length ≤ j
    · rw [if_pos h, if_pos (by omega)]; omega
    · rw [if_neg h, if_neg (by omega)]; omega
theorem lst_succ (f : Nat → Int) (n : Nat) : lst f (n + 1) = lst f n ++ [f n] := by simp [lst, List.range_succ]
theorem cvp_act (x y : Nat → Int) (n2 : Nat) : ∀ n j, cvp x y n2 n j = act (lst x n) (cut y n2) j
  | 0, _ => rfl
  | n + 1, j => by
    rw [lst_succ, act_app, lst_length, ← cvp_act x y n2 n j]
    show _ + _ = _ + _
    congr 1
    by_cases h : n ≤ j
    · rw [if_pos h]
      unfold cut
      by_cases h2 : j - n < n2
      · rw [if_pos ⟨h, by omega⟩, if_pos h2]
      · rw [if_neg (by omega), if_neg h2, Int.mul_zero]
    · rw [if_neg (by omega), if_neg h]
theorem act_row_lst (x y : Nat → Int) (n n2 j : Nat) : act (lst x n) (row (lst y n2)) j = cvp x y n2 n j := by
  rw [cvp_act]; exact act_congr _ (fun j => row_lst y n2 j) j
theorem cvp_zero (x y : Nat → Int) (n2 : Nat) : ∀ n j, n + n2 ≤ j + 1 → cvp x y n2 n j = 0
  | 0, _, _ => rfl
  | n + 1, j, h => by
    show cvp x y n2 n j + _ = 0
    rw [cvp_zero x y n2 n j (by omega), if_neg (by omega), Int.zero_add]
/-- x is what is left of u modulo p and m. -/
structure Res (p : Int) (m : List Int) (u : Nat → Int) (x : List Int) : Prop where
  len : x.length < m.length
  bd : ∀ j, 0 ≤ x.getD j 0 ∧ x.getD j 0 < p
  top : 0 < x.length → x.getD (x.length - 1) 0 ≠ 0
  cg : Cg p m u (row x)
theorem Res.eq {p : Int} {m : List Int} {u v : Nat → Int} {x y : List Int} (hm : 0 < m.length) (hg : Int.gcd (m.getD (m.length - 1) 0) p = 1) (hx : Res p m u x) (hy : Res p m v y) (h : Cg p m u v) : x = y := by
  have hz : ∀ (l : List Int) (j : Nat), l.length ≤ j → l.getD j 0 = 0 := fun l j hj => by simp [List.getD_eq_getElem?_getD, hj]
  have e : ∀ j, row x j = row y j := Cg.eq (p := p) (m := m) (n := m.length - 1) (fun j hj => by rw [row_getD]; exact hz m j (by omega)) (by rw [row_getD]; exact hg)
    (fun j hj => by rw [row_getD]; exact hz x j (by have := hx.len; omega)) (fun j hj => by rw [row_getD]; exact hz y j (by have := hy.len; omega))
    (fun j => by rw [row_getD]; exact hx.bd j) (fun j => by rw [row_getD]; exact hy.bd j) ((hx.cg.symm.trans h).trans hy.cg)
  have e2 : ∀ j, x.getD j 0 = y.getD j 0 := fun j => by rw [← row_getD, ← row_getD]; exact e j
  have hl : x.length = y.length := by
    rcases Nat.lt_trichotomy x.length y.length with h1 | h1 | h1
    · exact absurd ((e2 _).symm.trans (hz x (y.length - 1) (by omega))) (hy.top (by omega))
    · exact h1
    · exact absurd ((e2 _).trans (hz y (x.length - 1) (by omega))) (hx.top (by omega))
  refine List.ext_getElem hl fun i h1 h2 => ?_
  have h3 := e2 i
  simpa [List.getD_eq_getElem?_getD, h1, h2] using h3
end Go.Proofs.YtffdemplaodbcaaDoor
