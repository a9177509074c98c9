/- A part of the proof: MD, ME, ZA. -/
import Derived.Test.YtffdemplaodbcaaDoorP34
import Derived.Test.YtffdemplaodbcaaDoorP27
import Derived.Test.YtffdemplaodbcaaDoorP02
set_option linter.all false
namespace Go.Proofs.YtffdemplaodbcaaDoor
open Go Go.Proofs Go.RowKit Go.Rad

/-- The solution as far as k pivots: 1 at c, at each pivot the opposite of what its row has at c, 0 elsewhere. -/
structure SolV (p : Int) (M : Nat → Nat → Int) (c : Nat) (pv : List Int) (k : Nat) (y : Nat → Int) : Prop where
  one : y c = 1
  piv : ∀ r, r < k → ∀ j : Nat, pv.getD r 0 = j → y j = -(M r c % p) % p
  zero : ∀ j : Nat, j ≠ c → (∀ r, r < k → pv.getD r 0 ≠ j) → y j = 0
  bd : ∀ j, 0 ≤ y j ∧ y j < p
theorem SolV.start {p : Int} (hp : 1 < p) (M : Nat → Nat → Int) (c : Nat) (pv : List Int) : SolV p M c pv 0 (fun j => if j = c then 1 else 0) :=
  ⟨if_pos rfl, fun r hr => by omega, fun j hj _ => if_neg hj, fun j => by
    show 0 ≤ (if j = c then (1 : Int) else 0) ∧ (if j = c then (1 : Int) else 0) < p
    split <;> omega⟩
theorem SolV.step {p : Int} (hp : 1 < p) {M : Nat → Nat → Int} {c : Nat} {pv : List Int} {k : Nat} {y : Nat → Int} (h : SolV p M c pv k y) {V : Nat} (hV : pv.getD k 0 = V) (hc : V ≠ c) (hne : ∀ r, r < k → pv.getD r 0 ≠ V) {O : Int} (hO : O = -(M k c % p) % p) :
    SolV p M c pv (k + 1) (fun j => if j = V then O else y j) := by
  refine ⟨?_, fun r hr j hj => ?_, fun j hj hz => ?_, fun j => ?_⟩
  · show (if c = V then O else y c) = 1
    rw [if_neg (Ne.symm hc)]; exact h.one
  · show (if j = V then O else y j) = _
    by_cases hrk : r = k
    · subst hrk
      rw [if_pos (by omega)]; exact hO
    · have h1 := hne r (by omega)
      rw [if_neg (by intro e; rw [e] at hj; exact h1 hj)]
      exact h.piv r (by omega) j hj
  · show (if j = V then O else y j) = 0
    have h1 := hz k (Nat.lt_succ_self k)
    rw [if_neg (by intro e; rw [hV, e] at h1; exact h1 rfl)]
    exact h.zero j hj fun r hr => hz r (by omega)
  · show 0 ≤ (if j = V then O else y j) ∧ (if j = V then O else y j) < p
    split
    · rw [hO]; exact ⟨Int.emod_nonneg _ (by omega), Int.emod_lt_of_pos _ (by omega)⟩
    · exact h.bd j
/-- What solution answers. -/
inductive SolPost (w : World) (p : Int) (M : Nat → Nat → Int) (pv : List Int) (c : Nat) (e : Ending) (w' : World) : Prop
  | mk (b : Nat) (y : Nat → Int) (he : e = .returned (.slice (some ⟨b, 0, none⟩) (c + 1 : Nat) (c + 1 : Nat))) (hO : OA w' w.heap.size b (c + 1) y) (hb : Below w.heap.size w w') (hy : SolV p M c pv pv.length y)
set_option maxRecDepth 10000 in
set_option maxHeartbeats 2000000 in
theorem solution_any (w : World) (p q : Int) (B R n c : Nat) (rb : Nat → Nat) (M : Nat → Nat → Int) (sp : Value) (pv : List Int) (hM : MT w B R n rb M) (hv : VW w sp pv) (hp : 1 < p ∧ p < 2147483648) (hq : q < 4611686018427387904) (hc : c < n) (hn : n ≤ 1000)
    (hb : ∀ i j, i < n → j < n → 0 ≤ M i j ∧ M i j < q) (hk : pv.length ≤ n) (hpv : ∀ j, j < pv.length → 0 ≤ pv.getD j 0 ∧ pv.getD j 0 < c) (hinj : ∀ i j, i < j → j < pv.length → pv.getD i 0 ≠ pv.getD j 0) :
    Calls Tryd.prog 72 #[FV p q, .slice (some ⟨R, 0, none⟩) n n, sp, .int .i64 c] w fun e w' => SolPost w p M pv c e w' := by
  have HM : Hid (MT w B R n rb M) := hM
  have HBD : Hid (∀ i j, i < n → j < n → 0 ≤ M i j ∧ M i j < q) := hb
  have HPV : Hid (∀ j, j < pv.length → 0 ≤ pv.getD j 0 ∧ pv.getD j 0 < c) := hpv
  have HINJ : Hid (∀ i j, i < j → j < pv.length → pv.getD i 0 ≠ pv.getD j 0) := hinj
  have HCN : Hid (c < n) := hc
  obtain ⟨a0, b0, o0, c0, rfl, ha0, hA0⟩ := hv
  obtain ⟨K, hK⟩ : ∃ K, K = pv.length := ⟨_, rfl⟩
  rw [← hK] at ha0 hA0 hk ⊢
  have HKL : Hid (K = pv.length) := hK
  have HA0 : Hid (AR w b0 o0 K (fun j => pv.getD j 0)) := hA0
  have hci : (c : Int) < (n : Int) := by omega
  have hni : (n : Int) ≤ 1000 := by omega
  obtain ⟨m, hm⟩ : ∃ m, m = c + 1 := ⟨_, rfl⟩
  have HMC : Hid (m = c + 1) := hm
  have hcm : (c : Int) < (m : Int) := by omega
  have hmi : (m : Int) ≤ 1000 := by omega
  have hwm : wrap64 ((c : Int) + 1) = (m : Int) := by rw [wrap_in (by omega) (by omega)]; omega
  have hcm1 : (c : Int) + 1 = (m : Int) := by omega
  clear hM hb hpv hinj hK hA0 hm
  go_enter Tryd.func72, Tryd.ntmps72
  go_upto_region 2 with (at_make; refine wpList_makeI rfl _ _ rfl _ m rfl rfl (by first | rfl | exact hcm1 | omega) (by omega) ?_; intro w3 ho3 hb3)
  have HB3 : Hid (Below w.heap.size w w3) := (bel1 w _).trans (hb3.mono (by simp))
  have HF3 : Hid (FB w3 w.heap.size (.int .i64 p) (.int .i64 q)) := (FB.mk0 w (.int .i64 p) (.int .i64 q) 53).below hb3
  rw [World.size_alloc] at ho3
  obtain ⟨bl, hbl⟩ : ∃ b, b = w.heap.size + 1 := ⟨_, rfl⟩
  obtain ⟨b4, hb4⟩ : ∃ b, b = w.heap.size := ⟨_, rfl⟩
  rw [← hbl] at ho3 ⊢
  rw [← hb4] at HF3 ⊢
  have HBL : Hid (bl = w.heap.size + 1 ∧ b4 = w.heap.size) := ⟨hbl, hb4⟩
  have HL3 : Hid (OA w3 bl bl m (fun _ => 0)) := ho3
  have HNE : Hid (b4 ≠ bl ∧ w.heap.size ≤ bl) := by show _ ∧ _; omega
  have cl : w3.cell? ⟨bl, c, none⟩ = some (.int .i64 0) := by
    have := ho3.c c (by omega)
    rwa [Nat.zero_add] at this
  have zl : w3.frozen? ⟨bl, c, none⟩ = false := by
    have := ho3.z c (by omega)
    rwa [Nat.zero_add] at this
  clear ho3 hb3 hbl hb4
  go_upto_region 3 with fail
  refine wp_world (fun w4 => OA w4 bl bl m (fun j => if j = c then 1 else 0) ∧ FB w4 b4 (.int .i64 p) (.int .i64 q) ∧ Below w.heap.size w w4)
    ⟨HL3.out.store (by have := HMC.out; omega) 1, HF3.out.off _ (by have := HBL.out; omega), HB3.out.setCell (p := ⟨bl, c, none⟩) (by have := HBL.out; show _ ≤ bl; omega) _⟩ ?_
  rintro w4 ⟨hL4, hF4, hB4⟩
  have HL4 : Hid (OA w4 bl bl m (fun j => if j = c then 1 else 0)) := hL4
  have HF4 : Hid (FB w4 b4 (.int .i64 p) (.int .i64 q)) := hF4
  have HB4w : Hid (Below w.heap.size w w4) := hB4
  clear hL4 hF4 hB4 cl zl HL3 HF3 HB3
  go_wp2
  go_loopw [20] (fun i wr => ∃ (k : Nat) (y : Nat → Int), k ≤ K ∧ i = .int .i64 k ∧ SolV p M c pv k y ∧ OA wr bl bl m y ∧ FB wr b4 (.int .i64 p) (.int .i64 q) ∧ Below w.heap.size w wr) (fun i _ => K - (Lib.intOf i).toNat)
  case atStart => exact ⟨0, _, by omega, rfl, .start hp.1 M c pv, HL4.out, HF4.out, HB4w.out⟩
  case round =>
    obtain ⟨k, y, hkK, rfl, hY, hL, hF, hB⟩ := hrel
    have HY : Hid (SolV p M c pv k y) := hY
    have HL : Hid (OA wr bl bl m y) := hL
    have HF : Hid (FB wr b4 (.int .i64 p) (.int .i64 q)) := hF
    have HB : Hid (Below w.heap.size w wr) := hB
    clear hY hL hF hB
    by_cases hkk : k < K
    · have hki : (k : Int) < (K : Int) := by omega
      have hkn : (k : Int) < (n : Int) := by omega
      have hkN : k < n := by omega
      obtain rfl := ha0 (by omega)
      have hMr : MT wr B R n rb M := HM.out.below HB.out
      have cp := HA0.out.below HB.out k hkk
      have lp : b0 < wr.heap.size := Nat.lt_of_lt_of_le (HA0.out.lt (by omega)) HB.out.size
      have hpb := HPV.out k (by rw [← HKL.out]; exact hkk)
      obtain ⟨V, hV⟩ : ∃ V : Nat, pv.getD k 0 = V := ⟨(pv.getD k 0).toNat, by omega⟩
      have cp' : wr.cell? ⟨b0, o0 + k, none⟩ = some (.int .i64 (V : Int)) := by rw [← hV]; exact cp
      rw [hV] at hpb
      have hVm : (V : Int) < (m : Int) := by have := HMC.out; omega
      have HVM : Hid (V < m) := by show _ < _; omega
      have ck := hMr.cR k hkN
      have cx := hMr.at hkN hc
      obtain ⟨rk, hrk⟩ : ∃ x, x = rb k := ⟨_, rfl⟩
      rw [← hrk] at ck cx
      have lk : rk < wr.heap.size := by rw [hrk]; exact (hMr.row k hkN).lt
      have lR := hMr.lt
      obtain ⟨X, hX⟩ : ∃ x, x = M k c := ⟨_, rfl⟩
      rw [← hX] at cx
      have hXb := HBD.out k c hkN hc
      rw [← hX] at hXb
      obtain ⟨S, hS⟩ : ∃ s, s = X % p := ⟨_, rfl⟩
      have hSb : 0 ≤ S ∧ S < p := by rw [hS]; exact ⟨Int.emod_nonneg _ (by omega), Int.emod_lt_of_pos _ (by omega)⟩
      have CL := fun w => least_any w p q X (by omega) hp.2 hXb.1 (by omega)
      rw [← hS] at CL
      obtain ⟨O, hO⟩ : ∃ s, s = -S % p := ⟨_, rfl⟩
      have CO := fun w => opposite_any w p q S hp.2 hSb.1 hSb.2
      rw [← hO] at CO
      obtain ⟨l4, k40, k41, z4, z5⟩ := HF.out
      have hw4 : wrap64 ((k : Int) + 1) = (k : Int) + 1 := wrap_in (by omega) (by omega)
      have cv : wr.cell? ⟨bl, V, none⟩ = some (.int .i64 (y V)) := by
        have := HL.out.c V HVM.out
        rwa [Nat.zero_add] at this
      have zv : wr.frozen? ⟨bl, V, none⟩ = false := by
        have := HL.out.z V HVM.out
        rwa [Nat.zero_add] at this
      have lbl : bl < wr.heap.size := HL.out.lt
      have HFIN : Hid (∀ w5, Below wr.heap.size wr w5 → ∃ (k₁ : Nat) (y : Nat → Int), k₁ ≤ K ∧ Value.int .i64 ((k : Int) + 1) = .int .i64 k₁ ∧ SolV p M c pv k₁ y ∧ OA (w5.setCell ⟨bl, V, none⟩ (.int .i64 O)) bl bl m y ∧ FB (w5.setCell ⟨bl, V, none⟩ (.int .i64 O)) b4 (.int .i64 p) (.int .i64 q) ∧ Below w.heap.size w (w5.setCell ⟨bl, V, none⟩ (.int .i64 O))) := by
        intro w5 hb5
        exact ⟨k + 1, _, Nat.succ_le_of_lt hkk, congrArg (Value.int .i64) (Int.natCast_add k 1).symm, HY.out.step hp.1 hV (by omega) (fun r hr => by rw [← hV]; exact HINJ.out r k hr (by rw [← HKL.out]; exact hkk)) (by rw [hO, hS, hX]), (HL.out.below hb5).store HVM.out O, (HF.out.below hb5).off _ HNE.out.1, (HB.out.trans (hb5.mono HB.out.size)).setCell (p := ⟨bl, V, none⟩) HNE.out.2 _⟩
      clear hV cp hrk hX hS hO hMr
      go_upto_region 6 with fail
      refine wp_drawn mixed [⟨25, [], [], [9]⟩, ⟨26, [], [], [11]⟩, ⟨27, [], [], [4]⟩, ⟨28, [], [], [4]⟩, ⟨29, [], [], [1]⟩, ⟨30, [], [], [10]⟩, ⟨31, [4, 5], [4, 5], []⟩, ⟨32, [6], [4, 5, 6], []⟩, ⟨33, [], [], [3]⟩, ⟨34, [7, 8], [4, 5, 6, 7, 8], []⟩, ⟨35, [9], [4, 5, 6, 7, 8, 9], []⟩, ⟨36, [3, 10], [3, 4, 5, 6, 7, 8, 9, 10], []⟩, ⟨37, [2, 11], [2, 3, 4, 5, 6, 7, 8, 9, 10, 11], []⟩] [] (by kernel_rfl) 41 rfl (by kernel_rfl) (fun (i : Nat) (v : Value) (wq : World) => match i with | 0 => v = .slice (some ⟨bl, 0, none⟩) (m) (m) | 1 => v = .int .i64 ((V : Int)) | 2 => v = .agg #[.int .i64 (p), .int .i64 (q)] | 3 => v = .agg #[.int .i64 (p), .int .i64 (q)] | 4 => v = .slice (some ⟨R, 0, none⟩) (n) (n) | 5 => v = .int .i64 ((k : Int)) | 6 => v = .pointer (some ⟨R, k, none⟩) | 7 => v = .slice (some ⟨rk, 0, none⟩) (n) (n) | 8 => v = .int .i64 ((c : Int)) | 9 => v = .pointer (some ⟨rk, c, none⟩) | 10 => v = .int .i64 (X) | 11 => v = .int .i64 (S) | 12 => v = .int .i64 (O) | _ => True) (fun _ wq => Below wr.heap.size wr wq) (fun wx wy => Below wx.heap.size wx wy) (Below.refl _ _).drew (fun i v wx wy h hx => match i, h with | 0, h => h | 1, h => h | 2, h => h | 3, h => h | 4, h => h | 5, h => h | 6, h => h | 7, h => h | 8, h => h | 9, h => h | 10, h => h | 11, h => h | 12, h => h  | n + 13, _ => trivial) ?_ ?_
      · intro i o r ho hr L fr wx hW hL hpr hds hdef hpre hfree
        clear hL hpr hds hdef
        match i, ho, hr with
        | 0, ho, hr => ?_
        | 1, ho, hr => ?_
        | 2, ho, hr => ?_
        | 3, ho, hr => ?_
        | 4, ho, hr => ?_
        | 5, ho, hr => ?_
        | 6, ho, hr => ?_
        | 7, ho, hr => ?_
        | 8, ho, hr => ?_
        | 9, ho, hr => ?_
        | 10, ho, hr => ?_
        | 11, ho, hr =>
          obtain rfl := Option.some.inj ho; obtain rfl := Option.some.inj hr
          have e3 := ev_tmp (show fr.eval (.tmp 28) = .agg #[.int .i64 (p), .int .i64 (q)] from hpre 3 (by decide) _ rfl)
          have e10 := ev_tmp (show fr.eval (.tmp 35) = .int .i64 (X) from hpre 10 (by decide) _ rfl)
          clear hpre hfree
          refine stpK rfl rfl fun K hK => ?_
          go_simp
          refine (CL wx).mono ?_
          rintro e wy ⟨rfl, hb⟩
          exact hK _ _ ⟨rfl, hW.trans (hb.mono hW.size), hb, fun h => (List.not_mem_nil h).elim⟩
        | 12, ho, hr =>
          obtain rfl := Option.some.inj ho; obtain rfl := Option.some.inj hr
          have e2 := ev_tmp (show fr.eval (.tmp 27) = .agg #[.int .i64 (p), .int .i64 (q)] from hpre 2 (by decide) _ rfl)
          have e11 := ev_tmp (show fr.eval (.tmp 36) = .int .i64 (S) from hpre 11 (by decide) _ rfl)
          clear hpre hfree
          refine stpK rfl rfl fun K hK => ?_
          go_simp
          refine (CO wx).mono ?_
          rintro e wy ⟨rfl, hb⟩
          exact hK _ _ ⟨rfl, hW.trans (hb.mono hW.size), hb, fun h => (List.not_mem_nil h).elim⟩
        | n + 13, ho, hr => exact absurd hr (by simp)
        all_goals
          obtain rfl := Option.some.inj ho; obtain rfl := Option.some.inj hr
          simp only [List.mem_cons, List.not_mem_nil, or_false, false_imp_iff, implies_true, forall_eq_or_imp, forall_eq, List.getElem?_cons_zero, List.getElem?_cons_succ, Option.some.injEq, forall_eq', evt] at hpre hfree
          have c0 := (hW.cell (p := ⟨b4, 0, none⟩) l4).trans k40
          have c1 := (hW.cell (p := ⟨b4, 1, none⟩) l4).trans k41
          have c2 := (hW.cell (p := ⟨R, k, none⟩) lR).trans ck
          have c3 := (hW.cell (p := ⟨rk, c, none⟩) lk).trans cx
          refine stpK rfl rfl fun K hK => ?_ <;> (go_simp; exact hK _ _ ⟨rfl, hW, Below.refl _ _, fun h => (List.not_mem_nil h).elim⟩)
      · intro vs wm hvs hW1 hap0
        clear hap0
        have e0 : vs 0 = .slice (some ⟨bl, 0, none⟩) (m) (m) := hvs 0 (by decide)
        have e1 : vs 1 = .int .i64 ((V : Int)) := hvs 1 (by decide)
        have e2 : vs 2 = .agg #[.int .i64 (p), .int .i64 (q)] := hvs 2 (by decide)
        have e3 : vs 3 = .agg #[.int .i64 (p), .int .i64 (q)] := hvs 3 (by decide)
        have e4 : vs 4 = .slice (some ⟨R, 0, none⟩) (n) (n) := hvs 4 (by decide)
        have e5 : vs 5 = .int .i64 ((k : Int)) := hvs 5 (by decide)
        have e6 : vs 6 = .pointer (some ⟨R, k, none⟩) := hvs 6 (by decide)
        have e7 : vs 7 = .slice (some ⟨rk, 0, none⟩) (n) (n) := hvs 7 (by decide)
        have e8 : vs 8 = .int .i64 ((c : Int)) := hvs 8 (by decide)
        have e9 : vs 9 = .pointer (some ⟨rk, c, none⟩) := hvs 9 (by decide)
        have e10 : vs 10 = .int .i64 (X) := hvs 10 (by decide)
        have e11 : vs 11 = .int .i64 (S) := hvs 11 (by decide)
        have e12 : vs 12 = .int .i64 (O) := hvs 12 (by decide)
        simp only [puts, Nat.reduceAdd, e0, e1, e2, e3, e4, e5, e6, e7, e8, e9, e10, e11, e12, Act.put, List.setIfInBounds_toArray, List.set_cons_zero, List.set_cons_succ, List.drop_succ_cons, List.drop_zero, List.length_cons, List.length_nil]
        clear hvs e0 e1 e2 e3 e4 e5 e6 e7 e8 e9 e10 e11 e12
        have cv5 : wm.cell? ⟨bl, V, none⟩ = some (.int .i64 (y V)) := (hW1.cell (p := ⟨bl, V, none⟩) lbl).trans cv
        have zv5 : wm.frozen? ⟨bl, V, none⟩ = false := (hW1.frozen (p := ⟨bl, V, none⟩) lbl).trans zv
        have HREL : Hid _ := HFIN.out wm hW1
        clear hW1 ck cx cv zv cp' CL CO l4 k40 k41 z4 z5
        go_wp2
        try rw [hw4]
        exact ⟨HREL.out, meas_up hkk⟩
    · obtain rfl : k = K := by omega
      have hki : ¬ ((k : Int) < (k : Int)) := by omega
      have R : Hid (SolPost w p M pv c (.returned (.slice (some ⟨bl, 0, none⟩) m m)) wr) := by
        have hm := HMC.out
        subst hm
        exact .mk bl y rfl (HL.out.mono (by have := HBL.out; omega)) HB.out (by rw [← HKL.out]; exact HY.out)
      go_wp2
      refine bodyPost_ret (v := .slice (some ⟨bl, 0, none⟩) m m) (by simp [results, go_sem, loadVar]) rfl ?_
      exact R.out
end Go.Proofs.YtffdemplaodbcaaDoor
namespace Go.Proofs.YtffdemplaodbcaaDoor
open Go Go.Proofs Go.RowKit Go.Rad

/-- make of n rows. -/
theorem wpList_makeR {w : World} {ops : Array Oper} {rest : List Oper} {o : Oper} {a : Act} {Q : Exit → Act → World → Prop}
    (hg : o.guard = none) (l c : Operand) (hop : o.op = Op.makeSlice 64 l c) (L : Int) (n : Nat) (hl : a.eval l = .int .i64 L) (hc : a.eval c = .int .i64 L) (hL : L = (n : Int)) (hn : n ≤ 1048576)
    (hK : ∀ w', (∀ i, i < n → w'.cell? ⟨w.heap.size, i, none⟩ = some (.slice none 0 0)) → (∀ i, i < n → w'.frozen? ⟨w.heap.size, i, none⟩ = false) → w.heap.size < w'.heap.size → Below w.heap.size w w' → wpList Tryd.prog ops Q rest (a.put o.dst (.slice (some ⟨w.heap.size, 0, none⟩) n n)) w') :
    wpList Tryd.prog ops Q (o :: rest) a w := by
  obtain ⟨i, hi0, hi1⟩ := Option.map_eq_some_iff.1 info22
  simp only [Prod.mk.injEq] at hi1
  obtain ⟨z0, z1, z2⟩ := hi1
  subst hL
  refine wpList_plain hg fun K hK' => ?_
  obtain ⟨w', hrun, hrow, hgr⟩ := run_make_full (P := Tryd.prog) w w.heap.size 64 22 i (.slice none 0 0) 1 Tryd.underlying64 hi0 z0 z1 .i64 .i64 n (by rw [z2]; omega) (by unfold maxLen; omega) (Nat.le_refl _)
  unfold Oper.wp
  simp [execOp, hop, hl, hc, hrun, Result.andThen]
  have hB : Below w.heap.size w w' := (Below.refl _ _).grown hgr (Nat.le_refl _) (fun k hk => by cases hk)
  have e1 : (madeCells (Value.slice none 0 0).cells (n * 1)).toList = List.replicate n (Value.slice none 0 0) := by
    rw [Nat.mul_one]
    exact toList_madeCells_one _ _
  rw [e1] at hrow
  have hlt : w.heap.size < w'.heap.size := by
    rcases hrow.2 with ⟨h, _⟩ | ⟨g, cap, cur, hv, _, hg, _⟩
    · cases h
    · have h2 := (Array.getElem?_eq_some_iff.1 hg).1
      simp only [Value.slice.injEq, Option.some.injEq, Addr.mk.injEq] at hv
      omega
  refine hK' _ _ (hK _ (fun j hj => ?_) (fun j hj => ?_) hlt hB)
  · rw [World.ownsRow.cellAt hrow j (by omega)]
    simp [hj]
  · exact World.ownsRow.frozenAt hrow j
/-- The first k of n rows are made. -/
structure MK (w : World) (B R n k : Nat) (rb : Nat → Nat) (M : Nat → Nat → Int) : Prop where
  cR : ∀ i, i < k → w.cell? ⟨R, i, none⟩ = some (.slice (some ⟨rb i, 0, none⟩) n n)
  c0 : ∀ i, k ≤ i → i < n → w.cell? ⟨R, i, none⟩ = some (.slice none 0 0)
  zR : ∀ i, i < n → w.frozen? ⟨R, i, none⟩ = false
  base : B ≤ R
  lt : R < w.heap.size
  row : ∀ i, i < k → OA w B (rb i) n (M i)
  ne : ∀ i, i < k → rb i ≠ R
  inj : ∀ i j, i < k → j < k → rb i = rb j → i = j
theorem MK.below {w w' : World} {B R n k : Nat} {rb : Nat → Nat} {M : Nat → Nat → Int} (h : MK w B R n k rb M) (hb : Below w.heap.size w w') : MK w' B R n k rb M :=
  ⟨fun i hi => (hb.cell (p := ⟨R, i, none⟩) h.lt).trans (h.cR i hi), fun i h1 h2 => (hb.cell (p := ⟨R, i, none⟩) h.lt).trans (h.c0 i h1 h2), fun i hi => (hb.frozen (p := ⟨R, i, none⟩) h.lt).trans (h.zR i hi), h.base, Nat.lt_of_lt_of_le h.lt hb.size,
    fun i hi => (h.row i hi).below hb, h.ne, h.inj⟩
theorem MK.mt {w : World} {B R n : Nat} {rb : Nat → Nat} {M : Nat → Nat → Int} (h : MK w B R n n rb M) : MT w B R n rb M := ⟨h.cR, h.zR, h.base, h.lt, h.row, h.ne, h.inj⟩
/-- One more row. -/
theorem MK.put {w : World} {B R n k : Nat} {rb : Nat → Nat} {M : Nat → Nat → Int} (h : MK w B R n k rb M) (hk : k < n) {l : Nat} {y : Nat → Int} (hl : OA w B l n y) (hR : l ≠ R) (hne : ∀ i, i < k → rb i ≠ l) :
    MK (w.setCell ⟨R, k, none⟩ (.slice (some ⟨l, 0, none⟩) n n)) B R n (k + 1) (fun i => if i = k then l else rb i) (fun i j => if i = k then y j else M i j) := by
  have keep : ∀ {b : Nat} {f : Nat → Int}, OA w B b n f → b ≠ R → OA (w.setCell ⟨R, k, none⟩ (.slice (some ⟨l, 0, none⟩) n n)) B b n f := fun {b f} ho hb =>
    ⟨ho.base, by simpa [World.setCell] using ho.lt, fun i hi => by rw [cell_other (.inl hb)]; exact ho.c i hi, fun i hi => by rw [World.frozen?_setCell]; exact ho.z i hi⟩
  refine ⟨fun i hi => ?_, fun i h1 h2 => ?_, fun i hi => by rw [World.frozen?_setCell]; exact h.zR i hi, h.base, by simpa [World.setCell] using h.lt, fun i hi => ?_, fun i hi => ?_, fun i j hi hj => ?_⟩
  · by_cases hit : i = k
    · subst hit
      show _ = some (Value.slice (some ⟨if i = i then l else rb i, 0, none⟩) n n)
      rw [if_pos rfl]
      exact cell_same (h.c0 i (Nat.le_refl _) hk)
    · show _ = some (Value.slice (some ⟨if i = k then l else rb i, 0, none⟩) n n)
      rw [if_neg hit, cell_other (.inr hit)]
      exact h.cR i (by omega)
  · rw [cell_other (.inr (by omega))]; exact h.c0 i (by omega) h2
  · by_cases hit : i = k
    · subst hit
      show OA _ B (if i = i then l else rb i) n (fun j => if i = i then y j else M i j)
      simp only [if_pos]
      exact keep hl hR
    · show OA _ B (if i = k then l else rb i) n (fun j => if i = k then y j else M i j)
      simp only [if_neg hit]
      exact keep (h.row i (by omega)) (h.ne i (by omega))
  · show (if i = k then l else rb i) ≠ R
    split
    · exact hR
    · exact h.ne i (by omega)
  · show (if i = k then l else rb i) = (if j = k then l else rb j) → i = j
    by_cases hit : i = k
    · by_cases hjt : j = k
      · intro _; omega
      · rw [if_pos hit, if_neg hjt]
        intro e; exact absurd e.symm (hne j (by omega))
    · by_cases hjt : j = k
      · rw [if_neg hit, if_pos hjt]
        intro e; exact absurd e (hne i (by omega))
      · rw [if_neg hit, if_neg hjt]
        exact h.inj i j (by omega) (by omega)
/-- A number is put into a row. -/
theorem MK.num {w : World} {B R n k : Nat} {rb : Nat → Nat} {M : Nat → Nat → Int} (h : MK w B R n k rb M) {t s : Nat} (ht : t < k) (hs : s < n) (x : Int) :
    MK (w.setCell ⟨rb t, s, none⟩ (.int .i64 x)) B R n k rb (fun i j => if i = t ∧ j = s then x else M i j) := by
  refine ⟨fun i hi => by rw [cell_other (.inl (h.ne t ht).symm)]; exact h.cR i hi, fun i h1 h2 => by rw [cell_other (.inl (h.ne t ht).symm)]; exact h.c0 i h1 h2, fun i hi => by rw [World.frozen?_setCell]; exact h.zR i hi, h.base, by simpa [World.setCell] using h.lt, fun i hi => ?_, h.ne, h.inj⟩
  by_cases hit : i = t
  · subst hit
    exact ((h.row i hi).store hs x).fun fun j hj => by
      by_cases hjs : j = s
      · rw [if_pos hjs, if_pos ⟨rfl, hjs⟩]
      · rw [if_neg hjs, if_neg (fun e => hjs e.2)]
  · have ho := h.row i hi
    have hne : rb i ≠ rb t := fun e => hit (h.inj i t hi ht e)
    exact ⟨ho.base, by simpa [World.setCell] using ho.lt, fun j hj => by
      rw [cell_other (.inl hne), if_neg (fun e => hit e.1)]; exact ho.c j hj, fun j hj => by rw [World.frozen?_setCell]; exact ho.z j hj⟩
theorem MT.toMK {w : World} {B R n : Nat} {rb : Nat → Nat} {M : Nat → Nat → Int} (h : MT w B R n rb M) : MK w B R n n rb M := ⟨h.cR, fun i h1 h2 => by omega, h.zR, h.base, h.lt, h.row, h.ne, h.inj⟩
theorem MT.num {w : World} {B R n : Nat} {rb : Nat → Nat} {M : Nat → Nat → Int} (h : MT w B R n rb M) {t s : Nat} (ht : t < n) (hs : s < n) (x : Int) :
    MT (w.setCell ⟨rb t, s, none⟩ (.int .i64 x)) B R n rb (fun i j => if i = t ∧ j = s then x else M i j) := ((MT.toMK h).num ht hs x).mt
end Go.Proofs.YtffdemplaodbcaaDoor
/- Commutative rings: plain algebra, nothing of the program. -/
namespace Rad

class CR (A : Type) extends Add A, Mul A, Neg A, Zero A, One A where
  add_assoc : ∀ a b c : A, a + b + c = a + (b + c)
  add_comm : ∀ a b : A, a + b = b + a
  zero_add : ∀ a : A, 0 + a = a
  neg_add : ∀ a : A, -a + a = 0
  mul_assoc : ∀ a b c : A, a * b * c = a * (b * c)
  mul_comm : ∀ a b : A, a * b = b * a
  one_mul : ∀ a : A, 1 * a = a
  mul_add : ∀ a b c : A, a * (b + c) = a * b + a * c
namespace CR
variable {A : Type} [CR A]
theorem add_zero (a : A) : a + 0 = a := by rw [add_comm, zero_add]
theorem add_neg (a : A) : a + -a = 0 := by rw [add_comm, neg_add]
theorem mul_one (a : A) : a * 1 = a := by rw [mul_comm, one_mul]
theorem add_mul (a b c : A) : (a + b) * c = a * c + b * c := by rw [mul_comm, mul_add, mul_comm c a, mul_comm c b]
theorem add_cancel {a b c : A} (h : a + c = b + c) : a = b := by
  have h2 : a + c + -c = b + c + -c := by rw [h]
  rwa [add_assoc, add_assoc, add_neg, add_zero, add_zero] at h2
theorem mul_zero (a : A) : a * 0 = 0 := by
  apply add_cancel (c := a * 0)
  rw [← mul_add, zero_add, zero_add]
theorem zero_mul (a : A) : 0 * a = 0 := by rw [mul_comm, mul_zero]
theorem mul_neg (a b : A) : a * -b = -(a * b) := by
  apply add_cancel (c := a * b)
  rw [← mul_add, neg_add, neg_add, mul_zero]
theorem neg_mul (a b : A) : -a * b = -(a * b) := by rw [mul_comm, mul_neg, mul_comm]
theorem neg_neg (a : A) : - -a = a := by
  apply add_cancel (c := -a)
  rw [neg_add, add_neg]
theorem sub_zero {a b : A} (h : a + -b = 0) : a = b := by
  apply add_cancel (c := -b)
  rw [h, add_neg]
theorem add_left_comm (a b c : A) : a + (b + c) = b + (a + c) := by rw [← add_assoc, add_comm a b, add_assoc]
theorem mul_left_comm (a b c : A) : a * (b * c) = b * (a * c) := by rw [← mul_assoc, mul_comm a b, mul_assoc]
theorem neg_add_rev (a b : A) : -(a + b) = -a + -b := by
  apply add_cancel (c := a + b)
  rw [neg_add, add_assoc, add_left_comm (-b), neg_add, add_zero, neg_add]
theorem neg_zero : -(0 : A) = 0 := by
  apply add_cancel (c := (0 : A))
  rw [neg_add, add_zero]
instance : Std.Associative (α := A) (· + ·) := ⟨add_assoc⟩
instance : Std.Commutative (α := A) (· + ·) := ⟨add_comm⟩
instance : Std.Associative (α := A) (· * ·) := ⟨mul_assoc⟩
instance : Std.Commutative (α := A) (· * ·) := ⟨mul_comm⟩
/-- Powers. -/
def pw (a : A) : Nat → A
  | 0 => 1
  | n + 1 => pw a n * a
theorem pw_add (a : A) (m : Nat) : ∀ n, pw a (m + n) = pw a m * pw a n
  | 0 => by show pw a m = pw a m * 1; rw [mul_one]
  | n + 1 => by show pw a (m + n) * a = pw a m * (pw a n * a); rw [pw_add a m n, mul_assoc]
theorem one_pw : ∀ n, pw (1 : A) n = 1
  | 0 => rfl
  | n + 1 => by show pw 1 n * 1 = 1; rw [one_pw n, mul_one]
theorem pw_one (a : A) : pw a 1 = a := by show 1 * a = a; rw [one_mul]
theorem pw_mul (a : A) (m : Nat) : ∀ n, pw a (m * n) = pw (pw a m) n
  | 0 => rfl
  | n + 1 => by show pw a (m * n + m) = pw (pw a m) n * pw a m; rw [pw_add, pw_mul a m n]
theorem mul_pw (a b : A) : ∀ n, pw (a * b) n = pw a n * pw b n
  | 0 => by show (1 : A) = 1 * 1; rw [mul_one]
  | n + 1 => by
    show pw (a * b) n * (a * b) = pw a n * a * (pw b n * b)
    rw [mul_pw a b n]
    ac_rfl
theorem zero_pw {n : Nat} (h : 0 < n) : pw (0 : A) n = 0 := by
  obtain ⟨k, rfl⟩ : ∃ k, n = k + 1 := ⟨n - 1, by omega⟩
  exact mul_zero _
/-- Multiples. -/
def nsm : Nat → A → A
  | 0, _ => 0
  | n + 1, a => nsm n a + a
theorem nsm_add (m : Nat) (a : A) : ∀ n, nsm (m + n) a = nsm m a + nsm n a
  | 0 => by show nsm m a = nsm m a + 0; rw [add_zero]
  | n + 1 => by show nsm (m + n) a + a = nsm m a + (nsm n a + a); rw [nsm_add m a n, add_assoc]
theorem nsm_mul (a b : A) : ∀ n, nsm n (a * b) = nsm n a * b
  | 0 => by show (0 : A) = 0 * b; rw [zero_mul]
  | n + 1 => by show nsm n (a * b) + a * b = (nsm n a + a) * b; rw [nsm_mul a b n, add_mul]
theorem nsm_one (a : A) : nsm 1 a = a := by show 0 + a = a; rw [zero_add]
theorem nsm_char {p : Nat} (hp : ∀ a : A, nsm p a = 0) {k : Nat} (h : p ∣ k) (a : A) : nsm k a = 0 := by
  obtain ⟨t, rfl⟩ := h
  induction t with
  | zero => rfl
  | succ t ih => rw [Nat.mul_succ, nsm_add, ih, hp, add_zero]
/-- Sums. -/
def sA (f : Nat → A) : Nat → A
  | 0 => 0
  | n + 1 => sA f n + f n
theorem sA_succ (f : Nat → A) : ∀ n, sA f (n + 1) = f 0 + sA (fun k => f (k + 1)) n
  | 0 => by show 0 + f 0 = f 0 + 0; rw [add_comm]
  | n + 1 => by
    show sA f (n + 1) + f (n + 1) = f 0 + (sA (fun k => f (k + 1)) n + f (n + 1))
    rw [sA_succ f n, add_assoc]
theorem sA_add (f g : Nat → A) : ∀ n, sA (fun k => f k + g k) n = sA f n + sA g n
  | 0 => by show (0 : A) = 0 + 0; rw [add_zero]
  | n + 1 => by
    show sA (fun k => f k + g k) n + (f n + g n) = sA f n + f n + (sA g n + g n)
    rw [sA_add f g n]
    ac_rfl
theorem sA_mul (f : Nat → A) (c : A) : ∀ n, sA (fun k => f k * c) n = sA f n * c
  | 0 => by show (0 : A) = 0 * c; rw [zero_mul]
  | n + 1 => by
    show sA (fun k => f k * c) n + f n * c = (sA f n + f n) * c
    rw [sA_mul f c n, add_mul]
theorem sA_congr {f g : Nat → A} : ∀ {n}, (∀ k, k < n → f k = g k) → sA f n = sA g n
  | 0, _ => rfl
  | n + 1, h => by
    show sA f n + f n = sA g n + g n
    rw [sA_congr fun k hk => h k (by omega), h n (by omega)]
theorem sA_zero {f : Nat → A} : ∀ {n}, (∀ k, k < n → f k = 0) → sA f n = 0
  | 0, _ => rfl
  | n + 1, h => by
    show sA f n + f n = 0
    rw [sA_zero fun k hk => h k (by omega), h n (by omega), add_zero]
theorem binom (a b : A) : ∀ n, pw (a + b) n = sA (fun k => nsm (ch n k) (pw a k * pw b (n - k))) (n + 1)
  | 0 => by
    show (1 : A) = 0 + nsm 1 (1 * 1)
    rw [zero_add, nsm_one, one_mul]
  | n + 1 => by
    have e1 : sA (fun k => nsm (ch (n + 1) k) (pw a k * pw b (n + 1 - k))) (n + 1 + 1) =
        pw b (n + 1) + (sA (fun k => nsm (ch n k) (pw a k * pw b (n - k)) * a) (n + 1) + sA (fun k => nsm (ch n (k + 1)) (pw a (k + 1) * pw b (n - k))) (n + 1)) := by
      rw [sA_succ, ← sA_add]
      congr 1
      · show nsm (ch (n + 1) 0) (1 * pw b (n + 1)) = _
        rw [ch_zero, nsm_one, one_mul]
      · refine sA_congr fun k hk => ?_
        show nsm (ch n k + ch n (k + 1)) (pw a (k + 1) * pw b (n + 1 - (k + 1))) = _
        rw [nsm_add, show n + 1 - (k + 1) = n - k by omega]
        congr 1
        rw [← nsm_mul]
        congr 1
        show pw a k * a * pw b (n - k) = _
        ac_rfl
    have e2 : pw b (n + 1) + sA (fun k => nsm (ch n (k + 1)) (pw a (k + 1) * pw b (n - k))) (n + 1) = sA (fun k => nsm (ch n k) (pw a k * pw b (n - k)) * b) (n + 1) := by
      rw [sA_succ (fun k => nsm (ch n k) (pw a k * pw b (n - k)) * b)]
      congr 1
      · show pw b n * b = nsm (ch n 0) (1 * pw b n) * b
        rw [ch_zero, nsm_one, one_mul]
      · show sA _ n + nsm (ch n (n + 1)) _ = _
        rw [ch_big n (n + 1) (by omega)]
        show _ + 0 = _
        rw [add_zero]
        refine sA_congr fun k hk => ?_
        rw [← nsm_mul, show n - k = n - (k + 1) + 1 by omega]
        congr 1
        show pw a (k + 1) * (pw b (n - (k + 1)) * b) = _
        rw [mul_assoc]
    show pw (a + b) n * (a + b) = _
    rw [e1, mul_add, binom a b n, ← sA_mul, ← sA_mul, ← e2]
    ac_rfl
/-- Modulo a prime the powers of that number are additive. -/
theorem dream {p : Nat} (hp : Prm p) (hc : ∀ a : A, nsm p a = 0) (a b : A) : pw (a + b) p = pw a p + pw b p := by
  have h2 := hp.two
  obtain ⟨q, rfl⟩ : ∃ q, p = q + 1 := ⟨p - 1, by omega⟩
  rw [binom]
  show sA _ (q + 1) + nsm (ch (q + 1) (q + 1)) (pw a (q + 1) * pw b (q + 1 - (q + 1))) = _
  rw [sA_succ, ch_self, nsm_one, Nat.sub_self]
  show nsm (ch (q + 1) 0) (1 * pw b (q + 1)) + _ + pw a (q + 1) * 1 = _
  rw [ch_zero, nsm_one, one_mul, mul_one, sA_zero (n := q)]
  · rw [add_zero, add_comm]
  · intro k hk
    refine nsm_char hc ?_ _
    have h3 : (q + 1) ∣ (k + 1) * ch (q + 1) (k + 1) := by rw [ch_mul]; exact Nat.dvd_mul_right _ _
    rcases hp.mul h3 with h4 | h4
    · have := Nat.le_of_dvd (by omega) h4; omega
    · exact h4
theorem dreams {p : Nat} (hp : Prm p) (hc : ∀ a : A, nsm p a = 0) (a b : A) : ∀ k, pw (a + b) (p ^ k) = pw a (p ^ k) + pw b (p ^ k)
  | 0 => by rw [Nat.pow_zero, pw_one, pw_one, pw_one]
  | k + 1 => by rw [Nat.pow_succ, pw_mul, dreams hp hc a b k, dream hp hc, pw_mul, pw_mul]
end CR
end Rad
