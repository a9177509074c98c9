/- A part of the proof: ZH, MI. -/
import Derived.Test.YtffdemplaodbcaaDoorP39
import Derived.Test.YtffdemplaodbcaaDoorP35
set_option linter.all false
namespace Go.Proofs.YtffdemplaodbcaaDoor
open Go Go.Proofs Go.RowKit Go.Rad

/-! Elimination with what it finds: the solutions of the free columns. -/
/-- A round of elimination takes no solution in. -/
theorem Elim.back {p : Int} {n c k : Nat} {M N : Nat → Nat → Int} {pv : Nat → Nat} {y : Nat → Int} {r : Int} (h : Elim p n c k M pv) (hk : k < n) (hr : r * M k c % p = 1)
    (hy : ∀ j, j < n → y j % p = (if c ≤ j then M k j * r else 0) % p) (hN : ∀ i j, i < n → j < n → N i j % p = (if i = k then y j else M i j - M i c * y j) % p) (v : Nat → Int) (hv : Sol p n N v) : Sol p n M v := by
  have hyall : ∀ j, j < n → y j % p = M k j * r % p := fun j hj => by
    rw [hy j hj]
    split
    · rfl
    · rw [Int.mul_emod, h.done k j (Nat.le_refl _) hk (by omega), Int.zero_mul]
  have hyv : sI (fun j => y j * v j) n % p = 0 := by
    have h1 : sI (fun j => y j * v j) n % p = sI (fun j => N k j * v j) n % p := sI_cong fun j hj => by
      rw [Int.mul_emod, Int.mul_emod (N k j), hN k j hk hj, if_pos rfl]
    rw [h1]; exact hv k hk
  have hMk : ∀ j, j < n → M k j % p = M k c * y j % p := fun j hj => by
    rw [Int.mul_emod, hyall j hj, ← Int.mul_emod, show M k c * (M k j * r) = M k j * (r * M k c) by ac_rfl, Int.mul_emod, hr, Int.mul_one, Int.emod_emod]
  intro i hi
  by_cases hik : i = k
  · subst hik
    have h1 : sI (fun j => M i j * v j) n % p = sI (fun j => M i c * (y j * v j)) n % p := sI_cong fun j hj => by
      rw [Int.mul_emod, hMk j hj, ← Int.mul_emod, Int.mul_assoc]
    rw [h1, sI_smul, Int.mul_emod, hyv, Int.mul_zero]; rfl
  · have h1 : sI (fun j => M i j * v j) n % p = sI (fun j => N i j * v j + M i c * (y j * v j)) n % p := sI_cong fun j hj => by
      have h2 := hN i j hi hj
      rw [if_neg hik] at h2
      have h3 : M i j % p = (N i j + M i c * y j) % p := by
        rw [Int.add_emod, h2, ← Int.add_emod]
        congr 1; omega
      rw [Int.mul_emod, h3, ← Int.mul_emod, Int.add_mul, Int.mul_assoc]
    rw [h1, sI_add, sI_smul, Int.add_emod, hv i hi, Int.mul_emod, hyv, Int.mul_zero]; rfl
/-- What fixed has come to before the column c. -/
structure FX (p : Int) (n : Nat) (M0 : Nat → Nat → Int) (c k : Nat) (N : Nat → Nat → Int) (pv : Nat → Nat) (m : Nat) (fr : Nat → Nat) (V : Nat → Nat → Int) : Prop where
  el : Elim p n c k N pv
  fwd : ∀ v, Sol p n M0 v → Sol p n N v
  bwd : ∀ v, Sol p n N v → Sol p n M0 v
  cnt : c = k + m
  flt : ∀ i, i < m → fr i < c
  finc : ∀ i j, i < j → j < m → fr i < fr j
  fpv : ∀ i r, i < m → r < k → pv r ≠ fr i
  cov : ∀ j, j < c → (∃ r, r < k ∧ pv r = j) ∨ ∃ i, i < m ∧ fr i = j
  one : ∀ i, i < m → V i (fr i) = 1
  piv : ∀ i r, i < m → r < k → (V i (pv r) + N r (fr i)) % p = 0
  zero : ∀ i j, i < m → j ≠ fr i → (∀ r, r < k → pv r ≠ j) → V i j = 0
  bd : ∀ i j, i < m → 0 ≤ V i j ∧ V i j < p
  top : ∀ i j, i < m → fr i < j → V i j = 0
theorem FX.start {p : Int} {n : Nat} (M : Nat → Nat → Int) (pv fr : Nat → Nat) (V : Nat → Nat → Int) : FX p n M 0 0 M pv 0 fr V :=
  ⟨⟨fun i j _ h => by omega, fun i h => by omega, fun i h => by omega, fun i r h => by omega, fun r j _ _ h => by omega⟩, fun v h => h, fun v h => h, rfl, fun i h => by omega, fun i j _ h => by omega, fun i r h => by omega, fun j h => by omega,
    fun i h => by omega, fun i r h => by omega, fun i j h => by omega, fun i j h => by omega, fun i j h => by omega⟩
theorem negadd (p x : Int) : (-(x % p) % p + x) % p = 0 := by
  rw [Int.add_emod, Int.emod_emod, ← Int.emod_emod x p, ← Int.add_emod, Int.emod_emod]
  have : -(x % p) + x % p = 0 := by omega
  rw [this]; rfl
/-- A column without a pivot: its solution. -/
theorem FX.free {p : Int} (hp : 1 < p) {n : Nat} {M0 : Nat → Nat → Int} {c k : Nat} {N : Nat → Nat → Int} {pv : Nat → Nat} {m : Nat} {fr : Nat → Nat} {V : Nat → Nat → Int} (h : FX p n M0 c k N pv m fr V)
    (h0 : ∀ r, k ≤ r → r < n → N r c % p = 0) {pl : List Int} (hpl : pl.length = k) (hpv : ∀ i, i < k → pl.getD i 0 = pv i) {y : Nat → Int} (hy : SolV p N c pl pl.length y) (hyt : ∀ j, c < j → y j = 0) :
    FX p n M0 (c + 1) k N pv (m + 1) (fun i => if i = m then c else fr i) (fun i j => if i = m then y j else V i j) := by
  refine ⟨h.el.skip h0, h.fwd, h.bwd, by have := h.cnt; omega, fun i hi => ?_, fun i j hij hj => ?_, fun i r hi hr => ?_, fun j hj => ?_, fun i hi => ?_, fun i r hi hr => ?_, fun i j hi hj hz => ?_, fun i j hi => ?_, fun i j hi hj => ?_⟩
  · show (if i = m then c else fr i) < c + 1
    split
    · omega
    · have := h.flt i (by omega); omega
  · show (if i = m then c else fr i) < (if j = m then c else fr j)
    rw [if_neg (by omega)]
    split
    · exact h.flt i (by omega)
    · exact h.finc i j hij (by omega)
  · show pv r ≠ (if i = m then c else fr i)
    split
    · have := h.el.lt r hr; omega
    · exact h.fpv i r (by omega) hr
  · by_cases hjc : j = c
    · exact .inr ⟨m, Nat.lt_succ_self m, by simp [hjc]⟩
    · rcases h.cov j (by omega) with h1 | ⟨i, hi, he⟩
      · exact .inl h1
      · exact .inr ⟨i, by omega, by rw [if_neg (by omega)]; exact he⟩
  · by_cases him : i = m
    · simp only [him, if_true]; exact hy.one
    · simp only [if_neg him]; exact h.one i (by omega)
  · by_cases him : i = m
    · simp only [him, if_true]
      rw [hy.piv r (by omega) (pv r) (hpv r hr)]
      exact negadd p (N r c)
    · simp only [if_neg him]; exact h.piv i r (by omega) hr
  · by_cases him : i = m
    · simp only [him, if_true] at hj ⊢
      exact hy.zero j hj fun r hr => by
        rw [hpv r (by omega)]
        have := hz r (by omega)
        omega
    · simp only [if_neg him] at hj ⊢
      exact h.zero i j (by omega) hj hz
  · by_cases him : i = m
    · simp only [him, if_true]; exact hy.bd j
    · simp only [if_neg him]; exact h.bd i j (by omega)
  · by_cases him : i = m
    · simp only [him, if_true] at hj ⊢; exact hyt j hj
    · simp only [if_neg him] at hj ⊢; exact h.top i j (by omega) hj
/-- Two rows are swapped. -/
def swp (k t : Nat) (M : Nat → Nat → Int) : Nat → Nat → Int := fun i j => if i = k then M t j else if i = t then M k j else M i j
theorem swp_swp (k t : Nat) (M : Nat → Nat → Int) : swp k t (swp k t M) = M := by
  funext i j
  unfold swp
  by_cases h1 : i = k
  · subst h1
    by_cases h2 : t = i
    · subst h2; simp
    · simp [h2]
  · by_cases h2 : i = t
    · subst h2; simp [h1]
    · simp [h1, h2]
theorem sol_swp {p : Int} {n k t : Nat} {M : Nat → Nat → Int} (hk : k < n) (ht : t < n) {v : Nat → Int} (h : Sol p n M v) : Sol p n (swp k t M) v := fun r hr => by
  unfold swp
  by_cases h1 : r = k
  · simp only [if_pos h1]; exact h t ht
  · by_cases h2 : r = t
    · simp only [if_neg h1, if_pos h2]; exact h k hk
    · simp only [if_neg h1, if_neg h2]; exact h r hr
theorem FX.swap {p : Int} {n : Nat} {M0 : Nat → Nat → Int} {c k : Nat} {N : Nat → Nat → Int} {pv : Nat → Nat} {m : Nat} {fr : Nat → Nat} {V : Nat → Nat → Int} (h : FX p n M0 c k N pv m fr V) {t : Nat} (ht : k ≤ t) (htn : t < n) :
    FX p n M0 c k (swp k t N) pv m fr V :=
  ⟨(h.el.swap ht htn).1, fun v hv => sol_swp (by omega) htn (h.fwd v hv), fun v hv => h.bwd v (by have h1 := sol_swp (k := k) (t := t) (by omega) htn hv; rwa [swp_swp] at h1), h.cnt, h.flt, h.finc, h.fpv, h.cov, h.one, fun i r hi hr => by
    unfold swp
    rw [if_neg (by omega), if_neg (by omega)]
    exact h.piv i r hi hr, h.zero, h.bd, h.top⟩
/-- A column with a pivot. -/
theorem FX.step {p : Int} (hp : 1 < p) {n : Nat} {M0 : Nat → Nat → Int} {c k : Nat} {M N : Nat → Nat → Int} {pv : Nat → Nat} {m : Nat} {fr : Nat → Nat} {V : Nat → Nat → Int} (h : FX p n M0 c k M pv m fr V) (hk : k < n) (hc : c < n) {y : Nat → Int} {r : Int}
    (hr : r * M k c % p = 1) (hy : ∀ j, j < n → y j = if c ≤ j then M k j * r % p else 0) (hN : ∀ i j, i < n → j < n → N i j % p = (if i = k then y j else M i j - M i c * y j) % p) :
    FX p n M0 (c + 1) (k + 1) N (fun i => if i = k then c else pv i) m fr V := by
  have hy' : ∀ j, j < n → y j % p = (if c ≤ j then M k j * r else 0) % p := fun j hj => by
    rw [hy j hj]
    split
    · exact Int.emod_emod _ _
    · rfl
  have h1 := h.el.step hp hk hc hr hy' hN
  refine ⟨h1.1, fun v hv => h1.2 v (h.fwd v hv), fun v hv => h.bwd v (h.el.back hk hr hy' hN v hv), by have := h.cnt; omega, fun i hi => by have := h.flt i hi; omega, h.finc, fun i r' hi hr' => ?_, fun j hj => ?_, h.one, fun i r' hi hr' => ?_, fun i j hi hj hz => ?_, h.bd, h.top⟩
  · show (if r' = k then c else pv r') ≠ fr i
    split
    · have := h.flt i hi; omega
    · exact h.fpv i r' hi (by omega)
  · by_cases hjc : j = c
    · exact .inl ⟨k, Nat.lt_succ_self k, by simp [hjc]⟩
    · rcases h.cov j (by omega) with ⟨r', hr', he⟩ | h2
      · exact .inl ⟨r', by omega, by rw [if_neg (by omega)]; exact he⟩
      · exact .inr h2
  · have hf := h.flt i hi
    by_cases hrk : r' = k
    · simp only [hrk, if_true]
      rw [h.top i c hi hf, Int.zero_add, hN k (fr i) hk (by omega), if_pos rfl, hy (fr i) (by omega), if_neg (by omega)]; rfl
    · simp only [if_neg hrk]
      rw [Int.add_emod, hN r' (fr i) (by omega) (by omega), if_neg hrk, hy (fr i) (by omega), if_neg (by omega), Int.mul_zero, Int.sub_zero, ← Int.add_emod]
      exact h.piv i r' hi (by omega)
  · exact h.zero i j hi hj fun r' hr' => by
      have := hz r' (by omega)
      simpa [show r' ≠ k by omega] using this
end Go.Proofs.YtffdemplaodbcaaDoor
namespace Go.Proofs.YtffdemplaodbcaaDoor
open Go Go.Proofs Go.RowKit Go.Rad

/-- A list of lists of the call's own, that append lengthens. -/
def OWS (w : World) (B : Nat) (v : Value) (xs : List Value) : Prop := w.ownsRow B 22 1 v xs.length xs
theorem OWS.nil (w : World) (B : Nat) : OWS w B (.slice none 0 0) [] := ⟨rfl, .inl ⟨rfl, rfl⟩⟩
theorem ownsRow_kept {w w' : World} {B e n : Nat} {v : Value} {xs : List Value} {S : Nat → Prop} (h : w.ownsRow B e 1 v n xs) (hk : Kept S w w') (hs : ∀ g, v.ownBlock = some g → ¬ S g) : w'.ownsRow B e 1 v n xs := by
  refine ⟨h.1, ?_⟩
  rcases h.2 with h1 | ⟨g, cap, cur, hv, hB, hg, h2⟩
  · exact .inl h1
  · exact .inr ⟨g, cap, cur, hv, hB, (hk.block g (Array.getElem?_eq_some_iff.1 hg).1 (hs g (by rw [hv]; rfl))).trans hg, h2⟩
theorem ownsRow_at {w : World} {B e n : Nat} {v : Value} {xs : List Value} (h : w.ownsRow B e 1 v n xs) {g : Nat} (hg : v.ownBlock = some g) : B ≤ g ∧ g < w.heap.size ∧ ∃ cur, w.heap[g]? = some (.cells cur e (0, 0)) := by
  rcases h.2 with ⟨hv, _⟩ | ⟨g', cap, cur, hv, hB, hg', h2⟩
  · rw [hv] at hg; cases hg
  · rw [hv] at hg
    obtain rfl : g' = g := by simpa [Value.ownBlock] using hg
    exact ⟨hB, (Array.getElem?_eq_some_iff.1 hg').1, cur, hg'⟩
theorem wpList_appendI2 {w : World} {ops : Array Oper} {rest : List Oper} {o : Oper} {a : Act} {Q : Exit → Act → World → Prop} (hgd : o.guard = none) (s x : Operand)
    (ho : o.op = .call { callee := .builtin .append, args := #[s, x], argTypes := #[22, 22] }) {B : Nat} {v : Value} {xs : List Int} (hs : a.eval s = v) (hown : OWI w B v xs) (g7 m7 : Nat) (c : Int)
    (hx : a.eval x = .slice (some ⟨g7, 0, none⟩) 1 m7) (hc : w.cell? ⟨g7, 0, none⟩ = some (.int .i64 c)) (hl : xs.length ≤ 1048576) (hB : B ≤ w.heap.size)
    (h : ∀ v' w', OWI w' B v' (xs ++ [c]) → Kept (fun g => v.ownBlock = some g) w w' → (∀ g, v'.ownBlock = some g → v.ownBlock = some g ∨ w.heap.size ≤ g) → wpList Tryd.prog ops Q rest (a.put o.dst v') w') : wpList Tryd.prog ops Q (o :: rest) a w := by
  obtain ⟨i, hi0, hi1⟩ := Option.map_eq_some_iff.1 info3
  simp only [Prod.mk.injEq] at hi1
  obtain ⟨z0, z1, z2⟩ := hi1
  obtain ⟨g, cap, w', hrun, hrow, hgr, hg, hlt⟩ := run_append_lies (P := Tryd.prog) w 22 o.type B 3 i (.int .i64 0) 1 8 Tryd.underlying22 hi0 z0 z1 z2 rfl (by omega) v xs.length _ hown ⟨g7, 0, none⟩ 1 m7 [.int .i64 c] rfl
    (fun j u hj => by
      cases j with
      | zero =>
        simp at hj
        subst hj
        exact hc
      | succ j => simp at hj) (fun u hu => by simp at hu; subst hu; rfl) (by omega) (by unfold maxLen; omega) (by omega) hB w.heap.size rfl
  refine wpList_plain hgd fun K hK => ?_
  unfold Oper.wp execOp
  simp only [ho, resolve, invoke, builtin, Sem.run_bind, Sem.run_pure, Result.andThen_ok, List.map_toArray, List.map_cons, List.map_nil, hs, hx, hrun]
  refine hK _ _ (h _ _ ?_ ⟨hgr.os, hgr.tape, hgr.output, hgr.size, fun k hk hne => hgr.block k hk fun e => hne e.symm⟩ fun g' hg' => ?_)
  · unfold OWI
    rw [List.length_append, List.map_append]
    exact hrow
  · obtain rfl : g = g' := by simpa [Value.ownBlock] using hg'
    exact hg.imp id fun h => by omega
theorem wpList_appendS {w : World} {ops : Array Oper} {rest : List Oper} {o : Oper} {a : Act} {Q : Exit → Act → World → Prop} (hgd : o.guard = none) (s x : Operand)
    (ho : o.op = .call { callee := .builtin .append, args := #[s, x], argTypes := #[64, 64] }) {B : Nat} {v : Value} {xs : List Value} (hs : a.eval s = v) (hown : OWS w B v xs) (g7 m7 : Nat) (c : Value) (a1 : Option Addr) (n1 c1 : Nat) (hcv : c = .slice a1 n1 c1)
    (hx : a.eval x = .slice (some ⟨g7, 0, none⟩) 1 m7) (hc : w.cell? ⟨g7, 0, none⟩ = some c) (hl : xs.length ≤ 1048576) (hB : B ≤ w.heap.size)
    (h : ∀ v' w', OWS w' B v' (xs ++ [c]) → Kept (fun g => v.ownBlock = some g) w w' → (∀ g, v'.ownBlock = some g → v.ownBlock = some g ∨ w.heap.size ≤ g) → wpList Tryd.prog ops Q rest (a.put o.dst v') w') : wpList Tryd.prog ops Q (o :: rest) a w := by
  obtain ⟨i, hi0, hi1⟩ := Option.map_eq_some_iff.1 info22
  simp only [Prod.mk.injEq] at hi1
  obtain ⟨z0, z1, z2⟩ := hi1
  obtain ⟨g, cap, w', hrun, hrow, hgr, hg, hlt⟩ := run_append_lies (P := Tryd.prog) w 64 o.type B 22 i (.slice none 0 0) 1 24 Tryd.underlying64 hi0 z0 z1 z2 rfl (by omega) v xs.length _ hown ⟨g7, 0, none⟩ 1 m7 [c] rfl
    (fun j u hj => by
      cases j with
      | zero =>
        simp at hj
        subst hj
        exact hc
      | succ j => simp at hj) (fun u hu => by simp at hu; subst hu; subst hcv; rfl) (by omega) (by unfold maxLen; omega) (by omega) hB w.heap.size rfl
  refine wpList_plain hgd fun K hK => ?_
  unfold Oper.wp execOp
  simp only [ho, resolve, invoke, builtin, Sem.run_bind, Sem.run_pure, Result.andThen_ok, List.map_toArray, List.map_cons, List.map_nil, hs, hx, hrun]
  refine hK _ _ (h _ _ ?_ ⟨hgr.os, hgr.tape, hgr.output, hgr.size, fun k hk hne => hgr.block k hk fun e => hne e.symm⟩ fun g' hg' => ?_)
  · unfold OWS
    rw [List.length_append]
    exact hrow
  · obtain rfl : g = g' := by simpa [Value.ownBlock] using hg'
    exact hg.imp id fun h => by omega
theorem OA.kept {w w' : World} {B b n : Nat} {f : Nat → Int} {S : Nat → Prop} (h : OA w B b n f) (hk : Kept S w w') (hs : ¬ S b) : OA w' B b n f :=
  ⟨h.base, Nat.lt_of_lt_of_le h.lt hk.size, fun i hi => (hk.cell h.lt hs).trans (h.c i hi), fun i hi => (hk.froz h.lt hs).trans (h.z i hi)⟩
theorem MT.kept {w w' : World} {B R n : Nat} {rb : Nat → Nat} {M : Nat → Nat → Int} {T : Nat → Prop} (h : MT w B R n rb M) (hk : Kept T w w') (hT : ∀ g, T g → ¬ SwK R n rb g) : MT w' B R n rb M :=
  ⟨fun i hi => (hk.cell h.lt (fun e => hT _ e (.inl rfl))).trans (h.cR i hi), fun i hi => (hk.froz h.lt (fun e => hT _ e (.inl rfl))).trans (h.zR i hi), h.base, Nat.lt_of_lt_of_le h.lt hk.size,
    fun i hi => (h.row i hi).kept hk (fun e => hT _ e (.inr ⟨i, hi, rfl⟩)), h.ne, h.inj⟩
/-- Two rows change places. -/
theorem MT.swap {w : World} {B R n : Nat} {rb : Nat → Nat} {M : Nat → Nat → Int} (h : MT w B R n rb M) {k t : Nat} (hk : k < n) (ht : t < n) :
    MT ((w.setCell ⟨R, k, none⟩ (.slice (some ⟨rb t, 0, none⟩) n n)).setCell ⟨R, t, none⟩ (.slice (some ⟨rb k, 0, none⟩) n n)) B R n (fun i => if i = k then rb t else if i = t then rb k else rb i) (swp k t M) := by
  have keep : ∀ {b : Nat} {f : Nat → Int}, OA w B b n f → b ≠ R → OA ((w.setCell ⟨R, k, none⟩ (.slice (some ⟨rb t, 0, none⟩) n n)).setCell ⟨R, t, none⟩ (.slice (some ⟨rb k, 0, none⟩) n n)) B b n f := fun {b f} ho hb =>
    ⟨ho.base, by simpa [World.setCell] using ho.lt, fun i hi => by rw [cell_other (.inl hb), cell_other (.inl hb)]; exact ho.c i hi, fun i hi => by rw [World.frozen?_setCell, World.frozen?_setCell]; exact ho.z i hi⟩
  refine ⟨fun i hi => ?_, fun i hi => by rw [World.frozen?_setCell, World.frozen?_setCell]; exact h.zR i hi, h.base, by simpa [World.setCell] using h.lt, fun i hi => ?_, fun i hi => ?_, fun i j hi hj => ?_⟩
  · show _ = some (Value.slice (some ⟨if i = k then rb t else if i = t then rb k else rb i, 0, none⟩) n n)
    by_cases h1 : i = t
    · subst h1
      by_cases h2 : i = k
      · subst h2
        rw [if_pos rfl]
        exact cell_same (cell_same (h.cR i hi))
      · rw [if_neg h2, if_pos rfl]
        exact cell_same ((cell_other (.inr h2)).trans (h.cR i hi))
    · rw [cell_other (.inr h1)]
      by_cases h2 : i = k
      · subst h2
        rw [if_pos rfl]
        exact cell_same (h.cR i hi)
      · rw [if_neg h2, if_neg h1, cell_other (.inr h2)]
        exact h.cR i hi
  · show OA _ B (if i = k then rb t else if i = t then rb k else rb i) n (fun j => swp k t M i j)
    unfold swp
    by_cases h2 : i = k
    · simp only [if_pos h2]
      exact keep (h.row t ht) (h.ne t ht)
    · by_cases h1 : i = t
      · simp only [if_neg h2, if_pos h1]
        exact keep (h.row k hk) (h.ne k hk)
      · simp only [if_neg h2, if_neg h1]
        exact keep (h.row i hi) (h.ne i hi)
  · show (if i = k then rb t else if i = t then rb k else rb i) ≠ R
    split
    · exact h.ne t ht
    · split
      · exact h.ne k hk
      · exact h.ne i hi
  · have hs : ∀ i, (if i = k then rb t else if i = t then rb k else rb i) = rb (if i = k then t else if i = t then k else i) := fun i => by
      split
      · rfl
      · split <;> rfl
    have hl : ∀ i, i < n → (if i = k then t else if i = t then k else i) < n := fun i hi => by
      split
      · exact ht
      · split
        · exact hk
        · exact hi
    show (if i = k then rb t else if i = t then rb k else rb i) = (if j = k then rb t else if j = t then rb k else rb j) → i = j
    rw [hs, hs]
    intro e
    have e2 := h.inj _ _ (hl i hi) (hl j hj) e
    (repeat' split at e2) <;> omega
/-- What fixed has made so far, and that it lies apart from S. -/
structure OV (w : World) (B : Nat) (S : Nat → Prop) (vv : Value) (vs : List Value) (m : Nat) (fr vb : Nat → Nat) (V : Nat → Nat → Int) (pp : Value) (pl : List Int) : Prop where
  ov : OWS w B vv vs
  nv : ∀ g, vv.ownBlock = some g → ¬ S g
  vl : vs.length = m
  vi : ∀ i, i < m → vs[i]? = some (.slice (some ⟨vb i, 0, none⟩) (fr i + 1 : Nat) (fr i + 1 : Nat))
  oa : ∀ i, i < m → OA w B (vb i) (fr i + 1) (V i)
  na : ∀ i, i < m → ¬ S (vb i)
  nb : ∀ i, i < m → vv.ownBlock ≠ some (vb i) ∧ pp.ownBlock ≠ some (vb i)
  op : OWI w B pp pl
  np : ∀ g, pp.ownBlock = some g → ¬ S g
theorem OV.kept {w w' : World} {B : Nat} {S : Nat → Prop} {vv : Value} {vs : List Value} {m : Nat} {fr vb : Nat → Nat} {V : Nat → Nat → Int} {pp : Value} {pl : List Int} (h : OV w B S vv vs m fr vb V pp pl) (hk : Kept S w w') : OV w' B S vv vs m fr vb V pp pl :=
  ⟨ownsRow_kept h.ov hk h.nv, h.nv, h.vl, h.vi, fun i hi => (h.oa i hi).kept hk (h.na i hi), h.na, h.nb, ownsRow_kept h.op hk h.np, h.np⟩
theorem OV.below {w w' : World} {B : Nat} {S : Nat → Prop} {vv : Value} {vs : List Value} {m : Nat} {fr vb : Nat → Nat} {V : Nat → Nat → Int} {pp : Value} {pl : List Int} (h : OV w B S vv vs m fr vb V pp pl) (hb : Below w.heap.size w w') : OV w' B S vv vs m fr vb V pp pl :=
  h.kept (.of_below hb)
theorem OV.apart {w : World} {B : Nat} {S T : Nat → Prop} {vv : Value} {vs : List Value} {m : Nat} {fr vb : Nat → Nat} {V : Nat → Nat → Int} {pp : Value} {pl : List Int} (h : OV w B S vv vs m fr vb V pp pl) (ht : ∀ g, g < w.heap.size → T g → S g) : OV w B T vv vs m fr vb V pp pl :=
  ⟨h.ov, fun g hg hT => h.nv g hg (ht g (ownsRow_at h.ov hg).2.1 hT), h.vl, h.vi, h.oa, fun i hi hT => h.na i hi (ht _ (h.oa i hi).lt hT), h.nb, h.op, fun g hg hT => h.np g hg (ht g (ownsRow_at h.op hg).2.1 hT)⟩
theorem OV.move {w w' : World} {B : Nat} {S T : Nat → Prop} {vv : Value} {vs : List Value} {m : Nat} {fr vb : Nat → Nat} {V : Nat → Nat → Int} {pp : Value} {pl : List Int} (h : OV w B S vv vs m fr vb V pp pl) (hk : Kept S w w') (ht : ∀ g, g < w.heap.size → T g → S g) : OV w' B T vv vs m fr vb V pp pl :=
  ⟨(h.kept hk).ov, (h.apart ht).nv, h.vl, h.vi, (h.kept hk).oa, (h.apart ht).na, h.nb, (h.kept hk).op, (h.apart ht).np⟩
theorem OV.start (w : World) (B : Nat) (S : Nat → Prop) (fr vb : Nat → Nat) (V : Nat → Nat → Int) : OV w B S (.slice none 0 0) [] 0 fr vb V (.slice none 0 0) [] :=
  ⟨OWS.nil _ _, fun g hg => (by cases hg), rfl, fun i hi => (by omega), fun i hi => (by omega), fun i hi => (by omega), fun i hi => (by omega), OWI.nil _ _, fun g hg => (by cases hg)⟩
theorem own_ne {w : World} {B C : Nat} {vv pp : Value} {vs : List Value} {pl : List Int} (h : OWS w B vv vs) (k : OWI w C pp pl) {g : Nat} (h1 : vv.ownBlock = some g) (h2 : pp.ownBlock = some g) : False := by
  obtain ⟨_, _, cur, e⟩ := ownsRow_at h h1
  obtain ⟨_, _, cur', e'⟩ := ownsRow_at k h2
  rw [e] at e'
  simp at e'
/-- One solution more. -/
theorem OV.addV {w w' : World} {B : Nat} {S : Nat → Prop} {vv vv' : Value} {vs : List Value} {m : Nat} {fr vb : Nat → Nat} {V : Nat → Nat → Int} {pp : Value} {pl : List Int} (h : OV w B S vv vs m fr vb V pp pl) {b c : Nat} {y : Nat → Int}
    (hO : OA w B b (c + 1) y) (hS : ¬ S b) (hnb : vv.ownBlock ≠ some b ∧ pp.ownBlock ≠ some b) (hSz : ∀ g, S g → g < w.heap.size) (ha : OWS w' B vv' (vs ++ [.slice (some ⟨b, 0, none⟩) (c + 1 : Nat) (c + 1 : Nat)])) (hk : Kept (fun g => vv.ownBlock = some g) w w')
    (hg : ∀ g, vv'.ownBlock = some g → vv.ownBlock = some g ∨ w.heap.size ≤ g) :
    OV w' B S vv' (vs ++ [.slice (some ⟨b, 0, none⟩) (c + 1 : Nat) (c + 1 : Nat)]) (m + 1) (fun i => if i = m then c else fr i) (fun i => if i = m then b else vb i) (fun i j => if i = m then y j else V i j) pp pl := by
  refine ⟨ha, fun g hg' hs => ?_, by simp [h.vl], fun i hi => ?_, fun i hi => ?_, fun i hi => ?_, fun i hi => ?_, ownsRow_kept h.op hk (fun g h1 h2 => own_ne h.ov h.op h2 h1), h.np⟩
  · rcases hg g hg' with h1 | h1
    · exact h.nv g h1 hs
    · have := hSz g hs; omega
  · by_cases him : i = m
    · simp only [him, if_true]
      rw [List.getElem?_append_right (by rw [h.vl]; exact Nat.le_refl _), h.vl, Nat.sub_self]; rfl
    · simp only [if_neg him]
      rw [List.getElem?_append_left (by rw [h.vl]; omega)]
      exact h.vi i (by omega)
  · by_cases him : i = m
    · simp only [him, if_true]
      exact hO.kept hk hnb.1
    · simp only [if_neg him]
      exact (h.oa i (by omega)).kept hk (h.nb i (by omega)).1
  · by_cases him : i = m
    · simp only [him, if_true]; exact hS
    · simp only [if_neg him]; exact h.na i (by omega)
  · by_cases him : i = m
    · simp only [him, if_true]
      refine ⟨fun e => ?_, hnb.2⟩
      rcases hg b e with h1 | h1
      · exact hnb.1 h1
      · have := hO.lt; omega
    · simp only [if_neg him]
      refine ⟨fun e => ?_, (h.nb i (by omega)).2⟩
      rcases hg _ e with h1 | h1
      · exact (h.nb i (by omega)).1 h1
      · have := (h.oa i (by omega)).lt; omega
/-- One pivot more. -/
theorem OV.addP {w w' : World} {B : Nat} {S : Nat → Prop} {vv pp' : Value} {vs : List Value} {m : Nat} {fr vb : Nat → Nat} {V : Nat → Nat → Int} {pp : Value} {pl : List Int} (h : OV w B S vv vs m fr vb V pp pl) {c : Int}
    (hSz : ∀ g, S g → g < w.heap.size) (ha : OWI w' B pp' (pl ++ [c])) (hk : Kept (fun g => pp.ownBlock = some g) w w')
    (hg : ∀ g, pp'.ownBlock = some g → pp.ownBlock = some g ∨ w.heap.size ≤ g) : OV w' B S vv vs m fr vb V pp' (pl ++ [c]) := by
  refine ⟨ownsRow_kept h.ov hk (fun g h1 h2 => own_ne h.ov h.op h1 h2), h.nv, h.vl, h.vi, fun i hi => (h.oa i hi).kept hk (h.nb i hi).2, h.na, fun i hi => ⟨(h.nb i hi).1, fun e => ?_⟩, ha, fun g hg' hs => ?_⟩
  · rcases hg _ e with h1 | h1
    · exact (h.nb i hi).2 h1
    · have := (h.oa i hi).lt; omega
  · rcases hg g hg' with h1 | h1
    · exact h.np g h1 hs
    · have := hSz g hs; omega
end Go.Proofs.YtffdemplaodbcaaDoor
