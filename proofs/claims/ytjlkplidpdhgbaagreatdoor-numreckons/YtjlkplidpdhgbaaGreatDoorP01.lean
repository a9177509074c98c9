/- A part of the proof: Laws, Row, Base. -/
import Derived.WalkKit
import Derived.Laws.IdiomCopy
import Derived.Laws.MakeOwn
import Derived.Test.YtjlkplidpdhgbaaGreatDoorP00
import Derived.Deep.AppendLies
import Derived.Test.YtjlkplidpdhgbaaGreatDoorProg
import Derived.Lib.Mul64
set_option linter.all false

namespace Go.Rad
open Go Go.RowKit

/-- A slice that begins at a place, where it has an element at all. -/
def Sl (ao : Option Addr) (b o n : Nat) : Prop := 0 < n → ao = some ⟨b, o, none⟩
theorem Sl.mk (b o n : Nat) : Sl (some ⟨b, o, none⟩) b o n := fun _ => rfl

/-- A new row of n zeros. -/
structure Made (k : IntKind) (β : Nat) (w w' : World) (n : Nat) : Prop where
  below : Below w.heap.size w w'
  lt : w.heap.size < w'.heap.size
  arr : Arr k β w' w.heap.size 0 n
  free : Free w' w.heap.size 0 n
  zero : ∀ i, i < n → word w' w.heap.size i = 0

theorem below_self {B : Nat} {w w' : World} (h : Below B w w') : Below B w w' := h

theorem made_alloc {k : IntKind} {β : Nat} (hβ : 0 < β) (w : World) (c : Array Value) (e : TypeId) (n : Nat) (hs : c.size = n) (hc : ∀ i (h : i < c.size), c[i] = .int k 0) :
    Made k β w (w.alloc (.cells c e)) n := by
  have hcell : ∀ i, i < n → (w.alloc (.cells c e)).cell? ⟨w.heap.size, i, none⟩ = some (.int k 0) := fun i hi => by
    rw [World.cell?_alloc_at (w := w) c e w.heap.size i rfl]
    have : i < c.size := by omega
    rw [Array.getElem?_eq_getElem this, hc i this]
  have hw : ∀ i, i < n → word (w.alloc (.cells c e)) w.heap.size i = 0 := fun i hi => word_eq (k := k) (x := 0) (by simpa using hcell i hi)
  refine ⟨(Below.refl _ _).alloc (Nat.le_refl _) _, by simp, fun i hi => ?_, fun i hi => ?_, hw⟩
  · rw [Nat.zero_add, hw i hi]
    exact ⟨by simpa using hcell i hi, hβ⟩
  · rw [Nat.zero_add]
    exact World.frozen?_alloc_at (w := w) c e w.heap.size i rfl

theorem wpList_makeRow {P : Program} {w : World} {ops : Array Oper} {rest : List Oper} {o : Oper} {a : Act} {Q : Exit → Act → World → Prop} (k : IntKind) (β : Nat) (hβ : 0 < β)
    (hg : o.guard = none) (l c : Operand) (t : TypeId) (hop : o.op = Op.makeSlice t l c) (e : TypeId) (i : TypeInfo) (h1 : P.underlying t = some (.slice e)) (h2 : P.info? e = some i)
    (h3 : i.zero = some (.int k 0)) (h4 : i.size = 1) (kl kc : IntKind) (L C : Int) (n : Nat) (hl : a.eval l = .int kl L) (hc : a.eval c = .int kc C) (hL : L = (n : Int)) (hC : C = (n : Int))
    (b2 : i.bytes * n ≤ 281474976710656) (b3 : n ≤ maxLen)
    (hK : ∀ w', Made k β w w' n → wpList P ops Q rest (a.put o.dst (.slice (some ⟨w.heap.size, 0, none⟩) n n)) w') :
    wpList P ops Q (o :: rest) a w := by
  refine wpList_plain hg fun K hK' => ?_
  subst hL
  subst hC
  have hrun := run_make (P := P) w t e i (.int k 0) h1 h2 h3 kl kc n n (by omega) (by omega) (by rw [← Int.natCast_mul]; exact Int.ofNat_le.2 b2) (by have := b3; unfold maxLen at this; omega)
  clear b2 b3
  unfold Oper.wp
  simp [execOp, hop, hl, hc, hrun, Result.andThen]
  refine hK' _ _ (hK _ (made_alloc hβ w _ e n (by simp [madeCells, h4]) fun j hj => ?_))
  simp [madeCells, Value.cells, Nat.mod_one]

/-- What a copy leaves: m cells from place o of block b on hold what stood from place p of block c on. -/
structure Copied (k : IntKind) (β : Nat) (w w' : World) (b o m c p : Nat) : Prop where
  chg : Chg w w' b o (o + m)
  arr : Arr k β w' b o m
  same : ∀ i, i < m → word w' b (o + i) = word w c (p + i)

theorem cells_list {k : IntKind} {β : Nat} {w : World} {b o n : Nat} (h : Arr k β w b o n) {m : Nat} (hm : m ≤ n) :
    ∀ j v, ((List.range m).map fun i => Value.int k ((word w b (o + i) : Nat) : Int))[j]? = some v → w.cell? ((⟨b, o, none⟩ : Addr).add j) = some v := by
  intro j v hj
  have hjm : j < m := by
    have := (List.getElem?_eq_some_iff.1 hj).1
    simpa using this
  simp only [List.getElem?_map, List.getElem?_range hjm, Option.map_some, Option.some.injEq] at hj
  subst hj
  have e : (⟨b, o, none⟩ : Addr).add j = ⟨b, o + j, none⟩ := by unfold Addr.add; split <;> simp_all
  rw [e]
  exact arr_cell h (by omega)

theorem setCells_chg (b : Nat) : ∀ (vs : List Value) (o : Nat) (w : World), Chg w (w.setCells b o vs) b o (o + vs.length)
  | [], o, w => Chg.refl _ _ _ _
  | v :: r, o, w => by
    have h1 := (Chg.refl w b o (o + (r.length + 1))).set (i := o) (by omega) (by omega) v
    have h2 := (setCells_chg b r (o + 1) (w.setCell ⟨b, o, none⟩ v)).mono (lo' := o) (hi' := o + (r.length + 1)) (by omega) (by omega)
    exact h1.trans h2

theorem wpList_copyRow {P : Program} {w : World} {ops : Array Oper} {rest : List Oper} {o : Oper} {a : Act} {Q : Exit → Act → World → Prop} (k : IntKind) (β : Nat)
    (hgd : o.guard = none) (d s : Operand) (dT sT : TypeId) (ho : o.op = .call { callee := .builtin .copy, args := #[d, s], argTypes := #[dT, sT] })
    (elem : TypeId) (hu : P.underlying dT = some (.slice elem)) (hsz : (P.info? elem).map (·.size) = some 1)
    (dp sp : Option Addr) (nd cd ns cs : Nat) (hd : a.eval d = .slice dp nd cd) (hs : a.eval s = .slice sp ns cs) (bd od bs os : Nat)
    (hdp : Sl dp bd od nd) (hsp : Sl sp bs os ns) (had : Arr k β w bd od nd) (hfd : Free w bd od nd) (has : Arr k β w bs os ns)
    (h : ∀ w', Copied k β w w' bd od (min ns nd) bs os → wpList P ops Q rest (a.put o.dst (.int .i64 (min ns nd : Nat))) w') :
    wpList P ops Q (o :: rest) a w := by
  refine wpList_plain hgd fun K hK => ?_
  have hmin : Nat.min ns nd = min ns nd := rfl
  by_cases hn : min ns nd = 0
  · have hrun := run_copy_none (P := P) w dT sT o.type elem dp sp nd cd ns cs hu hsz hn
    unfold Oper.wp
    simp [execOp, ho, resolve, invoke, builtin, hd, hs, hrun, Result.andThen]
    refine hK _ _ ?_
    have := h w ⟨Chg.refl _ _ _ _, by rw [hn]; intro i hi; omega, by rw [hn]; intro i hi; omega⟩
    rw [hn] at this
    exact this
  · obtain rfl := hdp (by omega)
    obtain rfl := hsp (by omega)
    have hrun := run_copy_cells (P := P) w dT sT o.type elem bd od nd cd ⟨bs, os, none⟩ ns cs ((List.range (min ns nd)).map fun i => Value.int k ((word w bs (os + i) : Nat) : Int)) hu hsz
      (by simp [hmin]) (cells_list has (by omega)) (fun j hj => by rw [arr_cell had (by simp at hj; omega)]; rfl) (fun j hj => hfd j (by simp at hj; omega))
      (fun v hv => by obtain ⟨_, _, rfl⟩ := List.mem_map.1 hv; rfl)
    simp only [List.length_map, List.length_range] at hrun
    have hcell : ∀ i, i < min ns nd → (w.setCells bd od ((List.range (min ns nd)).map fun i => Value.int k ((word w bs (os + i) : Nat) : Int))).cell? ⟨bd, od + i, none⟩ = some (.int k ((word w bs (os + i) : Nat) : Int)) := by
      intro i hi
      rw [World.cell?_setCells_in bd _ od w (fun j hj => by rw [arr_cell had (by simp at hj; omega)]; rfl) i (by simpa using hi)]
      simp
    have hword : ∀ i, i < min ns nd → word (w.setCells bd od ((List.range (min ns nd)).map fun i => Value.int k ((word w bs (os + i) : Nat) : Int))) bd (od + i) = word w bs (os + i) :=
      fun i hi => word_eq (hcell i hi)
    unfold Oper.wp
    simp [execOp, ho, resolve, invoke, builtin, hd, hs, hrun, Result.andThen]
    refine hK _ _ (h _ ⟨?_, fun i hi => ?_, hword⟩)
    · have := setCells_chg bd ((List.range (min ns nd)).map fun i => Value.int k ((word w bs (os + i) : Nat) : Int)) od w
      simpa using this
    · rw [hword i hi]
      exact ⟨hcell i hi, arr_lt has (by omega)⟩

/-- clear, of a row of numbers. -/
structure Cleared (k : IntKind) (β : Nat) (w w' : World) (b o n : Nat) : Prop where
  chg : Chg w w' b o (o + n)
  arr : Arr k β w' b o n
  zero : ∀ i, i < n → word w' b (o + i) = 0

theorem wpList_clearRow {P : Program} {w : World} {ops : Array Oper} {rest : List Oper} {o : Oper} {a : Act} {Q : Exit → Act → World → Prop} (k : IntKind) (β : Nat) (hβ : 0 < β)
    (hgd : o.guard = none) (s : Operand) (t : TypeId) (ho : o.op = .call { callee := .builtin .clear, args := #[s], argTypes := #[t] })
    (e : TypeId) (i : TypeInfo) (hu : P.underlying t = some (.slice e)) (h2 : P.info? e = some i) (h3 : i.zero = some (.int k 0))
    (ap : Option Addr) (n c : Nat) (hs : a.eval s = .slice ap n c) (b off : Nat) (hsl : Sl ap b off n) (ha : Arr k β w b off n) (hf : Free w b off n)
    (h : ∀ w', Cleared k β w w' b off n → wpList P ops Q rest (a.put o.dst (.tuple #[])) w') :
    wpList P ops Q (o :: rest) a w := by
  refine wpList_plain hgd fun K hK => ?_
  by_cases hn : n = 0
  · subst hn
    have hrun : (Builtin.clear_ #[t] o.type #[.slice ap 0 c]).run P w = .ok (.tuple #[]) w := by
      cases ap <;> simp [Builtin.clear_, run_underlying hu]
    unfold Oper.wp
    simp [execOp, ho, resolve, invoke, builtin, hs, hrun, Result.andThen]
    exact hK _ _ (h w ⟨Chg.refl _ _ _ _, fun i hi => by omega, fun i hi => by omega⟩)
  · obtain rfl := hsl (by omega)
    have hlist : (Builtin.zeroCells (Value.int k 0).cells n).toList = (List.range n).map fun _ => Value.int k 0 := by
      simp [Builtin.zeroCells, Value.cells, Nat.mod_one, Array.toList_map, Array.toList_range]
    have hst := run_storeCells_cells (P := P) b off ((List.range n).map fun _ => Value.int k 0) 0 w
      (fun j hj => by rw [Nat.add_zero, arr_cell ha (by simpa using hj)]; rfl) (fun j hj => by rw [Nat.add_zero]; exact hf j (by simpa using hj)) (fun v hv => by obtain ⟨_, _, rfl⟩ := List.mem_map.1 hv; rfl)
    rw [Nat.add_zero] at hst
    have hz : (zeroValue e).run P w = .ok (.int k 0) w := by simp [zeroValue, typeInfo, h2, h3]
    have hrun : (Builtin.clear_ #[t] o.type #[.slice (some ⟨b, off, none⟩) n c]).run P w = .ok (.tuple #[]) (w.setCells b off ((List.range n).map fun _ => Value.int k 0)) := by
      obtain ⟨m, rfl⟩ : ∃ m, n = m + 1 := ⟨n - 1, by omega⟩
      simp [Builtin.clear_, run_underlying hu, hz, hlist, hst]
    have hcell : ∀ i, i < n → (w.setCells b off ((List.range n).map fun _ => Value.int k 0)).cell? ⟨b, off + i, none⟩ = some (.int k 0) := by
      intro i hi
      rw [World.cell?_setCells_in b _ off w (fun j hj => by rw [arr_cell ha (by simpa using hj)]; rfl) i (by simpa using hi)]
      simp
    have hw : ∀ i, i < n → word (w.setCells b off ((List.range n).map fun _ => Value.int k 0)) b (off + i) = 0 := fun i hi => word_eq (k := k) (x := 0) (by simpa using hcell i hi)
    unfold Oper.wp
    simp [execOp, ho, resolve, invoke, builtin, hs, hrun, Result.andThen]
    refine hK _ _ (h _ ⟨?_, fun i hi => by rw [hw i hi]; exact ⟨by simpa using hcell i hi, hβ⟩, hw⟩)
    have := setCells_chg b ((List.range n).map fun _ => Value.int k 0) off w
    simpa using this
end Go.Rad

/- Rows of numbers that a call makes by append: lists of numbers. No program. -/
namespace Go.Rad
open Go Go.RowKit

/-- The number that places make, the lowest first. -/
def lv (β : Nat) : List Nat → Nat
  | [] => 0
  | x :: r => x + β * lv β r
theorem lv_append (β : Nat) (xs ys : List Nat) : lv β (xs ++ ys) = lv β xs + β ^ xs.length * lv β ys := by
  induction xs with
  | nil => simp [lv]
  | cons x r ih => simp only [List.cons_append, lv, ih, List.length_cons, Nat.pow_succ, Nat.mul_add]; rw [Nat.mul_comm (β ^ r.length) β, Nat.mul_assoc]; omega
theorem lv_snoc (β : Nat) (xs : List Nat) (x : Nat) : lv β (xs ++ [x]) = lv β xs + β ^ xs.length * x := by rw [lv_append]; simp [lv]
theorem lv_lt {β : Nat} (hβ : 0 < β) : ∀ {xs : List Nat}, (∀ x ∈ xs, x < β) → lv β xs < β ^ xs.length
  | [], _ => by simp [lv]
  | x :: r, h => by
    have h1 := lv_lt hβ (xs := r) (fun y hy => h y (List.mem_cons_of_mem _ hy))
    have h2 := h x List.mem_cons_self
    have h3 := Nat.mul_le_mul_left β h1
    simp only [lv, List.length_cons, Nat.pow_succ]
    rw [Nat.mul_comm (β ^ r.length) β]
    rw [Nat.mul_succ] at h3
    omega

/-- A row of the call's own that holds these numbers (v nil where there are none; or a slice of its own). -/
def RowN (k : IntKind) (e : TypeId) (w : World) (base : Nat) (v : Value) (xs : List Nat) : Prop :=
  w.ownsRow base e 1 v xs.length (xs.map fun (x : Nat) => Value.int k (x : Int))
theorem RowN.hid {k : IntKind} {e : TypeId} {w : World} {base : Nat} {v : Value} {xs : List Nat} (h : RowN k e w base v xs) : Hid (RowN k e w base v xs) := h
theorem RowN.nil (k : IntKind) (e : TypeId) (w : World) (base : Nat) : RowN k e w base (.slice none 0 0) [] := World.ownsRow_nil _ _ _ _
theorem RowN.form {k : IntKind} {e : TypeId} {w : World} {base : Nat} {v : Value} {xs : List Nat} (h : RowN k e w base v xs) :
    ∃ ao c, v = .slice ao xs.length c ∧ xs.length ≤ c ∧ c ≤ maxLen ∧ ((ao = none ∧ xs.length = 0 ∧ c = 0) ∨ ∃ b, ao = some ⟨b, 0, none⟩ ∧ base ≤ b ∧ b < w.heap.size) := by
  rcases h.2 with ⟨hv, h0⟩ | ⟨g, cap, cur, hv, hb, hg, hc, hm, _⟩
  · exact ⟨none, 0, by rw [hv, h0], by omega, by unfold maxLen; omega, .inl ⟨rfl, h0, rfl⟩⟩
  · exact ⟨_, cap, hv, hc, hm, .inr ⟨g, rfl, hb, (Array.getElem?_eq_some_iff.1 hg).1⟩⟩
theorem RowN.cell {k : IntKind} {e : TypeId} {w : World} {base b n c : Nat} {xs : List Nat} (h : RowN k e w base (.slice (some ⟨b, 0, none⟩) n c) xs) {i : Nat} (hi : i < xs.length) :
    w.cell? ⟨b, i, none⟩ = some (.int k ((xs[i] : Nat) : Int)) := by
  obtain ⟨_, _, he, _⟩ := h.form
  obtain ⟨_, rfl, _⟩ := Value.slice.inj he
  rw [World.ownsRow.cellAt h i (by omega)]
  simp [hi]
theorem RowN.free {k : IntKind} {e : TypeId} {w : World} {base b n c : Nat} {xs : List Nat} (h : RowN k e w base (.slice (some ⟨b, 0, none⟩) n c) xs) (i : Nat) : w.frozen? ⟨b, i, none⟩ = false := by
  obtain ⟨_, _, he, _⟩ := h.form
  obtain ⟨_, rfl, _⟩ := Value.slice.inj he
  exact World.ownsRow.frozenAt h i
/-- Nothing below a number that lies above the row is turned: the row stays. -/
theorem RowN.keep {k : IntKind} {e : TypeId} {w w' : World} {base B : Nat} {v : Value} {xs : List Nat} (h : RowN k e w base v xs) (hb : Below B w w') (hB : ∀ b, v.ownBlock = some b → b < B) : RowN k e w' base v xs := by
  refine ⟨h.1, ?_⟩
  rcases h.2 with h0 | ⟨g, cap, cur, hv, hg0, hg, rest⟩
  · exact .inl h0
  · exact .inr ⟨g, cap, cur, hv, hg0, (hb.block g (hB g (by rw [hv]; rfl))).trans hg, rest⟩
theorem RowN.own_lt {k : IntKind} {e : TypeId} {w : World} {base : Nat} {v : Value} {xs : List Nat} (h : RowN k e w base v xs) : ∀ b, v.ownBlock = some b → base ≤ b ∧ b < w.heap.size := World.ownsRow.lt h
theorem RowN.below {k : IntKind} {e : TypeId} {w w' : World} {base : Nat} {v : Value} {xs : List Nat} (h : RowN k e w base v xs) (hb : Below w.heap.size w w') : RowN k e w' base v xs :=
  h.keep hb fun b hv => (h.own_lt b hv).2
theorem RowN.mono {k : IntKind} {e : TypeId} {w : World} {base base' : Nat} {v : Value} {xs : List Nat} (h : RowN k e w base v xs) (hb : base' ≤ base) : RowN k e w base' v xs := by
  refine ⟨h.1, ?_⟩
  rcases h.2 with h0 | ⟨g, cap, cur, hv, hg0, hg, rest⟩
  · exact .inl h0
  · exact .inr ⟨g, cap, cur, hv, by omega, hg, rest⟩
/-- One number written. -/
theorem RowN.set {k : IntKind} {e : TypeId} {w : World} {base b n c : Nat} {xs : List Nat} (h : RowN k e w base (.slice (some ⟨b, 0, none⟩) n c) xs) (i x : Nat) :
    RowN k e (w.setCell ⟨b, i, none⟩ (.int k (x : Int))) base (.slice (some ⟨b, 0, none⟩) n c) (xs.set i x) := by
  obtain ⟨_, _, he, _⟩ := h.form
  obtain ⟨_, rfl, _⟩ := Value.slice.inj he
  have h1 := (World.ownsRow.stored h i (.int k (x : Int))).1
  unfold RowN
  rw [List.length_set, List.map_set]
  exact h1
/-- As a row that is read. -/
theorem RowN.arr {k : IntKind} {e : TypeId} {w : World} {base β : Nat} {v : Value} {xs : List Nat} (h : RowN k e w base v xs) (hx : ∀ x ∈ xs, x < β) :
    ∃ ao b c, v = .slice ao xs.length c ∧ Sl ao b 0 xs.length ∧ xs.length ≤ c ∧ c ≤ maxLen ∧ Arr k β w b 0 xs.length ∧ num β w b 0 xs.length = lv β xs ∧ Free w b 0 xs.length ∧ (0 < xs.length → base ≤ b) ∧ (∀ i (hi : i < xs.length), word w b i = xs[i]) := by
  obtain ⟨ao, c, hv, hc, hm, ha⟩ := h.form
  rcases ha with ⟨rfl, h0, rfl⟩ | ⟨b, rfl, hb, hlt⟩
  · have : xs = [] := List.eq_nil_of_length_eq_zero h0
    subst this
    exact ⟨none, 0, 0, hv, fun h => by simp at h, Nat.le_refl _, hm, fun i hi => by simp at hi, rfl, fun i hi => by simp at hi, fun h => by simp at h, fun i hi => by simp at hi⟩
  · subst hv
    have hw : ∀ i (hi : i < xs.length), word w b i = xs[i] := fun i hi => word_eq (h.cell hi)
    have hA : Arr k β w b 0 xs.length := fun i hi => by
      rw [Nat.zero_add, hw i hi]; exact ⟨h.cell hi, hx _ (List.getElem_mem hi)⟩
    refine ⟨_, b, c, rfl, Sl.mk _ _ _, hc, hm, hA, ?_, fun i _ => h.free _, fun _ => hb, hw⟩
    have key : ∀ n, n ≤ xs.length → num β w b 0 n = lv β (xs.take n) := by
      intro n
      induction n with
      | zero => intro _; rfl
      | succ n ih =>
        intro hn
        rw [num_succ, ih (by omega), List.take_succ_eq_append_getElem (by omega), lv_snoc, List.length_take, Nat.min_eq_left (by omega), Nat.zero_add, hw n (by omega)]
    rw [key _ (Nat.le_refl _), List.take_length]

/-- append of one number. -/
theorem wpList_appendN {P : Program} {w : World} {ops : Array Oper} {rest : List Oper} {o : Oper} {a : Act} {Q : Exit → Act → World → Prop} (k : IntKind) (e : TypeId) (hgd : o.guard = none) (s x : Operand) (t : TypeId)
    (ho : o.op = .call { callee := .builtin .append, args := #[s, x], argTypes := #[t, t] })
    (ht : P.underlying t = some (.slice e)) (bytes : Nat) (hi : (P.info? e).map (fun i => (i.zero, i.size, i.bytes)) = some (some (.int k 0), 1, bytes)) (hb1 : bytes ≤ 8)
    (base : Nat) (v : Value) (xs : List Nat) (hs : a.eval s = v) (hown : RowN k e w base v xs) (g7 m7 y : Nat) (hx : a.eval x = .slice (some ⟨g7, 0, none⟩) 1 m7) (hc : w.cell? ⟨g7, 0, none⟩ = some (.int k (y : Int)))
    (hlen : xs.length ≤ 1099511627776) (hbase : base ≤ w.heap.size)
    (h : ∀ v' w', RowN k e w' base v' (xs ++ [y]) → Below base w w' → (∀ b, v'.ownBlock = some b → v.ownBlock = some b ∨ b = w.heap.size) → w.grownBy w' v.ownBlock → wpList P ops Q rest (a.put o.dst v') w') : wpList P ops Q (o :: rest) a w := by
  obtain ⟨i, hi0, hi1⟩ := Option.map_eq_some_iff.1 hi
  simp only [Prod.mk.injEq] at hi1
  obtain ⟨z0, z1, z2⟩ := hi1
  have hown' : w.ownsRow base e 1 v xs.length (xs.map fun (x : Nat) => Value.int k (x : Int)) := hown
  refine wpList_append_lies w hgd s x t ho base e i (.int k 0) 1 bytes ht hi0 z0 z1 z2 rfl (by omega) v xs.length _ hs hown' ⟨g7, 0, none⟩ 1 m7 [.int k (y : Int)] hx rfl ?_ ?_ (by omega) (by unfold maxLen; omega) ?_ hbase w.heap.size rfl ?_
  · intro j u hj
    match j, hj with
    | 0, hj =>
      have hju : Value.int k (y : Int) = u := Option.some.inj hj
      rw [← hju]; exact hc
  · intro u hu; simp at hu; subst hu; rfl
  · calc (xs.length + 1) * bytes ≤ (xs.length + 1) * 8 := Nat.mul_le_mul_left _ hb1
      _ ≤ 140737488355328 := by omega
  · intro g cap w' hrow hgr hor hlt
    refine h _ w' (by unfold RowN; rw [List.length_append, List.map_append]; exact hrow) ?_ (fun b hb => ?_) hgr
    · exact (Below.refl _ _).grown hgr hbase fun b hb => (hown.own_lt b hb).1
    · have : g = b := Option.some.inj hb
      subst this; exact hor

/-- make([]T, 0, c). -/
theorem wpList_makeCapN {P : Program} {w : World} {ops : Array Oper} {rest : List Oper} {o : Oper} {a : Act} {Q : Exit → Act → World → Prop} (k : IntKind) (e : TypeId)
    (hg : o.guard = none) (l c : Operand) (t : TypeId) (hop : o.op = Op.makeSlice t l c) (ht : P.underlying t = some (.slice e)) (bytes : Nat)
    (hi : (P.info? e).map (fun i => (i.zero, i.size, i.bytes)) = some (some (.int k 0), 1, bytes)) (hb1 : bytes ≤ 8) (kl kc : IntKind) (C : Int) (n : Nat) (hl : a.eval l = .int kl 0) (hc : a.eval c = .int kc C) (hC : C = (n : Int)) (hn : n ≤ 1099511627776) (base : Nat) (hbase : base ≤ w.heap.size)
    (hK : ∀ w', RowN k e w' base (.slice (some ⟨w.heap.size, 0, none⟩) 0 n) [] → Below w.heap.size w w' → wpList P ops Q rest (a.put o.dst (.slice (some ⟨w.heap.size, 0, none⟩) 0 n)) w') :
    wpList P ops Q (o :: rest) a w := by
  obtain ⟨i, hi0, hi1⟩ := Option.map_eq_some_iff.1 hi
  simp only [Prod.mk.injEq] at hi1
  obtain ⟨z0, z1, z2⟩ := hi1
  subst hC
  refine wpList_plain hg fun K hK' => ?_
  have hbn : i.bytes * n ≤ 8 * n := Nat.mul_le_mul_right _ (by omega)
  have hrun := run_make (P := P) w t e i (.int k 0) ht hi0 z0 kl kc 0 n (by omega) (by omega) (by rw [← Int.natCast_mul]; exact (show ((i.bytes * n : Nat) : Int) ≤ 281474976710656 by omega)) (by omega)
  unfold Oper.wp
  simp [execOp, hop, hl, hc, hrun, Result.andThen]
  refine hK' _ _ (hK _ ?_ ((Below.refl _ _).alloc (Nat.le_refl _) _))
  exact World.ownsRow_made w _ n hbase (by unfold maxLen; omega) (by simp [madeCells, z1])
end Go.Rad

namespace Go.Proofs.YtjlkplidpdhgbaaGreatDoor
open Go Go.Proofs Go.RowKit Go.Rad

def B : Nat := 18446744073709551616
def lo (n : Nat) : Nat := n % 18446744073709551616
def hi (n : Nat) : Nat := n / 18446744073709551616
/-- What is left of x less y less c, and what had to be borrowed. -/
def sb (x y c : Nat) : Nat := (x + 18446744073709551616 - y - c) % 18446744073709551616
def bw (x y c : Nat) : Nat := if x < y + c then 1 else 0
theorem B_pos : 0 < B := by decide
theorem lo_lt (n : Nat) : lo n < B := Nat.mod_lt _ (by decide)
theorem lo_hi (n : Nat) : lo n + B * hi n = n := Nat.mod_add_div n _
theorem sb_lt (x y c : Nat) : sb x y c < B := Nat.mod_lt _ (by decide)
theorem bw_le (x y c : Nat) : bw x y c ≤ 1 := by unfold bw; split <;> omega
theorem sb_bw {x y c : Nat} (hx : x < B) (hy : y < B) (hc : c ≤ 1) : sb x y c + y + c = x + B * bw x y c := by
  unfold sb bw B at *
  split <;> omega
theorem hi_le_one {x y c : Nat} (hx : x < B) (hy : y < B) (hc : c ≤ 1) : hi (x + y + c) ≤ 1 := by unfold hi B at *; omega
theorem hi_lt {n : Nat} (h : n < B * B) : hi n < B := by
  unfold hi
  exact Nat.div_lt_of_lt_mul h

theorem add64 (x y c : Nat) (w : World) (hc : c ≤ 1) :
    (callFunc 131 #[.int .u64 x, .int .u64 y, .int .u64 c]).run Tryz.prog w = .ok (.value (.tuple #[.int .u64 (lo (x + y + c) : Nat), .int .u64 (hi (x + y + c) : Nat)])) w := by
  rw [run_callFunc_extern Tryz.func131 (by kernel_rfl) (by kernel_rfl) (by kernel_rfl) (e := add64Entry) (by kernel_rfl), run_add64 x y c (by omega) (by omega) (by omega) (by omega)]
  simp only [Result.andThen, lo, hi]
  congr 5 <;> omega
theorem add64_c (x y : Nat) (w : World) :
    (callFunc 131 #[.int .u64 x, .int .u64 y, .int .u64 0]).run Tryz.prog w = .ok (.value (.tuple #[.int .u64 (lo (x + y) : Nat), .int .u64 (hi (x + y) : Nat)])) w := by
  simpa using add64 x y 0 w (by omega)
theorem add64_y (x c : Nat) (w : World) (hc : c ≤ 1) :
    (callFunc 131 #[.int .u64 x, .int .u64 0, .int .u64 c]).run Tryz.prog w = .ok (.value (.tuple #[.int .u64 (lo (x + c) : Nat), .int .u64 (hi (x + c) : Nat)])) w := by
  simpa using add64 x 0 c w hc

def sub64E : Array Value → Sem Value := fun args => do
  let (x, y, b) ← Extern.MathBitsCarry.three "Sub64" args
  pure (Extern.MathBitsCarry.pair ((x + Extern.MathBitsCarry.m64 - y - b) % Extern.MathBitsCarry.m64) (if x < y + b then 1 else 0))
theorem run_sub64E (x y b : Nat) (hb : b ≤ 1) (w : World) :
    (sub64E #[.int .u64 x, .int .u64 y, .int .u64 b]).run Tryz.prog w = .ok (.tuple #[.int .u64 (sb x y b : Nat), .int .u64 (bw x y b : Nat)]) w := by
  have : b = 0 ∨ b = 1 := by omega
  rcases this with rfl | rfl <;> rfl
theorem sub64 (x y b : Nat) (w : World) (hb : b ≤ 1) :
    (callFunc 170 #[.int .u64 x, .int .u64 y, .int .u64 b]).run Tryz.prog w = .ok (.value (.tuple #[.int .u64 (sb x y b : Nat), .int .u64 (bw x y b : Nat)])) w := by
  rw [run_callFunc_extern Tryz.func170 (by kernel_rfl) (by kernel_rfl) (by kernel_rfl) (e := sub64E) (by kernel_rfl), run_sub64E x y b hb]
  rfl
theorem sub64_c (x y : Nat) (w : World) :
    (callFunc 170 #[.int .u64 x, .int .u64 y, .int .u64 0]).run Tryz.prog w = .ok (.value (.tuple #[.int .u64 (sb x y 0 : Nat), .int .u64 (bw x y 0 : Nat)])) w := by
  simpa using sub64 x y 0 w (by omega)
theorem sub64_y (x c : Nat) (w : World) (hc : c ≤ 1) :
    (callFunc 170 #[.int .u64 x, .int .u64 0, .int .u64 c]).run Tryz.prog w = .ok (.value (.tuple #[.int .u64 (sb x 0 c : Nat), .int .u64 (bw x 0 c : Nat)])) w := by
  simpa using sub64 x 0 c w hc
theorem sub64_x (y c : Nat) (w : World) (hc : c ≤ 1) :
    (callFunc 170 #[.int .u64 0, .int .u64 y, .int .u64 c]).run Tryz.prog w = .ok (.value (.tuple #[.int .u64 (sb 0 y c : Nat), .int .u64 (bw 0 y c : Nat)])) w := by
  simpa using sub64 0 y c w hc

theorem maskN (a : Nat) (ha : a < 18446744073709551616) : bits .and .u64 (a : Int) 4294967295 = ((a % 4294967296 : Nat) : Int) := by
  have h := bits_and_u64_nat a 4294967295 ha (by omega)
  have e : a &&& 4294967295 = a % 4294967296 := Nat.and_two_pow_sub_one_eq_mod a 32
  rw [e] at h
  exact h
theorem divN (a : Nat) : (a : Int) / 4294967296 = ((a / 4294967296 : Nat) : Int) := by omega
theorem mulN (a b : Nat) : (a : Int) * (b : Int) = ((a * b : Nat) : Int) := (Int.natCast_mul a b).symm
theorem addN (a b : Nat) : (a : Int) + (b : Int) = ((a + b : Nat) : Int) := (Int.natCast_add a b).symm
theorem wrapN (a : Nat) (ha : a < 18446744073709551616) : IntKind.u64.wrap (a : Int) = (a : Int) := by rw [IntKind.wrap_u64]; omega
theorem wrapM (a : Nat) : IntKind.u64.wrap (a : Int) = ((a % 18446744073709551616 : Nat) : Int) := by rw [IntKind.wrap_u64]; omega

set_option maxHeartbeats 1000000 in
theorem mul64 (x y : Nat) (hx : x < B) (hy : y < B) (w : World) :
    Calls Tryz.prog 85 #[.int .u64 x, .int .u64 y] w fun e w' => e = .returned (.tuple #[.int .u64 (hi (x * y) : Nat), .int .u64 (lo (x * y) : Nat)]) ∧ w' = w := by
  unfold B at hx hy
  unfold hi lo
  obtain ⟨bd, bt, bw, hhi⟩ := Lib.mul64_hi x y hx hy
  have ba := Lib.half_mul_le (a := x / 4294967296) (b := y / 4294967296) (by omega) (by omega)
  have bb := Lib.half_mul_le (a := x / 4294967296) (b := y % 4294967296) (by omega) (by omega)
  have bc := Lib.half_mul_le (a := x % 4294967296) (b := y / 4294967296) (by omega) (by omega)
  have ba' : x / 4294967296 * (y / 4294967296) < 18446744073709551616 := by omega
  have bb' : x / 4294967296 * (y % 4294967296) < 18446744073709551616 := by omega
  have bc' : x % 4294967296 * (y / 4294967296) < 18446744073709551616 := by omega
  have bh1 : x / 4294967296 * (y / 4294967296) + (x / 4294967296 * (y % 4294967296) + x % 4294967296 * (y % 4294967296) / 4294967296) / 4294967296 < 18446744073709551616 := by omega
  have bh : x / 4294967296 * (y / 4294967296) + (x / 4294967296 * (y % 4294967296) + x % 4294967296 * (y % 4294967296) / 4294967296) / 4294967296 + ((x / 4294967296 * (y % 4294967296) + x % 4294967296 * (y % 4294967296) / 4294967296) % 4294967296 + x % 4294967296 * (y / 4294967296)) / 4294967296 < 18446744073709551616 := by omega
  go_enter Tryz.func85, Tryz.ntmps85
  go_wp2
  simp only [maskN x hx, maskN y hy, divN, mulN, addN, wrapN _ bd, wrapN _ bb', wrapN _ bt, maskN _ bt, wrapN _ bc', wrapN _ bw, wrapN _ ba', wrapN _ bh1, wrapN _ bh, wrapM (x * y)]
  rw [hhi]
  go_ret2
  exact ⟨rfl, rfl⟩

/-- The arithmetic of a b + c in two words. -/
theorem mulAdd_num {a b c : Nat} (ha : a < B) (hb : b < B) (hc : c < B) :
    lo (lo (a * b) + c) = lo (a * b + c) ∧ lo (hi (a * b) + hi (lo (a * b) + c)) = hi (a * b + c) ∧ hi (lo (a * b) + c) ≤ 1 ∧ hi (a * b + c) < B := by
  have h1 : a * b ≤ (B - 1) * (B - 1) := Nat.mul_le_mul (by omega) (by omega)
  have h2 : a * b + c < B * B := by
    have : (B - 1) * (B - 1) + B ≤ B * B := by decide
    omega
  have h3 := hi_lt h2
  unfold lo hi B at *
  generalize a * b = p at *
  refine ⟨by omega, by omega, by omega, h3⟩

theorem mulAdd_any (a b c : Nat) (ha : a < B) (hb : b < B) (hc : c < B) (w : World) :
    Calls Tryz.prog 104 #[.int .u64 a, .int .u64 b, .int .u64 c] w fun e w' => e = .returned (.tuple #[.int .u64 (lo (a * b + c) : Nat), .int .u64 (hi (a * b + c) : Nat)]) ∧ w' = w := by
  obtain ⟨h1, h2, h3, h4⟩ := mulAdd_num ha hb hc
  have e1 := add64_c
  have e2 := add64_y (hi (a * b)) _ w h3
  rw [← h1, ← h2]
  clear h1 h2 h4
  go_enter Tryz.func104, Tryz.ntmps104
  go_wp2_with (go_at_call 85; refine (mul64 a b ha hb _).mono ?_; rintro e w' ⟨rfl, hw⟩; subst hw)
  go_ret2
  exact ⟨rfl, rfl⟩
end Go.Proofs.YtjlkplidpdhgbaaGreatDoor
