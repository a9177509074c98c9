/- A part of the proof: Laws, W1, W2, Mag. -/
import Derived.WalkKit
import Derived.Laws.IdiomCopy
import Derived.Laws.MakeOwn
import Derived.Test.YtjlkplidpdhgbaaGreatDoorP00
import Derived.Deep.QuietTactic
import Derived.BigQuiet
set_option linter.all false

namespace Go.Rad
open Go Go.RowKit

/-- A slice that begins at a place, where it has an element at all. -/
def Sl (ao : Option Addr) (b o n : Nat) : Prop := 0 < n → ao = some ⟨b, o, none⟩
theorem Sl.mk (b o n : Nat) : Sl (some ⟨b, o, none⟩) b o n := fun _ => rfl

/-- A new row of n zeros. -/
structure Made (k : IntKind) (β : Nat) (w w' : World) (n : Nat) : Prop where
  below : Below w.heap.size w w'
  lt : w.heap.size < w'.heap.size
  arr : Arr k β w' w.heap.size 0 n
  free : Free w' w.heap.size 0 n
  zero : ∀ i, i < n → word w' w.heap.size i = 0

theorem below_self {B : Nat} {w w' : World} (h : Below B w w') : Below B w w' := h

theorem made_alloc {k : IntKind} {β : Nat} (hβ : 0 < β) (w : World) (c : Array Value) (e : TypeId) (n : Nat) (hs : c.size = n) (hc : ∀ i (h : i < c.size), c[i] = .int k 0) :
    Made k β w (w.alloc (.cells c e)) n := by
  have hcell : ∀ i, i < n → (w.alloc (.cells c e)).cell? ⟨w.heap.size, i, none⟩ = some (.int k 0) := fun i hi => by
    rw [World.cell?_alloc_at (w := w) c e w.heap.size i rfl]
    have : i < c.size := by omega
    rw [Array.getElem?_eq_getElem this, hc i this]
  have hw : ∀ i, i < n → word (w.alloc (.cells c e)) w.heap.size i = 0 := fun i hi => word_eq (k := k) (x := 0) (by simpa using hcell i hi)
  refine ⟨(Below.refl _ _).alloc (Nat.le_refl _) _, by simp, fun i hi => ?_, fun i hi => ?_, hw⟩
  · rw [Nat.zero_add, hw i hi]
    exact ⟨by simpa using hcell i hi, hβ⟩
  · rw [Nat.zero_add]
    exact World.frozen?_alloc_at (w := w) c e w.heap.size i rfl

theorem wpList_makeRow {P : Program} {w : World} {ops : Array Oper} {rest : List Oper} {o : Oper} {a : Act} {Q : Exit → Act → World → Prop} (k : IntKind) (β : Nat) (hβ : 0 < β)
    (hg : o.guard = none) (l c : Operand) (t : TypeId) (hop : o.op = Op.makeSlice t l c) (e : TypeId) (i : TypeInfo) (h1 : P.underlying t = some (.slice e)) (h2 : P.info? e = some i)
    (h3 : i.zero = some (.int k 0)) (h4 : i.size = 1) (kl kc : IntKind) (L C : Int) (n : Nat) (hl : a.eval l = .int kl L) (hc : a.eval c = .int kc C) (hL : L = (n : Int)) (hC : C = (n : Int))
    (b2 : i.bytes * n ≤ 281474976710656) (b3 : n ≤ maxLen)
    (hK : ∀ w', Made k β w w' n → wpList P ops Q rest (a.put o.dst (.slice (some ⟨w.heap.size, 0, none⟩) n n)) w') :
    wpList P ops Q (o :: rest) a w := by
  refine wpList_plain hg fun K hK' => ?_
  subst hL
  subst hC
  have hrun := run_make (P := P) w t e i (.int k 0) h1 h2 h3 kl kc n n (by omega) (by omega) (by rw [← Int.natCast_mul]; exact Int.ofNat_le.2 b2) (by have := b3; unfold maxLen at this; omega)
  clear b2 b3
  unfold Oper.wp
  simp [execOp, hop, hl, hc, hrun, Result.andThen]
  refine hK' _ _ (hK _ (made_alloc hβ w _ e n (by simp [madeCells, h4]) fun j hj => ?_))
  simp [madeCells, Value.cells, Nat.mod_one]

/-- What a copy leaves: m cells from place o of block b on hold what stood from place p of block c on. -/
structure Copied (k : IntKind) (β : Nat) (w w' : World) (b o m c p : Nat) : Prop where
  chg : Chg w w' b o (o + m)
  arr : Arr k β w' b o m
  same : ∀ i, i < m → word w' b (o + i) = word w c (p + i)

theorem cells_list {k : IntKind} {β : Nat} {w : World} {b o n : Nat} (h : Arr k β w b o n) {m : Nat} (hm : m ≤ n) :
    ∀ j v, ((List.range m).map fun i => Value.int k ((word w b (o + i) : Nat) : Int))[j]? = some v → w.cell? ((⟨b, o, none⟩ : Addr).add j) = some v := by
  intro j v hj
  have hjm : j < m := by
    have := (List.getElem?_eq_some_iff.1 hj).1
    simpa using this
  simp only [List.getElem?_map, List.getElem?_range hjm, Option.map_some, Option.some.injEq] at hj
  subst hj
  have e : (⟨b, o, none⟩ : Addr).add j = ⟨b, o + j, none⟩ := by unfold Addr.add; split <;> simp_all
  rw [e]
  exact arr_cell h (by omega)

theorem setCells_chg (b : Nat) : ∀ (vs : List Value) (o : Nat) (w : World), Chg w (w.setCells b o vs) b o (o + vs.length)
  | [], o, w => Chg.refl _ _ _ _
  | v :: r, o, w => by
    have h1 := (Chg.refl w b o (o + (r.length + 1))).set (i := o) (by omega) (by omega) v
    have h2 := (setCells_chg b r (o + 1) (w.setCell ⟨b, o, none⟩ v)).mono (lo' := o) (hi' := o + (r.length + 1)) (by omega) (by omega)
    exact h1.trans h2

theorem wpList_copyRow {P : Program} {w : World} {ops : Array Oper} {rest : List Oper} {o : Oper} {a : Act} {Q : Exit → Act → World → Prop} (k : IntKind) (β : Nat)
    (hgd : o.guard = none) (d s : Operand) (dT sT : TypeId) (ho : o.op = .call { callee := .builtin .copy, args := #[d, s], argTypes := #[dT, sT] })
    (elem : TypeId) (hu : P.underlying dT = some (.slice elem)) (hsz : (P.info? elem).map (·.size) = some 1)
    (dp sp : Option Addr) (nd cd ns cs : Nat) (hd : a.eval d = .slice dp nd cd) (hs : a.eval s = .slice sp ns cs) (bd od bs os : Nat)
    (hdp : Sl dp bd od nd) (hsp : Sl sp bs os ns) (had : Arr k β w bd od nd) (hfd : Free w bd od nd) (has : Arr k β w bs os ns)
    (h : ∀ w', Copied k β w w' bd od (min ns nd) bs os → wpList P ops Q rest (a.put o.dst (.int .i64 (min ns nd : Nat))) w') :
    wpList P ops Q (o :: rest) a w := by
  refine wpList_plain hgd fun K hK => ?_
  have hmin : Nat.min ns nd = min ns nd := rfl
  by_cases hn : min ns nd = 0
  · have hrun := run_copy_none (P := P) w dT sT o.type elem dp sp nd cd ns cs hu hsz hn
    unfold Oper.wp
    simp [execOp, ho, resolve, invoke, builtin, hd, hs, hrun, Result.andThen]
    refine hK _ _ ?_
    have := h w ⟨Chg.refl _ _ _ _, by rw [hn]; intro i hi; omega, by rw [hn]; intro i hi; omega⟩
    rw [hn] at this
    exact this
  · obtain rfl := hdp (by omega)
    obtain rfl := hsp (by omega)
    have hrun := run_copy_cells (P := P) w dT sT o.type elem bd od nd cd ⟨bs, os, none⟩ ns cs ((List.range (min ns nd)).map fun i => Value.int k ((word w bs (os + i) : Nat) : Int)) hu hsz
      (by simp [hmin]) (cells_list has (by omega)) (fun j hj => by rw [arr_cell had (by simp at hj; omega)]; rfl) (fun j hj => hfd j (by simp at hj; omega))
      (fun v hv => by obtain ⟨_, _, rfl⟩ := List.mem_map.1 hv; rfl)
    simp only [List.length_map, List.length_range] at hrun
    have hcell : ∀ i, i < min ns nd → (w.setCells bd od ((List.range (min ns nd)).map fun i => Value.int k ((word w bs (os + i) : Nat) : Int))).cell? ⟨bd, od + i, none⟩ = some (.int k ((word w bs (os + i) : Nat) : Int)) := by
      intro i hi
      rw [World.cell?_setCells_in bd _ od w (fun j hj => by rw [arr_cell had (by simp at hj; omega)]; rfl) i (by simpa using hi)]
      simp
    have hword : ∀ i, i < min ns nd → word (w.setCells bd od ((List.range (min ns nd)).map fun i => Value.int k ((word w bs (os + i) : Nat) : Int))) bd (od + i) = word w bs (os + i) :=
      fun i hi => word_eq (hcell i hi)
    unfold Oper.wp
    simp [execOp, ho, resolve, invoke, builtin, hd, hs, hrun, Result.andThen]
    refine hK _ _ (h _ ⟨?_, fun i hi => ?_, hword⟩)
    · have := setCells_chg bd ((List.range (min ns nd)).map fun i => Value.int k ((word w bs (os + i) : Nat) : Int)) od w
      simpa using this
    · rw [hword i hi]
      exact ⟨hcell i hi, arr_lt has (by omega)⟩

/-- clear, of a row of numbers. -/
structure Cleared (k : IntKind) (β : Nat) (w w' : World) (b o n : Nat) : Prop where
  chg : Chg w w' b o (o + n)
  arr : Arr k β w' b o n
  zero : ∀ i, i < n → word w' b (o + i) = 0

theorem wpList_clearRow {P : Program} {w : World} {ops : Array Oper} {rest : List Oper} {o : Oper} {a : Act} {Q : Exit → Act → World → Prop} (k : IntKind) (β : Nat) (hβ : 0 < β)
    (hgd : o.guard = none) (s : Operand) (t : TypeId) (ho : o.op = .call { callee := .builtin .clear, args := #[s], argTypes := #[t] })
    (e : TypeId) (i : TypeInfo) (hu : P.underlying t = some (.slice e)) (h2 : P.info? e = some i) (h3 : i.zero = some (.int k 0))
    (ap : Option Addr) (n c : Nat) (hs : a.eval s = .slice ap n c) (b off : Nat) (hsl : Sl ap b off n) (ha : Arr k β w b off n) (hf : Free w b off n)
    (h : ∀ w', Cleared k β w w' b off n → wpList P ops Q rest (a.put o.dst (.tuple #[])) w') :
    wpList P ops Q (o :: rest) a w := by
  refine wpList_plain hgd fun K hK => ?_
  by_cases hn : n = 0
  · subst hn
    have hrun : (Builtin.clear_ #[t] o.type #[.slice ap 0 c]).run P w = .ok (.tuple #[]) w := by
      cases ap <;> simp [Builtin.clear_, run_underlying hu]
    unfold Oper.wp
    simp [execOp, ho, resolve, invoke, builtin, hs, hrun, Result.andThen]
    exact hK _ _ (h w ⟨Chg.refl _ _ _ _, fun i hi => by omega, fun i hi => by omega⟩)
  · obtain rfl := hsl (by omega)
    have hlist : (Builtin.zeroCells (Value.int k 0).cells n).toList = (List.range n).map fun _ => Value.int k 0 := by
      simp [Builtin.zeroCells, Value.cells, Nat.mod_one, Array.toList_map, Array.toList_range]
    have hst := run_storeCells_cells (P := P) b off ((List.range n).map fun _ => Value.int k 0) 0 w
      (fun j hj => by rw [Nat.add_zero, arr_cell ha (by simpa using hj)]; rfl) (fun j hj => by rw [Nat.add_zero]; exact hf j (by simpa using hj)) (fun v hv => by obtain ⟨_, _, rfl⟩ := List.mem_map.1 hv; rfl)
    rw [Nat.add_zero] at hst
    have hz : (zeroValue e).run P w = .ok (.int k 0) w := by simp [zeroValue, typeInfo, h2, h3]
    have hrun : (Builtin.clear_ #[t] o.type #[.slice (some ⟨b, off, none⟩) n c]).run P w = .ok (.tuple #[]) (w.setCells b off ((List.range n).map fun _ => Value.int k 0)) := by
      obtain ⟨m, rfl⟩ : ∃ m, n = m + 1 := ⟨n - 1, by omega⟩
      simp [Builtin.clear_, run_underlying hu, hz, hlist, hst]
    have hcell : ∀ i, i < n → (w.setCells b off ((List.range n).map fun _ => Value.int k 0)).cell? ⟨b, off + i, none⟩ = some (.int k 0) := by
      intro i hi
      rw [World.cell?_setCells_in b _ off w (fun j hj => by rw [arr_cell ha (by simpa using hj)]; rfl) i (by simpa using hi)]
      simp
    have hw : ∀ i, i < n → word (w.setCells b off ((List.range n).map fun _ => Value.int k 0)) b (off + i) = 0 := fun i hi => word_eq (k := k) (x := 0) (by simpa using hcell i hi)
    unfold Oper.wp
    simp [execOp, ho, resolve, invoke, builtin, hs, hrun, Result.andThen]
    refine hK _ _ (h _ ⟨?_, fun i hi => by rw [hw i hi]; exact ⟨by simpa using hcell i hi, hβ⟩, hw⟩)
    have := setCells_chg b ((List.range n).map fun _ => Value.int k 0) off w
    simpa using this
end Go.Rad

namespace Go.Proofs.YtjlkplidpdhgbaaGreatDoor
open Go Go.Proofs Go.RowKit Go.Rad

set_option maxHeartbeats 1000000 in
theorem front_any (w : World) (ao : Option Addr) (b o n c m : Nat) (hs : Sl ao b o n) (hc : n ≤ c) (hcm : n ≤ maxLen) (hmm : m ≤ maxLen) (ha : Arr .u64 B w b o n) :
    Calls Tryz.prog 86 #[.slice ao n c, .int .i64 m] w fun e w' => ∃ k, e = .returned (.slice ao k k) ∧ w' = w ∧ k ≤ m ∧ k ≤ n ∧ (k = 0 ∨ word w b (o + (k - 1)) ≠ 0) ∧
      (∀ i, k ≤ i → i < m → i < n → word w b (o + i) = 0) := by
  unfold maxLen at hcm hmm
  go_enter Tryz.func86, Tryz.ntmps86
  go_wp2
  all_goals
    go_loop [1] (fun s => ∃ k : Nat, k ≤ m ∧ k ≤ n ∧ s = .int .i64 k ∧ ∀ i, k ≤ i → i < m → i < n → word w b (o + i) = 0) (fun s => (intOf s).toNat)
    case atStart => exact ⟨_, by omega, by omega, rfl, fun i h1 h2 h3 => by omega⟩
    case round =>
      obtain ⟨k, hk1, hk2, rfl, hz⟩ := hrel
      by_cases h0 : k = 0
      · subst h0
        go_wp2
        go_ret
        exact ⟨0, rfl, rfl, by omega, by omega, .inl rfl, hz⟩
      · obtain ⟨j, rfl⟩ : ∃ j, k = j + 1 := ⟨k - 1, by omega⟩
        obtain rfl := hs (by omega)
        have hcell := arr_cell ha (i := j) (by omega)
        by_cases hw : word w b (o + j) = 0
        · have hz' : ∀ i, j ≤ i → i < m → i < n → word w b (o + i) = 0 := fun i h1 h2 h3 => by
            by_cases hij : i = j
            · subst hij; exact hw
            · exact hz i (by omega) h2 h3
          rw [hw] at hcell
          clear hz hw
          go_wp2
          go_round
          case rel => exact ⟨j, by omega, by omega, by go_num, hz'⟩
          case measure => simp [intOf]
        · have hne : ¬ ((word w b (o + j) : Nat) : Int) = 0 := by omega
          go_wp2
          go_ret
          exact ⟨j + 1, by simp, rfl, hk1, hk2, .inr (by simpa using hw), hz⟩

theorem isNaNi (x : Int) (w : World) : Calls Tryz.prog 110 #[.int .i64 x] w fun e w' => e = .returned (.bool false) ∧ w' = w := by
  go_enter Tryz.func110, Tryz.ntmps110
  go_wp2
  go_ret
  exact ⟨rfl, rfl⟩
theorem isNaNu (x : Int) (w : World) : Calls Tryz.prog 146 #[.int .u64 x] w fun e w' => e = .returned (.bool false) ∧ w' = w := by
  go_enter Tryz.func146, Tryz.ntmps146
  go_wp2
  go_ret
  exact ⟨rfl, rfl⟩
/-- -1, 0 or 1. -/
def cmpI (x y : Int) : Int := if x < y then -1 else if x = y then 0 else 1
theorem compare_i (x y : Int) (w : World) : Calls Tryz.prog 74 #[.int .i64 x, .int .i64 y] w fun e w' => e = .returned (.int .i64 (cmpI x y)) ∧ w' = w := by
  by_cases h1 : x < y
  · have e1 : cmpI x y = -1 := if_pos h1
    rw [e1]; clear e1
    go_enter Tryz.func74, Tryz.ntmps74
    go_wp2_with (go_at_call 110; refine (isNaNi _ _).mono ?_; rintro e w' ⟨rfl, hw⟩; subst hw)
    go_ret
    exact ⟨rfl, rfl⟩
  · by_cases h2 : y < x
    · have e1 : cmpI x y = 1 := by unfold cmpI; rw [if_neg h1, if_neg (by omega)]
      rw [e1]; clear e1
      go_enter Tryz.func74, Tryz.ntmps74
      go_wp2_with (go_at_call 110; refine (isNaNi _ _).mono ?_; rintro e w' ⟨rfl, hw⟩; subst hw)
      go_ret
      exact ⟨rfl, rfl⟩
    · have e1 : cmpI x y = 0 := by unfold cmpI; rw [if_neg h1, if_pos (by omega)]
      rw [e1]; clear e1
      go_enter Tryz.func74, Tryz.ntmps74
      go_wp2_with (go_at_call 110; refine (isNaNi _ _).mono ?_; rintro e w' ⟨rfl, hw⟩; subst hw)
      go_ret
      exact ⟨rfl, rfl⟩
theorem compare_u (x y : Int) (w : World) : Calls Tryz.prog 116 #[.int .u64 x, .int .u64 y] w fun e w' => e = .returned (.int .i64 (cmpI x y)) ∧ w' = w := by
  by_cases h1 : x < y
  · have e1 : cmpI x y = -1 := if_pos h1
    rw [e1]; clear e1
    go_enter Tryz.func116, Tryz.ntmps116
    go_wp2_with (go_at_call 146; refine (isNaNu _ _).mono ?_; rintro e w' ⟨rfl, hw⟩; subst hw)
    go_ret
    exact ⟨rfl, rfl⟩
  · by_cases h2 : y < x
    · have e1 : cmpI x y = 1 := by unfold cmpI; rw [if_neg h1, if_neg (by omega)]
      rw [e1]; clear e1
      go_enter Tryz.func116, Tryz.ntmps116
      go_wp2_with (go_at_call 146; refine (isNaNu _ _).mono ?_; rintro e w' ⟨rfl, hw⟩; subst hw)
      go_ret
      exact ⟨rfl, rfl⟩
    · have e1 : cmpI x y = 0 := by unfold cmpI; rw [if_neg h1, if_pos (by omega)]
      rw [e1]; clear e1
      go_enter Tryz.func116, Tryz.ntmps116
      go_wp2_with (go_at_call 146; refine (isNaNu _ _).mono ?_; rintro e w' ⟨rfl, hw⟩; subst hw)
      go_ret
      exact ⟨rfl, rfl⟩
end Go.Proofs.YtjlkplidpdhgbaaGreatDoor

namespace Go.Proofs.YtjlkplidpdhgbaaGreatDoor
open Go Go.Proofs Go.RowKit Go.Rad

/-- Normal: the highest place is not 0. -/
def Nrm (w : World) (b o n : Nat) : Prop := n = 0 ∨ word w b (o + (n - 1)) ≠ 0

theorem ret_int {k : IntKind} {a b : Int} (h : a = b) : Ending.returned (.int k a) = .returned (.int k b) := by rw [h]
theorem cmpI_nat_lt {a b : Nat} (h : a < b) : cmpI (a : Int) (b : Int) = -1 := if_pos (by omega)
theorem cmpI_nat_gt {a b : Nat} (h : b < a) : cmpI (a : Int) (b : Int) = 1 := by unfold cmpI; rw [if_neg (by omega), if_neg (by omega)]
theorem cmpI_nat_eq {a b : Nat} (h : a = b) : cmpI (a : Int) (b : Int) = 0 := by unfold cmpI; rw [if_neg (by omega), if_pos (by omega)]

theorem num_len_lt {w : World} {bx ox nx byy oy ny : Nat} (hx : Arr .u64 B w bx ox nx) (hny : Nrm w byy oy ny) (h : nx < ny) : num B w bx ox nx < num B w byy oy ny := by
  have h1 := num_lt hx
  rcases hny with h2 | h2
  · omega
  · have h3 : B ^ (ny - 1) ≤ num B w byy oy ny := _root_.Rad.vs_ge (by omega) (by simpa using h2)
    have h4 : B ^ nx ≤ B ^ (ny - 1) := Nat.pow_le_pow_right B_pos (by omega)
    omega

set_option maxHeartbeats 1000000 in
theorem cmpWords_any (w : World) (ax ay : Option Addr) (bx ox nx cx byy oy ny cy : Nat) (hsx : Sl ax bx ox nx) (hsy : Sl ay byy oy ny) (hmx : nx ≤ maxLen) (hmy : ny ≤ maxLen)
    (hx : Arr .u64 B w bx ox nx) (hy : Arr .u64 B w byy oy ny) (hnx : Nrm w bx ox nx) (hny : Nrm w byy oy ny) :
    Calls Tryz.prog 87 #[.slice ax nx cx, .slice ay ny cy] w fun e w' => e = .returned (.int .i64 (cmpI (num B w bx ox nx : Nat) (num B w byy oy ny : Nat))) ∧ ∃ n, w' = w.drewN n := by
  unfold maxLen at hmx hmy
  by_cases hn : nx = ny
  · subst hn
    go_enter Tryz.func87, Tryz.ntmps87
    go_wp2
    go_loopw [5] (fun s wr => ∃ k d : Nat, k ≤ nx ∧ s = .int .i64 ((k : Int) - 1) ∧ wr = w.drewN d ∧ ∀ i, k ≤ i → i < nx → word w bx (ox + i) = word w byy (oy + i)) (fun s _ => (intOf s + 1).toNat)
    case atStart => exact ⟨nx, 0, by omega, by go_num, rfl, fun i h1 h2 => by omega⟩
    case round =>
      obtain ⟨k, d, hk, rfl, rfl, hz⟩ := hrel
      by_cases h0 : k = 0
      · subst h0
        have e : cmpI (num B w bx ox nx : Nat) (num B w byy oy nx : Nat) = 0 := cmpI_nat_eq (num_congr fun i hi => (hz i (by omega) hi).symm).symm
        go_wp2
        go_ret
        exact ⟨ret_int e.symm, _, rfl⟩
      · obtain ⟨j, rfl⟩ : ∃ j, k = j + 1 := ⟨k - 1, by omega⟩
        obtain rfl := hsx (by omega)
        obtain rfl := hsy (by omega)
        have hcx := arr_cell hx (i := j) (by omega)
        have hcy := arr_cell hy (i := j) (by omega)
        have he : ((j + 1 : Nat) : Int) - 1 = (j : Int) := by omega
        rw [he]
        by_cases hw : word w bx (ox + j) = word w byy (oy + j)
        · have hw' : ((word w bx (ox + j) : Nat) : Int) = ((word w byy (oy + j) : Nat) : Int) := by rw [hw]
          have hz' : ∀ i, j ≤ i → i < nx → word w bx (ox + i) = word w byy (oy + i) := fun i h1 h2 => by
            by_cases hij : i = j
            · subst hij; exact hw
            · exact hz i (by omega) h2
          clear hz hw he
          go_wp2
          go_quiet (fail)
          go_wp2
          go_roundw
          case rel => exact ⟨j, _, by omega, by go_num, rfl, hz'⟩
          case measure => simp [intOf]
        · have hne : ((word w bx (ox + j) : Nat) : Int) ≠ ((word w byy (oy + j) : Nat) : Int) := by omega
          have hres : cmpI ((word w bx (ox + j) : Nat) : Int) ((word w byy (oy + j) : Nat) : Int) = cmpI (num B w bx ox nx : Nat) (num B w byy oy nx : Nat) := by
            rcases Nat.lt_or_ge (word w bx (ox + j)) (word w byy (oy + j)) with h | h
            · rw [cmpI_nat_lt h, cmpI_nat_lt]
              exact _root_.Rad.vs_lt_of_place (i := j) (fun i hi => arr_lt hx hi) (by omega) h (fun i h1 h2 => hz i (by omega) h2)
            · have h' : word w byy (oy + j) < word w bx (ox + j) := by omega
              rw [cmpI_nat_gt h', cmpI_nat_gt]
              exact _root_.Rad.vs_lt_of_place (i := j) (fun i hi => arr_lt hy hi) (by omega) h' (fun i h1 h2 => (hz i (by omega) h2).symm)
          have HR : Hid (cmpI ((word w bx (ox + j) : Nat) : Int) ((word w byy (oy + j) : Nat) : Int) = cmpI (num B w bx ox nx : Nat) (num B w byy oy nx : Nat)) := hres
          have hb : (j : Int) < (nx : Int) := by omega
          have hb0 : (0 : Int) ≤ (j : Int) := by omega
          clear hz hw he hres
          go_wp2
          go_quiet (fail)
          go_wp2
          go_quiet ((go_at_call 116; refine (compare_u _ _ _).mono ?_; rintro e w'' ⟨rfl, rfl⟩; exact ⟨rfl, _, rfl⟩))
          go_wp2
          go_ret
          exact ⟨ret_int HR.out, by simp only [World.drewN_drewN]; exact ⟨_, rfl⟩⟩
  · have hres : cmpI (nx : Int) (ny : Int) = cmpI (num B w bx ox nx : Nat) (num B w byy oy ny : Nat) := by
      rcases Nat.lt_or_ge nx ny with h | h
      · rw [cmpI_nat_lt h, cmpI_nat_lt (num_len_lt hx hny h)]
      · have h' : ny < nx := by omega
        rw [cmpI_nat_gt h', cmpI_nat_gt (num_len_lt hy hnx h')]
    have HR : Hid (cmpI (nx : Int) (ny : Int) = cmpI (num B w bx ox nx : Nat) (num B w byy oy ny : Nat)) := hres
    have hne : ((nx : Int) != (ny : Int)) = true := by simp; omega
    clear hres
    go_enter Tryz.func87, Tryz.ntmps87
    go_wp2_with (go_at_call 74; refine (compare_i _ _ _).mono ?_; rintro e w' ⟨rfl, hw⟩; subst hw)
    go_ret
    exact ⟨ret_int HR.out, 0, rfl⟩
end Go.Proofs.YtjlkplidpdhgbaaGreatDoor

namespace Go.Proofs.YtjlkplidpdhgbaaGreatDoor
open Go Go.Proofs Go.RowKit Go.Rad

/-- A slice of words that holds the number x: n words, the highest not 0. -/
def Mag (w : World) (v : Value) (x n : Nat) : Prop :=
  ∃ (ao : Option Addr) (b o c : Nat), v = .slice ao n c ∧ Sl ao b o n ∧ n ≤ c ∧ Arr .u64 B w b o n ∧ num B w b o n = x ∧ Nrm w b o n

theorem arr_below {k : IntKind} {β : Nat} {w w' : World} {b o n : Nat} (h : Arr k β w b o n) (hb : Below w.heap.size w w') : Arr k β w' b o n := by
  intro i hi
  have e : w'.cell? ⟨b, o + i, none⟩ = w.cell? ⟨b, o + i, none⟩ := hb.cell (p := ⟨b, o + i, none⟩) (h.lt (by omega))
  rw [word_of_cell e, e]
  exact h i hi
theorem word_below {k : IntKind} {β : Nat} {w w' : World} {b o n : Nat} (h : Arr k β w b o n) (hb : Below w.heap.size w w') {i : Nat} (hi : i < n) : word w' b (o + i) = word w b (o + i) :=
  word_of_cell (hb.cell (p := ⟨b, o + i, none⟩) (h.lt (by omega)))
theorem num_below {k : IntKind} {β : Nat} {w w' : World} {b o n : Nat} (h : Arr k β w b o n) (hb : Below w.heap.size w w') : num β w' b o n = num β w b o n :=
  num_congr fun _ hi => word_below h hb hi
theorem nrm_below {w w' : World} {b o n : Nat} (h : Arr .u64 B w b o n) (hn : Nrm w b o n) (hb : Below w.heap.size w w') : Nrm w' b o n := by
  rcases hn with h0 | h0
  · exact .inl h0
  · by_cases hz : n = 0
    · exact .inl hz
    · right; rw [word_below h hb (by omega)]; exact h0
theorem Mag.below {w w' : World} {v : Value} {x n : Nat} (h : Mag w v x n) (hb : Below w.heap.size w w') : Mag w' v x n := by
  obtain ⟨ao, b, o, c, hv, hs, hc, ha, hx, hn⟩ := h
  exact ⟨ao, b, o, c, hv, hs, hc, arr_below ha hb, by rw [num_below ha hb, hx], nrm_below ha hn hb⟩

theorem Mag.lt {w : World} {v : Value} {x n : Nat} (h : Mag w v x n) : x < B ^ n := by
  obtain ⟨ao, b, o, c, hv, hs, hc, ha, hx, hn⟩ := h
  rw [← hx]; exact num_lt ha
theorem Mag.ge {w : World} {v : Value} {x n : Nat} (h : Mag w v x n) (hn0 : 0 < n) : B ^ (n - 1) ≤ x := by
  obtain ⟨ao, b, o, c, hv, hs, hc, ha, hx, hn⟩ := h
  rw [← hx]
  rcases hn with h0 | h0
  · omega
  · exact _root_.Rad.vs_ge hn0 (by simpa using h0)
theorem Mag.pos {w : World} {v : Value} {x n : Nat} (h : Mag w v x n) (hn0 : 0 < n) : 0 < x := Nat.lt_of_lt_of_le (Nat.pow_pos B_pos) (h.ge hn0)
theorem Mag.len_le {w : World} {v : Value} {x n : Nat} (h : Mag w v x n) {L : Nat} (hx : x < B ^ L) : n ≤ L := by
  rcases Nat.lt_or_ge L n with h1 | h1
  · have h2 := h.ge (by omega)
    have h3 : B ^ L ≤ B ^ (n - 1) := Nat.pow_le_pow_right B_pos (by omega)
    omega
  · exact h1
theorem Mag.zero_iff {w : World} {v : Value} {x n : Nat} (h : Mag w v x n) : x = 0 ↔ n = 0 := by
  constructor
  · intro hx
    rcases Nat.eq_zero_or_pos n with h0 | h0
    · exact h0
    · have := h.pos h0; omega
  · intro hn; have := h.lt; rw [hn] at this; simpa using this

theorem mag_nil (w : World) : Mag w (.slice none 0 0) 0 0 := ⟨none, 0, 0, 0, rfl, fun h => by omega, by omega, fun i hi => by omega, rfl, .inl rfl⟩

/-- front, of a row that holds a number. -/
theorem front_mag (w : World) (ao : Option Addr) (b o n c m : Nat) (hs : Sl ao b o n) (hc : n ≤ c) (hcm : n ≤ maxLen) (hmm : m ≤ maxLen) (ha : Arr .u64 B w b o n) :
    Calls Tryz.prog 86 #[.slice ao n c, .int .i64 m] w fun e w' => ∃ v k, e = .returned v ∧ w' = w ∧ k ≤ m ∧ k ≤ n ∧ Mag w v (num B w b o (min m n)) k := by
  refine (front_any w ao b o n c m hs hc hcm hmm ha).mono ?_
  rintro e w' ⟨k, rfl, rfl, hk1, hk2, htop, hz⟩
  refine ⟨_, k, rfl, rfl, hk1, hk2, ao, b, o, k, rfl, fun h => hs (by omega), Nat.le_refl _, ?_, ?_, ?_⟩
  · have := ha.sub (d := 0) (m := k) (by omega); simpa using this
  · exact (_root_.Rad.vs_top (by omega) (fun i h1 h2 => hz i h1 (by omega) (by omega))).symm
  · rcases htop with h | h
    · exact .inl h
    · exact .inr h

theorem num_made {k : IntKind} {β : Nat} {w w' : World} {n : Nat} (h : Made k β w w' n) (m : Nat) (hm : m ≤ n) : num β w' w.heap.size 0 m = 0 :=
  _root_.Rad.vs_zeros fun i hi => by rw [Nat.zero_add]; exact h.zero i (by omega)

theorem info98 : (Tryz.prog.info? 98).map (fun i => (i.zero, i.size, i.bytes)) = some (some (.int .u64 0), 1, 8) := by kernel_rfl
theorem size98 : (Tryz.prog.info? 98).map (·.size) = some 1 := by kernel_rfl

/-- A new row, with a number copied to its low end. -/
theorem row_copied {w w1 w2 : World} {n m b o : Nat} (hm : Made .u64 B w w1 n) (ha : Arr .u64 B w b o m) (hmn : m ≤ n) (hc : Copied .u64 B w1 w2 w.heap.size 0 m b o) :
    Below w.heap.size w w2 ∧ Arr .u64 B w2 w.heap.size 0 n ∧ Free w2 w.heap.size 0 n ∧ num B w2 w.heap.size 0 n = num B w b o m ∧ w.heap.size < w2.heap.size := by
  have hlow : ∀ i, i < m → word w2 w.heap.size (0 + i) = word w b (o + i) := fun i hi => (hc.same i hi).trans (word_below ha hm.below hi)
  have hhigh : ∀ i, m ≤ i → w2.cell? ⟨w.heap.size, i, none⟩ = w1.cell? ⟨w.heap.size, i, none⟩ := fun i hi => hc.chg.cell i (by omega)
  refine ⟨hm.below.trans (hc.chg.below (Nat.le_refl _) (by have := hm.lt; omega)), fun i hi => ?_, hc.chg.free hm.free (fun _ => hm.lt), ?_, Nat.lt_of_lt_of_le hm.lt hc.chg.size⟩
  · by_cases him : i < m
    · exact hc.arr i him
    · have e := hhigh i (by omega)
      rw [Nat.zero_add, word_of_cell e, e]
      have := hm.arr i hi
      rwa [Nat.zero_add] at this
  · have h1 : num B w2 w.heap.size 0 n = num B w2 w.heap.size 0 m := _root_.Rad.vs_top hmn fun i h1 h2 => by
      rw [Nat.zero_add, word_of_cell (hhigh i h1)]
      exact hm.zero i h2
    rw [h1]
    exact num_congr hlow
theorem nat_min_self (n : Nat) : min n n = n := Nat.min_self n
end Go.Proofs.YtjlkplidpdhgbaaGreatDoor
