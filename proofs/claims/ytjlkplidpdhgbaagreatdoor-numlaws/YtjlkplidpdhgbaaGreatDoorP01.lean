/- A part of the proof: Laws, W1, W3, W5. -/
import Derived.WalkKit
import Derived.Laws.IdiomCopy
import Derived.Laws.MakeOwn
import Derived.Test.YtjlkplidpdhgbaaGreatDoorP00
import Derived.Deep.QuietTactic
import Derived.BigQuiet
set_option linter.all false

namespace Go.Rad
open Go Go.RowKit

/-- A slice that begins at a place, where it has an element at all. -/
def Sl (ao : Option Addr) (b o n : Nat) : Prop := 0 < n → ao = some ⟨b, o, none⟩
theorem Sl.mk (b o n : Nat) : Sl (some ⟨b, o, none⟩) b o n := fun _ => rfl

/-- A new row of n zeros. -/
structure Made (k : IntKind) (β : Nat) (w w' : World) (n : Nat) : Prop where
  below : Below w.heap.size w w'
  lt : w.heap.size < w'.heap.size
  arr : Arr k β w' w.heap.size 0 n
  free : Free w' w.heap.size 0 n
  zero : ∀ i, i < n → word w' w.heap.size i = 0

theorem below_self {B : Nat} {w w' : World} (h : Below B w w') : Below B w w' := h

theorem made_alloc {k : IntKind} {β : Nat} (hβ : 0 < β) (w : World) (c : Array Value) (e : TypeId) (n : Nat) (hs : c.size = n) (hc : ∀ i (h : i < c.size), c[i] = .int k 0) :
    Made k β w (w.alloc (.cells c e)) n := by
  have hcell : ∀ i, i < n → (w.alloc (.cells c e)).cell? ⟨w.heap.size, i, none⟩ = some (.int k 0) := fun i hi => by
    rw [World.cell?_alloc_at (w := w) c e w.heap.size i rfl]
    have : i < c.size := by omega
    rw [Array.getElem?_eq_getElem this, hc i this]
  have hw : ∀ i, i < n → word (w.alloc (.cells c e)) w.heap.size i = 0 := fun i hi => word_eq (k := k) (x := 0) (by simpa using hcell i hi)
  refine ⟨(Below.refl _ _).alloc (Nat.le_refl _) _, by simp, fun i hi => ?_, fun i hi => ?_, hw⟩
  · rw [Nat.zero_add, hw i hi]
    exact ⟨by simpa using hcell i hi, hβ⟩
  · rw [Nat.zero_add]
    exact World.frozen?_alloc_at (w := w) c e w.heap.size i rfl

theorem wpList_makeRow {P : Program} {w : World} {ops : Array Oper} {rest : List Oper} {o : Oper} {a : Act} {Q : Exit → Act → World → Prop} (k : IntKind) (β : Nat) (hβ : 0 < β)
    (hg : o.guard = none) (l c : Operand) (t : TypeId) (hop : o.op = Op.makeSlice t l c) (e : TypeId) (i : TypeInfo) (h1 : P.underlying t = some (.slice e)) (h2 : P.info? e = some i)
    (h3 : i.zero = some (.int k 0)) (h4 : i.size = 1) (kl kc : IntKind) (L C : Int) (n : Nat) (hl : a.eval l = .int kl L) (hc : a.eval c = .int kc C) (hL : L = (n : Int)) (hC : C = (n : Int))
    (b2 : i.bytes * n ≤ 281474976710656) (b3 : n ≤ maxLen)
    (hK : ∀ w', Made k β w w' n → wpList P ops Q rest (a.put o.dst (.slice (some ⟨w.heap.size, 0, none⟩) n n)) w') :
    wpList P ops Q (o :: rest) a w := by
  refine wpList_plain hg fun K hK' => ?_
  subst hL
  subst hC
  have hrun := run_make (P := P) w t e i (.int k 0) h1 h2 h3 kl kc n n (by omega) (by omega) (by rw [← Int.natCast_mul]; exact Int.ofNat_le.2 b2) (by have := b3; unfold maxLen at this; omega)
  clear b2 b3
  unfold Oper.wp
  simp [execOp, hop, hl, hc, hrun, Result.andThen]
  refine hK' _ _ (hK _ (made_alloc hβ w _ e n (by simp [madeCells, h4]) fun j hj => ?_))
  simp [madeCells, Value.cells, Nat.mod_one]

/-- What a copy leaves: m cells from place o of block b on hold what stood from place p of block c on. -/
structure Copied (k : IntKind) (β : Nat) (w w' : World) (b o m c p : Nat) : Prop where
  chg : Chg w w' b o (o + m)
  arr : Arr k β w' b o m
  same : ∀ i, i < m → word w' b (o + i) = word w c (p + i)

theorem cells_list {k : IntKind} {β : Nat} {w : World} {b o n : Nat} (h : Arr k β w b o n) {m : Nat} (hm : m ≤ n) :
    ∀ j v, ((List.range m).map fun i => Value.int k ((word w b (o + i) : Nat) : Int))[j]? = some v → w.cell? ((⟨b, o, none⟩ : Addr).add j) = some v := by
  intro j v hj
  have hjm : j < m := by
    have := (List.getElem?_eq_some_iff.1 hj).1
    simpa using this
  simp only [List.getElem?_map, List.getElem?_range hjm, Option.map_some, Option.some.injEq] at hj
  subst hj
  have e : (⟨b, o, none⟩ : Addr).add j = ⟨b, o + j, none⟩ := by unfold Addr.add; split <;> simp_all
  rw [e]
  exact arr_cell h (by omega)

theorem setCells_chg (b : Nat) : ∀ (vs : List Value) (o : Nat) (w : World), Chg w (w.setCells b o vs) b o (o + vs.length)
  | [], o, w => Chg.refl _ _ _ _
  | v :: r, o, w => by
    have h1 := (Chg.refl w b o (o + (r.length + 1))).set (i := o) (by omega) (by omega) v
    have h2 := (setCells_chg b r (o + 1) (w.setCell ⟨b, o, none⟩ v)).mono (lo' := o) (hi' := o + (r.length + 1)) (by omega) (by omega)
    exact h1.trans h2

theorem wpList_copyRow {P : Program} {w : World} {ops : Array Oper} {rest : List Oper} {o : Oper} {a : Act} {Q : Exit → Act → World → Prop} (k : IntKind) (β : Nat)
    (hgd : o.guard = none) (d s : Operand) (dT sT : TypeId) (ho : o.op = .call { callee := .builtin .copy, args := #[d, s], argTypes := #[dT, sT] })
    (elem : TypeId) (hu : P.underlying dT = some (.slice elem)) (hsz : (P.info? elem).map (·.size) = some 1)
    (dp sp : Option Addr) (nd cd ns cs : Nat) (hd : a.eval d = .slice dp nd cd) (hs : a.eval s = .slice sp ns cs) (bd od bs os : Nat)
    (hdp : Sl dp bd od nd) (hsp : Sl sp bs os ns) (had : Arr k β w bd od nd) (hfd : Free w bd od nd) (has : Arr k β w bs os ns)
    (h : ∀ w', Copied k β w w' bd od (min ns nd) bs os → wpList P ops Q rest (a.put o.dst (.int .i64 (min ns nd : Nat))) w') :
    wpList P ops Q (o :: rest) a w := by
  refine wpList_plain hgd fun K hK => ?_
  have hmin : Nat.min ns nd = min ns nd := rfl
  by_cases hn : min ns nd = 0
  · have hrun := run_copy_none (P := P) w dT sT o.type elem dp sp nd cd ns cs hu hsz hn
    unfold Oper.wp
    simp [execOp, ho, resolve, invoke, builtin, hd, hs, hrun, Result.andThen]
    refine hK _ _ ?_
    have := h w ⟨Chg.refl _ _ _ _, by rw [hn]; intro i hi; omega, by rw [hn]; intro i hi; omega⟩
    rw [hn] at this
    exact this
  · obtain rfl := hdp (by omega)
    obtain rfl := hsp (by omega)
    have hrun := run_copy_cells (P := P) w dT sT o.type elem bd od nd cd ⟨bs, os, none⟩ ns cs ((List.range (min ns nd)).map fun i => Value.int k ((word w bs (os + i) : Nat) : Int)) hu hsz
      (by simp [hmin]) (cells_list has (by omega)) (fun j hj => by rw [arr_cell had (by simp at hj; omega)]; rfl) (fun j hj => hfd j (by simp at hj; omega))
      (fun v hv => by obtain ⟨_, _, rfl⟩ := List.mem_map.1 hv; rfl)
    simp only [List.length_map, List.length_range] at hrun
    have hcell : ∀ i, i < min ns nd → (w.setCells bd od ((List.range (min ns nd)).map fun i => Value.int k ((word w bs (os + i) : Nat) : Int))).cell? ⟨bd, od + i, none⟩ = some (.int k ((word w bs (os + i) : Nat) : Int)) := by
      intro i hi
      rw [World.cell?_setCells_in bd _ od w (fun j hj => by rw [arr_cell had (by simp at hj; omega)]; rfl) i (by simpa using hi)]
      simp
    have hword : ∀ i, i < min ns nd → word (w.setCells bd od ((List.range (min ns nd)).map fun i => Value.int k ((word w bs (os + i) : Nat) : Int))) bd (od + i) = word w bs (os + i) :=
      fun i hi => word_eq (hcell i hi)
    unfold Oper.wp
    simp [execOp, ho, resolve, invoke, builtin, hd, hs, hrun, Result.andThen]
    refine hK _ _ (h _ ⟨?_, fun i hi => ?_, hword⟩)
    · have := setCells_chg bd ((List.range (min ns nd)).map fun i => Value.int k ((word w bs (os + i) : Nat) : Int)) od w
      simpa using this
    · rw [hword i hi]
      exact ⟨hcell i hi, arr_lt has (by omega)⟩

/-- clear, of a row of numbers. -/
structure Cleared (k : IntKind) (β : Nat) (w w' : World) (b o n : Nat) : Prop where
  chg : Chg w w' b o (o + n)
  arr : Arr k β w' b o n
  zero : ∀ i, i < n → word w' b (o + i) = 0

theorem wpList_clearRow {P : Program} {w : World} {ops : Array Oper} {rest : List Oper} {o : Oper} {a : Act} {Q : Exit → Act → World → Prop} (k : IntKind) (β : Nat) (hβ : 0 < β)
    (hgd : o.guard = none) (s : Operand) (t : TypeId) (ho : o.op = .call { callee := .builtin .clear, args := #[s], argTypes := #[t] })
    (e : TypeId) (i : TypeInfo) (hu : P.underlying t = some (.slice e)) (h2 : P.info? e = some i) (h3 : i.zero = some (.int k 0))
    (ap : Option Addr) (n c : Nat) (hs : a.eval s = .slice ap n c) (b off : Nat) (hsl : Sl ap b off n) (ha : Arr k β w b off n) (hf : Free w b off n)
    (h : ∀ w', Cleared k β w w' b off n → wpList P ops Q rest (a.put o.dst (.tuple #[])) w') :
    wpList P ops Q (o :: rest) a w := by
  refine wpList_plain hgd fun K hK => ?_
  by_cases hn : n = 0
  · subst hn
    have hrun : (Builtin.clear_ #[t] o.type #[.slice ap 0 c]).run P w = .ok (.tuple #[]) w := by
      cases ap <;> simp [Builtin.clear_, run_underlying hu]
    unfold Oper.wp
    simp [execOp, ho, resolve, invoke, builtin, hs, hrun, Result.andThen]
    exact hK _ _ (h w ⟨Chg.refl _ _ _ _, fun i hi => by omega, fun i hi => by omega⟩)
  · obtain rfl := hsl (by omega)
    have hlist : (Builtin.zeroCells (Value.int k 0).cells n).toList = (List.range n).map fun _ => Value.int k 0 := by
      simp [Builtin.zeroCells, Value.cells, Nat.mod_one, Array.toList_map, Array.toList_range]
    have hst := run_storeCells_cells (P := P) b off ((List.range n).map fun _ => Value.int k 0) 0 w
      (fun j hj => by rw [Nat.add_zero, arr_cell ha (by simpa using hj)]; rfl) (fun j hj => by rw [Nat.add_zero]; exact hf j (by simpa using hj)) (fun v hv => by obtain ⟨_, _, rfl⟩ := List.mem_map.1 hv; rfl)
    rw [Nat.add_zero] at hst
    have hz : (zeroValue e).run P w = .ok (.int k 0) w := by simp [zeroValue, typeInfo, h2, h3]
    have hrun : (Builtin.clear_ #[t] o.type #[.slice (some ⟨b, off, none⟩) n c]).run P w = .ok (.tuple #[]) (w.setCells b off ((List.range n).map fun _ => Value.int k 0)) := by
      obtain ⟨m, rfl⟩ : ∃ m, n = m + 1 := ⟨n - 1, by omega⟩
      simp [Builtin.clear_, run_underlying hu, hz, hlist, hst]
    have hcell : ∀ i, i < n → (w.setCells b off ((List.range n).map fun _ => Value.int k 0)).cell? ⟨b, off + i, none⟩ = some (.int k 0) := by
      intro i hi
      rw [World.cell?_setCells_in b _ off w (fun j hj => by rw [arr_cell ha (by simpa using hj)]; rfl) i (by simpa using hi)]
      simp
    have hw : ∀ i, i < n → word (w.setCells b off ((List.range n).map fun _ => Value.int k 0)) b (off + i) = 0 := fun i hi => word_eq (k := k) (x := 0) (by simpa using hcell i hi)
    unfold Oper.wp
    simp [execOp, ho, resolve, invoke, builtin, hs, hrun, Result.andThen]
    refine hK _ _ (h _ ⟨?_, fun i hi => by rw [hw i hi]; exact ⟨by simpa using hcell i hi, hβ⟩, hw⟩)
    have := setCells_chg b ((List.range n).map fun _ => Value.int k 0) off w
    simpa using this
end Go.Rad

namespace Go.Proofs.YtjlkplidpdhgbaaGreatDoor
open Go Go.Proofs Go.RowKit Go.Rad

set_option maxHeartbeats 1000000 in
theorem front_any (w : World) (ao : Option Addr) (b o n c m : Nat) (hs : Sl ao b o n) (hc : n ≤ c) (hcm : n ≤ maxLen) (hmm : m ≤ maxLen) (ha : Arr .u64 B w b o n) :
    Calls Tryz.prog 86 #[.slice ao n c, .int .i64 m] w fun e w' => ∃ k, e = .returned (.slice ao k k) ∧ w' = w ∧ k ≤ m ∧ k ≤ n ∧ (k = 0 ∨ word w b (o + (k - 1)) ≠ 0) ∧
      (∀ i, k ≤ i → i < m → i < n → word w b (o + i) = 0) := by
  unfold maxLen at hcm hmm
  go_enter Tryz.func86, Tryz.ntmps86
  go_wp2
  all_goals
    go_loop [1] (fun s => ∃ k : Nat, k ≤ m ∧ k ≤ n ∧ s = .int .i64 k ∧ ∀ i, k ≤ i → i < m → i < n → word w b (o + i) = 0) (fun s => (intOf s).toNat)
    case atStart => exact ⟨_, by omega, by omega, rfl, fun i h1 h2 h3 => by omega⟩
    case round =>
      obtain ⟨k, hk1, hk2, rfl, hz⟩ := hrel
      by_cases h0 : k = 0
      · subst h0
        go_wp2
        go_ret
        exact ⟨0, rfl, rfl, by omega, by omega, .inl rfl, hz⟩
      · obtain ⟨j, rfl⟩ : ∃ j, k = j + 1 := ⟨k - 1, by omega⟩
        obtain rfl := hs (by omega)
        have hcell := arr_cell ha (i := j) (by omega)
        by_cases hw : word w b (o + j) = 0
        · have hz' : ∀ i, j ≤ i → i < m → i < n → word w b (o + i) = 0 := fun i h1 h2 h3 => by
            by_cases hij : i = j
            · subst hij; exact hw
            · exact hz i (by omega) h2 h3
          rw [hw] at hcell
          clear hz hw
          go_wp2
          go_round
          case rel => exact ⟨j, by omega, by omega, by go_num, hz'⟩
          case measure => simp [intOf]
        · have hne : ¬ ((word w b (o + j) : Nat) : Int) = 0 := by omega
          go_wp2
          go_ret
          exact ⟨j + 1, by simp, rfl, hk1, hk2, .inr (by simpa using hw), hz⟩

theorem isNaNi (x : Int) (w : World) : Calls Tryz.prog 110 #[.int .i64 x] w fun e w' => e = .returned (.bool false) ∧ w' = w := by
  go_enter Tryz.func110, Tryz.ntmps110
  go_wp2
  go_ret
  exact ⟨rfl, rfl⟩
theorem isNaNu (x : Int) (w : World) : Calls Tryz.prog 146 #[.int .u64 x] w fun e w' => e = .returned (.bool false) ∧ w' = w := by
  go_enter Tryz.func146, Tryz.ntmps146
  go_wp2
  go_ret
  exact ⟨rfl, rfl⟩
/-- -1, 0 or 1. -/
def cmpI (x y : Int) : Int := if x < y then -1 else if x = y then 0 else 1
theorem compare_i (x y : Int) (w : World) : Calls Tryz.prog 74 #[.int .i64 x, .int .i64 y] w fun e w' => e = .returned (.int .i64 (cmpI x y)) ∧ w' = w := by
  by_cases h1 : x < y
  · have e1 : cmpI x y = -1 := if_pos h1
    rw [e1]; clear e1
    go_enter Tryz.func74, Tryz.ntmps74
    go_wp2_with (go_at_call 110; refine (isNaNi _ _).mono ?_; rintro e w' ⟨rfl, hw⟩; subst hw)
    go_ret
    exact ⟨rfl, rfl⟩
  · by_cases h2 : y < x
    · have e1 : cmpI x y = 1 := by unfold cmpI; rw [if_neg h1, if_neg (by omega)]
      rw [e1]; clear e1
      go_enter Tryz.func74, Tryz.ntmps74
      go_wp2_with (go_at_call 110; refine (isNaNi _ _).mono ?_; rintro e w' ⟨rfl, hw⟩; subst hw)
      go_ret
      exact ⟨rfl, rfl⟩
    · have e1 : cmpI x y = 0 := by unfold cmpI; rw [if_neg h1, if_pos (by omega)]
      rw [e1]; clear e1
      go_enter Tryz.func74, Tryz.ntmps74
      go_wp2_with (go_at_call 110; refine (isNaNi _ _).mono ?_; rintro e w' ⟨rfl, hw⟩; subst hw)
      go_ret
      exact ⟨rfl, rfl⟩
theorem compare_u (x y : Int) (w : World) : Calls Tryz.prog 116 #[.int .u64 x, .int .u64 y] w fun e w' => e = .returned (.int .i64 (cmpI x y)) ∧ w' = w := by
  by_cases h1 : x < y
  · have e1 : cmpI x y = -1 := if_pos h1
    rw [e1]; clear e1
    go_enter Tryz.func116, Tryz.ntmps116
    go_wp2_with (go_at_call 146; refine (isNaNu _ _).mono ?_; rintro e w' ⟨rfl, hw⟩; subst hw)
    go_ret
    exact ⟨rfl, rfl⟩
  · by_cases h2 : y < x
    · have e1 : cmpI x y = 1 := by unfold cmpI; rw [if_neg h1, if_neg (by omega)]
      rw [e1]; clear e1
      go_enter Tryz.func116, Tryz.ntmps116
      go_wp2_with (go_at_call 146; refine (isNaNu _ _).mono ?_; rintro e w' ⟨rfl, hw⟩; subst hw)
      go_ret
      exact ⟨rfl, rfl⟩
    · have e1 : cmpI x y = 0 := by unfold cmpI; rw [if_neg h1, if_pos (by omega)]
      rw [e1]; clear e1
      go_enter Tryz.func116, Tryz.ntmps116
      go_wp2_with (go_at_call 146; refine (isNaNu _ _).mono ?_; rintro e w' ⟨rfl, hw⟩; subst hw)
      go_ret
      exact ⟨rfl, rfl⟩
end Go.Proofs.YtjlkplidpdhgbaaGreatDoor

namespace Go.Proofs.YtjlkplidpdhgbaaGreatDoor
open Go Go.Proofs Go.RowKit Go.Rad

/-- One word of a sum, with its carry. -/
theorem add_step {k z x d e c r : Nat} (h : r + B ^ k * c = z + x) : r + B ^ k * lo (d + e + c) + B ^ (k + 1) * hi (d + e + c) = (z + B ^ k * d) + (x + B ^ k * e) := by
  have h1 := lo_hi (d + e + c)
  have h2 : B ^ (k + 1) * hi (d + e + c) = B ^ k * (B * hi (d + e + c)) := by rw [Nat.pow_succ, Nat.mul_assoc]
  rw [h2]
  have h3 : B ^ k * (lo (d + e + c) + B * hi (d + e + c)) = B ^ k * (d + e + c) := by rw [h1]
  rw [Nat.mul_add] at h3
  rw [Nat.mul_add, Nat.mul_add] at h3
  omega
theorem sub_step {k z x d e c r : Nat} (hd : d < B) (he : e < B) (hc : c ≤ 1) (h : r + x = z + B ^ k * c) :
    r + B ^ k * sb d e c + (x + B ^ k * e) = (z + B ^ k * d) + B ^ (k + 1) * bw d e c := by
  have h1 := sb_bw hd he hc
  have h2 : B ^ (k + 1) * bw d e c = B ^ k * (B * bw d e c) := by rw [Nat.pow_succ, Nat.mul_assoc]
  rw [h2]
  have h3 : B ^ k * (sb d e c + e + c) = B ^ k * (d + B * bw d e c) := by rw [h1]
  rw [Nat.mul_add, Nat.mul_add, Nat.mul_add] at h3
  omega

/-- What a store at place o + k leaves of the first k + 1 places. -/
theorem num_store {w : World} {b o n k x : Nat} (h : Arr .u64 B w b o n) (hk : k < n) :
    num B (w.setCell ⟨b, o + k, none⟩ (.int .u64 (x : Int))) b o (k + 1) = num B w b o k + B ^ k * x := by
  rw [num_succ, num_set_other (by omega), word_set_same (by rw [arr_cell h hk]; rfl)]

set_option maxRecDepth 10000 in
set_option maxHeartbeats 1000000 in
theorem addTo_any (w : World) (az ax : Option Addr) (bz oz nz cz bx ox nx cx : Nat) (hsz : Sl az bz oz nz) (hsx : Sl ax bx ox nx) (hz : Arr .u64 B w bz oz nz) (hf : Free w bz oz nz)
    (hx : Arr .u64 B w bx ox nx) (hn : nx ≤ nz) (hap : 0 < nx → bz ≠ bx ∨ ox + nx ≤ oz ∨ oz + nz ≤ ox) (hmz : nz ≤ maxLen) :
    Calls Tryz.prog 142 #[.slice az nz cz, .slice ax nx cx] w fun e w' => e = .returned (.tuple #[]) ∧ Chg w w' bz oz (oz + nz) ∧ Arr .u64 B w' bz oz nz ∧
      ∃ c, c ≤ 1 ∧ num B w' bz oz nz + B ^ nz * c = num B w bz oz nz + num B w bx ox nx := by
  unfold maxLen at hmz
  go_enter Tryz.func142, Tryz.ntmps142
  go_wp2
  go_loopw [4, 10] (fun c i wr => ∃ k cc : Nat, k ≤ nx ∧ cc ≤ 1 ∧ i = .int .i64 k ∧ c = .int .u64 cc ∧ Chg w wr bz oz (oz + k) ∧ Arr .u64 B wr bz oz nz ∧
      num B wr bz oz k + B ^ k * cc = num B w bz oz k + num B w bx ox k)
    (fun _ i _ => nx - (intOf i).toNat)
  case atStart => exact ⟨0, 0, by omega, by omega, rfl, rfl, Chg.refl _ _ _ _, hz, by simp [num_zero]⟩
  case round =>
    obtain ⟨k, cc, hk, hcc, rfl, rfl, hch, har, hnum⟩ := hrel
    by_cases hlt : k < nx
    · obtain rfl := hsz (by omega)
      obtain rfl := hsx (by omega)
      have hzk := arr_cell har (i := k) (by omega)
      have exk : wr.cell? ⟨bx, ox + k, none⟩ = w.cell? ⟨bx, ox + k, none⟩ := hch.cellAt (hx.lt (by omega)) (by have := hap (by omega); omega)
      have hxk : wr.cell? ⟨bx, ox + k, none⟩ = some (.int .u64 ((word w bx (ox + k) : Nat) : Int)) := exk.trans (arr_cell hx hlt)
      have hfk : wr.frozen? ⟨bz, oz + k, none⟩ = false := (hch.free hf hz.lt) k (by omega)
      have ezk : word wr bz (oz + k) = word w bz (oz + k) := word_of_cell (hch.cell _ (by omega))
      have h1 := add64 (word wr bz (oz + k)) (word w bx (ox + k)) cc wr hcc
      have hlt1 := arr_lt har (i := k) (by omega)
      have hlt2 := arr_lt hx hlt
      have hstep := add_step (d := word w bz (oz + k)) (e := word w bx (ox + k)) hnum
      have H : Hid (num B wr bz oz k + B ^ k * lo (word wr bz (oz + k) + word w bx (ox + k) + cc) + B ^ (k + 1) * hi (word wr bz (oz + k) + word w bx (ox + k) + cc) =
        num B w bz oz (k + 1) + num B w bx ox (k + 1)) := by rw [num_succ, num_succ, ezk]; exact hstep
      clear hnum hstep ezk exk
      go_wp2
      go_roundw
      case rel =>
        exact ⟨k + 1, _, by omega, hi_le_one hlt1 hlt2 hcc, by go_num, rfl, (hch.mono (Nat.le_refl _) (by omega)).set (by omega) (by omega) _, har.set (lo_lt _), by rw [num_store har (by omega)]; exact H.out⟩
      case measure => simp [intOf]; omega
    · have hkn : k = nx := by omega
      subst hkn
      go_wp2
      go_loopw [4, 7] (fun c i wr => ∃ m cc : Nat, k ≤ m ∧ m ≤ nz ∧ cc ≤ 1 ∧ i = .int .i64 m ∧ c = .int .u64 cc ∧ Chg w wr bz oz (oz + m) ∧ Arr .u64 B wr bz oz nz ∧
          num B wr bz oz m + B ^ m * cc = num B w bz oz m + num B w bx ox k)
        (fun _ i _ => nz - (intOf i).toNat)
      case atStart => exact ⟨k, cc, by omega, by omega, hcc, rfl, rfl, hch, har, hnum⟩
      case round =>
        clear hch har hnum hcc hlt
        obtain ⟨m, c2, hkm, hmn, hcc, rfl, rfl, hch, har, hnum⟩ := hrel
        by_cases hgo : c2 ≠ 0 ∧ m < nz
        · obtain ⟨hc0, hm⟩ := hgo
          obtain rfl := hsz (by omega)
          have hzk := arr_cell har (i := m) (by omega)
          have hfk : wr.frozen? ⟨bz, oz + m, none⟩ = false := (hch.free hf hz.lt) m (by omega)
          have ezk : word wr bz (oz + m) = word w bz (oz + m) := word_of_cell (hch.cell _ (by omega))
          have h1 := add64_y (word wr bz (oz + m)) c2 wr hcc
          have hlt1 := arr_lt har (i := m) (by omega)
          have hstep := add_step (d := word w bz (oz + m)) (e := 0) hnum
          have H0 : num B wr bz oz m + B ^ m * lo (word wr bz (oz + m) + c2) + B ^ (m + 1) * hi (word wr bz (oz + m) + c2) =
            num B w bz oz (m + 1) + num B w bx ox k := by rw [num_succ, ezk]; simpa using hstep
          have H : Hid _ := H0
          have hc0' : ¬ ((c2 : Nat) : Int) = 0 := by omega
          clear hnum hstep ezk H0 hc0
          go_wp2
          go_roundw
          case rel =>
            exact ⟨m + 1, _, by omega, by omega, by have := hi_le_one (y := 0) hlt1 B_pos hcc; simpa using this, by go_num, rfl, (hch.mono (Nat.le_refl _) (by omega)).set (by omega) (by omega) _, har.set (lo_lt _),
              by rw [num_store har (by omega)]; exact H.out⟩
          case measure => simp [intOf]; omega
        · have hfin : ∃ c, c ≤ 1 ∧ num B wr bz oz nz + B ^ nz * c = num B w bz oz nz + num B w bx ox k := by
            by_cases hm : m = nz
            · subst hm; exact ⟨c2, hcc, hnum⟩
            · have hc : c2 = 0 := by omega
              subst hc
              refine ⟨0, by omega, ?_⟩
              obtain ⟨d, rfl⟩ := Nat.exists_eq_add_of_le hmn
              rw [num_add, num_add, num_congr (w' := wr) (w := w) (o' := oz + m) (o := oz + m) (n := d) (fun i hi => word_of_cell (hch.cell _ (by omega)))]
              omega
          have hpost : Chg w wr bz oz (oz + nz) := hch.mono (Nat.le_refl _) (by omega)
          have Hf : Hid _ := hfin
          clear hfin hnum hch
          by_cases hm : m < nz
          · have hc : c2 = 0 := by omega
            subst hc
            clear hgo
            go_wp2
            go_end0
            exact ⟨rfl, hpost, har, Hf.out⟩
          · clear hgo
            go_wp2
            all_goals
              go_end0
              exact ⟨rfl, hpost, har, Hf.out⟩
end Go.Proofs.YtjlkplidpdhgbaaGreatDoor

namespace Go.Proofs.YtjlkplidpdhgbaaGreatDoor
open Go Go.Proofs Go.RowKit Go.Rad

/-- One word of a product that is added: nothing runs over. -/
theorem mul_word {z x d c : Nat} (hz : z < B) (hx : x < B) (hd : d < B) (hc : c < B) :
    hi (lo (x * d + z) + c) ≤ 1 ∧ lo (hi (x * d + z) + hi (lo (x * d + z) + c)) < B ∧
    lo (lo (x * d + z) + c) + B * lo (hi (x * d + z) + hi (lo (x * d + z) + c)) = z + x * d + c := by
  have h1 : x * d ≤ (B - 1) * (B - 1) := Nat.mul_le_mul (by omega) (by omega)
  have h2 : (B - 1) * (B - 1) + B + B ≤ B * B + 1 := by decide
  have h3 : x * d + z + c < B * B := by omega
  have h4 := hi_lt h3
  refine ⟨?_, lo_lt _, ?_⟩ <;> (unfold lo hi B at *; generalize x * d = p at *; omega)
theorem mul_step {k z x d c r e f y u : Nat} (h : r + B ^ k * c = z + x * d) (hw : e + B * f = y + u * d + c) :
    r + B ^ k * e + B ^ (k + 1) * f = (z + B ^ k * y) + (x + B ^ k * u) * d := by
  have h2 : B ^ (k + 1) * f = B ^ k * (B * f) := by rw [Nat.pow_succ, Nat.mul_assoc]
  have h3 : B ^ k * (e + B * f) = B ^ k * (y + u * d + c) := by rw [hw]
  rw [Nat.mul_add, Nat.mul_add, Nat.mul_add] at h3
  have h4 : (x + B ^ k * u) * d = x * d + B ^ k * (u * d) := by rw [Nat.add_mul, Nat.mul_assoc]
  rw [h2, h4]
  omega

set_option maxRecDepth 10000 in
set_option maxHeartbeats 1000000 in
theorem addProduct_any (w : World) (az ax : Option Addr) (bz oz nz cz bx ox nx cx d : Nat) (hsz : Sl az bz oz nz) (hsx : Sl ax bx ox nx) (hz : Arr .u64 B w bz oz nz) (hf : Free w bz oz nz)
    (hx : Arr .u64 B w bx ox nx) (hn : nx ≤ nz) (hcz : nz ≤ cz) (hap : 0 < nx → bz ≠ bx ∨ ox + nx ≤ oz ∨ oz + nz ≤ ox) (hmz : nz ≤ maxLen) (hd : d < B) :
    Calls Tryz.prog 115 #[.slice az nz cz, .slice ax nx cx, .int .u64 d] w fun e w' => ∃ c : Nat, e = .returned (.int .u64 c) ∧ Chg w w' bz oz (oz + nx) ∧ Arr .u64 B w' bz oz nz ∧
      c < B ∧ num B w' bz oz nx + B ^ nx * c = num B w bz oz nx + num B w bx ox nx * d := by
  unfold maxLen at hmz
  go_enter Tryz.func115, Tryz.ntmps115
  go_wp2
  go_loopw [7, 19] (fun c i wr => ∃ k cc : Nat, k ≤ nx ∧ cc < B ∧ i = .int .i64 k ∧ c = .int .u64 cc ∧ Chg w wr bz oz (oz + k) ∧ Arr .u64 B wr bz oz nz ∧
      num B wr bz oz k + B ^ k * cc = num B w bz oz k + num B w bx ox k * d)
    (fun _ i _ => nx - (intOf i).toNat)
  case atStart => exact ⟨0, 0, by omega, B_pos, rfl, rfl, Chg.refl _ _ _ _, hz, by simp [num_zero]⟩
  case round =>
    obtain ⟨k, cc, hk, hcc, rfl, rfl, hch, har, hnum⟩ := hrel
    by_cases hlt : k < nx
    · obtain rfl := hsz (by omega)
      obtain rfl := hsx (by omega)
      have hzk := arr_cell har (i := k) (by omega)
      have exk : wr.cell? ⟨bx, ox + k, none⟩ = w.cell? ⟨bx, ox + k, none⟩ := hch.cellAt (hx.lt (by omega)) (by have := hap (by omega); omega)
      have hxk : wr.cell? ⟨bx, ox + k, none⟩ = some (.int .u64 ((word w bx (ox + k) : Nat) : Int)) := exk.trans (arr_cell hx hlt)
      have hfk : wr.frozen? ⟨bz, oz + k, none⟩ = false := (hch.free hf hz.lt) k (by omega)
      have ezk : word wr bz (oz + k) = word w bz (oz + k) := word_of_cell (hch.cell _ (by omega))
      have hlt1 := arr_lt har (i := k) (by omega)
      have hlt2 := arr_lt hx hlt
      obtain ⟨m1, m2, m3⟩ := mul_word hlt1 hlt2 hd hcc
      have h1 := add64_c (lo (word w bx (ox + k) * d + word wr bz (oz + k))) cc
      have h2 := add64_y (hi (word w bx (ox + k) * d + word wr bz (oz + k))) _ (wr.setCell ⟨bz, oz + k, none⟩ (.int .u64 (lo (lo (word w bx (ox + k) * d + word wr bz (oz + k)) + cc) : Nat))) m1
      have hstep := mul_step hnum (ezk ▸ m3)
      have H0 : num B wr bz oz k + B ^ k * lo (lo (word w bx (ox + k) * d + word wr bz (oz + k)) + cc) +
          B ^ (k + 1) * lo (hi (word w bx (ox + k) * d + word wr bz (oz + k)) + hi (lo (word w bx (ox + k) * d + word wr bz (oz + k)) + cc)) =
        num B w bz oz (k + 1) + num B w bx ox (k + 1) * d := by rw [num_succ, num_succ, ezk]; exact hstep
      have H : Hid _ := H0
      have M2 : Hid _ := m2
      clear hnum hstep exk H0 m3 m1 m2 ezk
      go_wp2_with (go_at_call 104; refine (mulAdd_any _ _ _ hlt2 hd hlt1 _).mono ?_; rintro e w' ⟨rfl, hw⟩; subst hw)
      go_roundw
      case rel =>
        exact ⟨k + 1, _, by omega, M2.out, by go_num, rfl, (hch.mono (Nat.le_refl _) (by omega)).set (by omega) (by omega) _, har.set (lo_lt _), by rw [num_store har (by omega)]; exact H.out⟩
      case measure => simp [intOf]; omega
    · have hkn : k = nx := by omega
      subst hkn
      go_wp2
      go_ret
      exact ⟨_, rfl, hch, har, hcc, hnum⟩
end Go.Proofs.YtjlkplidpdhgbaaGreatDoor
