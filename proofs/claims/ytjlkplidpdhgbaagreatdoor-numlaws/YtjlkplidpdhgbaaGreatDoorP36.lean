/- A part of the proof: Row, W36, W37, W38, V1, V2. -/
import Derived.Test.YtjlkplidpdhgbaaGreatDoorP00
import Derived.Test.YtjlkplidpdhgbaaGreatDoorP01
import Derived.Deep.AppendLies
import Derived.Test.YtjlkplidpdhgbaaGreatDoorP35
import Derived.Test.YtjlkplidpdhgbaaGreatDoorP07
import Derived.WalkSpells
import Derived.Deep.QuietTactic
import Derived.BigQuiet
import Derived.Test.YtjlkplidpdhgbaaGreatDoorP09
import Derived.Test.YtjlkplidpdhgbaaGreatDoorShelf
import Derived.Lib.ConvBytes
set_option linter.all false

/- Rows of numbers that a call makes by append: lists of numbers. No program. -/
namespace Go.Rad
open Go Go.RowKit

/-- The number that places make, the lowest first. -/
def lv (β : Nat) : List Nat → Nat
  | [] => 0
  | x :: r => x + β * lv β r
theorem lv_append (β : Nat) (xs ys : List Nat) : lv β (xs ++ ys) = lv β xs + β ^ xs.length * lv β ys := by
  induction xs with
  | nil => simp [lv]
  | cons x r ih => simp only [List.cons_append, lv, ih, List.length_cons, Nat.pow_succ, Nat.mul_add]; rw [Nat.mul_comm (β ^ r.length) β, Nat.mul_assoc]; omega
theorem lv_snoc (β : Nat) (xs : List Nat) (x : Nat) : lv β (xs ++ [x]) = lv β xs + β ^ xs.length * x := by rw [lv_append]; simp [lv]
theorem lv_lt {β : Nat} (hβ : 0 < β) : ∀ {xs : List Nat}, (∀ x ∈ xs, x < β) → lv β xs < β ^ xs.length
  | [], _ => by simp [lv]
  | x :: r, h => by
    have h1 := lv_lt hβ (xs := r) (fun y hy => h y (List.mem_cons_of_mem _ hy))
    have h2 := h x List.mem_cons_self
    have h3 := Nat.mul_le_mul_left β h1
    simp only [lv, List.length_cons, Nat.pow_succ]
    rw [Nat.mul_comm (β ^ r.length) β]
    rw [Nat.mul_succ] at h3
    omega

/-- A row of the call's own that holds these numbers (v nil where there are none; or a slice of its own). -/
def RowN (k : IntKind) (e : TypeId) (w : World) (base : Nat) (v : Value) (xs : List Nat) : Prop :=
  w.ownsRow base e 1 v xs.length (xs.map fun (x : Nat) => Value.int k (x : Int))
theorem RowN.hid {k : IntKind} {e : TypeId} {w : World} {base : Nat} {v : Value} {xs : List Nat} (h : RowN k e w base v xs) : Hid (RowN k e w base v xs) := h
theorem RowN.nil (k : IntKind) (e : TypeId) (w : World) (base : Nat) : RowN k e w base (.slice none 0 0) [] := World.ownsRow_nil _ _ _ _
theorem RowN.form {k : IntKind} {e : TypeId} {w : World} {base : Nat} {v : Value} {xs : List Nat} (h : RowN k e w base v xs) :
    ∃ ao c, v = .slice ao xs.length c ∧ xs.length ≤ c ∧ c ≤ maxLen ∧ ((ao = none ∧ xs.length = 0 ∧ c = 0) ∨ ∃ b, ao = some ⟨b, 0, none⟩ ∧ base ≤ b ∧ b < w.heap.size) := by
  rcases h.2 with ⟨hv, h0⟩ | ⟨g, cap, cur, hv, hb, hg, hc, hm, _⟩
  · exact ⟨none, 0, by rw [hv, h0], by omega, by unfold maxLen; omega, .inl ⟨rfl, h0, rfl⟩⟩
  · exact ⟨_, cap, hv, hc, hm, .inr ⟨g, rfl, hb, (Array.getElem?_eq_some_iff.1 hg).1⟩⟩
theorem RowN.cell {k : IntKind} {e : TypeId} {w : World} {base b n c : Nat} {xs : List Nat} (h : RowN k e w base (.slice (some ⟨b, 0, none⟩) n c) xs) {i : Nat} (hi : i < xs.length) :
    w.cell? ⟨b, i, none⟩ = some (.int k ((xs[i] : Nat) : Int)) := by
  obtain ⟨_, _, he, _⟩ := h.form
  obtain ⟨_, rfl, _⟩ := Value.slice.inj he
  rw [World.ownsRow.cellAt h i (by omega)]
  simp [hi]
theorem RowN.free {k : IntKind} {e : TypeId} {w : World} {base b n c : Nat} {xs : List Nat} (h : RowN k e w base (.slice (some ⟨b, 0, none⟩) n c) xs) (i : Nat) : w.frozen? ⟨b, i, none⟩ = false := by
  obtain ⟨_, _, he, _⟩ := h.form
  obtain ⟨_, rfl, _⟩ := Value.slice.inj he
  exact World.ownsRow.frozenAt h i
/-- Nothing below a number that lies above the row is turned: the row stays. -/
theorem RowN.keep {k : IntKind} {e : TypeId} {w w' : World} {base B : Nat} {v : Value} {xs : List Nat} (h : RowN k e w base v xs) (hb : Below B w w') (hB : ∀ b, v.ownBlock = some b → b < B) : RowN k e w' base v xs := by
  refine ⟨h.1, ?_⟩
  rcases h.2 with h0 | ⟨g, cap, cur, hv, hg0, hg, rest⟩
  · exact .inl h0
  · exact .inr ⟨g, cap, cur, hv, hg0, (hb.block g (hB g (by rw [hv]; rfl))).trans hg, rest⟩
theorem RowN.own_lt {k : IntKind} {e : TypeId} {w : World} {base : Nat} {v : Value} {xs : List Nat} (h : RowN k e w base v xs) : ∀ b, v.ownBlock = some b → base ≤ b ∧ b < w.heap.size := World.ownsRow.lt h
theorem RowN.below {k : IntKind} {e : TypeId} {w w' : World} {base : Nat} {v : Value} {xs : List Nat} (h : RowN k e w base v xs) (hb : Below w.heap.size w w') : RowN k e w' base v xs :=
  h.keep hb fun b hv => (h.own_lt b hv).2
theorem RowN.mono {k : IntKind} {e : TypeId} {w : World} {base base' : Nat} {v : Value} {xs : List Nat} (h : RowN k e w base v xs) (hb : base' ≤ base) : RowN k e w base' v xs := by
  refine ⟨h.1, ?_⟩
  rcases h.2 with h0 | ⟨g, cap, cur, hv, hg0, hg, rest⟩
  · exact .inl h0
  · exact .inr ⟨g, cap, cur, hv, by omega, hg, rest⟩
/-- One number written. -/
theorem RowN.set {k : IntKind} {e : TypeId} {w : World} {base b n c : Nat} {xs : List Nat} (h : RowN k e w base (.slice (some ⟨b, 0, none⟩) n c) xs) (i x : Nat) :
    RowN k e (w.setCell ⟨b, i, none⟩ (.int k (x : Int))) base (.slice (some ⟨b, 0, none⟩) n c) (xs.set i x) := by
  obtain ⟨_, _, he, _⟩ := h.form
  obtain ⟨_, rfl, _⟩ := Value.slice.inj he
  have h1 := (World.ownsRow.stored h i (.int k (x : Int))).1
  unfold RowN
  rw [List.length_set, List.map_set]
  exact h1
/-- As a row that is read. -/
theorem RowN.arr {k : IntKind} {e : TypeId} {w : World} {base β : Nat} {v : Value} {xs : List Nat} (h : RowN k e w base v xs) (hx : ∀ x ∈ xs, x < β) :
    ∃ ao b c, v = .slice ao xs.length c ∧ Sl ao b 0 xs.length ∧ xs.length ≤ c ∧ c ≤ maxLen ∧ Arr k β w b 0 xs.length ∧ num β w b 0 xs.length = lv β xs ∧ Free w b 0 xs.length ∧ (0 < xs.length → base ≤ b) ∧ (∀ i (hi : i < xs.length), word w b i = xs[i]) := by
  obtain ⟨ao, c, hv, hc, hm, ha⟩ := h.form
  rcases ha with ⟨rfl, h0, rfl⟩ | ⟨b, rfl, hb, hlt⟩
  · have : xs = [] := List.eq_nil_of_length_eq_zero h0
    subst this
    exact ⟨none, 0, 0, hv, fun h => by simp at h, Nat.le_refl _, hm, fun i hi => by simp at hi, rfl, fun i hi => by simp at hi, fun h => by simp at h, fun i hi => by simp at hi⟩
  · subst hv
    have hw : ∀ i (hi : i < xs.length), word w b i = xs[i] := fun i hi => word_eq (h.cell hi)
    have hA : Arr k β w b 0 xs.length := fun i hi => by
      rw [Nat.zero_add, hw i hi]; exact ⟨h.cell hi, hx _ (List.getElem_mem hi)⟩
    refine ⟨_, b, c, rfl, Sl.mk _ _ _, hc, hm, hA, ?_, fun i _ => h.free _, fun _ => hb, hw⟩
    have key : ∀ n, n ≤ xs.length → num β w b 0 n = lv β (xs.take n) := by
      intro n
      induction n with
      | zero => intro _; rfl
      | succ n ih =>
        intro hn
        rw [num_succ, ih (by omega), List.take_succ_eq_append_getElem (by omega), lv_snoc, List.length_take, Nat.min_eq_left (by omega), Nat.zero_add, hw n (by omega)]
    rw [key _ (Nat.le_refl _), List.take_length]

/-- append of one number. -/
theorem wpList_appendN {P : Program} {w : World} {ops : Array Oper} {rest : List Oper} {o : Oper} {a : Act} {Q : Exit → Act → World → Prop} (k : IntKind) (e : TypeId) (hgd : o.guard = none) (s x : Operand) (t : TypeId)
    (ho : o.op = .call { callee := .builtin .append, args := #[s, x], argTypes := #[t, t] })
    (ht : P.underlying t = some (.slice e)) (bytes : Nat) (hi : (P.info? e).map (fun i => (i.zero, i.size, i.bytes)) = some (some (.int k 0), 1, bytes)) (hb1 : bytes ≤ 8)
    (base : Nat) (v : Value) (xs : List Nat) (hs : a.eval s = v) (hown : RowN k e w base v xs) (g7 m7 y : Nat) (hx : a.eval x = .slice (some ⟨g7, 0, none⟩) 1 m7) (hc : w.cell? ⟨g7, 0, none⟩ = some (.int k (y : Int)))
    (hlen : xs.length ≤ 1099511627776) (hbase : base ≤ w.heap.size)
    (h : ∀ v' w', RowN k e w' base v' (xs ++ [y]) → Below base w w' → (∀ b, v'.ownBlock = some b → v.ownBlock = some b ∨ b = w.heap.size) → w.grownBy w' v.ownBlock → wpList P ops Q rest (a.put o.dst v') w') : wpList P ops Q (o :: rest) a w := by
  obtain ⟨i, hi0, hi1⟩ := Option.map_eq_some_iff.1 hi
  simp only [Prod.mk.injEq] at hi1
  obtain ⟨z0, z1, z2⟩ := hi1
  have hown' : w.ownsRow base e 1 v xs.length (xs.map fun (x : Nat) => Value.int k (x : Int)) := hown
  refine wpList_append_lies w hgd s x t ho base e i (.int k 0) 1 bytes ht hi0 z0 z1 z2 rfl (by omega) v xs.length _ hs hown' ⟨g7, 0, none⟩ 1 m7 [.int k (y : Int)] hx rfl ?_ ?_ (by omega) (by unfold maxLen; omega) ?_ hbase w.heap.size rfl ?_
  · intro j u hj
    match j, hj with
    | 0, hj =>
      have hju : Value.int k (y : Int) = u := Option.some.inj hj
      rw [← hju]; exact hc
  · intro u hu; simp at hu; subst hu; rfl
  · calc (xs.length + 1) * bytes ≤ (xs.length + 1) * 8 := Nat.mul_le_mul_left _ hb1
      _ ≤ 140737488355328 := by omega
  · intro g cap w' hrow hgr hor hlt
    refine h _ w' (by unfold RowN; rw [List.length_append, List.map_append]; exact hrow) ?_ (fun b hb => ?_) hgr
    · exact (Below.refl _ _).grown hgr hbase fun b hb => (hown.own_lt b hb).1
    · have : g = b := Option.some.inj hb
      subst this; exact hor

/-- make([]T, 0, c). -/
theorem wpList_makeCapN {P : Program} {w : World} {ops : Array Oper} {rest : List Oper} {o : Oper} {a : Act} {Q : Exit → Act → World → Prop} (k : IntKind) (e : TypeId)
    (hg : o.guard = none) (l c : Operand) (t : TypeId) (hop : o.op = Op.makeSlice t l c) (ht : P.underlying t = some (.slice e)) (bytes : Nat)
    (hi : (P.info? e).map (fun i => (i.zero, i.size, i.bytes)) = some (some (.int k 0), 1, bytes)) (hb1 : bytes ≤ 8) (kl kc : IntKind) (C : Int) (n : Nat) (hl : a.eval l = .int kl 0) (hc : a.eval c = .int kc C) (hC : C = (n : Int)) (hn : n ≤ 1099511627776) (base : Nat) (hbase : base ≤ w.heap.size)
    (hK : ∀ w', RowN k e w' base (.slice (some ⟨w.heap.size, 0, none⟩) 0 n) [] → Below w.heap.size w w' → wpList P ops Q rest (a.put o.dst (.slice (some ⟨w.heap.size, 0, none⟩) 0 n)) w') :
    wpList P ops Q (o :: rest) a w := by
  obtain ⟨i, hi0, hi1⟩ := Option.map_eq_some_iff.1 hi
  simp only [Prod.mk.injEq] at hi1
  obtain ⟨z0, z1, z2⟩ := hi1
  subst hC
  refine wpList_plain hg fun K hK' => ?_
  have hbn : i.bytes * n ≤ 8 * n := Nat.mul_le_mul_right _ (by omega)
  have hrun := run_make (P := P) w t e i (.int k 0) ht hi0 z0 kl kc 0 n (by omega) (by omega) (by rw [← Int.natCast_mul]; exact (show ((i.bytes * n : Nat) : Int) ≤ 281474976710656 by omega)) (by omega)
  unfold Oper.wp
  simp [execOp, hop, hl, hc, hrun, Result.andThen]
  refine hK' _ _ (hK _ ?_ ((Below.refl _ _).alloc (Nat.le_refl _) _))
  exact World.ownsRow_made w _ n hbase (by unfold maxLen; omega) (by simp [madeCells, z1])
end Go.Rad

namespace Go.Proofs.YtjlkplidpdhgbaaGreatDoor
open Go Go.Proofs Go.RowKit Go.Rad

theorem ba_empty {s : ByteArray} (h : s.size = 0) : s.toList.isEmpty = true := by
  rw [ByteArray.toList_eq, List.isEmpty_iff]
  exact List.eq_nil_of_length_eq_zero (by simpa using h)
theorem ba_full {s : ByteArray} (h : 0 < s.size) : s.toList.isEmpty = false := by
  rw [ByteArray.toList_eq, ← Bool.not_eq_true, List.isEmpty_iff]
  intro h2
  have h3 : s.data.toList.length = 0 := by rw [h2]; rfl
  have h4 : s.data.toList.length = s.size := by simp
  omega
theorem ba_head {s : ByteArray} (h : 0 < s.size) : s.data.toList.head? = some s[0] := by
  have h2 : 0 < s.data.toList.length := by simpa using h
  rw [List.head?_eq_getElem?, List.getElem?_eq_getElem h2]
  rfl
theorem u8_ne {b : UInt8} {n : Nat} (hn : n < 256) (h : ¬ b = UInt8.ofNat n) : ¬ (b.toNat : Int) = (n : Int) := by
  intro h2
  apply h
  apply UInt8.toNat_inj.1
  simp
  omega
/-- The length of the longest beginning that is digits of which the first is not 0. -/
def dl (l : List UInt8) : Nat := if l.head? = some 48 then 0 else _root_.Rad.runD l
set_option maxRecDepth 10000 in
set_option maxHeartbeats 1000000 in
theorem digitsLen_any (w : World) (s : ByteArray) (hs : s.size ≤ 9223372036854775806) :
    Calls Tryz.prog 96 #[.string s] w fun e w' => e = .returned (.int .i64 (dl s.data.toList : Nat)) ∧ w' = w := by
  have hlen : s.data.toList.length = s.size := by simp
  obtain ⟨r, hr⟩ : ∃ r, dl s.data.toList = r := ⟨_, rfl⟩
  rw [hr]
  by_cases h0 : s.size = 0
  · have e1 := ba_empty h0
    have : s.data.toList = [] := List.eq_nil_of_length_eq_zero (by omega)
    rw [this] at hr
    obtain rfl : r = 0 := hr.symm
    clear hr hlen this
    go_enter Tryz.func96, Tryz.ntmps96
    go_wp2
    have e2 : (s.size : Int) = 0 := by omega
    go_loop [13] (fun i => i = .int .i64 0) (fun i => 0)
    case atStart => rfl
    case round =>
      obtain rfl := hrel
      go_wp2
      go_ret
      exact ⟨rfl, rfl⟩
  · have e2 : 0 < s.size := by omega
    have e1 := ba_full e2
    have eh := ba_head e2
    by_cases h1 : s[0] = 48
    · have e3 : (s[0].toNat : Int) = 48 := by rw [h1]; rfl
      have : r = 0 := by rw [← hr]; unfold dl; rw [eh, h1]; rfl
      subst this
      clear hr hlen eh
      go_enter Tryz.func96, Tryz.ntmps96
      go_wp2
      go_ret
      exact ⟨rfl, rfl⟩
    · have e3 : ¬ (s[0].toNat : Int) = 48 := u8_ne (n := 48) (by decide) h1
      have hR : r = _root_.Rad.runD s.data.toList := by rw [← hr]; unfold dl; rw [eh, if_neg]; intro h; exact h1 (Option.some.inj h)
      have hle : r ≤ s.size := by rw [hR, ← hlen]; exact _root_.Rad.runD_le _
      have hdg : Hid (∀ i (h : i < s.size), i < r → 48 ≤ (s[i].toNat : Int) ∧ (s[i].toNat : Int) ≤ 57) := fun i h hi => by
        have := _root_.Rad.runD_at (l := s.data.toList) (i := i) (by omega) (by omega)
        unfold _root_.Rad.IsDg at this
        have e : s.data.toList[i]'(by omega) = s[i] := rfl
        rw [e] at this
        omega
      have hst : Hid (∀ (h : r < s.size), ((s[r].toNat : Int) < 48 ∨ 57 < (s[r].toNat : Int))) := fun h => by
        have := _root_.Rad.runD_stop (l := s.data.toList) (by omega)
        unfold _root_.Rad.IsDg at this
        have e : s.data.toList[_root_.Rad.runD s.data.toList]'(by omega) = s[r] := by subst hR; rfl
        rw [e] at this
        omega
      clear hR hr hlen eh
      go_enter Tryz.func96, Tryz.ntmps96
      go_wp2
      go_loop [13] (fun i => ∃ i' : Nat, i' ≤ r ∧ i = .int .i64 (i' : Int)) (fun i => s.size - (intOf i).toNat)
      case atStart => exact ⟨0, by omega, rfl⟩
      case round =>
        obtain ⟨i, hi, rfl⟩ := hrel
        by_cases hie : i = r
        · subst hie
          by_cases his : i = s.size
          · have c1 : ¬ (i : Int) < (s.size : Int) := by omega
            go_wp2
            go_ret
            exact ⟨rfl, rfl⟩
          · have c1 : (i : Int) < (s.size : Int) := by omega
            have c2 : i < s.size := by omega
            rcases hst.out c2 with h | h
            · go_wp2
              go_ret
              exact ⟨rfl, rfl⟩
            · have h' : ¬ (s[i].toNat : Int) < 48 := by omega
              go_wp2
              go_ret
              exact ⟨rfl, rfl⟩
        · have c1 : (i : Int) < (s.size : Int) := by omega
          have c2 : i < s.size := by omega
          obtain ⟨h1, h2⟩ := hdg.out i c2 (by omega)
          have h1' : ¬ (s[i].toNat : Int) < 48 := by omega
          have h2' : ¬ 57 < (s[i].toNat : Int) := by omega
          go_wp2
          exact ⟨⟨i + 1, by omega, by go_num⟩, by simp [intOf]; omega⟩
end Go.Proofs.YtjlkplidpdhgbaaGreatDoor

namespace Go.Proofs.YtjlkplidpdhgbaaGreatDoor
open Go Go.Proofs Go.RowKit Go.Rad

theorem ba_drop (s : ByteArray) (k : Nat) : (s.extract k s.size).data.toList = s.data.toList.drop k := by
  rw [ByteArray.data_extract, Array.toList_extract, List.extract_eq_take_drop, List.take_of_length_le]
  simp
theorem ba_take (s : ByteArray) (k : Nat) : (s.extract 0 k).data.toList = s.data.toList.take k := by
  rw [ByteArray.data_extract, Array.toList_extract, List.extract_eq_take_drop]
  simp
theorem ba_size (s : ByteArray) : s.data.toList.length = s.size := by simp
theorem ba_all (s : ByteArray) : s.extract 0 s.size = s := by simp
theorem dl_le (l : List UInt8) : dl l ≤ l.length := by
  unfold dl; have := _root_.Rad.runD_le l; split <;> omega
theorem wlen_nil : _root_.Rad.wlen [] = 0 := rfl
theorem ba_cons {s : ByteArray} (h : 0 < s.size) : s.data.toList = s[0] :: s.data.toList.drop 1 := by
  have := ba_head h
  cases hl : s.data.toList with
  | nil => rw [hl] at this; simp at this
  | cons a t => rw [hl] at this; simp at this; simp [this]
set_option maxRecDepth 10000 in
set_option maxHeartbeats 1000000 in
theorem numberLen_any (w : World) (s : ByteArray) (hs : s.size ≤ 9223372036854775806) (r : Nat) (hr : _root_.Rad.wlen s.data.toList = r) :
    Calls Tryz.prog 62 #[.string s] w fun e w' => e = .returned (.int .i64 (r : Nat)) ∧ w' = w := by
  have hlen : s.data.toList.length = s.size := ba_size s
  by_cases h0 : s.size = 0
  · have e1 := ba_empty h0
    have hnil : s.data.toList = [] := List.eq_nil_of_length_eq_zero (by omega)
    rw [hnil] at hr
    obtain rfl : r = 0 := hr.symm
    have es : s.extract 0 s.size = s := ba_all s
    have CL := digitsLen_any w s hs
    rw [hnil, show dl [] = 0 from rfl] at CL
    have eE : s = ByteArray.empty := by
      apply ByteArray.ext
      apply Array.toList_inj.1
      rw [hnil]; rfl
    clear hr hlen hnil es
    subst eE
    go_enter Tryz.func62, Tryz.ntmps62
    go_wp2_with (go_at_call 96; refine CL.mono ?_; rintro e w' ⟨rfl, hw⟩; subst hw)
    go_ret
    exact ⟨rfl, rfl⟩
  · have e2 : 0 < s.size := by omega
    have e1 := ba_full e2
    have ec := ba_cons e2
    by_cases h1 : s[0] = 45
    · have e3 : (s[0].toNat : Int) = 45 := by rw [h1]; rfl
      obtain ⟨q, hq⟩ : ∃ q, dl (s.data.toList.drop 1) = q := ⟨_, rfl⟩
      have CL := digitsLen_any w (s.extract 1 s.size) (by simp; omega)
      rw [ba_drop, hq] at CL
      have hrq : r = 1 + q := by
        rw [← hr, ec, h1, _root_.Rad.wlen_neg, ← hq]; rfl
      have hqle : q ≤ s.size := by rw [← hq, ← hlen]; refine Nat.le_trans (dl_le _) ?_; simp
      subst hrq
      have ew : IntKind.i64.wrap (1 + (q : Int)) = ((1 + q : Nat) : Int) := by rw [IntKind.wrap_i64]; omega
      clear hr hq hlen ec
      go_enter Tryz.func62, Tryz.ntmps62
      go_wp2_with (go_at_call 96; refine CL.mono ?_; rintro e w' ⟨rfl, hw⟩; subst hw)
      go_ret
      exact ⟨by go_num, rfl⟩
    · have e3 : ¬ (s[0].toNat : Int) = 45 := u8_ne (n := 45) (by decide) h1
      by_cases h2 : s[0] = 48
      · have e4 : (s[0].toNat : Int) = 48 := by rw [h2]; rfl
        obtain rfl : r = 1 := by rw [← hr, ec, h2, _root_.Rad.wlen_zero]
        clear hr hlen ec
        go_enter Tryz.func62, Tryz.ntmps62
        go_wp2
        go_ret
        exact ⟨rfl, rfl⟩
      · have e4 : ¬ (s[0].toNat : Int) = 48 := u8_ne (n := 48) (by decide) h2
        have CL := digitsLen_any w (s.extract 0 s.size) (by rw [ba_all]; exact hs)
        have hrq : dl s.data.toList = r := by
          rw [← hr, ec, _root_.Rad.wlen_pos h1 h2]; unfold dl; rw [if_neg]; simpa using h2
        have hqle : r ≤ s.size := by rw [← hrq, ← hlen]; exact dl_le _
        rw [ba_all, hrq] at CL
        have ea := ba_all s
        have f3 : (((s[0].toNat : Nat) : Int) == 45) = false := by simpa using e3
        have f4 : (((s[0].toNat : Nat) : Int) == 48) = false := by simpa using e4
        have ew : IntKind.i64.wrap ((r : Int)) = (r : Int) := by rw [IntKind.wrap_i64]; omega
        clear hr hlen ec hrq
        go_enter Tryz.func62, Tryz.ntmps62
        go_wp2_with (go_at_call 96; refine CL.mono ?_; rintro e w' ⟨rfl, hw⟩; subst hw)
        go_ret
        exact ⟨by go_num, rfl⟩
end Go.Proofs.YtjlkplidpdhgbaaGreatDoor

namespace Go.Proofs.YtjlkplidpdhgbaaGreatDoor
open Go Go.Proofs Go.RowKit Go.Rad

set_option maxRecDepth 10000 in
set_option maxHeartbeats 1000000 in
theorem withoutSign_any (w : World) (s : ByteArray) (hs : s.size ≤ 9223372036854775806) (h0 : 0 < s.size) :
    Calls Tryz.prog 101 #[.string s] w fun e w' => ∃ (b : Bool) (t : ByteArray), e = .returned (.tuple #[.bool b, .string t]) ∧ t.data.toList = _root_.Rad.digs s.data.toList ∧ (b = true ↔ s.data.toList.head? = some 45) ∧ t.size ≤ s.size ∧ ∃ n, w' = w.drewN n := by
  have e1 := ba_full h0
  have ec := ba_cons h0
  by_cases h1 : s[0] = 45
  · have e3 : (s[0].toNat : Int) = 45 := by rw [h1]; rfl
    go_enter Tryz.func101, Tryz.ntmps101
    go_wp2
    go_quiet (fail)
    go_wp2
    go_ret2
    refine ⟨true, s.extract 1 s.size, rfl, ?_, ?_, by simp, _, rfl⟩
    · rw [ba_drop, ec, h1, _root_.Rad.digs_neg]; rfl
    · rw [ec, h1]; simp
  · have e3 : ¬ (s[0].toNat : Int) = 45 := u8_ne (n := 45) (by decide) h1
    go_enter Tryz.func101, Tryz.ntmps101
    go_wp2
    go_ret2
    refine ⟨false, s, rfl, ?_, ?_, Nat.le_refl _, 0, rfl⟩
    · rw [ec, _root_.Rad.digs_pos h1]
    · rw [ec]; simp [h1]
theorem ends_iff {l : List UInt8} : _root_.Rad.digs l ≠ [] ↔ l ≠ [] ∧ l ≠ [45] := by
  cases l with
  | nil => simp [_root_.Rad.digs]
  | cons b t =>
    by_cases hb : b = 45
    · subst hb; rw [_root_.Rad.digs_neg]; simp
    · rw [_root_.Rad.digs_pos hb]; simp [hb]
set_option maxRecDepth 10000 in
theorem endsInDigit_any (w : World) (s : ByteArray) (r : Bool) (hr : r = true ↔ _root_.Rad.digs s.data.toList ≠ []) :
    Calls Tryz.prog 63 #[.string s] w fun e w' => e = .returned (.bool r) ∧ w' = w := by
  have hq : (!s.toList.isEmpty && !s.toList == [45]) = r := by
    rw [ends_iff, ← ByteArray.toList_eq] at hr
    apply Bool.eq_iff_iff.2
    rw [hr]
    simp
  by_cases h0 : s.toList = []
  · rw [h0] at hq
    have hr' : r = false := by rw [← hq]; rfl
    subst hr'
    clear hq hr
    go_enter Tryz.func63, Tryz.ntmps63
    go_wp2
    go_ret
    exact ⟨rfl, rfl⟩
  · clear hr
    go_enter Tryz.func63, Tryz.ntmps63
    go_wp2
    go_ret
    exact ⟨rfl, rfl⟩
set_option maxRecDepth 10000 in
theorem tooLong_any (w : World) (s : ByteArray) (hs : s.size ≤ 9223372036854775806) (h0 : 0 < s.size) (r : Bool) (hr : r = decide (1000 < (_root_.Rad.digs s.data.toList).length)) :
    Calls Tryz.prog 64 #[.string s] w fun e w' => e = .returned (.bool r) ∧ ∃ n, w' = w.drewN n := by
  have CS := withoutSign_any w s hs h0
  go_enter Tryz.func64, Tryz.ntmps64
  go_wp2_with (go_at_call 101; fail)
  refine CS.mono ?_
  rintro e w' ⟨b, t, rfl, ht, -, htl, n, hw⟩
  have hr' : r = decide (1000 < t.size) := by rw [hr, ← ht, ba_size]
  clear CS hr ht
  subst hw
  rcases Nat.lt_or_ge 1000 t.size with h | h
  · have c1 : (1000 : Int) < (t.size : Int) := by omega
    obtain rfl : r = true := by rw [hr']; simpa using h
    clear hr'
    go_wp2
    go_ret
    exact ⟨rfl, n, rfl⟩
  · have c1 : ¬ (1000 : Int) < (t.size : Int) := by omega
    obtain rfl : r = false := by rw [hr']; simpa using h
    clear hr'
    go_wp2
    go_ret
    refine ⟨?_, n, rfl⟩
    show Ending.returned (.bool (decide ((1000 : Int) < (t.size : Int)))) = _
    rw [decide_eq_false (show ¬ (1000 : Int) < (t.size : Int) by omega)]
end Go.Proofs.YtjlkplidpdhgbaaGreatDoor

namespace Go.Proofs.YtjlkplidpdhgbaaGreatDoor
open Go Go.Proofs Go.RowKit Go.Rad

theorem below_bytes (w : World) (e : TypeId) (s : ByteArray) : Below w.heap.size w (Lib.bytesWorld w e s) :=
  ⟨rfl, rfl, rfl, by rw [Lib.bytesWorld_size]; omega, fun k hk => Lib.bytesWorld_at_old w e s k (by omega)⟩
theorem parseUint_any (w : World) (s : ByteArray) (d : Nat) (h0 : s.data.toList ≠ []) (h : ∀ b ∈ s.data.toList, _root_.Rad.IsDg b) (hl : s.size ≤ 19) (hd : d = _root_.Rad.dval s.data.toList) :
    Calls Tryz.prog 103 #[.string s, .int .i64 10, .int .i64 64] w fun e w' => e = .returned (.tuple #[.int .u64 (d : Nat), .nilIface]) ∧ Below w.heap.size w w' := by
  refine (Tryz.strconv_ParseUint_10_at64_ok s (by omega) d (by rw [hd]; exact _root_.Rad.pu_ok h0 h (by rw [ba_size]; exact hl)) w).mono ?_
  rintro e w' ⟨rfl, hw⟩
  refine ⟨rfl, ?_⟩
  rcases hw with rfl | rfl
  · exact Below.refl _ _
  · exact below_bytes _ _ _
theorem atoi_any (w : World) (s : ByteArray) (z : Int) (h : _root_.Rad.Valid s.data.toList) (hl : (_root_.Rad.digs s.data.toList).length ≤ 18) (hs : s.size ≤ 1001) (hz : z = _root_.Rad.val s.data.toList) :
    Calls Tryz.prog 102 #[.string s] w fun e w' => e = .returned (.tuple #[.int .i64 z, .nilIface]) ∧ Below w.heap.size w w' := by
  refine (Tryz.strconv_Atoi_ok s (by omega) z (by rw [hz]; exact _root_.Rad.atoi_ok h hl) w).mono ?_
  rintro e w' ⟨rfl, hw⟩
  refine ⟨rfl, ?_⟩
  rcases hw with rfl | ⟨t, rfl⟩
  · exact Below.refl _ _
  · exact below_bytes _ _ _
end Go.Proofs.YtjlkplidpdhgbaaGreatDoor

namespace Go.Proofs.YtjlkplidpdhgbaaGreatDoor
open Go Go.Proofs Go.RowKit Go.Rad

theorem below_drewN (B : Nat) (w : World) (n : Nat) : Below B w (w.drewN n) := ⟨rfl, rfl, rfl, Nat.le_refl _, fun _ _ => rfl⟩
/-- A result of type Int that has its variable in block b, not yet written. -/
structure Res (w w1 : World) (b : Nat) : Prop where
  below : Below w.heap.size w w1
  ge : w.heap.size ≤ b
  lt : b < w1.heap.size
  c0 : w1.cell? ⟨b, 0, none⟩ = some (.int .i64 0)
  c1 : w1.cell? ⟨b, 1, none⟩ = some (.slice none 0 0)
  f0 : w1.frozen? ⟨b, 0, none⟩ = false
  f1 : w1.frozen? ⟨b, 1, none⟩ = false
theorem Res.mk0 (w : World) : Res w (w.alloc (Obj.cells #[Value.int IntKind.i64 0, Value.slice none 0 0] 24)) w.heap.size :=
  ⟨bel1 _ _, Nat.le_refl _, by simp, by simp [go_sem], by simp [go_sem], by simp [go_sem], by simp [go_sem]⟩
theorem Res.step {w w1 w2 : World} {b B : Nat} (h : Res w w1 b) (hb : Below B w1 w2) (hB : b < B) : Res w w2 b := by
  have hg := h.ge
  refine ⟨h.below.trans (hb.mono (by omega)), h.ge, Nat.lt_of_lt_of_le h.lt hb.size, ?_, ?_, ?_, ?_⟩
  · exact (World.cell?_of_block (hb.block b hB)).trans h.c0
  · exact (World.cell?_of_block (hb.block b hB)).trans h.c1
  · exact (World.frozen?_of_block (hb.block b hB)).trans h.f0
  · exact (World.frozen?_of_block (hb.block b hB)).trans h.f1
/-- The number that is stored there is the function's. -/
theorem Res.done {w w1 : World} {b : Nat} (h : Res w w1 b) {s : Int} {a : Option Addr} {n c : Nat} {z : Int} (hI : IsInt w1 (.agg #[.int .i64 s, .slice a n c]) z) :
    Below w.heap.size w ((w1.setCell ⟨b, 0, none⟩ (.int .i64 s)).setCell ⟨b, 1, none⟩ (.slice a n c)) ∧ IsInt ((w1.setCell ⟨b, 0, none⟩ (.int .i64 s)).setCell ⟨b, 1, none⟩ (.slice a n c)) (.agg #[.int .i64 s, .slice a n c]) z :=
  ⟨(h.below.setCell (p := ⟨b, 0, none⟩) h.ge _).setCell (p := ⟨b, 1, none⟩) h.ge _, hI.stored h.c0 h.c1 (by intro q; simp)⟩

set_option maxRecDepth 10000 in
set_option maxHeartbeats 1000000 in
theorem value_short (w : World) (s : ByteArray) (hV : _root_.Rad.Valid s.data.toList) (hs : s.size ≤ 1001) (hl : (_root_.Rad.digs s.data.toList).length ≤ 18) (z : Int) (hz : z = _root_.Rad.val s.data.toList) (hr : -9223372036854775808 ≤ z ∧ z ≤ 9223372036854775807) (h0 : 0 < s.size) :
    Calls Tryz.prog 65 #[.string s] w fun e w' => ∃ v, e = .returned v ∧ Below w.heap.size w w' ∧ IsInt w' v z := by
  have R := Res.mk0 w
  go_enter Tryz.func65, Tryz.ntmps65
  go_wp2_with (go_at_call 101; fail)
  have CW := withoutSign_any (w.alloc (Obj.cells #[Value.int IntKind.i64 0, Value.slice none 0 0] 24)) s (by omega) h0
  refine CW.mono ?_
  rintro e w2 ⟨b, t, rfl, ht, -, htl, n, hw⟩
  have R2 : Res w w2 w.heap.size := R.step (B := w.heap.size + 1) (by subst hw; exact below_drewN _ _ _) (by omega)
  have htl' : t.size ≤ 18 := by rw [← ba_size, ht]; exact hl
  clear hw R CW
  have c1 : (t.size : Int) ≤ 18 := by omega
  have CA := atoi_any w2 s z hV hl hs hz
  clear ht hz
  go_wp2_with (go_at_call 102; fail)
  refine CA.mono ?_
  rintro e w3 ⟨rfl, hb3⟩
  have R3 := R2.step hb3 R2.lt
  clear R2 CA
  have CO := of_any w3 z hr.1 hr.2
  go_wp2_with (go_at_call 16; fail)
  refine CO.mono ?_
  rintro e w4 ⟨v, rfl, hb4, hI⟩
  have R4 := R3.step hb4 R3.lt
  clear R3 CO hb4 hb3
  obtain ⟨s5, a5, n5, c5, rfl⟩ := hI.form
  obtain ⟨HE, HI⟩ := R4.done hI
  have HE' : Hid _ := HE
  have HI' : Hid _ := HI
  obtain ⟨-, -, lt, k0, k1, f0, f1⟩ := R4
  clear HE HI hI
  go_wp2
  refine bodyPost_ret (v := .agg #[.int .i64 s5, .slice a5 n5 c5]) (by simp [results, go_sem, loadVar, World.cell?_setCell_same, *]) rfl ?_
  exact ⟨_, rfl, HE'.out, HI'.out⟩
end Go.Proofs.YtjlkplidpdhgbaaGreatDoor
