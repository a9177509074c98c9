/- A part of the proof: W32, W33. -/
import Derived.Test.YtjlkplidpdhgbaaGreatDoorP25
import Derived.Lib.MakeNoZero
import Derived.Deep.RegionHeld3
import Derived.Deep.RegionHeldLaw
set_option linter.all false

namespace Go.Proofs.YtjlkplidpdhgbaaGreatDoor
open Go Go.Proofs Go.RowKit Go.Rad

theorem underlying91 : Tryz.prog.underlying 91 = some (.slice 5) := by kernel_rfl
theorem size5 : (Tryz.prog.info? 5).map (·.size) = some 1 := by kernel_rfl

theorem run_copyRow {P : Program} {w : World} (k : IntKind) (β : Nat) (dT sT ty : TypeId)
    (elem : TypeId) (hu : P.underlying dT = some (.slice elem)) (hsz : (P.info? elem).map (·.size) = some 1)
    (dp sp : Option Addr) (nd cd ns cs : Nat) (bd od bs os : Nat)
    (hdp : Sl dp bd od nd) (hsp : Sl sp bs os ns) (had : Arr k β w bd od nd) (hfd : Free w bd od nd) (has : Arr k β w bs os ns) :
    ∃ w', (Builtin.copy_ #[dT, sT] ty #[.slice dp nd cd, .slice sp ns cs]).run P w = .ok (.int .i64 (min ns nd : Nat)) w' ∧ Copied k β w w' bd od (min ns nd) bs os := by
  have hmin : Nat.min ns nd = min ns nd := rfl
  by_cases hn : min ns nd = 0
  · have hrun := run_copy_none (P := P) w dT sT ty elem dp sp nd cd ns cs hu hsz hn
    refine ⟨w, by rw [hn]; exact hrun, Chg.refl _ _ _ _, by rw [hn]; intro i hi; omega, by rw [hn]; intro i hi; omega⟩
  · obtain rfl := hdp (by omega)
    obtain rfl := hsp (by omega)
    have hrun := run_copy_cells (P := P) w dT sT ty elem bd od nd cd ⟨bs, os, none⟩ ns cs ((List.range (min ns nd)).map fun i => Value.int k ((word w bs (os + i) : Nat) : Int)) hu hsz
      (by simp [hmin]) (cells_list has (by omega)) (fun j hj => by rw [arr_cell had (by simp at hj; omega)]; rfl) (fun j hj => hfd j (by simp at hj; omega))
      (fun v hv => by obtain ⟨_, _, rfl⟩ := List.mem_map.1 hv; rfl)
    simp only [List.length_map, List.length_range] at hrun
    have hcell : ∀ i, i < min ns nd → (w.setCells bd od ((List.range (min ns nd)).map fun i => Value.int k ((word w bs (os + i) : Nat) : Int))).cell? ⟨bd, od + i, none⟩ = some (.int k ((word w bs (os + i) : Nat) : Int)) := by
      intro i hi
      rw [World.cell?_setCells_in bd _ od w (fun j hj => by rw [arr_cell had (by simp at hj; omega)]; rfl) i (by simpa using hi)]
      simp
    have hword : ∀ i, i < min ns nd → word (w.setCells bd od ((List.range (min ns nd)).map fun i => Value.int k ((word w bs (os + i) : Nat) : Int))) bd (od + i) = word w bs (os + i) :=
      fun i hi => word_eq (hcell i hi)
    refine ⟨_, hrun, ?_, fun i hi => ?_, hword⟩
    · have := setCells_chg bd ((List.range (min ns nd)).map fun i => Value.int k ((word w bs (os + i) : Nat) : Int)) od w
      simpa using this
    · rw [hword i hi]
      exact ⟨hcell i hi, arr_lt has (by omega)⟩
theorem step_copyRow {P : Program} {w : World} {ops : Array Oper} {o : Oper} {a : Act} {K : Act → World → Prop} {Q : Exit → Act → World → Prop} {E : Prop} (k : IntKind) (β : Nat)
    (hgd : o.guard = none) (d s : Operand) (dT sT : TypeId) (ho : o.op = .call { callee := .builtin .copy, args := #[d, s], argTypes := #[dT, sT] })
    (elem : TypeId) (hu : P.underlying dT = some (.slice elem)) (hsz : (P.info? elem).map (·.size) = some 1)
    (dp sp : Option Addr) (nd cd ns cs : Nat) (hd : a.eval d = .slice dp nd cd) (hs : a.eval s = .slice sp ns cs) (bd od bs os : Nat)
    (hdp : Sl dp bd od nd) (hsp : Sl sp bs os ns) (had : Arr k β w bd od nd) (hfd : Free w bd od nd) (has : Arr k β w bs os ns)
    (tt : Option Tmp) (htt : o.dst = tt) (h : ∀ w', Copied k β w w' bd od (min ns nd) bs os → K (a.put tt (.int .i64 (min ns nd : Nat))) w') :
    if Region.wanted o (yielded ops a.tmps) = true then Oper.wp P o a w K Q else E := by
  have hw : Region.wanted o (yielded ops a.tmps) = true := by simp [Region.wanted, hgd]
  rw [if_pos hw]
  obtain ⟨w', hr, hc⟩ := run_copyRow (P := P) (w := w) k β dT sT o.type elem hu hsz dp sp nd cd ns cs bd od bs os hdp hsp had hfd has
  unfold Oper.wp execOp
  simp only [ho, resolve, invoke, builtin, Sem.run_bind, Sem.run_pure, Result.andThen_ok, List.map_toArray, List.map_cons, List.map_nil, hd, hs, hr]
  subst htt
  exact h w' hc

theorem digits_all : ∀ (n t : Nat) (acc : Array Value), (∀ i (h : i < acc.size), ∃ y : Nat, y < 256 ∧ acc[i] = .int .u8 (y : Int)) →
    ∀ i (h : i < (Extern.BytealgMakeNoZero.digits n t acc).size), ∃ y : Nat, y < 256 ∧ (Extern.BytealgMakeNoZero.digits n t acc)[i] = .int .u8 (y : Int)
  | 0, _, _, h => h
  | n + 1, t, acc, h => digits_all n (t / 256) _ fun i hi => by
    rw [Array.getElem_push]
    split
    · exact h i _
    · exact ⟨t % 256, Nat.mod_lt _ (by decide), rfl⟩
theorem run_makeNoZero' {P : Program} (w : World) (ps : Array TypeId) (t e : TypeId) (ht : P.underlying t = some (.slice e)) (n : Nat) (hn : n ≤ 281474976710656) :
    ∃ cs : Array Value, (Extern.BytealgMakeNoZero.makeNoZero ps #[t] #[.int .i64 n]).run P w = .ok (.slice (some ⟨w.heap.size, 0, none⟩) n cs.size) (w.drew.drew.alloc (.cells cs e)) ∧ n ≤ cs.size ∧ (n ≤ maxLen → cs.size ≤ maxLen) ∧
      ∀ i (h : i < cs.size), ∃ y : Nat, y < 256 ∧ cs[i] = .int .u8 (y : Int) := by
  have hdef : Extern.BytealgMakeNoZero.makeNoZero ps #[t] #[.int .i64 n] =
      (do
        let .slice elem ← underlying t | stuck "bytealg.MakeNoZero: slice type expected"
        if (n : Int) < 0 || (n : Int) > 2 ^ 48 then runtimePanic (.error "makeslice: len out of range")
        let cap ← choose (.appendCap (n : Int).toNat 0 elem)
        askRoom cap
        let bytes ← choose (.extern "internal/bytealg.MakeNoZero.bytes" 0)
        let a ← newRow elem (Extern.BytealgMakeNoZero.digits cap bytes #[])
        pure (.slice (some a) (n : Int).toNat cap)) := rfl
  refine ⟨Extern.BytealgMakeNoZero.digits (grownCap w n 0 e) ((Question.extern "internal/bytealg.MakeNoZero.bytes" 0).cut (w.tape (w.drawn + 1) (.extern "internal/bytealg.MakeNoZero.bytes" 0))) #[], ?_, ?_, ?_, ?_⟩
  · rw [hdef]
    have h1 : ¬ (n : Int) < 0 := by omega
    have h2 : ¬ (281474976710656 : Int) < (n : Int) := by omega
    simp [run_underlying ht, h1, h2, Question.forced, newRow, Lib.size_digits, grownCap]
  · rw [Lib.size_digits]
    simpa using grownCap_ge w n 0 e
  · intro hm
    rw [Lib.size_digits]
    simpa using grownCap_le_maxLen w n 0 e hm
  · exact digits_all _ _ _ (fun i hi => by simp at hi)
theorem made_bytes {w : World} {cs : Array Value} {n : Nat} (hn : n ≤ cs.size) (h : ∀ i (h : i < cs.size), ∃ y : Nat, y < 256 ∧ cs[i] = .int .u8 (y : Int)) :
    Arr .u8 256 (w.alloc (.cells cs 5)) w.heap.size 0 n ∧ Free (w.alloc (.cells cs 5)) w.heap.size 0 n := by
  refine ⟨fun i hi => ?_, fun i hi => ?_⟩
  · obtain ⟨y, hy, hc⟩ := h i (by omega)
    have e : (w.alloc (.cells cs 5)).cell? ⟨w.heap.size, 0 + i, none⟩ = some (.int .u8 (y : Int)) := by
      rw [Nat.zero_add, World.cell?_alloc_at (w := w) cs 5 w.heap.size i rfl, Array.getElem?_eq_getElem (by omega), hc]
    rw [word_eq e, e]; exact ⟨rfl, hy⟩
  · rw [Nat.zero_add]; exact World.frozen?_alloc_at (w := w) cs 5 w.heap.size i rfl

set_option maxRecDepth 10000 in
theorem bitsMul_any (x y : Nat) (hx : x < B) (hy : y < B) (w : World) : Calls Tryz.prog 106 #[.int .u64 x, .int .u64 y] w fun e w' => e = .returned (.tuple #[.int .u64 (hi (x * y) : Nat), .int .u64 (lo (x * y) : Nat)]) ∧ w' = w := by
  have l1 := lo_lt (x * y)
  have l2 := hi_lt (Nat.mul_lt_mul'' hx hy)
  unfold B at l1 l2
  go_enter Tryz.func106, Tryz.ntmps106
  go_wp2_with (go_at_call 85; refine (mul64 x y hx hy _).mono ?_; rintro e w' ⟨rfl, hw⟩; subst hw)
  go_ret2
  exact ⟨rfl, rfl⟩
end Go.Proofs.YtjlkplidpdhgbaaGreatDoor

namespace Go.Proofs.YtjlkplidpdhgbaaGreatDoor
open Go Go.Proofs Go.RowKit Go.Rad

set_option maxRecDepth 10000 in
set_option maxHeartbeats 2000000 in
theorem repeat_any (w : World) (bs os cs n : Nat) (hs : Arr .u8 256 w bs os 1) (h48 : word w bs os = 48) (hn0 : 0 < n) (hn : n ≤ 8192) :
    Calls Tryz.prog 70 #[.slice (some ⟨bs, os, none⟩) 1 cs, .int .i64 n] w fun e w' => ∃ bn c : Nat, e = .returned (.slice (some ⟨bn, 0, none⟩) n c) ∧ n ≤ c ∧ c ≤ 9223372036854775807 ∧ w.heap.size ≤ bn ∧ bn < w'.heap.size ∧ Below w.heap.size w w' ∧ Free w' bn 0 n ∧
      (∀ i, i < n → w'.cell? ⟨bn, i, none⟩ = some (.int .u8 48)) := by
  obtain ⟨zs, hrun, hle, hmax, hel⟩ := run_makeNoZero' (P := Tryz.prog) w #[3] 91 5 underlying91 n (by omega)
  have hcall : (callFunc 107 #[.int .i64 n]).run Tryz.prog w = .ok (.value (.slice (some ⟨w.heap.size, 0, none⟩) n zs.size)) (w.drew.drew.alloc (.cells zs 5)) := by
    rw [run_callFunc_extern Tryz.func107 (by kernel_rfl) (by kernel_rfl) (by kernel_rfl) (e := Extern.BytealgMakeNoZero.makeNoZero #[3] #[91]) (by kernel_rfl), hrun]
    rfl
  have CM := bitsMul_any 1 n (by decide) (by unfold B; omega) w
  have m1 : hi (1 * n) = 0 := by unfold hi; omega
  have m2 : lo (1 * n) = n := by unfold lo; omega
  rw [m1, m2] at CM
  have hcs := hmax (by unfold maxLen; omega)
  unfold maxLen at hcs
  have hc1 : ¬ (n : Int) = 0 := by omega
  have hc2 : ¬ (n : Int) < 0 := by omega
  have hc3 : ¬ (8192 : Int) < (n : Int) := by omega
  have hc4 : ¬ (9223372036854775807 : Int) < (n : Int) := by omega
  have hb : bs < w.heap.size := hs.lt (by omega)
  have HS : Hid _ := hs
  have H48 : Hid _ := h48
  have HEL : Hid _ := hel
  clear hs h48 hel hrun hmax m1 m2
  go_enter Tryz.func70, Tryz.ntmps70
  go_wp2_with (go_at_call 106; refine CM.mono ?_; rintro e w' ⟨rfl, hw⟩; subst hw)
  obtain ⟨A2, F2⟩ := made_bytes (w := w') hle HEL.out
  have B2 : Below w'.heap.size w' (w'.alloc (Obj.cells zs 5)).drew.drew := (bel1 w' (Obj.cells zs 5)).drew.drew
  obtain ⟨w3, hr, hcp⟩ := run_copyRow (P := Tryz.prog) (w := (w'.alloc (Obj.cells zs 5)).drew.drew) .u8 256 91 91 3 5 underlying91 size5 (some ⟨w'.heap.size, 0, none⟩) (some ⟨bs, os, none⟩) n n 1 cs w'.heap.size 0 bs os
    (Sl.mk _ _ _) (Sl.mk _ _ _) A2 F2 (arr_below HS.out B2)
  rw [hr]
  have hmin : min 1 n = 1 := by omega
  rw [hmin] at hcp ⊢
  have h480 : word (w'.alloc (Obj.cells zs 5)).drew.drew bs os = 48 := by
    have h1 := word_below HS.out B2 (i := 0) (by omega)
    rw [Nat.add_zero] at h1
    rw [h1]; exact H48.out
  have P3 : ∀ i, i < 1 → w3.cell? ⟨w'.heap.size, i, none⟩ = some (.int .u8 48) := fun i hi => by
    have h1 := (hcp.arr i hi).1
    rw [hcp.same i hi, show os + i = os by omega, h480, Nat.zero_add] at h1
    exact h1
  have A3 : Arr .u8 256 w3 w'.heap.size 0 n := fun i hi => by
    by_cases h1 : i < 1
    · exact hcp.arr i h1
    · have e := hcp.chg.cell (0 + i) (by omega)
      rw [word_of_cell e, e]; exact A2 i hi
  have lb2 : w'.heap.size < (w'.alloc (Obj.cells zs 5)).drew.drew.heap.size := by simp
  have F3 : Free w3 w'.heap.size 0 n := hcp.chg.free F2 (fun _ => lb2)
  have B3 : Below w'.heap.size w' w3 := B2.trans (hcp.chg.below (Nat.le_refl _) (by simp))
  have L3 : w'.heap.size < w3.heap.size := Nat.lt_of_lt_of_le lb2 hcp.chg.size
  obtain ⟨bn, hbn⟩ : ∃ x, x = w'.heap.size := ⟨_, rfl⟩
  have HBN : Hid (bn = w'.heap.size) := hbn
  rw [← hbn] at P3 A3 F3 L3 ⊢
  have HB3 : Hid _ := B3
  clear hr hcp A2 F2 B2 hcall CM hbn lb2 h480 HEL HS H48 B3 hcs
  go_wp2
  go_loopw [10] (fun s wr => ∃ t : Nat, 1 ≤ t ∧ t ≤ n ∧ s = .int .i64 (t : Int) ∧ (∀ i, i < t → wr.cell? ⟨bn, i, none⟩ = some (.int .u8 48)) ∧ Arr .u8 256 wr bn 0 n ∧ Free wr bn 0 n ∧ bn < wr.heap.size ∧ Below bn w' wr)
    (fun s _ => n - (intOf s).toNat)
  case atStart => exact ⟨1, Nat.le_refl _, by omega, rfl, P3, A3, F3, L3, by have := HB3.out; rw [← HBN.out] at this; exact this⟩
  case round =>
    obtain ⟨t, h1, ht, rfl, hP, hA, hF, hL, hB⟩ := hrel
    clear P3 A3 F3 L3
    by_cases htn : t = n
    · subst htn
      have HP : Hid _ := hP
      have HF : Hid _ := hF
      have HB : Hid _ := hB
      clear hP hF hA hB
      go_wp2
      go_ret
      exact ⟨bn, _, rfl, Nat.le_refl _, by omega, by have := HBN.out; omega, hL, by have := HB.out; rw [← HBN.out]; exact this, HF.out, HP.out⟩
    · have c1 : (t : Int) < (n : Int) := by omega
      have c2 : ¬ n = t := by omega
      have e1 : min (t : Int) (n : Int) = (t : Int) := by omega
      go_wp2
      have hA1 : Arr .u8 256 wr bn t (n - t) := by have := hA.sub (d := t) (m := n - t) (by omega); rwa [Nat.zero_add] at this
      have hF1 : Free wr bn t (n - t) := by have := hF.sub (d := t) (m := n - t) (by omega); rwa [Nat.zero_add] at this
      have hA2 : Arr .u8 256 wr bn 0 t := fun i hi => hA i (by omega)
      have c3 : ¬ t = n := htn
      have c4 : t < n := by omega
      go_region_held_law (fun _ => True) (trivial)
        ((refine step_copyRow .u8 256 (by rfl) _ _ 91 91 (by rfl) 5 underlying91 size5 (some ⟨bn, t, none⟩) (some ⟨bn, 0, none⟩) (n - t) (n - t) t n (by rfl) (by rfl) bn t bn 0 (Sl.mk _ _ _) (Sl.mk _ _ _) hA1 hF1 hA2 (some 74) (by rfl) ?_; intro w5 hcp))
      clear hA1 hF1 hA2 c3 c4
      obtain ⟨u, hu⟩ : ∃ u, u = min t (n - t) := ⟨_, rfl⟩
      rw [← hu] at hcp ⊢
      have hu1 : 1 ≤ u := by omega
      have hu2 : t + u ≤ n := by omega
      have HU : Hid _ := hu
      have HP5 : Hid (∀ i, i < t + u → w5.cell? ⟨bn, i, none⟩ = some (.int .u8 48)) := fun i hi => by
        by_cases h2 : i < t
        · rw [hcp.chg.cell i (by omega)]; exact hP i h2
        · obtain ⟨j, rfl⟩ := Nat.exists_eq_add_of_le (show t ≤ i by omega)
          have h3 := (hcp.arr j (by omega)).1
          have h4 := hP j (by omega)
          have h5 : word wr.drew bn (0 + j) = 48 := by rw [Nat.zero_add]; exact word_eq (k := .u8) (x := 48) h4
          rw [hcp.same j (by omega), h5] at h3
          exact h3
      have HA5 : Hid (Arr .u8 256 w5 bn 0 n) := fun i hi => by
        by_cases h2 : i < t ∨ t + u ≤ i
        · have e := hcp.chg.cell (0 + i) (by omega)
          rw [word_of_cell e, e]; exact hA i hi
        · obtain ⟨j, rfl⟩ := Nat.exists_eq_add_of_le (show t ≤ i by omega)
          have := hcp.arr j (by omega)
          rwa [Nat.zero_add]
      have HF5 : Hid (Free w5 bn 0 n) := hcp.chg.free hF (fun _ => hL)
      have HL5 : Hid (bn < w5.heap.size) := Nat.lt_of_lt_of_le hL hcp.chg.size
      have HB5 : Hid (Below bn w' w5) := hB.drew.trans (hcp.chg.below (Nat.le_refl _) (Nat.le_of_lt hL))
      clear hcp hP hA hF hL hB hu
      have i1 : IntKind.i64.wrap ((t : Int) + (u : Int)) = (t : Int) + (u : Int) := by rw [IntKind.wrap_i64]; omega
      go_wp2
      go_roundw
      case rel => exact ⟨t + u, by omega, hu2, by go_num, HP5.out, HA5.out, HF5.out, HL5.out, HB5.out⟩
      case measure => simp [intOf]; omega
end Go.Proofs.YtjlkplidpdhgbaaGreatDoor
