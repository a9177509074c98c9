/- A part of the proof: W33. -/
import Derived.Test.YtjlkplidpdhgbaaGreatDoorP30
import Derived.Deep.RegionHeldLaw
set_option linter.all false

namespace Go.Proofs.YtjlkplidpdhgbaaGreatDoor
open Go Go.Proofs Go.RowKit Go.Rad

set_option maxRecDepth 10000 in
set_option maxHeartbeats 2000000 in
theorem repeat_any (w : World) (bs os cs n : Nat) (hs : Arr .u8 256 w bs os 1) (h48 : word w bs os = 48) (hn0 : 0 < n) (hn : n ≤ 8192) :
    Calls Tryz.prog 70 #[.slice (some ⟨bs, os, none⟩) 1 cs, .int .i64 n] w fun e w' => ∃ bn c : Nat, e = .returned (.slice (some ⟨bn, 0, none⟩) n c) ∧ n ≤ c ∧ c ≤ 9223372036854775807 ∧ w.heap.size ≤ bn ∧ bn < w'.heap.size ∧ Below w.heap.size w w' ∧ Free w' bn 0 n ∧
      (∀ i, i < n → w'.cell? ⟨bn, i, none⟩ = some (.int .u8 48)) := by
  obtain ⟨zs, hrun, hle, hmax⟩ := Lib.run_makeNoZero (P := Tryz.prog) w #[3] 91 5 underlying91 n (by omega)
  have hcall : (callFunc 107 #[.int .i64 n]).run Tryz.prog w = .ok (.value (.slice (some ⟨w.heap.size, 0, none⟩) n zs.size)) (w.drew.drew.alloc (.cells zs 5)) := by
    rw [run_callFunc_extern Tryz.func107 (by kernel_rfl) (by kernel_rfl) (by kernel_rfl) (e := Extern.BytealgMakeNoZero.makeNoZero #[3] #[91]) (by kernel_rfl), hrun]
    rfl
  have CM := bitsMul_any 1 n (by decide) (by unfold B; omega) w
  have m1 : hi (1 * n) = 0 := by unfold hi; omega
  have m2 : lo (1 * n) = n := by unfold lo; omega
  rw [m1, m2] at CM
  have hcs := hmax (by unfold maxLen; omega)
  unfold maxLen at hcs
  have hc1 : ¬ (n : Int) = 0 := by omega
  have hc2 : ¬ (n : Int) < 0 := by omega
  have hc3 : ¬ (8192 : Int) < (n : Int) := by omega
  have hc4 : ¬ (9223372036854775807 : Int) < (n : Int) := by omega
  have hb : bs < w.heap.size := hs.lt (by omega)
  have HS : Hid _ := hs
  have H48 : Hid _ := h48
  clear hs h48 hrun hmax m1 m2
  go_enter Tryz.func70, Tryz.ntmps70
  go_wp2_with (go_at_call 106; refine CM.mono ?_; rintro e w' ⟨rfl, hw⟩; subst hw)
  obtain ⟨A2, F2⟩ := made_bytes (w := w') (cs := zs) hle
  have B2 : Below w'.heap.size w' (w'.alloc (Obj.cells zs 5)).drew.drew := (bel1 w' (Obj.cells zs 5)).drew.drew
  obtain ⟨w3, hr, hcp⟩ := run_copyRow (P := Tryz.prog) (w := (w'.alloc (Obj.cells zs 5)).drew.drew) .u8 256 91 91 3 5 underlying91 size5 (some ⟨w'.heap.size, 0, none⟩) (some ⟨bs, os, none⟩) n n 1 cs w'.heap.size 0 bs os
    (Sl.mk _ _ _) (Sl.mk _ _ _) A2 F2 (arr_below HS.out B2)
  rw [hr]
  have hmin : min 1 n = 1 := by omega
  rw [hmin] at hcp ⊢
  have h480 : word (w'.alloc (Obj.cells zs 5)).drew.drew bs os = 48 := by
    have h1 := word_below HS.out B2 (i := 0) (by omega)
    rw [Nat.add_zero] at h1
    rw [h1]; exact H48.out
  have P3 : ∀ i, i < 1 → w3.cell? ⟨w'.heap.size, i, none⟩ = some (.int .u8 48) := fun i hi => by
    have h1 := (hcp.arr i hi).1
    rw [hcp.same i hi, show os + i = os by omega, h480, Nat.zero_add] at h1
    exact h1
  have A3 : Cells w3 w'.heap.size 0 n := fun i hi => by
    by_cases h1 : i < 1
    · rw [(hcp.arr i h1).1]; rfl
    · have e := hcp.chg.cell (0 + i) (by omega)
      rw [e]; exact A2 i hi
  have lb2 : w'.heap.size < (w'.alloc (Obj.cells zs 5)).drew.drew.heap.size := by simp
  have F3 : Free w3 w'.heap.size 0 n := hcp.chg.free F2 (fun _ => lb2)
  have B3 : Below w'.heap.size w' w3 := B2.trans (hcp.chg.below (Nat.le_refl _) (by simp))
  have L3 : w'.heap.size < w3.heap.size := Nat.lt_of_lt_of_le lb2 hcp.chg.size
  obtain ⟨bn, hbn⟩ : ∃ x, x = w'.heap.size := ⟨_, rfl⟩
  have HBN : Hid (bn = w'.heap.size) := hbn
  rw [← hbn] at P3 A3 F3 L3 ⊢
  have HB3 : Hid _ := B3
  clear hr hcp A2 F2 B2 hcall CM hbn lb2 h480 HS H48 B3 hcs
  go_wp2
  go_loopw [10] (fun s wr => ∃ t : Nat, 1 ≤ t ∧ t ≤ n ∧ s = .int .i64 (t : Int) ∧ (∀ i, i < t → wr.cell? ⟨bn, i, none⟩ = some (.int .u8 48)) ∧ Cells wr bn 0 n ∧ Free wr bn 0 n ∧ bn < wr.heap.size ∧ Below bn w' wr)
    (fun s _ => n - (intOf s).toNat)
  case atStart => exact ⟨1, Nat.le_refl _, by omega, rfl, P3, A3, F3, L3, by have := HB3.out; rw [← HBN.out] at this; exact this⟩
  case round =>
    obtain ⟨t, h1, ht, rfl, hP, hA, hF, hL, hB⟩ := hrel
    clear P3 A3 F3 L3
    by_cases htn : t = n
    · subst htn
      have HP : Hid _ := hP
      have HF : Hid _ := hF
      have HB : Hid _ := hB
      clear hP hF hA hB
      go_wp2
      go_ret
      exact ⟨bn, _, rfl, Nat.le_refl _, by omega, by have := HBN.out; omega, hL, by have := HB.out; rw [← HBN.out]; exact this, HF.out, HP.out⟩
    · have c1 : (t : Int) < (n : Int) := by omega
      have c2 : ¬ n = t := by omega
      have e1 : min (t : Int) (n : Int) = (t : Int) := by omega
      go_wp2
      have hA1 : Cells wr bn t (n - t) := fun i hi => by have := hA (t + i) (by omega); rwa [Nat.zero_add] at this
      have hF1 : Free wr bn t (n - t) := by have := hF.sub (d := t) (m := n - t) (by omega); rwa [Nat.zero_add] at this
      have hA2 : Arr .u8 256 wr bn 0 t := fun i hi => by
        have e := hP i hi
        rw [Nat.zero_add, word_eq (k := .u8) (x := 48) e]; exact ⟨e, by omega⟩
      have c3 : ¬ t = n := htn
      have c4 : t < n := by omega
      go_region_held_law (fun _ => True) (trivial)
        ((refine step_copyRow .u8 256 (by rfl) _ _ 91 91 (by rfl) 5 underlying91 size5 (some ⟨bn, t, none⟩) (some ⟨bn, 0, none⟩) (n - t) (n - t) t n (by rfl) (by rfl) bn t bn 0 (Sl.mk _ _ _) (Sl.mk _ _ _) hA1 hF1 hA2 (some 74) (by rfl) ?_; intro w5 hcp))
      clear hA1 hF1 hA2 c3 c4
      obtain ⟨u, hu⟩ : ∃ u, u = min t (n - t) := ⟨_, rfl⟩
      rw [← hu] at hcp ⊢
      have hu1 : 1 ≤ u := by omega
      have hu2 : t + u ≤ n := by omega
      have HU : Hid _ := hu
      have HP5 : Hid (∀ i, i < t + u → w5.cell? ⟨bn, i, none⟩ = some (.int .u8 48)) := fun i hi => by
        by_cases h2 : i < t
        · rw [hcp.chg.cell i (by omega)]; exact hP i h2
        · obtain ⟨j, rfl⟩ := Nat.exists_eq_add_of_le (show t ≤ i by omega)
          have h3 := (hcp.arr j (by omega)).1
          have h4 := hP j (by omega)
          have h5 : word wr.drew bn (0 + j) = 48 := by rw [Nat.zero_add]; exact word_eq (k := .u8) (x := 48) h4
          rw [hcp.same j (by omega), h5] at h3
          exact h3
      have HA5 : Hid (Cells w5 bn 0 n) := fun i hi => by
        by_cases h2 : i < t ∨ t + u ≤ i
        · have e := hcp.chg.cell (0 + i) (by omega)
          rw [e]; exact hA i hi
        · obtain ⟨j, rfl⟩ := Nat.exists_eq_add_of_le (show t ≤ i by omega)
          rw [Nat.zero_add, (hcp.arr j (by omega)).1]; rfl
      have HF5 : Hid (Free w5 bn 0 n) := hcp.chg.free hF (fun _ => hL)
      have HL5 : Hid (bn < w5.heap.size) := Nat.lt_of_lt_of_le hL hcp.chg.size
      have HB5 : Hid (Below bn w' w5) := hB.drew.trans (hcp.chg.below (Nat.le_refl _) (Nat.le_of_lt hL))
      clear hcp hP hA hF hL hB hu
      have i1 : IntKind.i64.wrap ((t : Int) + (u : Int)) = (t : Int) + (u : Int) := by rw [IntKind.wrap_i64]; omega
      go_wp2
      go_roundw
      case rel => exact ⟨t + u, by omega, hu2, by go_num, HP5.out, HA5.out, HF5.out, HL5.out, HB5.out⟩
      case measure => simp [intOf]; omega
end Go.Proofs.YtjlkplidpdhgbaaGreatDoor
