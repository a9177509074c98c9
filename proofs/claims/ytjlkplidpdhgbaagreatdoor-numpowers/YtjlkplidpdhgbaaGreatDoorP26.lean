/- A part of the proof: V4, D4. -/
import Derived.Test.YtjlkplidpdhgbaaGreatDoorP25
import Derived.Test.YtjlkplidpdhgbaaGreatDoorP23
set_option linter.all false

namespace Go.Proofs.YtjlkplidpdhgbaaGreatDoor
open Go Go.Proofs Go.RowKit Go.Rad

def pcode (l : List UInt8) : Int := if _root_.Rad.Valid l then (if 1000 < (_root_.Rad.digs l).length then 2 else 0) else 1
def pat (l : List UInt8) : Int := if _root_.Rad.Valid l then 0 else (_root_.Rad.wlen l : Nat)
def pval (l : List UInt8) : Int := if _root_.Rad.Valid l ∧ (_root_.Rad.digs l).length ≤ 1000 then _root_.Rad.val l else 0
def flt (c t : Int) : Value := .agg #[.int .i64 c, .int .i64 t]

theorem runD_le' (l : List UInt8) : _root_.Rad.runD l ≤ l.length := _root_.Rad.runD_le l
theorem wlen_le (l : List UInt8) : _root_.Rad.wlen l ≤ l.length := by
  cases l with
  | nil => exact Nat.le_refl _
  | cons b r =>
    by_cases hb : b = 45
    · subst hb; rw [_root_.Rad.wlen_neg]; have := _root_.Rad.runD_le r; simp only [List.length_cons]; split <;> omega
    · by_cases h0 : b = 48
      · subst h0; rw [_root_.Rad.wlen_zero]; simp
      · rw [_root_.Rad.wlen_pos hb h0]; exact _root_.Rad.runD_le _
theorem digs_len (l : List UInt8) : (_root_.Rad.digs l).length ≤ l.length ∧ l.length ≤ (_root_.Rad.digs l).length + 1 := by
  cases l with
  | nil => simp [_root_.Rad.digs]
  | cons b r =>
    by_cases hb : b = 45
    · subst hb; rw [_root_.Rad.digs_neg]; simp
    · rw [_root_.Rad.digs_pos hb]; simp

/-- The two boxes of Parse's results. -/
theorem Res.mk1 (w : World) (X : Obj) : Res w ((w.alloc (Obj.cells #[Value.int IntKind.i64 0, Value.slice none 0 0] 24)).alloc X) w.heap.size :=
  (Res.mk0 w).step (bel1 _ _) (by simp)

/-- A result of type Fault that has its variable in block b, not yet written. -/
structure Fbx (w1 : World) (b : Nat) : Prop where
  lt : b < w1.heap.size
  c0 : w1.cell? ⟨b, 0, none⟩ = some (.int .i64 0)
  c1 : w1.cell? ⟨b, 1, none⟩ = some (.int .i64 0)
  f0 : w1.frozen? ⟨b, 0, none⟩ = false
  f1 : w1.frozen? ⟨b, 1, none⟩ = false
theorem Fbx.step {w1 w2 : World} {b B : Nat} (h : Fbx w1 b) (hb : Below B w1 w2) (hB : b < B) : Fbx w2 b :=
  ⟨Nat.lt_of_lt_of_le h.lt hb.size, (World.cell?_of_block (hb.block b hB)).trans h.c0, (World.cell?_of_block (hb.block b hB)).trans h.c1,
    (World.frozen?_of_block (hb.block b hB)).trans h.f0, (World.frozen?_of_block (hb.block b hB)).trans h.f1⟩
theorem IsInt.flt {w : World} {v : Value} {z : Int} {b : Nat} (h : IsInt w v z) (hf : Fbx w b) (u1 u2 : Value) : IsInt ((w.setCell ⟨b, 0, none⟩ u1).setCell ⟨b, 1, none⟩ u2) v z :=
  h.stored hf.c0 hf.c1 (by intro q; simp)
/-- Both results written. -/
theorem Res.done2 {w w1 : World} {b f : Nat} (h : Res w w1 b) (hf : Fbx w1 f) (hbf : b < f) {s : Int} {a : Option Addr} {n c : Nat} {z : Int} (hI : IsInt w1 (.agg #[.int .i64 s, .slice a n c]) z) (x y : Int) :
    Below w.heap.size w ((((w1.setCell ⟨b, 0, none⟩ (.int .i64 s)).setCell ⟨b, 1, none⟩ (.slice a n c)).setCell ⟨f, 0, none⟩ (.int .i64 x)).setCell ⟨f, 1, none⟩ (.int .i64 y)) ∧
      IsInt ((((w1.setCell ⟨b, 0, none⟩ (.int .i64 s)).setCell ⟨b, 1, none⟩ (.slice a n c)).setCell ⟨f, 0, none⟩ (.int .i64 x)).setCell ⟨f, 1, none⟩ (.int .i64 y)) (.agg #[.int .i64 s, .slice a n c]) z := by
  obtain ⟨h1, h2⟩ := h.done hI
  have hg := h.ge
  refine ⟨(h1.setCell (p := ⟨f, 0, none⟩) (by show w.heap.size ≤ f; omega) _).setCell (p := ⟨f, 1, none⟩) (by show w.heap.size ≤ f; omega) _, h2.stored (x := 0) (y := .int .i64 0) ?_ ?_ (by intro q; simp)⟩
  · rw [cell_other (by omega), cell_other (by omega)]; exact hf.c0
  · rw [cell_other (by omega), cell_other (by omega)]; exact hf.c1

set_option maxRecDepth 10000 in
set_option maxHeartbeats 1000000 in
theorem parse_any (w : World) (s : ByteArray) (hs : s.size ≤ 9223372036854775806) :
    Calls Tryz.prog 9 #[.string s] w fun e w' => ∃ v, e = .returned (.tuple #[v, flt (pcode s.data.toList) (pat s.data.toList)]) ∧ Below w.heap.size w w' ∧ IsInt w' v (pval s.data.toList) := by
  obtain ⟨n, hn⟩ : ∃ n, _root_.Rad.wlen s.data.toList = n := ⟨_, rfl⟩
  have hnl : n ≤ s.size := by rw [← hn, ← ba_size]; exact wlen_le _
  have R := Res.mk1 w (Obj.cells #[Value.int IntKind.i64 0, Value.int IntKind.i64 0] 26)
  have F0' : Fbx ((w.alloc (Obj.cells #[Value.int IntKind.i64 0, Value.slice none 0 0] 24)).alloc (Obj.cells #[Value.int IntKind.i64 0, Value.int IntKind.i64 0] 26)) (w.heap.size + 1) := ⟨by simp, by simp [go_sem], by simp [go_sem], by simp [go_sem], by simp [go_sem]⟩
  have HF : Hid _ := F0'
  clear F0'
  have F0 : ((w.alloc (Obj.cells #[Value.int IntKind.i64 0, Value.slice none 0 0] 24)).alloc (Obj.cells #[Value.int IntKind.i64 0, Value.int IntKind.i64 0] 26)).cell? ⟨w.heap.size + 1, 0, none⟩ = some (.int .i64 0) := by simp [go_sem]
  have HR : Hid _ := R
  by_cases h1 : n < s.size
  · have h1' : (n : Int) < (s.size : Int) := by omega
    have hV : ¬ _root_.Rad.Valid s.data.toList := fun h => by have := h.1; rw [hn, ba_size] at this; omega
    have p1 : pcode s.data.toList = 1 := by unfold pcode; rw [if_neg hV]
    have p2 : pat s.data.toList = (n : Int) := by unfold pat; rw [if_neg hV, hn]
    have p3 : pval s.data.toList = 0 := by unfold pval; rw [if_neg (fun h => hV h.1)]
    have CN := numberLen_any ((w.alloc (Obj.cells #[Value.int IntKind.i64 0, Value.slice none 0 0] 24)).alloc (Obj.cells #[Value.int IntKind.i64 0, Value.int IntKind.i64 0] 26)) s hs n hn
    rw [p1, p2, p3]
    clear p1 p2 p3 hV hn R
    go_enter Tryz.func9, Tryz.ntmps9
    go_wp2_with (go_at_call 62; fail)
    refine CN.mono ?_
    rintro e w' ⟨rfl, hw⟩
    subst hw
    clear CN
    go_wp2
    refine bodyPost_ret (v := .tuple #[.agg #[.int .i64 0, .slice none 0 0], flt 1 n]) (by simp [results, go_sem, loadVar, World.cell?_setCell_same, *]; rfl) rfl ?_
    refine ⟨_, rfl, ?_, isInt_small _ 0 (by decide) (by decide)⟩
    exact bel2 _ _ _
  · have hne : n = s.size := by omega
    have h1' : ¬ (n : Int) < (s.size : Int) := by omega
    have CN := numberLen_any ((w.alloc (Obj.cells #[Value.int IntKind.i64 0, Value.slice none 0 0] 24)).alloc (Obj.cells #[Value.int IntKind.i64 0, Value.int IntKind.i64 0] 26)) s hs n hn
    by_cases hd : _root_.Rad.digs s.data.toList = []
    · have hV : ¬ _root_.Rad.Valid s.data.toList := fun h => h.2 hd
      have p1 : pcode s.data.toList = 1 := by unfold pcode; rw [if_neg hV]
      have p2 : pat s.data.toList = (n : Int) := by unfold pat; rw [if_neg hV, hn]
      have p3 : pval s.data.toList = 0 := by unfold pval; rw [if_neg (fun h => hV h.1)]
      have CE := fun w => endsInDigit_any w s false (by simp [hd])
      rw [p1, p2, p3]
      clear p1 p2 p3 hV hn R hd hne
      go_enter Tryz.func9, Tryz.ntmps9
      go_wp2_with (go_at_call 62; fail)
      refine CN.mono ?_
      rintro e w' ⟨rfl, hw⟩
      subst hw
      clear CN
      go_wp2_with (go_at_call 63; refine (CE _).mono ?_; rintro e w' ⟨rfl, hw⟩; subst hw)
      refine bodyPost_ret (v := .tuple #[.agg #[.int .i64 0, .slice none 0 0], flt 1 n]) (by simp [results, go_sem, loadVar, World.cell?_setCell_same, *]; rfl) rfl ?_
      refine ⟨_, rfl, ?_, isInt_small _ 0 (by decide) (by decide)⟩
      exact bel2 _ _ _
    · have hV : _root_.Rad.Valid s.data.toList := ⟨by rw [hn, ba_size]; exact hne, hd⟩
      have hs0 : 0 < s.size := by
        rcases Nat.eq_zero_or_pos s.size with h | h
        · rw [List.eq_nil_of_length_eq_zero (by rw [ba_size]; exact h : s.data.toList.length = 0)] at hd
          exact absurd rfl hd
        · exact h
      have p2 : pat s.data.toList = 0 := by unfold pat; rw [if_pos hV]
      have CE := fun w => endsInDigit_any w s true (by simp [hd])
      by_cases hl : 1000 < (_root_.Rad.digs s.data.toList).length
      · have p1 : pcode s.data.toList = 2 := by unfold pcode; rw [if_pos hV, if_pos hl]
        have p3 : pval s.data.toList = 0 := by unfold pval; rw [if_neg (fun h => by have := h.2; omega)]
        have CT := fun w => tooLong_any w s hs hs0 true (by simpa using hl)
        rw [p1, p2, p3]
        clear p1 p2 p3 hV hn R hd hl
        go_enter Tryz.func9, Tryz.ntmps9
        go_wp2_with (go_at_call 62; fail)
        refine CN.mono ?_
        rintro e w' ⟨rfl, hw⟩
        subst hw
        clear CN
        go_wp2_with (go_at_call 63; refine (CE _).mono ?_; rintro e w' ⟨rfl, hw⟩; subst hw)
        refine (CT _).mono ?_
        rintro e w5 ⟨rfl, n5, hw⟩
        subst hw
        go_wp2
        refine bodyPost_ret (v := .tuple #[.agg #[.int .i64 0, .slice none 0 0], flt 2 0]) (by simp [results, go_sem, loadVar, World.cell?_setCell_same, *]; rfl) rfl ?_
        refine ⟨_, rfl, ?_, isInt_small _ 0 (by decide) (by decide)⟩
        exact (((((bel2 w _ _).trans (below_drewN _ _ _)).setCell (p := ⟨w.heap.size, 0, none⟩) (by simp) _).setCell (p := ⟨w.heap.size, 1, none⟩) (by simp) _).setCell (p := ⟨w.heap.size + 1, 0, none⟩) (by simp) _).setCell (p := ⟨w.heap.size + 1, 1, none⟩) (by simp) _
      · have p1 : pcode s.data.toList = 0 := by unfold pcode; rw [if_pos hV, if_neg hl]
        have p3 : pval s.data.toList = _root_.Rad.val s.data.toList := by unfold pval; rw [if_pos ⟨hV, by omega⟩]
        have CT := fun w => tooLong_any w s hs hs0 false (by simpa using hl)
        obtain ⟨z, hz⟩ : ∃ z, z = _root_.Rad.val s.data.toList := ⟨_, rfl⟩
        have CV := fun w => value_any w s hV (by have := digs_len s.data.toList; rw [ba_size] at this; omega) z hz
        rw [p1, p2, p3, ← hz]
        clear p1 p2 p3 hV hn R hd hl hz
        go_enter Tryz.func9, Tryz.ntmps9
        go_wp2_with (go_at_call 62; fail)
        refine CN.mono ?_
        rintro e w' ⟨rfl, hw⟩
        subst hw
        clear CN
        go_wp2_with (go_at_call 63; refine (CE _).mono ?_; rintro e w' ⟨rfl, hw⟩; subst hw)
        refine (CT _).mono ?_
        rintro e w5 ⟨rfl, n5, hw⟩
        have R5 : Res w w5 w.heap.size := HR.out.step (B := w.heap.size + 1) (by rw [hw]; exact below_drewN _ _ _) (by omega)
        have F5 : Fbx w5 (w.heap.size + 1) := HF.out.step (B := w.heap.size + 2) (by rw [hw]; exact below_drewN _ _ _) (by omega)
        clear hw HR HF CT CE F0
        go_wp2_with (go_at_call 65; fail)
        refine (CV _).mono ?_
        rintro e w6 ⟨v6, rfl, hb6, hI⟩
        have R6 := R5.step hb6 R5.lt
        have F6 := F5.step hb6 F5.lt
        clear CV R5 F5 hb6
        obtain ⟨s5, a5, n5, c5, rfl⟩ := hI.form
        obtain ⟨HE, HI⟩ := R6.done2 F6 (by omega) hI 0 0
        have HE' : Hid _ := HE
        have HI' : Hid _ := HI
        obtain ⟨-, -, lt, k0, k1, f0, f1⟩ := R6
        obtain ⟨lt2, j0, j1, g0, g1⟩ := F6
        clear HE HI hI
        go_wp2
        refine bodyPost_ret (v := .tuple #[.agg #[.int .i64 s5, .slice a5 n5 c5], flt 0 0]) (by simp [results, go_sem, loadVar, World.cell?_setCell_same, *]; rfl) rfl ?_
        exact ⟨_, rfl, HE'.out, HI'.out⟩
end Go.Proofs.YtjlkplidpdhgbaaGreatDoor

namespace Go.Proofs.YtjlkplidpdhgbaaGreatDoor
open Go Go.Proofs Go.RowKit Go.Rad

/-- What Root answers. -/
structure RootOk (k a c z : Int) : Prop where
  range : k < 1 ∨ 200 < k → c = 7 ∧ z = 0
  none : 1 ≤ k → k ≤ 200 → a < 0 → k % 2 = 0 → c = 5 ∧ z = 0
  ok : 1 ≤ k → k ≤ 200 → (a < 0 → k % 2 ≠ 0) → c = 0 ∧ _root_.Rad.IsRt k.toNat a.natAbs z.natAbs ∧ (0 ≤ a → 0 ≤ z) ∧ (a ≤ 0 → z ≤ 0)
inductive RootPost (w : World) (k a : Int) (e : Ending) (w' : World) : Prop
  | mk (v : Value) (c z : Int) (he : e = .returned (.tuple #[v, flt c 0])) (hb : Below w.heap.size w w') (hi : IsInt w' v z) (ok : RootOk k a c z)
/-- Both results of a function on numbers, written. -/
theorem two_done {w w1 : World} {bz bf : Nat} {x y : Int} {a' : Option Addr} {n' c' : Nat} {x' : Int} (hb : Below w.heap.size w w1) (Fz : FB w1 bz (.int .i64 x) (.slice a' n' c')) (Ff : FB w1 bf (.int .i64 x') (.int .i64 y))
    (h1 : w.heap.size ≤ bz) (h2 : w.heap.size ≤ bf) (hne : bz ≠ bf) {s z : Int} {a : Option Addr} {n c : Nat} (hI : IsInt w1 (.agg #[.int .i64 s, .slice a n c]) z) (p q : Int) :
    Below w.heap.size w ((((w1.setCell ⟨bz, 0, none⟩ (.int .i64 s)).setCell ⟨bz, 1, none⟩ (.slice a n c)).setCell ⟨bf, 0, none⟩ (.int .i64 p)).setCell ⟨bf, 1, none⟩ (.int .i64 q)) ∧
      IsInt ((((w1.setCell ⟨bz, 0, none⟩ (.int .i64 s)).setCell ⟨bz, 1, none⟩ (.slice a n c)).setCell ⟨bf, 0, none⟩ (.int .i64 p)).setCell ⟨bf, 1, none⟩ (.int .i64 q)) (.agg #[.int .i64 s, .slice a n c]) z :=
  ⟨below_set2 (below_set2 hb h1 _ _) h2 _ _, (hI.keep (Fz.keep _ _)).keep ((Ff.other _ _ hne.symm).keepF _ _)⟩

set_option maxRecDepth 10000 in
set_option maxHeartbeats 2000000 in
theorem rootI_any (w : World) (va : Value) (a k : Int) (ha : IsInt w va a) (hA : a.natAbs < B ^ 53) (hk1 : -9223372036854775808 ≤ k) (hk2 : k ≤ 9223372036854775807) :
    Calls Tryz.prog 31 #[va, .int .i64 k] w fun e w' => RootPost w k a e w' := by
  obtain ⟨s, ao, n, c, rfl⟩ := ha.form
  obtain ⟨-, -, g3, g4, -⟩ := ha.sgn
  have HA : Hid (IsInt w (.agg #[.int .i64 s, .slice ao n c]) a) := ha
  have HB : Hid _ := hA
  clear ha hA
  go_enter Tryz.func31, Tryz.ntmps31
  go_upto_region 1 with fail
  refine wp_world (fun w1 => Below w.heap.size w w1 ∧ FB w1 w.heap.size (.int .i64 s) (.slice ao n c) ∧ FB w1 (w.heap.size + 1) (.int .i64 0) (.slice none 0 0) ∧ FB w1 (w.heap.size + 1 + 1) (.int .i64 0) (.int .i64 0)) (fb3 w _ _ _ _ _ _ _ _ _ rfl) ?_
  rintro w1 ⟨hB1, F2, F4, F5⟩
  have HF2 : Hid _ := F2
  have HF4 : Hid _ := F4
  have HF5 : Hid _ := F5
  have HB1 : Hid _ := hB1
  clear hB1
  obtain ⟨l2, k20, k21, -, -⟩ := F2
  obtain ⟨l4, k40, k41, p40, p41⟩ := F4
  obtain ⟨l5, k50, k51, p50, p51⟩ := F5
  by_cases h1 : k < 1 ∨ 200 < k
  · have hd := two_done HB1.out HF4.out HF5.out (show w.heap.size ≤ w.heap.size + 1 by omega) (show w.heap.size ≤ w.heap.size + 1 + 1 by omega) (by omega) (isInt_small w1 0 (by decide) (by decide)) 7 0
    have HD : Hid _ := hd
    have HO : Hid (RootOk k a 7 0) := ⟨fun _ => ⟨rfl, rfl⟩, fun h2 h3 => by omega, fun h2 h3 => by omega⟩
    clear hd
    by_cases h2 : k < 1
    · clear h1
      go_wp2
      refine bodyPost_ret (v := .tuple #[.agg #[.int .i64 0, .slice none 0 0], .agg #[.int .i64 7, .int .i64 0]]) (by simp [results, go_sem, loadVar, World.cell?_setCell_same, World.cell?_setCell_other, *]; try rfl) rfl ?_
      exact .mk _ 7 0 rfl HD.out.1 HD.out.2 HO.out
    · have h3 : 200 < k := by omega
      clear h1
      go_wp2
      refine bodyPost_ret (v := .tuple #[.agg #[.int .i64 0, .slice none 0 0], .agg #[.int .i64 7, .int .i64 0]]) (by simp [results, go_sem, loadVar, World.cell?_setCell_same, World.cell?_setCell_other, *]; try rfl) rfl ?_
      exact .mk _ 7 0 rfl HD.out.1 HD.out.2 HO.out
  · have h2 : ¬ k < 1 := by omega
    have h3 : ¬ 200 < k := by omega
    obtain ⟨m, rfl⟩ : ∃ m : Nat, k = (m : Int) := ⟨k.toNat, by omega⟩
    have hm1 : 1 ≤ m := by omega
    have hm2 : m ≤ 200 := by omega
    obtain ⟨p2, hp2⟩ : ∃ p2, m % 2 = p2 := ⟨_, rfl⟩
    have em : (m : Int).tmod 2 = (p2 : Int) := by rw [Int.tmod_eq_emod_of_nonneg (by omega)]; omega
    have em2 : (m : Int) % 2 = (p2 : Int) := by omega
    have HP2 : Hid _ := hp2
    clear hp2
    clear h1 hk1 hk2
    by_cases h4 : s < 0 ∧ p2 = 0
    · have hd := two_done HB1.out HF4.out HF5.out (show w.heap.size ≤ w.heap.size + 1 by omega) (show w.heap.size ≤ w.heap.size + 1 + 1 by omega) (by omega) (isInt_small w1 0 (by decide) (by decide)) 5 0
      have HD : Hid _ := hd
      have HO : Hid (RootOk m a 5 0) := ⟨fun h => by omega, fun _ _ _ _ => ⟨rfl, rfl⟩, fun _ _ h => by have := h (by omega); have := HP2.out; omega⟩
      obtain ⟨h5, h6⟩ := h4
      subst h6
      clear hd
      go_wp2
      refine bodyPost_ret (v := .tuple #[.agg #[.int .i64 0, .slice none 0 0], .agg #[.int .i64 5, .int .i64 0]]) (by simp [results, go_sem, loadVar, World.cell?_setCell_same, World.cell?_setCell_other, *]; try rfl) rfl ?_
      exact .mk _ 5 0 rfl HD.out.1 HD.out.2 HO.out
    · have HN : Hid (a < 0 → (m : Int) % 2 ≠ 0) := by show _ → _; intro h; have := HP2.out; omega
      by_cases h5 : s = 0 ∨ m = 1
      · have hd := two_done HB1.out HF4.out HF5.out (show w.heap.size ≤ w.heap.size + 1 by omega) (show w.heap.size ≤ w.heap.size + 1 + 1 by omega) (by omega) (IsInt.below HA.out HB1.out) 0 0
        have HD : Hid _ := hd
        have HO : Hid (RootOk m a 0 a) := ⟨fun h => by omega, fun _ _ h h' => by have := HN.out h; omega, fun _ _ h => ⟨rfl, by
          have e : (m : Int).toNat = m := rfl
          rw [e]
          rcases h5 with h5 | h5
          · have ha : a = 0 := by omega
            rw [ha]; exact ⟨by rw [Int.natAbs_zero, Nat.zero_pow hm1]; exact Nat.le_refl _, by rw [Int.natAbs_zero, Nat.zero_add, Nat.one_pow]; decide⟩
          · rw [h5]; exact ⟨by rw [Nat.pow_one]; exact Nat.le_refl _, by rw [Nat.pow_one]; omega⟩, fun h => h, fun h => h⟩⟩
        have h6 : ¬ (s < 0 ∧ p2 = 0) := h4
        clear hd h4 g3 g4
        have HH5 : Hid _ := h5
        by_cases h7 : s < 0
        · have h9 : ¬ (p2 : Int) = 0 := by omega
          have h10 : m = 1 := by omega
          have h11 : ((p2 : Int) == 0) = false := by simpa using h9
          clear h6 h5
          subst h10
          go_wp2
          refine bodyPost_ret (v := .tuple #[.agg #[.int .i64 s, .slice ao n c], .agg #[.int .i64 0, .int .i64 0]]) (by simp [results, go_sem, loadVar, World.cell?_setCell_same, World.cell?_setCell_other, *]; try rfl) rfl ?_
          exact .mk _ 0 a rfl HD.out.1 HD.out.2 HO.out
        · by_cases h11 : s = 0
          · clear h5 h6 em em2 h7
            subst h11
            go_wp2
            refine bodyPost_ret (v := .tuple #[.agg #[.int .i64 0, .slice ao n c], .agg #[.int .i64 0, .int .i64 0]]) (by simp [results, go_sem, loadVar, World.cell?_setCell_same, World.cell?_setCell_other, *]; try rfl) rfl ?_
            exact .mk _ 0 a rfl HD.out.1 HD.out.2 HO.out
          · have h10 : m = 1 := by omega
            clear h5 h6 em em2
            subst h10
            go_wp2
            refine bodyPost_ret (v := .tuple #[.agg #[.int .i64 s, .slice ao n c], .agg #[.int .i64 0, .int .i64 0]]) (by simp [results, go_sem, loadVar, World.cell?_setCell_same, World.cell?_setCell_other, *]; try rfl) rfl ?_
            exact .mk _ 0 a rfl HD.out.1 HD.out.2 HO.out
      · have h6 : ¬ s = 0 := fun h => h5 (.inl h)
        have h7 : ¬ m = 1 := fun h => h5 (.inr h)
        have h7' : ¬ (m : Int) = 1 := by omega
        have hev : s < 0 → ¬ (p2 : Int) = 0 := by omega
        have hb1 : (s == 0) = false := by simpa using h6
        have hb2 : ((m : Int) == 1) = false := by simpa using h7'
        have HM0 : Hid (0 < a.natAbs) := by show _ < _; omega
        have HM2 : Hid (2 ≤ m) := by show _ ≤ _; omega
        have HG3 : Hid _ := g3
        clear h4 h5 g3 g4
        by_cases h8 : s < 0
        · have h9 := hev h8
          have h11 : ((p2 : Int) == 0) = false := by simpa using h9
          clear hev
          go_upto_region 7 with fail
          clear l4 l5 k40 k41 p40 p41 k50 k51 p50 p51 em em2
          go_wp2_with (go_at_call 77; fail)
          refine (magnitude_any w1 _ a (IsInt.below HA.out HB1.out)).mono ?_
          rintro e w2 ⟨v2, n2, rfl, hb2, hm2⟩
          clear l2 k20 k21
          have hn2 : n2 ≤ 53 := hm2.len_le HB.out
          have hn20 : 0 < n2 := Nat.pos_of_ne_zero fun h0 => by have := hm2.zero_iff.2 h0; have := HM0.out; omega
          go_wp2_with (go_at_call 89; fail)
          refine (root_any m HM2.out (by omega) a.natAbs w2 v2 n2 hm2 hn20 hn2).mono ?_
          rintro e w3 ⟨v3, r, rfl, hb3, hi3, hr3⟩
          obtain ⟨s6, a6, n6, c6, rfl⟩ := hi3.form
          have hb23 := hb2.trans (hb3.mono hb2.size)
          have F2 := (HF2.out.below hb23).alloc (Obj.cells #[.int .i64 s6, .slice a6 n6 c6] 24)
          have F4 := (HF4.out.below hb23).alloc (Obj.cells #[.int .i64 s6, .slice a6 n6 c6] 24)
          have F5 := (HF5.out.below hb23).alloc (Obj.cells #[.int .i64 s6, .slice a6 n6 c6] 24)
          have F6 := FB.mk0 w3 (.int .i64 s6) (.slice a6 n6 c6) 24
          have I6 := hi3.below (bel1 w3 (Obj.cells #[.int .i64 s6, .slice a6 n6 c6] 24))
          have hB3 := HB1.out.trans (hb23.mono HB1.out.size)
          have hB4 := hB3.trans ((bel1 w3 (Obj.cells #[.int .i64 s6, .slice a6 n6 c6] 24)).mono hB3.size)
          have h56 : w.heap.size + 1 + 1 < w3.heap.size := (HF5.out.below hb23).lt
          have HR : Hid (_root_.Rad.IsRt m a.natAbs r) := hr3
          have HF2 : Hid _ := F2
          have HF4 : Hid _ := F4
          have HF5 : Hid _ := F5
          have HF6 : Hid _ := F6
          have HI6 : Hid (IsInt (w3.alloc (Obj.cells #[.int .i64 s6, .slice a6 n6 c6] 24)) (.agg #[.int .i64 s6, .slice a6 n6 c6]) (r : Int)) := I6
          have HB4 : Hid _ := hB4
          have HB3s : Hid (w.heap.size ≤ w3.heap.size) := hB3.size
          clear hb2 hb3 hb23 hm2 hi3 hr3 hB3 hB4 F2 F4 F5 F6 I6 hn2 hn20
          go_upto_region 8 with fail
          obtain ⟨b6, hb6⟩ : ∃ b6, w3.heap.size = b6 := ⟨_, rfl⟩
          obtain ⟨w4, hw4⟩ : ∃ w4, w3.alloc (Obj.cells #[.int .i64 s6, .slice a6 n6 c6] 24) = w4 := ⟨_, rfl⟩
          rw [hw4] at HF2 HF4 HF5 HF6 HI6 HB4 ⊢
          rw [hb6] at HF6 h56 HB3s ⊢
          clear hw4 hb6
          obtain ⟨l2, k20, k21, -, -⟩ := HF2.out
          obtain ⟨l6, k60, k61, p60, p61⟩ := HF6.out
          go_wp2_with (go_at_call 20; fail)
          refine (neg_any w4 _ _ HI6.out).mono ?_
          rintro e w5 ⟨v5, rfl, hb5, hi5⟩
          obtain ⟨s7, a7, n7, c7, rfl⟩ := hi5.form
          have F4 := HF4.out.below hb5
          have F5 := HF5.out.below hb5
          have F6 := HF6.out.below hb5
          have hB5 := HB4.out.trans (hb5.mono HB4.out.size)
          have hB6 := below_set2 hB5 HB3s.out (.int .i64 s7) (.slice a7 n7 c7)
          have hi6 := hi5.keep (F6.keep (.int .i64 s7) (.slice a7 n7 c7))
          have F4' := F4.other (.int .i64 s7) (.slice a7 n7 c7) (show w.heap.size + 1 ≠ b6 by omega)
          have F5' := F5.other (.int .i64 s7) (.slice a7 n7 c7) (show w.heap.size + 1 + 1 ≠ b6 by omega)
          have hd := two_done hB6 F4' F5' (show w.heap.size ≤ w.heap.size + 1 by omega) (show w.heap.size ≤ w.heap.size + 1 + 1 by omega) (by omega) hi6 0 0
          have HD : Hid _ := hd
          clear l2 k20 k21 l6 k60 k61 p60 p61 hb5 hi5 hB5 hB6 hi6 F4' F5' hd
          obtain ⟨l4, k40, k41, p40, p41⟩ := F4
          obtain ⟨l5, k50, k51, p50, p51⟩ := F5
          obtain ⟨l6, k60, k61, p60, p61⟩ := F6
          go_wp2
          refine bodyPost_ret (v := .tuple #[.agg #[.int .i64 s7, .slice a7 n7 c7], .agg #[.int .i64 0, .int .i64 0]]) (by simp [results, go_sem, loadVar, World.cell?_setCell_same, World.cell?_setCell_other, *]; try rfl) rfl ?_
          exact .mk _ 0 (-(r : Int)) rfl HD.out.1 HD.out.2 ⟨fun h => by omega, fun _ _ h h' => absurd h' (HN.out h), fun _ _ _ => ⟨rfl, by rw [Int.natAbs_neg]; exact HR.out, fun h => by have := HG3.out; omega, fun _ => by omega⟩⟩
        · clear hev
          go_upto_region 7 with fail
          clear l4 l5 k40 k41 p40 p41 k50 k51 p50 p51 em em2
          go_wp2_with (go_at_call 77; fail)
          refine (magnitude_any w1 _ a (IsInt.below HA.out HB1.out)).mono ?_
          rintro e w2 ⟨v2, n2, rfl, hb2, hm2⟩
          clear l2 k20 k21
          have hn2 : n2 ≤ 53 := hm2.len_le HB.out
          have hn20 : 0 < n2 := Nat.pos_of_ne_zero fun h0 => by have := hm2.zero_iff.2 h0; have := HM0.out; omega
          go_wp2_with (go_at_call 89; fail)
          refine (root_any m HM2.out (by omega) a.natAbs w2 v2 n2 hm2 hn20 hn2).mono ?_
          rintro e w3 ⟨v3, r, rfl, hb3, hi3, hr3⟩
          obtain ⟨s6, a6, n6, c6, rfl⟩ := hi3.form
          have hb23 := hb2.trans (hb3.mono hb2.size)
          have F2 := (HF2.out.below hb23).alloc (Obj.cells #[.int .i64 s6, .slice a6 n6 c6] 24)
          have F4 := (HF4.out.below hb23).alloc (Obj.cells #[.int .i64 s6, .slice a6 n6 c6] 24)
          have F5 := (HF5.out.below hb23).alloc (Obj.cells #[.int .i64 s6, .slice a6 n6 c6] 24)
          have F6 := FB.mk0 w3 (.int .i64 s6) (.slice a6 n6 c6) 24
          have I6 := hi3.below (bel1 w3 (Obj.cells #[.int .i64 s6, .slice a6 n6 c6] 24))
          have hB3 := HB1.out.trans (hb23.mono HB1.out.size)
          have hB4 := hB3.trans ((bel1 w3 (Obj.cells #[.int .i64 s6, .slice a6 n6 c6] 24)).mono hB3.size)
          have h56 : w.heap.size + 1 + 1 < w3.heap.size := (HF5.out.below hb23).lt
          have HR : Hid (_root_.Rad.IsRt m a.natAbs r) := hr3
          have HF2 : Hid _ := F2
          have HF4 : Hid _ := F4
          have HF5 : Hid _ := F5
          have HF6 : Hid _ := F6
          have HI6 : Hid (IsInt (w3.alloc (Obj.cells #[.int .i64 s6, .slice a6 n6 c6] 24)) (.agg #[.int .i64 s6, .slice a6 n6 c6]) (r : Int)) := I6
          have HB4 : Hid _ := hB4
          have HB3s : Hid (w.heap.size ≤ w3.heap.size) := hB3.size
          clear hb2 hb3 hb23 hm2 hi3 hr3 hB3 hB4 F2 F4 F5 F6 I6 hn2 hn20
          go_upto_region 8 with fail
          obtain ⟨b6, hb6⟩ : ∃ b6, w3.heap.size = b6 := ⟨_, rfl⟩
          obtain ⟨w4, hw4⟩ : ∃ w4, w3.alloc (Obj.cells #[.int .i64 s6, .slice a6 n6 c6] 24) = w4 := ⟨_, rfl⟩
          rw [hw4] at HF2 HF4 HF5 HF6 HI6 HB4 ⊢
          rw [hb6] at HF6 h56 HB3s ⊢
          clear hw4 hb6
          obtain ⟨l2, k20, k21, -, -⟩ := HF2.out
          obtain ⟨l4, k40, k41, p40, p41⟩ := HF4.out
          obtain ⟨l5, k50, k51, p50, p51⟩ := HF5.out
          obtain ⟨l6, k60, k61, p60, p61⟩ := HF6.out
          have hd := two_done HB4.out HF4.out HF5.out (show w.heap.size ≤ w.heap.size + 1 by omega) (show w.heap.size ≤ w.heap.size + 1 + 1 by omega) (by omega) HI6.out 0 0
          have HD : Hid _ := hd
          clear hd
          go_wp2
          refine bodyPost_ret (v := .tuple #[.agg #[.int .i64 s6, .slice a6 n6 c6], .agg #[.int .i64 0, .int .i64 0]]) (by simp [results, go_sem, loadVar, World.cell?_setCell_same, World.cell?_setCell_other, *]; try rfl) rfl ?_
          exact .mk _ 0 (r : Int) rfl HD.out.1 HD.out.2 ⟨fun h => by omega, fun _ _ h h' => absurd h' (HN.out h), fun _ _ _ => ⟨rfl, HR.out, fun _ => by omega, fun h => by have := HG3.out; have := HM0.out; omega⟩⟩
end Go.Proofs.YtjlkplidpdhgbaaGreatDoor
