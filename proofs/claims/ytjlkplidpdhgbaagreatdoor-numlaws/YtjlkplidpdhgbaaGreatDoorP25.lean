/- A part of the proof: G9, Pm8. -/
import Derived.Test.YtjlkplidpdhgbaaGreatDoorP24
import Derived.Test.YtjlkplidpdhgbaaGreatDoorP20
set_option linter.all false

namespace Go.Proofs.YtjlkplidpdhgbaaGreatDoor
open Go Go.Proofs Go.RowKit Go.Rad

set_option maxRecDepth 10000 in
set_option maxHeartbeats 4000000 in
theorem gcd_any (w : World) (va vb : Value) (a b : Int) (ha : IsInt w va a) (hb : IsInt w vb b) (hal : a.natAbs < B ^ 159) (hbl : b.natAbs < B ^ 159) (ht : TabB w) :
    Calls Tryz.prog 37 #[va, vb] w fun e w' => ∃ v, e = .returned v ∧ Below w.heap.size w w' ∧ IsInt w' v (Int.gcd a b : Nat) := by
  have q := qEq
  obtain ⟨s, ao, n, c, rfl⟩ := ha.form
  obtain ⟨t, d, m, e, rfl⟩ := hb.form
  have HAL : Hid (a.natAbs < B ^ 159) := hal
  have HBL : Hid (b.natAbs < B ^ 159) := hbl
  go_enter Tryz.func37, Tryz.ntmps37
  go_upto_region 1 with fail
  refine wp_world (fun w1 => Below w.heap.size w w1 ∧ FB w1 w.heap.size (.int .i64 s) (.slice ao n c) ∧ FB w1 (w.heap.size + 1) (.int .i64 t) (.slice d m e) ∧ FB w1 (w.heap.size + 1 + 1) (.int .i64 0) (.slice none 0 0)) (fb3 w _ _ _ _ _ _ _ _ _ rfl) ?_
  rintro w1 ⟨hB1, F2, F3, F4⟩
  obtain ⟨b2, hb2⟩ : ∃ b2, b2 = w.heap.size := ⟨_, rfl⟩
  obtain ⟨b3, hb3⟩ : ∃ b3, b3 = w.heap.size + 1 := ⟨_, rfl⟩
  obtain ⟨b4, hb4⟩ : ∃ b4, b4 = w.heap.size + 1 + 1 := ⟨_, rfl⟩
  have h23 : b2 ≠ b3 := by omega
  have h42 : b4 ≠ b2 ∧ b4 ≠ b3 := by omega
  have hw2 : w.heap.size ≤ b2 ∧ w.heap.size ≤ b3 := by omega
  have HB4 : Hid (w.heap.size ≤ b4) := by show w.heap.size ≤ b4; omega
  rw [← hb4] at F4 ⊢
  rw [← hb3] at F3 ⊢
  rw [← hb2] at F2 ⊢
  have IA := ha.below hB1
  have IB := hb.below hB1
  have T1 := ht.below hB1
  have HTW : Hid (TabB w) := ht
  have HBX : Hid (Below w.heap.size w w1) := hB1
  clear hb2 hb3 hb4 hB1 ha hb ht
  rcases ao with _ | ao
  · obtain ⟨g1, g2, -, -, g3⟩ := IA.sgn
    obtain ⟨rfl, rfl, rfl⟩ := g3 rfl
    rcases d with _ | d
    · obtain ⟨i1, i2, -, -, i3⟩ := IB.sgn
      obtain ⟨rfl, rfl, rfl⟩ := i3 rfl
      have hsB : s.natAbs < B ∧ t.natAbs < B := by unfold B; omega
      have CW : ∀ n : Nat, Calls Tryz.prog 91 #[.int .u64 (s.natAbs : Int), .int .u64 (t.natAbs : Int)] (w1.drewN n) fun e w' => e = .returned (.int .u64 (Int.gcd s t : Nat)) ∧ w' = w1.drewN n := fun n => gcdWord_any _ _ _ hsB.1 hsB.2 (T1.below (belN _ _ _))
      have CS1 : ∀ n : Nat, Calls Tryz.prog 84 #[.int .i64 s] (w1.drewN n) fun e w' => e = .returned (.int .u64 (s.natAbs : Int)) ∧ w' = w1.drewN n := fun n => sizeOf_any s g1 g2 _
      have CS2 : ∀ n : Nat, Calls Tryz.prog 84 #[.int .i64 t] (w1.drewN n) fun e w' => e = .returned (.int .u64 (t.natAbs : Int)) ∧ w' = w1.drewN n := fun n => sizeOf_any t i1 i2 _
      have hgB : Int.gcd s t ≤ 9223372036854775808 := by
        by_cases h : s = 0
        · subst h; rw [Int.gcd_zero_left]; omega
        · have := Nat.le_of_dvd (by omega) (Nat.gcd_dvd_left s.natAbs t.natAbs)
          have e : Int.gcd s t = Nat.gcd s.natAbs t.natAbs := rfl
          omega
      obtain ⟨g, hg⟩ : ∃ g, Int.gcd s t = g := ⟨_, rfl⟩
      rw [hg] at CW hgB
      have HGG : Hid (Int.gcd s t = g) := hg
      have HF4 : Hid _ := F4
      obtain ⟨l2, k20, k21, -, -⟩ := id F2
      obtain ⟨l3, k30, k31, -, -⟩ := id F3
      clear IA IB g1 g2 g3 i1 i2 i3 hsB F2 F3 F4 hg h23 h42 hw2 T1
      go_wp2
      go_quiet (first
        | (go_at_call 84; refine (CS1 _).mono ?_; rintro e w'' ⟨rfl, rfl⟩; exact ⟨rfl, _, rfl⟩)
        | (go_at_call 84; refine (CS2 _).mono ?_; rintro e w'' ⟨rfl, rfl⟩; exact ⟨rfl, _, rfl⟩)
        | (go_at_call 91; refine (CW _).mono ?_; rintro e w'' ⟨rfl, rfl⟩; exact ⟨rfl, _, rfl⟩))
      go_upto_region 3 with fail
      refine wp_world (fun w2 => Below w.heap.size w w2 ∧ FB w2 b4 (.int .i64 0) (.slice none 0 0)) ⟨HBX.out.trans (belN _ _ _), HF4.out.below (belN _ _ _)⟩ ?_
      clear CS1 CS2 CW HF4 HBX k20 k21 k30 k31 l2 l3 w1
      rintro w2 ⟨B2, F4⟩
      by_cases hgm : (g : Int) ≤ 9223372036854775807
      · have t1 : IntKind.i64.wrap (g : Int) = (g : Int) := by rw [IntKind.wrap_i64]; omega
        have HWZ : Hid _ := below_set2 B2 HB4.out (.int .i64 (g : Int)) (.slice none 0 0)
        have HIZ : Hid (IsInt _ _ _) := isInt_small ((w2.setCell ⟨b4, 0, none⟩ (.int .i64 (g : Int))).setCell ⟨b4, 1, none⟩ (.slice none 0 0)) (g : Int) (by omega) hgm
        obtain ⟨l4, k40, k41, p40, p41⟩ := F4
        clear B2
        go_wp2
        refine bodyPost_ret (v := .agg #[.int .i64 (g : Int), .slice none 0 0]) (by simp [results, go_sem, loadVar, World.cell?_setCell_same, World.cell?_setCell_other, *]; try rfl) rfl ?_
        exact ⟨_, rfl, HWZ.out, by rw [HGG.out]; exact HIZ.out⟩
      · have hg1 : 0 < g ∧ g < B := by unfold B; omega
        have CS := signed_any (w2.alloc (.cells #[.int .u64 (g : Int)] 98)) false _ _ _ (mag_one w2 g hg1.1 hg1.2)
        have HBX : Hid (Below w.heap.size w (w2.alloc (.cells #[.int .u64 (g : Int)] 98))) := B2.alloc B2.size _
        have HF4 : Hid (FB (w2.alloc (.cells #[.int .u64 (g : Int)] 98)) b4 (.int .i64 0) (.slice none 0 0)) := F4.below (bel1 _ _)
        clear B2 F4 hgB
        go_wp2_with (go_at_call 76; fail)
        refine CS.mono ?_
        rintro e wz ⟨vz, rfl, hbz, hz⟩
        rw [sgn_pos] at hz
        obtain ⟨sz, az, nz, cz, rfl⟩ := hz.form
        have FZ := HF4.out.below hbz
        have HWZ : Hid _ := below_set2 (HBX.out.trans (hbz.mono HBX.out.size)) HB4.out (.int .i64 sz) (.slice az nz cz)
        have HIZ : Hid (IsInt _ _ _) := hz.keep (FZ.keep (.int .i64 sz) (.slice az nz cz))
        obtain ⟨l4, k40, k41, p40, p41⟩ := FZ
        clear CS hz hbz
        go_wp2
        refine bodyPost_ret (v := .agg #[.int .i64 sz, .slice az nz cz]) (by simp [results, go_sem, loadVar, World.cell?_setCell_same, World.cell?_setCell_other, *]; try rfl) rfl ?_
        exact ⟨_, rfl, HWZ.out, by rw [HGG.out]; exact HIZ.out⟩
    · obtain ⟨l2, k20, k21, p20, p21⟩ := id F2
      obtain ⟨l3, k30, k31, p30, p31⟩ := id F3
      have B2 := below_set2 (below_set2 HBX.out hw2.1 (.int .i64 t) (.slice (some d) m e)) hw2.2 (.int .i64 s) (.slice none 0 0)
      have F22 := (F2.set (.int .i64 t) (.slice (some d) m e)).other (.int .i64 s) (.slice none 0 0) h23
      have F33 := (F3.other (.int .i64 t) (.slice (some d) m e) h23.symm).set (.int .i64 s) (.slice none 0 0)
      have F44 := (F4.other (.int .i64 t) (.slice (some d) m e) h42.1).other (.int .i64 s) (.slice none 0 0) h42.2
      have IA2 := (IA.keep (F2.keep (.int .i64 t) (.slice (some d) m e))).keep ((F3.other (.int .i64 t) (.slice (some d) m e) h23.symm).keep (.int .i64 s) (.slice none 0 0))
      have IB2 := (IB.keep (F2.keep (.int .i64 t) (.slice (some d) m e))).keep ((F3.other (.int .i64 t) (.slice (some d) m e) h23.symm).keep (.int .i64 s) (.slice none 0 0))
      have T2 : TabB (((( w1.setCell ⟨b2, 0, none⟩ (.int .i64 t)).setCell ⟨b2, 1, none⟩ (.slice (some d) m e)).setCell ⟨b3, 0, none⟩ (.int .i64 s)).setCell ⟨b3, 1, none⟩ (.slice none 0 0)) := HTW.out.below B2
      have HW2 : Hid _ := (⟨B2, F22, F33, F44, IA2, IB2, T2⟩ : _ ∧ _ ∧ _ ∧ _ ∧ _ ∧ _ ∧ _)
      clear B2 F22 F33 F44 IA2 IB2 T2 F2 F3 F4 IA IB HBX g1 g2 g3
      go_upto_region 8 with fail
      refine wp_world (fun wx => Below w.heap.size w wx ∧ FB wx b2 (.int .i64 t) (.slice (some d) m e) ∧ FB wx b3 (.int .i64 s) (.slice none 0 0) ∧ FB wx b4 (.int .i64 0) (.slice none 0 0) ∧ IsInt wx (.agg #[.int .i64 s, .slice none 0 0]) s ∧ IsInt wx (.agg #[.int .i64 t, .slice (some d) m e]) b ∧ TabB wx) HW2.out ?_
      clear HW2 T1 k20 k21 k30 k31 l2 l3 p20 p21 p30 p31 w1
      rintro wx ⟨BX, F2, F3, F4, IA, IB, TX⟩
      have HBX : Hid (Below w.heap.size w wx) := BX
      have HF2 : Hid (FB wx b2 (.int .i64 t) (.slice (some d) m e)) := F2
      have HF3 : Hid (FB wx b3 (.int .i64 s) (.slice none 0 0)) := F3
      have HF4 : Hid (FB wx b4 (.int .i64 0) (.slice none 0 0)) := F4
      have HIP : Hid (IsInt wx (.agg #[.int .i64 t, .slice (some d) m e]) b) := IB
      have HIQ : Hid (IsInt wx (.agg #[.int .i64 s, .slice none 0 0]) s) := IA
      have HTX : Hid (TabB wx) := TX
      have HP : Hid (b.natAbs < B ^ 159) := HBL.out
      have HQ : Hid (s.natAbs < B ^ 159) := HAL.out
      have HG : Hid (Int.gcd b s = Int.gcd s b) := Int.gcd_comm _ _
      obtain ⟨l2, k20, k21, -, -⟩ := F2
      obtain ⟨l3, k30, k31, -, -⟩ := F3
      clear BX F4 IA IB TX
      obtain ⟨mP, -⟩ := HIP.out.mag
      have hn0 : 0 < m := Nat.pos_of_ne_zero fun h => by
        have := mP.zero_iff.2 h
        have := HIP.out.sgn
        have h2 := (HIP.out.mag).2
        omega
      have hnl : m < 160 := Nat.lt_of_le_of_lt (mP.len_le HP.out) (by decide)
      by_cases ht0 : s = 0
      · have hy0 : s = 0 := by have := HIQ.out.sgn; omega
        have HGZ : Hid (b.natAbs = Int.gcd s b) := by
          show b.natAbs = Int.gcd s b
          first | rw [hy0, Int.gcd_zero_right] | rw [hy0, Int.gcd_zero_left]
        have CS := signed_any wx false _ _ _ mP
        rw [HGZ.out] at CS
        subst ht0
        clear hy0 HG HGZ HIQ HIP mP
        go_wp2_with (go_at_call 76; fail)
        refine CS.mono ?_
        rintro e wz ⟨vz, rfl, hbz, hz⟩
        rw [sgn_pos] at hz
        obtain ⟨sz, az, nz, cz, rfl⟩ := hz.form
        have FZ := HF4.out.below hbz
        have HWZ : Hid _ := below_set2 (HBX.out.trans (hbz.mono HBX.out.size)) HB4.out (.int .i64 sz) (.slice az nz cz)
        have HIZ : Hid (IsInt _ _ _) := hz.keep (FZ.keep (.int .i64 sz) (.slice az nz cz))
        obtain ⟨l4, k40, k41, p40, p41⟩ := FZ
        clear CS hz hbz
        go_wp2
        refine bodyPost_ret (v := .agg #[.int .i64 sz, .slice az nz cz]) (by simp [results, go_sem, loadVar, World.cell?_setCell_same, World.cell?_setCell_other, *]; try rfl) rfl ?_
        exact ⟨_, rfl, HWZ.out, HIZ.out⟩
      · have hy0 : 0 < s.natAbs := by have := HIQ.out.sgn; omega
        have CM : ∀ wy, Below wx.heap.size wx wy → Calls Tryz.prog 77 #[.agg #[.int .i64 s, .slice none 0 0]] wy fun e w' => ∃ v n, e = .returned v ∧ Below wy.heap.size wy w' ∧ Mag w' v s.natAbs n := fun wy h => magnitude_any wy _ s (IsInt.below HIQ.out h)
        have HY : Hid (0 < s.natAbs ∧ s.natAbs < B ^ 159) := ⟨hy0, HQ.out⟩
        have HX : Hid (Mag wx (.slice (some d) m e) b.natAbs m) := mP
        have HN : Hid (0 < m ∧ m < 160) := ⟨hn0, hnl⟩
        clear hy0 mP hn0 hnl HIQ HIP
        go_wp2
        go_region_with (first
          | (go_at_call 77; refine (CM _ (bel_drew wx)).mono ?_; rintro e wa ⟨va, na, rfl, hba, hma⟩; have hba' := (bel_drew wx).trans hba; have ka := (HF2.out.below hba').c1)
          | (go_at_call 92; refine (gcdWords_any wa _ _ _ _ _ _ (HX.out.below hba') hma HN.out.1 (Nat.pos_of_ne_zero fun h => by have := hma.zero_iff.2 h; have := HY.out.1; omega) HN.out.2 (Nat.lt_of_le_of_lt (hma.len_le HY.out.2) (by decide)) (TabB.below HTX.out hba')).mono ?_; rintro e wb ⟨vb, nb, rfl, hbb, hmb⟩; have hbb' := hba'.trans (hbb.mono hba'.size))
          | (go_at_call 76; refine (signed_any wb false _ _ _ hmb).mono ?_; rintro e wz ⟨vz, rfl, hbz, hz⟩; have hbz' := hbb'.trans (hbz.mono hbb'.size); rw [sgn_pos] at hz; obtain ⟨sz, az, nz, cz, rfl⟩ := hz.form; obtain ⟨l4, k40, k41, p40, p41⟩ := (HF4.out.below hbz')))
        all_goals
          have FZ := HF4.out.below hbz'
          have HWZ : Hid _ := below_set2 (HBX.out.trans (hbz'.mono HBX.out.size)) HB4.out (.int .i64 sz) (.slice az nz cz)
          have hz' := hz.keep (FZ.keep (.int .i64 sz) (.slice az nz cz))
          have hgg : (Nat.gcd b.natAbs s.natAbs : Int) = (Int.gcd s b : Nat) := by
            first | rfl | (rw [Int.gcd_comm]; rfl)
          rw [hgg] at hz'
          have HIZ : Hid (IsInt _ _ _) := hz'
          clear hz hz' hgg hbz' hbz hmb hbb hbb' hma hba hba' CM HX HY HN HF2 HF3 HF4 HG FZ
          go_wp2
          refine bodyPost_ret (v := .agg #[.int .i64 sz, .slice az nz cz]) (by simp [results, go_sem, loadVar, World.cell?_setCell_same, World.cell?_setCell_other, *]; try rfl) rfl ?_
          exact ⟨_, rfl, HWZ.out, HIZ.out⟩
  · obtain ⟨l2, k20, k21, -, -⟩ := id F2
    obtain ⟨l3, k30, k31, -, -⟩ := id F3
    have HF2 : Hid (FB w1 b2 (.int .i64 s) (.slice (some ao) n c)) := F2
    have HF3 : Hid (FB w1 b3 (.int .i64 t) (.slice d m e)) := F3
    have HF4 : Hid (FB w1 b4 (.int .i64 0) (.slice none 0 0)) := F4
    have HIP : Hid (IsInt w1 (.agg #[.int .i64 s, .slice (some ao) n c]) a) := IA
    have HIQ : Hid (IsInt w1 (.agg #[.int .i64 t, .slice d m e]) b) := IB
    have HTX : Hid (TabB w1) := T1
    have HP : Hid (a.natAbs < B ^ 159) := HAL.out
    have HQ : Hid (b.natAbs < B ^ 159) := HBL.out
    have HG : Hid (Int.gcd a b = Int.gcd a b) := rfl
    clear F2 F3 F4 IA IB T1 HAL HBL hal hbl
    refine wp_world (fun wx => wx = w1) rfl ?_
    rintro wx rfl
    obtain ⟨mP, -⟩ := HIP.out.mag
    have hn0 : 0 < n := Nat.pos_of_ne_zero fun h => by
      have := mP.zero_iff.2 h
      have := HIP.out.sgn
      have h2 := (HIP.out.mag).2
      omega
    have hnl : n < 160 := Nat.lt_of_le_of_lt (mP.len_le HP.out) (by decide)
    by_cases ht0 : t = 0
    · have hy0 : b = 0 := by have := HIQ.out.sgn; omega
      have HGZ : Hid (a.natAbs = Int.gcd a b) := by
        show a.natAbs = Int.gcd a b
        first | rw [hy0, Int.gcd_zero_right] | rw [hy0, Int.gcd_zero_left]
      have CS := signed_any wx false _ _ _ mP
      rw [HGZ.out] at CS
      subst ht0
      clear hy0 HG HGZ HIQ HIP mP
      go_wp2_with (go_at_call 76; fail)
      refine CS.mono ?_
      rintro e wz ⟨vz, rfl, hbz, hz⟩
      rw [sgn_pos] at hz
      obtain ⟨sz, az, nz, cz, rfl⟩ := hz.form
      have FZ := HF4.out.below hbz
      have HWZ : Hid _ := below_set2 (HBX.out.trans (hbz.mono HBX.out.size)) HB4.out (.int .i64 sz) (.slice az nz cz)
      have HIZ : Hid (IsInt _ _ _) := hz.keep (FZ.keep (.int .i64 sz) (.slice az nz cz))
      obtain ⟨l4, k40, k41, p40, p41⟩ := FZ
      clear CS hz hbz
      go_wp2
      refine bodyPost_ret (v := .agg #[.int .i64 sz, .slice az nz cz]) (by simp [results, go_sem, loadVar, World.cell?_setCell_same, World.cell?_setCell_other, *]; try rfl) rfl ?_
      exact ⟨_, rfl, HWZ.out, HIZ.out⟩
    · have hy0 : 0 < b.natAbs := by have := HIQ.out.sgn; omega
      have CM : ∀ wy, Below wx.heap.size wx wy → Calls Tryz.prog 77 #[.agg #[.int .i64 t, .slice d m e]] wy fun e w' => ∃ v n, e = .returned v ∧ Below wy.heap.size wy w' ∧ Mag w' v b.natAbs n := fun wy h => magnitude_any wy _ b (IsInt.below HIQ.out h)
      have HY : Hid (0 < b.natAbs ∧ b.natAbs < B ^ 159) := ⟨hy0, HQ.out⟩
      have HX : Hid (Mag wx (.slice (some ao) n c) a.natAbs n) := mP
      have HN : Hid (0 < n ∧ n < 160) := ⟨hn0, hnl⟩
      clear hy0 mP hn0 hnl HIQ HIP
      go_wp2
      go_region_with (first
        | (go_at_call 77; refine (CM _ (bel_drew wx)).mono ?_; rintro e wa ⟨va, na, rfl, hba, hma⟩; have hba' := (bel_drew wx).trans hba; have ka := (HF2.out.below hba').c1)
        | (go_at_call 92; refine (gcdWords_any wa _ _ _ _ _ _ (HX.out.below hba') hma HN.out.1 (Nat.pos_of_ne_zero fun h => by have := hma.zero_iff.2 h; have := HY.out.1; omega) HN.out.2 (Nat.lt_of_le_of_lt (hma.len_le HY.out.2) (by decide)) (TabB.below HTX.out hba')).mono ?_; rintro e wb ⟨vb, nb, rfl, hbb, hmb⟩; have hbb' := hba'.trans (hbb.mono hba'.size))
        | (go_at_call 76; refine (signed_any wb false _ _ _ hmb).mono ?_; rintro e wz ⟨vz, rfl, hbz, hz⟩; have hbz' := hbb'.trans (hbz.mono hbb'.size); rw [sgn_pos] at hz; obtain ⟨sz, az, nz, cz, rfl⟩ := hz.form; obtain ⟨l4, k40, k41, p40, p41⟩ := (HF4.out.below hbz')))
      all_goals
        have FZ := HF4.out.below hbz'
        have HWZ : Hid _ := below_set2 (HBX.out.trans (hbz'.mono HBX.out.size)) HB4.out (.int .i64 sz) (.slice az nz cz)
        have hz' := hz.keep (FZ.keep (.int .i64 sz) (.slice az nz cz))
        have hgg : (Nat.gcd a.natAbs b.natAbs : Int) = (Int.gcd a b : Nat) := by
          first | rfl | (rw [Int.gcd_comm]; rfl)
        rw [hgg] at hz'
        have HIZ : Hid (IsInt _ _ _) := hz'
        clear hz hz' hgg hbz' hbz hmb hbb hbb' hma hba hba' CM HX HY HN HF2 HF3 HF4 HG FZ
        go_wp2
        refine bodyPost_ret (v := .agg #[.int .i64 sz, .slice az nz cz]) (by simp [results, go_sem, loadVar, World.cell?_setCell_same, World.cell?_setCell_other, *]; try rfl) rfl ?_
        exact ⟨_, rfl, HWZ.out, HIZ.out⟩
end Go.Proofs.YtjlkplidpdhgbaaGreatDoor

/- Division, rounded towards 0 and not: plain arithmetic. -/
namespace Rad
theorem cut_sign (a b : Int) (hb : b ≠ 0) :
    (0 ≤ a.tmod b → a.tdiv b = a / b ∧ a.tmod b = a % b) ∧
    (a.tmod b < 0 → b < 0 → a.tdiv b + 1 = a / b ∧ a.tmod b - b = a % b) ∧
    (a.tmod b < 0 → ¬ b < 0 → a.tdiv b - 1 = a / b ∧ a.tmod b + b = a % b) := by
  have h1 : b * a.tdiv b + a.tmod b = a := Int.mul_tdiv_add_tmod a b
  have h2 : (a.tmod b).natAbs < b.natAbs := by
    rw [Int.natAbs_tmod]; exact Nat.mod_lt _ (by omega)
  have key : ∀ q r : Int, b * q + r = a → 0 ≤ r → r < b.natAbs → q = a / b ∧ r = a % b := fun q r h h0 hl => by
    have h3 := Int.emod_nonneg a hb
    have h4 := Int.emod_lt_of_neg a (b := b)
    have h5 := Int.emod_lt_of_pos a (b := b)
    have h6 := Int.mul_ediv_add_emod a b
    have e : b * (q - a / b) = a % b - r := by rw [Int.mul_sub]; omega
    have hq : q - a / b = 0 := by
      rcases Int.lt_trichotomy (q - a / b) 0 with h7 | h7 | h7
      · exfalso
        rcases Int.lt_or_lt_of_ne hb with h8 | h8
        · have h9 := Int.mul_le_mul_of_nonpos_left (show b ≤ 0 by omega) (show q - a / b ≤ -1 by omega)
          have := h4 h8; omega
        · have h9 := Int.mul_le_mul_of_nonneg_left (show q - a / b ≤ -1 by omega) (show 0 ≤ b by omega)
          have := h5 h8; omega
      · exact h7
      · exfalso
        rcases Int.lt_or_lt_of_ne hb with h8 | h8
        · have h9 := Int.mul_le_mul_of_nonpos_left (show b ≤ 0 by omega) (show 1 ≤ q - a / b by omega)
          have := h4 h8; omega
        · have h9 := Int.mul_le_mul_of_nonneg_left (show 1 ≤ q - a / b by omega) (show 0 ≤ b by omega)
          have := h5 h8; omega
    rw [hq, Int.mul_zero] at e
    omega
  refine ⟨fun h => key _ _ h1 h (by omega), fun h h' => ?_, fun h h' => ?_⟩
  · exact key _ _ (by rw [Int.mul_add]; omega) (by omega) (by omega)
  · exact key _ _ (by rw [Int.mul_sub]; omega) (by omega) (by omega)
theorem tdiv_range {s t : Int} (h1 : -9223372036854775808 ≤ s) (h2 : s ≤ 9223372036854775807) (h : ¬ (s = -9223372036854775808 ∧ t = -1)) :
    -9223372036854775808 ≤ s.tdiv t ∧ s.tdiv t ≤ 9223372036854775807 := by
  have e : (s.tdiv t).natAbs = s.natAbs / t.natAbs := Int.natAbs_tdiv s t
  have e1 : s.natAbs / t.natAbs ≤ s.natAbs := Nat.div_le_self _ _
  refine ⟨by omega, ?_⟩
  rcases Int.lt_or_le (-9223372036854775808) s with h3 | h3
  · omega
  · have hs : s = -9223372036854775808 := by omega
    have ht : t ≠ -1 := fun ht => h ⟨hs, ht⟩
    rcases Int.lt_or_le t 0 with h4 | h4
    · have h5 : s.natAbs / t.natAbs ≤ s.natAbs / 2 := Nat.div_le_div_left (by omega) (by decide)
      omega
    · have h5 : 0 ≤ (-s).tdiv t := Int.tdiv_nonneg (by omega) h4
      rw [Int.neg_tdiv] at h5
      omega
theorem tmod_range {s t : Int} (h1 : -9223372036854775808 ≤ s) (h2 : s ≤ 9223372036854775807) : -9223372036854775808 ≤ s.tmod t ∧ s.tmod t ≤ 9223372036854775807 := by
  have e : (s.tmod t).natAbs = s.natAbs % t.natAbs := Int.natAbs_tmod s t
  have e1 : s.natAbs % t.natAbs ≤ s.natAbs := Nat.mod_le _ _
  rcases Int.lt_or_le s 0 with h3 | h3
  · have h4 : 0 ≤ (-s).tmod t := Int.tmod_nonneg _ (by omega)
    rw [Int.neg_tmod] at h4
    omega
  · have h4 : 0 ≤ s.tmod t := Int.tmod_nonneg _ h3
    omega
theorem tdiv_abs_le (a b : Int) : (a.tdiv b).natAbs ≤ a.natAbs := by rw [Int.natAbs_tdiv]; exact Nat.div_le_self _ _
/-- Quotient and rest by magnitudes. -/
theorem tdiv_sgn (a b : Int) (s t : Bool) (hs : s = true ↔ a < 0) (ht : t = true ↔ b < 0) :
    (if (s != t) = true then -((a.natAbs / b.natAbs : Nat) : Int) else ((a.natAbs / b.natAbs : Nat) : Int)) = a.tdiv b ∧
    (if s = true then -((a.natAbs % b.natAbs : Nat) : Int) else ((a.natAbs % b.natAbs : Nat) : Int)) = a.tmod b := by
  have ha : a = (if s = true then -(a.natAbs : Int) else (a.natAbs : Int)) := by
    cases s
    · have : ¬ a < 0 := fun h => by simpa using hs.2 h
      simp; omega
    · have := hs.1 rfl; simp; omega
  have hb : b = (if t = true then -(b.natAbs : Int) else (b.natAbs : Int)) := by
    cases t
    · have : ¬ b < 0 := fun h => by simpa using ht.2 h
      simp; omega
    · have := ht.1 rfl; simp; omega
  generalize a.natAbs = x at *
  generalize b.natAbs = y at *
  subst ha hb
  cases s <;> cases t <;> simp [Int.neg_tdiv, Int.tdiv_neg, Int.neg_tmod, Int.tmod_neg] <;> exact (Int.tmod_eq_emod_of_nonneg (by omega)).symm
end Rad
