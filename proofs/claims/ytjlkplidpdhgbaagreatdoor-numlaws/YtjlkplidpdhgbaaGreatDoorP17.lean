/- A part of the proof: W27, W19, W11. -/
import Derived.Test.YtjlkplidpdhgbaaGreatDoorP14
import Derived.Test.YtjlkplidpdhgbaaGreatDoorP02
import Derived.Test.YtjlkplidpdhgbaaGreatDoorP07
import Derived.Test.YtjlkplidpdhgbaaGreatDoorP09
import Derived.Deep.Draws
import Derived.Test.YtjlkplidpdhgbaaGreatDoorP12
import Derived.Test.YtjlkplidpdhgbaaGreatDoorP05
set_option linter.all false

namespace Go.Proofs.YtjlkplidpdhgbaaGreatDoor
open Go Go.Proofs Go.RowKit Go.Rad

theorem rows_step {β Bj lo P b Qh U : Nat} (h : (lo + Bj * P) + Bj * β * (Qh * b) = U) : (lo + Bj * (P % b)) + Bj * ((P / b + β * Qh) * b) = U := by
  have h1 := Nat.mod_add_div P b
  have h2 : Bj * P = Bj * (P % b) + Bj * (b * (P / b)) := by rw [← Nat.mul_add, h1]
  rw [Nat.add_mul, Nat.mul_add, Nat.mul_comm (P / b) b]
  have h3 : Bj * β * (Qh * b) = Bj * (β * Qh * b) := by simp only [Nat.mul_assoc]
  omega
/-- The guess was right. -/
theorem rows_right {P b d c n x : Nat} (hb : 0 < b) (h : x + b * d = P + n * c) (hc : c = 0) (h1 : P / b ≤ d) (h2 : d ≤ P / b + 1) : d = P / b ∧ x = P % b := by
  subst hc
  rw [Nat.mul_zero, Nat.add_zero] at h
  have e : P / b = d := by
    refine Nat.le_antisymm h1 ?_
    refine (Nat.le_div_iff_mul_le hb).2 ?_
    rw [Nat.mul_comm]; omega
  have h3 := Nat.mod_add_div P b
  rw [e] at h3 ⊢
  exact ⟨rfl, by omega⟩
/-- It was one too great. -/
theorem rows_back {P b d c c2 n x y : Nat} (hb : 0 < b) (h : x + b * d = P + n * c) (hc : c ≤ 1) (hc0 : c ≠ 0) (hx : x < n) (hy : y < n) (h1 : P / b ≤ d) (h2 : d ≤ P / b + 1) (hbn : b ≤ n) (hA : y + n * c2 = x + b) (hc2 : c2 ≤ 1) :
    d = P / b + 1 ∧ y = P % b := by
  have hc' : c = 1 := by omega
  subst hc'
  rw [Nat.mul_one] at h
  have e : d = P / b + 1 := by
    rcases Nat.lt_or_ge d (P / b + 1) with h3 | h3
    · have h4 : d ≤ P / b := by omega
      have h5 := (Nat.le_div_iff_mul_le hb).1 h4
      rw [Nat.mul_comm] at h5
      omega
    · omega
  have h3 := Nat.mod_add_div P b
  have h4 := Nat.mod_lt P hb
  subst e
  rw [Nat.mul_add, Nat.mul_one] at h
  refine ⟨rfl, ?_⟩
  have : c2 = 0 ∨ c2 = 1 := by omega
  rcases this with rfl | rfl <;> omega
theorem num_head' (β : Nat) (w : World) (b o n : Nat) : num β w b o (n + 1) = word w b o + β * num β w b (o + 1) n := by
  rw [Nat.add_comm n 1, num_add, Nat.pow_one]
  congr 1
  rw [num_succ, num_zero, Nat.zero_add, Nat.pow_zero, Nat.one_mul, Nat.add_zero]

/-- Behind the digit's store. -/
theorem rows_tail {β : Nat} {w wr wx : World} {bu ou nu j m b P U D : Nat} (hch : Chg w wr bu ou (ou + nu)) (har : Arr .u64 β wr bu ou nu) (hj : j + (m + 3) ≤ nu) (hx : Chg wr wx bu (ou + j) (ou + j + (m + 3)))
    (hax : Arr .u64 β wx bu (ou + j) (m + 3)) (hv : num β wx bu (ou + j) (m + 3) = P % b) (hD : D = P / b) (hDB : D < β) (hb : 0 < b) (hbl : b < β ^ (m + 2))
    (hst : num β wr bu ou j + β ^ j * (P % b) + β ^ j * ((P / b + β * num β wr bu (ou + (j + (m + 3))) (nu - (j + (m + 3)))) * b) = U) :
    Chg w (wx.setCell ⟨bu, ou + j + (m + 2), none⟩ (.int .u64 (D : Int))) bu ou (ou + nu) ∧ Arr .u64 β (wx.setCell ⟨bu, ou + j + (m + 2), none⟩ (.int .u64 (D : Int))) bu ou nu ∧
    num β (wx.setCell ⟨bu, ou + j + (m + 2), none⟩ (.int .u64 (D : Int))) bu ou (j + (m + 2)) + β ^ j * (num β (wx.setCell ⟨bu, ou + j + (m + 2), none⟩ (.int .u64 (D : Int))) bu (ou + (j + (m + 2))) (nu - (j + (m + 2))) * b) = U ∧
    num β (wx.setCell ⟨bu, ou + j + (m + 2), none⟩ (.int .u64 (D : Int))) bu (ou + j) (m + 2) < b := by
  have hlt : P % b < b := Nat.mod_lt P hb
  have hlow : num β wx bu (ou + j) (m + 2) = P % b := by
    have h1 : num β wx bu (ou + j) (m + 2) + β ^ (m + 2) * word wx bu (ou + j + (m + 2)) = P % b := by rw [← num_succ]; exact hv
    rcases Nat.eq_zero_or_pos (word wx bu (ou + j + (m + 2))) with h2 | h2
    · rw [h2, Nat.mul_zero] at h1; exact h1
    · have h3 := Nat.le_mul_of_pos_right (β ^ (m + 2)) h2
      omega
  have hA : Arr .u64 β wx bu ou nu := fun i hi => by
    by_cases h1 : i < j ∨ j + (m + 3) ≤ i
    · have e := hx.cell (ou + i) (by omega)
      rw [word_of_cell e, e]; exact har i hi
    · obtain ⟨t, rfl⟩ := Nat.exists_eq_add_of_le (show j ≤ i by omega)
      have := hax t (by omega)
      rwa [Nat.add_assoc] at this
  have hxc : Chg w wx bu ou (ou + nu) := hch.trans (hx.mono (by omega) (by omega))
  have hidx : ou + j + (m + 2) = ou + (j + (m + 2)) := by omega
  have hlow' : num β (wx.setCell ⟨bu, ou + j + (m + 2), none⟩ (.int .u64 (D : Int))) bu (ou + j) (m + 2) = P % b := by
    rw [num_set_other (.inr (.inr (by omega))), hlow]
  refine ⟨hxc.set (by omega) (by omega) _, ?_, ?_, by rw [hlow']; exact hlt⟩
  · rw [hidx]; exact hA.set hDB
  · have h1 : num β (wx.setCell ⟨bu, ou + j + (m + 2), none⟩ (.int .u64 (D : Int))) bu ou (j + (m + 2)) = num β wr bu ou j + β ^ j * (P % b) := by
      rw [num_add, hlow', num_set_other (.inr (.inr (by omega))), num_congr (fun i hi => word_of_cell (hx.cell (ou + i) (by omega)))]
    have h2 : num β (wx.setCell ⟨bu, ou + j + (m + 2), none⟩ (.int .u64 (D : Int))) bu (ou + (j + (m + 2))) (nu - (j + (m + 2))) = D + β * num β wr bu (ou + (j + (m + 3))) (nu - (j + (m + 3))) := by
      have hc : (wx.cell? ⟨bu, ou + j + (m + 2), none⟩).isSome = true := by
        have := (hA (j + (m + 2)) (by omega)).1
        rw [hidx, this]; rfl
      rw [show nu - (j + (m + 2)) = nu - (j + (m + 3)) + 1 by omega, num_head', ← hidx, word_set_same hc, num_set_other (.inr (.inl (by omega)))]
      congr 2
      refine num_congr (fun i hi => ?_)
      have e := hx.cell (ou + (j + (m + 2)) + 1 + i) (by omega)
      rw [show ou + (j + (m + 3)) + i = ou + (j + (m + 2)) + 1 + i by omega, hidx]
      exact word_of_cell e
    rw [h1, h2, hD]
    exact hst

set_option maxRecDepth 10000 in
set_option maxHeartbeats 2000000 in
theorem divRows_any (w : World) (bu ou nu cu bb ob cb m : Nat) (hm : nu ≤ 35184372088832) (hn : m + 3 ≤ nu) (hcu : nu ≤ cu) (hcm : cu ≤ maxLen) (hu : Arr .u64 B w bu ou nu) (hf : Free w bu ou nu) (hb : Arr .u64 B w bb ob (m + 2)) (hne : bu ≠ bb)
    (htop : 9223372036854775808 ≤ word w bb (ob + (m + 1))) (hlt : num B w bu (ou + (nu - (m + 2))) (m + 2) < num B w bb ob (m + 2)) :
    Calls Tryz.prog 139 #[.slice (some ⟨bu, ou, none⟩) nu cu, .slice (some ⟨bb, ob, none⟩) (m + 2 : Nat) cb] w fun e w' => ∃ kq kr : Nat,
      e = .returned (.tuple #[.slice (some ⟨bu, ou + (m + 2), none⟩) kq kq, .slice (some ⟨bu, ou, none⟩) kr kr]) ∧ kq ≤ nu - (m + 2) ∧ kr ≤ m + 2 ∧ Chg w w' bu ou (ou + nu) ∧ Arr .u64 B w' bu ou nu ∧
      Mag w' (.slice (some ⟨bu, ou + (m + 2), none⟩) kq kq) (num B w bu ou nu / num B w bb ob (m + 2)) kq ∧ Mag w' (.slice (some ⟨bu, ou, none⟩) kr kr) (num B w bu ou nu % num B w bb ob (m + 2)) kr := by
  have hcm' : cu ≤ 9223372036854775807 := hcm
  obtain ⟨b, hbv⟩ : ∃ b, num B w bb ob (m + 2) = b := ⟨_, rfl⟩
  obtain ⟨U, hUv⟩ : ∃ U, num B w bu ou nu = U := ⟨_, rfl⟩
  have hblt : b < B ^ (m + 2) := by rw [← hbv]; exact num_lt hb
  rw [hbv] at hlt ⊢
  rw [hUv]
  have HBV : Hid (num B w bb ob (m + 2) = b) := hbv
  have HLT : Hid _ := hlt
  have HUV : Hid _ := hUv
  have HBL : Hid _ := hblt
  clear hbv hUv hlt hblt
  go_enter Tryz.func139, Tryz.ntmps139
  go_wp2
  go_loopw [7] (fun s wr => ∃ k : Nat, k ≤ nu - (m + 2) ∧ s = .int .i64 ((k : Int) - 1) ∧ Chg w wr bu ou (ou + nu) ∧ Arr .u64 B wr bu ou nu ∧
      num B wr bu ou (k + (m + 2)) + B ^ k * (num B wr bu (ou + (k + (m + 2))) (nu - (k + (m + 2))) * b) = U ∧ num B wr bu (ou + k) (m + 2) < b)
    (fun s _ => (intOf s + 1).toNat)
  case atStart =>
    refine ⟨nu - (m + 2), Nat.le_refl _, by go_num, Chg.refl _ _ _ _, hu, ?_, HLT.out⟩
    rw [show nu - (m + 2) + (m + 2) = nu by omega, Nat.sub_self, num_zero, Nat.zero_mul, Nat.mul_zero, Nat.add_zero]
    exact HUV.out
  case round =>
    obtain ⟨k, hk, rfl, hch, har, hnum, hhi⟩ := hrel
    by_cases h0 : k = 0
    · subst h0
      rw [Nat.pow_zero, Nat.one_mul, Nat.zero_add] at hnum
      rw [Nat.add_zero] at hhi
      have hq : num B wr bu (ou + (m + 2)) (nu - (m + 2)) = U / b ∧ num B wr bu ou (m + 2) = U % b := by
        have hb0 : 0 < b := by omega
        rw [← hnum]
        refine ⟨?_, ?_⟩
        · rw [Nat.mul_comm _ b, Nat.add_mul_div_left _ _ hb0, Nat.div_eq_of_lt hhi, Nat.zero_add]
        · rw [Nat.mul_comm _ b, Nat.add_mul_mod_self_left, Nat.mod_eq_of_lt hhi]
      have F1 := front_at wr (some ⟨bu, ou + (m + 2), none⟩) bu (ou + (m + 2)) (nu - (m + 2)) (cu - (m + 2)) nu (Sl.mk _ _ _) (by omega) (by unfold maxLen; omega) (by unfold maxLen; omega) (har.sub (by omega))
      have F2 := front_at wr (some ⟨bu, ou, none⟩) bu ou nu cu (m + 2) (Sl.mk _ _ _) (by omega) (by unfold maxLen; omega) (by unfold maxLen; omega) har
      rw [Nat.min_eq_right (by omega), hq.1] at F1
      rw [Nat.min_eq_left (by omega), hq.2] at F2
      have hcm2 : ¬ cu = m + 2 := by omega
      clear hnum hhi hq
      go_wp2_with (go_at_call 86; fail)
      refine F1.mono ?_
      rintro e w1 ⟨kq, rfl, hw, hq1, hq2, hmq⟩
      subst hw
      go_wp2_with (go_at_call 86; fail)
      refine F2.mono ?_
      rintro e w2 ⟨kr, rfl, hw, hr1, hr2, hmr⟩
      subst hw
      clear F1 F2
      have HQ : Hid _ := hmq
      have HR : Hid _ := hmr
      clear hmq hmr
      go_wp2
      go_ret2
      exact ⟨kq, kr, rfl, hq2, hr1, hch, har, HQ.out, HR.out⟩
    · obtain ⟨j, rfl⟩ : ∃ j, k = j + 1 := ⟨k - 1, by omega⟩
      have he : ((j + 1 : Nat) : Int) - 1 = (j : Int) := by omega
      rw [he]
      have hkn : j + 1 + (m + 2) = j + (m + 3) := by omega
      -- the part and what stands round it
      have hP1 : num B wr bu (ou + j) (m + 3) < B * b := by
        have h1 : num B wr bu (ou + j) (m + 3) = word wr bu (ou + j) + B * num B wr bu (ou + (j + 1)) (m + 2) := num_head wr bu (ou + j) (m + 2)
        have h2 := arr_lt har (i := j) (by omega)
        have h3 := Nat.mul_le_mul_left B (show num B wr bu (ou + (j + 1)) (m + 2) + 1 ≤ b from hhi)
        rw [Nat.mul_add] at h3
        omega
      have hsp : num B wr bu ou (j + (m + 3)) = num B wr bu ou j + B ^ j * num B wr bu (ou + j) (m + 3) := num_add _ _ _ _ _ _
      rw [hkn, hsp, Nat.pow_succ] at hnum
      obtain ⟨P, hPv⟩ : ∃ P, num B wr bu (ou + j) (m + 3) = P := ⟨_, rfl⟩
      rw [hPv] at hnum hP1
      have hb0 : 0 < b := by omega
      have hst := rows_step hnum
      have HST : Hid _ := hst
      have HPV : Hid _ := hPv
      have hbr : Arr .u64 B wr bb ob (m + 2) := hch.arr hb hb.lt (fun _ => .inl (by omega))
      have hnb : num B wr bb ob (m + 2) = b := (hch.num (fun _ => hb.lt (by omega)) (fun _ => .inl (by omega))).trans HBV.out
      have htr : 9223372036854775808 ≤ word wr bb (ob + (m + 1)) := by
        rw [word_of_cell (hch.cellAt (hb.lt (by omega)) (.inl (by omega)))]; exact htop
      have CG := guessWord_any wr bu (ou + j) (m + 3) bb ob cb m (by omega) (har.sub (by omega)) hbr htr (by rw [hPv, hnb]; exact hP1)
      rw [hPv, hnb] at CG
      clear hst hPv hnum hsp hkn hhi
      have c1 : ¬ cu = j := by omega
      go_wp2_with (go_at_call 164; fail)
      rw [show j + (m + 2) + 1 - j = m + 3 by omega]
      refine CG.mono ?_
      rintro e w' ⟨d, rfl, ⟨kk, rfl⟩, hdB, hd1, hd2⟩
      clear CG
      by_cases hd0 : d = 0
      · subst hd0
        have hQ : P / b = 0 := Nat.le_zero.1 hd1
        have hPm : P % b = P := Nat.mod_eq_of_lt ((Nat.div_eq_zero_iff_lt hb0).1 hQ)
        have XC : Chg wr (wr.drewN kk) bu (ou + j) (ou + j + (m + 3)) := chg_drewN (Chg.refl _ _ _ _) kk
        have XA : Arr .u64 B (wr.drewN kk) bu (ou + j) (m + 3) := har.sub (by omega)
        have XVV : num B (wr.drewN kk) bu (ou + j) (m + 3) = P % b := by rw [hPm]; exact HPV.out
        have RT := rows_tail (D := 0) hch har (by omega) XC XA XVV hQ.symm (by unfold B; omega) hb0 HBL.out HST.out
        have RH : Hid _ := RT
        have hcell : (wr.drewN kk).cell? ⟨bu, ou + j + (m + 2), none⟩ = some (.int .u64 ((word (wr.drewN kk) bu (ou + j + (m + 2)) : Nat) : Int)) := arr_cell (i := m + 2) XA (by omega)
        have hfr : (wr.drewN kk).frozen? ⟨bu, ou + j + (m + 2), none⟩ = false := by
          have h1 := (hch.trans (XC.mono (by omega) (by omega))).free hf hu.lt (j + (m + 2)) (by omega)
          rwa [← Nat.add_assoc] at h1
        have hjn : j + (m + 3) ≤ nu := by omega
        clear RT hch har hk hP1 HST HPV hbr hnb htr hb0 XC XA XVV hQ hPm hd1 hd2
        go_wp2
        go_roundw
        case rel => exact ⟨j, by omega, by go_num, RH.out.1, RH.out.2.1, RH.out.2.2.1, RH.out.2.2.2⟩
        case measure => simp [intOf]
      · have hd0' : ¬ (d : Int) = 0 := by omega
        have CS := subProduct_any (wr.drewN kk) bu (ou + j) (m + 3) (m + 3) bb ob (m + 2) cb d (some ⟨bb, ob, none⟩) (Sl.mk _ _ _) (har.sub (by omega))
          (fun i hi => by have h1 := hch.free hf hu.lt (j + i) (by omega); rw [← Nat.add_assoc] at h1; exact h1) hbr rfl (Nat.le_refl _) (fun _ => .inl hne) (by unfold maxLen; omega) hdB
        have hPV' : num B (wr.drewN kk) bu (ou + j) (m + 3) = P := HPV.out
        have hnb' : num B (wr.drewN kk) bb ob (m + 2) = b := hnb
        rw [hPV', hnb'] at CS
        clear hPV' hnb'
        go_wp2_with (go_at_call 165; fail)
        refine CS.mono ?_
        rintro e w2 ⟨c, rfl, hc1, hc2, hc3, hc4⟩
        clear CS
        have XC : Chg wr w2 bu (ou + j) (ou + j + (m + 3)) := (chg_drewN (Chg.refl _ _ _ _) kk).trans hc1
        by_cases hc0 : c = 0
        · subst hc0
          obtain ⟨hD, hV⟩ := rows_right hb0 hc4 rfl hd1 hd2
          have RT := rows_tail (D := d) hch har (by omega) XC hc2 hV hD hdB hb0 HBL.out HST.out
          have RH : Hid _ := RT
          have hcell : w2.cell? ⟨bu, ou + j + (m + 2), none⟩ = some (.int .u64 ((word w2 bu (ou + j + (m + 2)) : Nat) : Int)) := arr_cell (i := m + 2) hc2 (by omega)
          have hfr : w2.frozen? ⟨bu, ou + j + (m + 2), none⟩ = false := by
            have h1 := (hch.trans (XC.mono (by omega) (by omega))).free hf hu.lt (j + (m + 2)) (by omega)
            rwa [← Nat.add_assoc] at h1
          have hjn : j + (m + 3) ≤ nu := by omega
          clear RT hch har hk hP1 HST HPV hbr hnb htr hb0 XC hc1 hc2 hc3 hc4 hV hD hd1 hd2
          go_wp2
          go_roundw
          case rel => exact ⟨j, by omega, by go_num, RH.out.1, RH.out.2.1, RH.out.2.2.1, RH.out.2.2.2⟩
          case measure => simp [intOf]
        · have hc0' : ¬ (c : Int) = 0 := by omega
          have hct : ((c : Int) != 0) = true := by simpa using hc0
          have hdt : ((d : Int) != 0) = true := by simpa using hd0
          have hb2 : Arr .u64 B w2 bb ob (m + 2) := XC.arr hbr hbr.lt (fun _ => .inl (by omega))
          have CA := addTo_any w2 (some ⟨bu, ou + j, none⟩) (some ⟨bb, ob, none⟩) bu (ou + j) (m + 3) (m + 3) bb ob (m + 2) cb (Sl.mk _ _ _) (Sl.mk _ _ _) hc2
            (fun i hi => by have h1 := (hch.trans (XC.mono (by omega) (by omega))).free hf hu.lt (j + i) (by omega); rw [← Nat.add_assoc] at h1; exact h1) hb2 (by omega) (fun _ => .inl (by omega)) (by unfold maxLen; omega)
          have hnb2 : num B w2 bb ob (m + 2) = b := (XC.num (fun _ => hbr.lt (by omega)) (fun _ => .inl (by omega))).trans hnb
          rw [hnb2] at CA
          have hx2 := num_lt hc2
          obtain ⟨d1, hd1v⟩ : ∃ d1, d1 = d - 1 := ⟨d - 1, rfl⟩
          have e9 : (d : Int) - 1 = (d1 : Int) := by omega
          have e11 : d1 < 18446744073709551616 := by unfold B at hdB; omega
          have hdd : d = d1 + 1 := by omega
          have HDD : Hid _ := hdd
          clear hd1v hdd
          have hch2 := hch
          go_wp2_with (go_at_call 142; fail)
          refine CA.mono ?_
          rintro e w3 ⟨rfl, hf1, hf2, c2, hf3, hf4⟩
          clear CA
          have hy2 := num_lt hf2
          have hbB : b ≤ B ^ (m + 3) := Nat.le_trans (Nat.le_of_lt HBL.out) (Nat.pow_le_pow_right B_pos (by omega))
          obtain ⟨hD, hV⟩ := rows_back hb0 hc4 hc3 hc0 hx2 hy2 hd1 hd2 hbB hf4 hf3
          have hD' : d1 = P / b := Nat.succ.inj (HDD.out.symm.trans hD)
          have XC3 : Chg wr w3 bu (ou + j) (ou + j + (m + 3)) := XC.trans hf1
          have RT := rows_tail (D := d1) hch har (by omega) XC3 hf2 hV hD' (by have := HDD.out; omega) hb0 HBL.out HST.out
          have RH : Hid _ := RT
          have hcell : w3.cell? ⟨bu, ou + j + (m + 2), none⟩ = some (.int .u64 ((word w3 bu (ou + j + (m + 2)) : Nat) : Int)) := arr_cell (i := m + 2) hf2 (by omega)
          have hfr : w3.frozen? ⟨bu, ou + j + (m + 2), none⟩ = false := by
            have h1 := (hch.trans (XC3.mono (by omega) (by omega))).free hf hu.lt (j + (m + 2)) (by omega)
            rwa [← Nat.add_assoc] at h1
          have hjn : j + (m + 3) ≤ nu := by omega
          clear RT hch har hk hP1 HST HPV hbr hnb htr hb0 hch2 XC XC3 hc1 hc2 hc3 hc4 hc0 hV hD hD' hd1 hd2 hb2 hnb2 hx2 hy2 hbB hf1 hf2 hf3 hf4
          go_wp2
          go_roundw
          case rel => exact ⟨j, by omega, by go_num, RH.out.1, RH.out.2.1, RH.out.2.2.1, RH.out.2.2.2⟩
          case measure => simp [intOf]
end Go.Proofs.YtjlkplidpdhgbaaGreatDoor

namespace Go.Proofs.YtjlkplidpdhgbaaGreatDoor
open Go Go.Proofs Go.RowKit Go.Rad

theorem wrap_toInt (v : BitVec 64) : IntKind.i64.wrap (v.toNat : Nat) = v.toInt := by
  rw [IntKind.wrap_i64, BitVec.toInt_eq_toNat_cond]
  have := v.isLt
  split <;> omega
theorem ofInt_wrap_toInt (v : BitVec 64) : BitVec.ofInt 64 v.toInt = v := BitVec.ofInt_toInt
theorem ofInt_in {x : Int} (h1 : -9223372036854775808 ≤ x) (h2 : x ≤ 9223372036854775807) : (BitVec.ofInt 64 x).toInt = x := by
  rw [BitVec.toInt_ofInt]
  simp only [Int.bmod]
  split <;> omega
theorem bits_xor_i64 (x y : Int) : bits .xor .i64 x y = (BitVec.ofInt 64 x ^^^ BitVec.ofInt 64 y).toInt := by
  show IntKind.i64.wrap ((BitVec.ofInt 64 x ^^^ BitVec.ofInt 64 y).toNat : Nat) = _
  exact wrap_toInt _
theorem bits_and_i64 (x y : Int) : bits .and .i64 x y = (BitVec.ofInt 64 x &&& BitVec.ofInt 64 y).toInt := by
  show IntKind.i64.wrap ((BitVec.ofInt 64 x &&& BitVec.ofInt 64 y).toNat : Nat) = _
  exact wrap_toInt _
/-- Whether the and of two xors is below 0: by signs alone. -/
theorem signs {x s y t : Int} (hx : -9223372036854775808 ≤ x ∧ x ≤ 9223372036854775807) (hs : -9223372036854775808 ≤ s ∧ s ≤ 9223372036854775807)
    (hy : -9223372036854775808 ≤ y ∧ y ≤ 9223372036854775807) (ht : -9223372036854775808 ≤ t ∧ t ≤ 9223372036854775807) :
    bits .and .i64 (bits .xor .i64 x s) (bits .xor .i64 y t) < 0 ↔ (¬ (x < 0 ↔ s < 0) ∧ ¬ (y < 0 ↔ t < 0)) := by
  rw [bits_and_i64, bits_xor_i64, bits_xor_i64, ofInt_wrap_toInt, ofInt_wrap_toInt]
  have key : ∀ v : BitVec 64, v.toInt < 0 ↔ v.msb = true := fun v => by rw [BitVec.msb_eq_toInt]; simp
  rw [key, BitVec.msb_and, BitVec.msb_xor, BitVec.msb_xor, BitVec.msb_eq_toInt, BitVec.msb_eq_toInt, BitVec.msb_eq_toInt, BitVec.msb_eq_toInt,
    ofInt_in hx.1 hx.2, ofInt_in hs.1 hs.2, ofInt_in hy.1 hy.2, ofInt_in ht.1 ht.2]
  by_cases a : x < 0 <;> by_cases b : s < 0 <;> by_cases c : y < 0 <;> by_cases d : t < 0 <;> simp [a, b, c, d]
theorem add_over {x y : Int} (hx : -9223372036854775808 ≤ x ∧ x ≤ 9223372036854775807) (hy : -9223372036854775808 ≤ y ∧ y ≤ 9223372036854775807) :
    0 ≤ bits .and .i64 (bits .xor .i64 x (IntKind.i64.wrap (x + y))) (bits .xor .i64 y (IntKind.i64.wrap (x + y))) ↔ -9223372036854775808 ≤ x + y ∧ x + y ≤ 9223372036854775807 := by
  have e := IntKind.wrap_i64 (x + y)
  have h := signs (s := IntKind.i64.wrap (x + y)) (t := IntKind.i64.wrap (x + y)) hx (by omega) hy (by omega)
  rw [← Int.not_lt, h]
  omega
theorem sub_over {x y : Int} (hx : -9223372036854775808 ≤ x ∧ x ≤ 9223372036854775807) (hy : -9223372036854775808 ≤ y ∧ y ≤ 9223372036854775807) :
    0 ≤ bits .and .i64 (bits .xor .i64 x y) (bits .xor .i64 x (IntKind.i64.wrap (x - y))) ↔ -9223372036854775808 ≤ x - y ∧ x - y ≤ 9223372036854775807 := by
  have e := IntKind.wrap_i64 (x - y)
  have h := signs (s := y) (t := IntKind.i64.wrap (x - y)) hx hy hx (by omega)
  rw [← Int.not_lt, h]
  omega
theorem cmp_mag (w : World) (vx vy : Value) (x y nx ny : Nat) (hx : Mag w vx x nx) (hy : Mag w vy y ny) (hl : nx ≤ 35184372088832) (hl' : ny ≤ 35184372088832) :
    Calls Tryz.prog 87 #[vx, vy] w fun e w' => e = .returned (.int .i64 (cmpI (x : Int) (y : Int))) ∧ Below w.heap.size w w' := by
  obtain ⟨ax, bx, ox, cx, rfl, hsx, hcx, hax, hnx, hrx⟩ := hx
  obtain ⟨ay, byy, oy, cy, rfl, hsy, hcy, hay, hny', hry⟩ := hy
  refine (cmpWords_any w ax ay bx ox nx cx byy oy ny cy hsx hsy (by unfold maxLen; omega) (by unfold maxLen; omega) hax hay hrx hry).mono ?_
  rintro e w' ⟨rfl, n, rfl⟩
  rw [hnx, hny']
  exact ⟨rfl, ⟨rfl, rfl, rfl, Nat.le_refl _, fun _ _ => rfl⟩⟩
end Go.Proofs.YtjlkplidpdhgbaaGreatDoor

namespace Go.Proofs.YtjlkplidpdhgbaaGreatDoor
open Go Go.Proofs Go.RowKit Go.Rad

set_option maxRecDepth 10000 in
set_option maxHeartbeats 1000000 in
theorem shiftLeft_any (w : World) (vx : Value) (x nx m : Nat) (hx : Mag w vx x nx) (hl : nx + m / 64 + 1 ≤ 35184372088832) (hm : m ≤ maxLen) :
    Calls Tryz.prog 136 #[vx, .int .i64 m] w fun e w' => ∃ v n, e = .returned v ∧ Below w.heap.size w w' ∧ Mag w' v (x * 2 ^ m) n ∧ n ≤ nx + m / 64 + 1 := by
  obtain ⟨ax, bx, ox, cx, rfl, hsx, hcx, hax, hnx, hrx⟩ := hx
  obtain ⟨i0, hi0, hz0, hz1, hz2⟩ := info_parts info98
  have HX : Hid (num B w bx ox nx = x) := hnx
  clear hnx hrx
  have hm' : m ≤ 9223372036854775807 := hm
  obtain ⟨k, hk⟩ : ∃ k, k = m / 64 := ⟨_, rfl⟩
  obtain ⟨s, hs⟩ : ∃ s, s = m % 64 := ⟨_, rfl⟩
  rw [← hk] at hl ⊢
  have hms : Hid (m = 64 * k + s) := by show m = _; omega
  have hs64 : s < 64 := by omega
  have e1 : (m : Int).tdiv 64 = (k : Int) := by rw [Int.tdiv_eq_ediv_of_nonneg (by omega)]; omega
  have e2 : (m : Int).tmod 64 = (s : Int) := by rw [Int.tmod_eq_emod_of_nonneg (by omega)]; omega
  have e3 : (m : Int) / 64 = (k : Int) := by omega
  have e4 : (m : Int) % 64 = (s : Int) := by omega
  clear hk hs
  have hml : nx + k + 1 ≤ maxLen := by unfold maxLen; omega
  have z1 : nx + k + 1 - k = nx + 1 := by omega
  go_enter Tryz.func136, Tryz.ntmps136
  go_wp2_with (first
    | (at_make; refine wpList_makeRow .u64 B B_pos rfl _ _ 22 rfl 98 i0 Tryz.underlying22 hi0 hz0 hz1 .i64 .i64 _ _ (nx + k + 1) rfl rfl (by omega) (by omega) (by rw [hz2]; omega) hml ?_; intro w1 hm1)
    | (go_at_call 137; fail))
  have ha1 : Arr .u64 B w1 w.heap.size k (nx + 1) := by
    have := hm1.arr.sub (d := k) (m := nx + 1) (by omega)
    rwa [Nat.zero_add] at this
  have hf1 : Free w1 w.heap.size k (nx + 1) := by
    have := hm1.free.sub (d := k) (m := nx + 1) (by omega)
    rwa [Nat.zero_add] at this
  refine (moveUp_any w1 _ ax w.heap.size k (nx + 1) (nx + 1) bx ox nx cx s (Sl.mk _ _ _) hsx ha1 hf1 (arr_below hax hm1.below) rfl (fun h => .inl (by have := hax.lt h; omega)) (by unfold maxLen; omega) hs64).mono ?_
  rintro e w2 ⟨rfl, hch, ha2, hn2⟩
  rw [num_below hax hm1.below, HX.out] at hn2
  have hb3 : Below w.heap.size w w2 := hm1.below.trans (hch.below (Nat.le_refl _) (by have := hm1.lt; omega))
  have ha3 : Arr .u64 B w2 w.heap.size 0 (nx + k + 1) := fun i hi => by
    by_cases hik : i < k
    · have e := hch.cell (0 + i) (by omega)
      rw [word_of_cell e, e]
      exact hm1.arr i (by omega)
    · obtain ⟨j, rfl⟩ := Nat.exists_eq_add_of_le (Nat.le_of_not_lt hik)
      have := ha2 j (by omega)
      rwa [Nat.zero_add]
  have hv : num B w2 w.heap.size 0 (nx + k + 1) = x * 2 ^ m := by
    have h0 : num B w2 w.heap.size 0 k = 0 := _root_.Rad.vs_zeros fun i hi => by
      rw [Nat.zero_add, word_of_cell (hch.cell i (by omega))]
      exact hm1.zero i (by omega)
    have hB : B ^ k = 2 ^ (64 * k) := by rw [Nat.pow_mul]; rfl
    rw [show nx + k + 1 = k + (nx + 1) by omega, num_add, h0, Nat.zero_add, Nat.zero_add, hn2, hB, hms.out, Nat.pow_add, Nat.mul_left_comm]
  have HV : Hid _ := hv
  clear hv hn2 hm1 ha1 hf1 ha2 hch
  have e5 : (nx : Int) + (k : Int) + 1 = ((nx + k + 1 : Nat) : Int) := by omega
  have C := front_mag w2 (some ⟨w.heap.size, 0, none⟩) w.heap.size 0 (nx + k + 1) (nx + k + 1) (nx + k + 1) (Sl.mk _ _ _) (Nat.le_refl _) hml hml ha3
  rw [← e5] at C
  clear e5
  go_wp2_with (go_at_call 86; refine C.mono ?_; rintro e w' ⟨v, q, rfl, hw, hk1, hk2, hmg⟩; subst hw)
  go_ret
  rw [Nat.min_self, HV.out] at hmg
  exact ⟨_, q, rfl, hb3, hmg, hk1⟩

set_option maxRecDepth 10000 in
set_option maxHeartbeats 1000000 in
theorem shiftRight_any (w : World) (vx : Value) (x nx m : Nat) (hx : Mag w vx x nx) (hl : nx ≤ 35184372088832) (hm : m ≤ maxLen) :
    Calls Tryz.prog 120 #[vx, .int .i64 m] w fun e w' => ∃ v n, e = .returned v ∧ Below w.heap.size w w' ∧ Mag w' v (x / 2 ^ m) n ∧ n ≤ nx := by
  obtain ⟨ax, bx, ox, cx, rfl, hsx, hcx, hax, hnx, hrx⟩ := hx
  obtain ⟨i0, hi0, hz0, hz1, hz2⟩ := info_parts info98
  have HX : Hid (num B w bx ox nx = x) := hnx
  clear hnx hrx
  have hm' : m ≤ 9223372036854775807 := hm
  obtain ⟨k, hk⟩ : ∃ k, k = m / 64 := ⟨_, rfl⟩
  obtain ⟨s, hs⟩ : ∃ s, s = m % 64 := ⟨_, rfl⟩
  have hms : Hid (m = 64 * k + s) := by show m = _; omega
  have hs64 : s < 64 := by omega
  have e1 : (m : Int).tdiv 64 = (k : Int) := by rw [Int.tdiv_eq_ediv_of_nonneg (by omega)]; omega
  have e2 : (m : Int).tmod 64 = (s : Int) := by rw [Int.tmod_eq_emod_of_nonneg (by omega)]; omega
  have e3 : (m : Int) / 64 = (k : Int) := by omega
  have e4 : (m : Int) % 64 = (s : Int) := by omega
  clear hk hs
  have hB : Hid (B ^ k = 2 ^ (64 * k)) := by show B ^ k = _; rw [Nat.pow_mul]; rfl
  by_cases hkn : nx ≤ k
  · have hz : Hid (x / 2 ^ m = 0) := by
      show x / 2 ^ m = 0
      refine Nat.div_eq_of_lt ?_
      have h1 := num_lt hax
      rw [HX.out] at h1
      have h2 : B ^ nx ≤ B ^ k := Nat.pow_le_pow_right B_pos hkn
      rw [hB.out] at h2
      have h3 : 2 ^ (64 * k) ≤ 2 ^ m := Nat.pow_le_pow_right (by decide) (by rw [hms.out]; exact Nat.le_add_right _ _)
      exact Nat.lt_of_lt_of_le h1 (Nat.le_trans h2 h3)
    go_enter Tryz.func120, Tryz.ntmps120
    go_wp2
    go_ret
    exact ⟨_, 0, rfl, Below.refl _ _, by rw [hz.out]; exact mag_nil _, by omega⟩
  · have hml : nx ≤ maxLen := by unfold maxLen; omega
    have z1 : (nx : Int) - (k : Int) = ((nx - k : Nat) : Int) := by omega
    have z2 : ¬ cx = k := by omega
    obtain rfl := hsx (by omega)
    go_enter Tryz.func120, Tryz.ntmps120
    go_wp2_with (first
      | (at_make; refine wpList_makeRow .u64 B B_pos rfl _ _ 22 rfl 98 i0 Tryz.underlying22 hi0 hz0 hz1 .i64 .i64 _ _ (nx - k) rfl rfl (by omega) (by omega) (by rw [hz2]; omega) (by omega) ?_; intro w1 hm1)
      | (go_at_call 140; fail))
    have hxk : Arr .u64 B w bx (ox + k) (nx - k) := hax.sub (by omega)
    refine (moveDown_any w1 _ _ w.heap.size 0 (nx - k) (nx - k) bx (ox + k) (cx - k) s (Sl.mk _ _ _) (Sl.mk _ _ _) hm1.arr hm1.free (arr_below hxk hm1.below) (fun h => .inl (by have := hxk.lt h; omega)) (by omega) hs64).mono ?_
    rintro e w2 ⟨rfl, hch, ha2, hn2⟩
    rw [num_below hxk hm1.below] at hn2
    have hb3 : Below w.heap.size w w2 := hm1.below.trans (hch.below (Nat.le_refl _) (by have := hm1.lt; omega))
    have hv : num B w2 w.heap.size 0 (nx - k) = x / 2 ^ m := by
      have h1 : num B w bx ox nx = num B w bx ox k + B ^ k * num B w bx (ox + k) (nx - k) := by rw [← num_add]; congr 1; omega
      have h2 : num B w bx ox k < B ^ k := num_lt (fun i hi => hax i (by omega))
      have h3 : x / B ^ k = num B w bx (ox + k) (nx - k) := by
        rw [← HX.out, h1, Nat.add_mul_div_left _ _ (Nat.pow_pos B_pos), Nat.div_eq_of_lt h2, Nat.zero_add]
      rw [hn2, ← h3, Nat.div_div_eq_div_mul, hB.out, hms.out, Nat.pow_add]
    have HV : Hid _ := hv
    clear hv hn2 hm1 hch
    go_wp2_with (go_at_call 86; refine (front_mag w2 _ _ _ _ _ (nx - k) (Sl.mk _ _ _) (Nat.le_refl _) (by omega) (by omega) ha2).mono ?_; rintro e w' ⟨v, q, rfl, hw, hk1, hk2, hmg⟩; subst hw)
    go_ret
    rw [Nat.min_self, HV.out] at hmg
    exact ⟨_, q, rfl, hb3, hmg, by omega⟩
end Go.Proofs.YtjlkplidpdhgbaaGreatDoor
