/- A part of the proof: D3. -/
import Derived.Test.YtjlkplidpdhgbaaGreatDoorP18
import Derived.Test.YtjlkplidpdhgbaaGreatDoorP19
import Derived.Test.YtjlkplidpdhgbaaGreatDoorP20
import Derived.Test.YtjlkplidpdhgbaaGreatDoorP22
import Derived.Deep.LoopGhost
set_option linter.all false

namespace Go.Proofs.YtjlkplidpdhgbaaGreatDoor
open Go Go.Proofs Go.RowKit Go.Rad


theorem root_sizes {k bl x t h : Nat} (hk : 2 ≤ k) (ht : t = (bl - 1) / k) (h1 : 1 ≤ t) (hh : h = (t + 1) / 2) (hx : 2 ^ (bl - 1) ≤ x) (hbl : 0 < bl) :
    k * h ≤ bl ∧ 0 < x / 2 ^ (k * h) ∧ x / 2 ^ (k * h) < x := by
  have h2 : k * t ≤ bl - 1 := by rw [ht]; exact Nat.mul_div_le _ _
  have h3 : k * h ≤ k * t := Nat.mul_le_mul_left _ (by omega)
  have h4 : 2 * 1 ≤ k * h := Nat.mul_le_mul hk (by omega)
  have h5 : 2 ^ (k * h) ≤ x := Nat.le_trans (Nat.pow_le_pow_right (by decide) (by omega)) hx
  have h6 : 0 < x := Nat.lt_of_lt_of_le (Nat.pow_pos (by decide)) hx
  refine ⟨by omega, Nat.div_pos h5 (Nat.pow_pos (by decide)), Nat.div_lt_self h6 ?_⟩
  exact Nat.one_lt_pow (by omega) (by decide)

set_option maxRecDepth 10000 in
set_option maxHeartbeats 1000000 in
theorem root_any (k : Nat) (hk : 2 ≤ k) (hk2 : k ≤ 200) (x : Nat) : ∀ (w : World) (vw : Value) (n : Nat), Mag w vw x n → 0 < n → n ≤ 53 →
    Calls Tryz.prog 89 #[vw, .int .i64 k] w fun e w' => ∃ v r, e = .returned v ∧ Below w.heap.size w w' ∧ IsInt w' v ((r : Nat) : Int) ∧ _root_.Rad.IsRt k x r := by
  induction x using Nat.strongRecOn with
  | ind x ih =>
  intro w vw n hm hn hn53
  have IH : Hid _ := ih
  have HM : Hid (Mag w vw x n) := hm
  have hx0 := hm.pos hn
  obtain ⟨r, hr⟩ := _root_.Rad.isRt_exists (k := k) (by omega) x
  have HR : Hid (_root_.Rad.IsRt k x r) := hr
  clear ih hm hr
  go_enter Tryz.func89, Tryz.ntmps89
  go_upto_region 1 with fail
  refine wp_world (fun w1 => Below w.heap.size w w1 ∧ FB w1 w.heap.size (.int .i64 0) (.slice none 0 0)) (fb1 w _ _ _) ?_
  rintro w1 ⟨hB1, F4⟩
  obtain ⟨b4, hb4⟩ : ∃ b4, w.heap.size = b4 := ⟨_, rfl⟩
  rw [hb4] at F4 ⊢
  have HB4 : Hid (w.heap.size = b4) := hb4
  have HF4 : Hid _ := F4
  have HB1 : Hid _ := hB1
  clear F4 hB1 hb4
  go_wp2_with (go_at_call 118; fail)
  refine (bitLen_mag w1 _ x n (Mag.below HM.out HB1.out) hn (by omega)).mono ?_
  rintro e w2 ⟨bl, rfl, hw, hbl, hlo, hhi, hble⟩
  subst hw
  have HLO : Hid _ := hlo
  have HHI : Hid _ := hhi
  have hk0 : ¬ (k : Int) = 0 := by omega
  obtain ⟨t, ht⟩ : ∃ t, t = (bl - 1) / k := ⟨_, rfl⟩
  have htl : t ≤ bl := by rw [ht]; exact Nat.le_trans (Nat.div_le_self _ _) (by omega)
  have e1 : ((bl : Int) - 1).tdiv (k : Int) = (t : Int) := by
    rw [ht, Int.tdiv_eq_ediv_of_nonneg (by omega), Int.natCast_ediv, Int.natCast_sub hbl]; rfl
  have e2 : ((bl : Int) - 1) / (k : Int) = (t : Int) := by
    rw [ht, Int.natCast_ediv, Int.natCast_sub hbl]; rfl
  have HT : Hid _ := ht
  clear hlo hhi ht
  by_cases ht0 : t = 0
  · have hres : _root_.Rad.IsRt k x 1 := by
      refine _root_.Rad.isRt_one hx0 (Nat.lt_of_lt_of_le HHI.out (Nat.pow_le_pow_right (by decide) ?_))
      have h1 := HT.out
      rw [ht0] at h1
      have h2 := Nat.lt_of_div_eq_zero (by omega) h1.symm
      omega
    have HRES : Hid _ := hres
    have hti : (t : Int) = 0 := by omega
    clear hres
    go_wp2_with (go_at_call 16; fail)
    refine (of_any w2 1 (by decide) (by decide)).mono ?_
    rintro e w3 ⟨v3, rfl, hb3, hm3⟩
    obtain ⟨s5, a5, n5, c5, rfl⟩ := hm3.form
    have F4 := HF4.out.below hb3
    have HW : Hid (Below w.heap.size w _) := below_set2 (HB1.out.trans (hb3.mono HB1.out.size)) (show w.heap.size ≤ b4 by rw [HB4.out]; exact Nat.le_refl _) (.int .i64 s5) (.slice a5 n5 c5)
    have HI : Hid (IsInt _ _ _) := hm3.keep (F4.keep (.int .i64 s5) (.slice a5 n5 c5))
    obtain ⟨l4, k40, k41, p40, p41⟩ := F4
    clear hm3 hb3
    go_wp2
    refine bodyPost_ret (v := .agg #[.int .i64 s5, .slice a5 n5 c5]) (by simp [results, go_sem, loadVar, World.cell?_setCell_same, World.cell?_setCell_other, *]; try rfl) rfl ?_
    exact ⟨_, 1, rfl, HW.out, HI.out, HRES.out⟩
  · obtain ⟨h, hh⟩ : ∃ h, h = (t + 1) / 2 := ⟨_, rfl⟩
    have hht : h ≤ t := by omega
    obtain ⟨q1, q2, q3⟩ := root_sizes (x := x) hk HT.out (by omega) hh HLO.out hbl
    have e3 : ((t : Int) + 1).tdiv 2 = (h : Int) := by rw [Int.tdiv_eq_ediv_of_nonneg (by omega)]; omega
    have e4 : ((t : Int) + 1) / 2 = (h : Int) := by omega
    obtain ⟨p, hp⟩ : ∃ p, k * h = p := ⟨_, rfl⟩
    have e5 : (k : Int) * (h : Int) = (p : Int) := by rw [← hp, Int.natCast_mul]
    rw [hp] at q1 q2 q3
    have HP : Hid _ := hp
    have Q2 : Hid _ := q2
    have Q3 : Hid _ := q3
    clear q2 q3 hp hh
    have hti : ¬ (t : Int) + 1 = 1 := by omega
    go_wp2_with (go_at_call 76; fail)
    refine (signed_any w2 false vw x n (Mag.below HM.out HB1.out)).mono ?_
    rintro e w3 ⟨v3, rfl, hb3, hm3⟩
    rw [sgn_pos] at hm3
    obtain ⟨s6, a6, n6, c6, rfl⟩ := hm3.form
    go_wp2_with (go_at_call 120; fail)
    have F4 := (HF4.out.below hb3).alloc (Obj.cells #[.int .i64 s6, .slice a6 n6 c6] 24)
    have F6 := FB.mk0 w3 (.int .i64 s6) (.slice a6 n6 c6) 24
    have I6 := IsInt.below hm3 (bel1 w3 (Obj.cells #[.int .i64 s6, .slice a6 n6 c6] 24))
    have hB3 := HB1.out.trans (hb3.mono HB1.out.size)
    have hB4 := hB3.trans ((bel1 w3 (Obj.cells #[.int .i64 s6, .slice a6 n6 c6] 24)).mono hB3.size)
    have h46 : b4 < w3.heap.size := (HF4.out.below hb3).lt
    obtain ⟨w4, hw4⟩ : ∃ w4, w3.alloc (Obj.cells #[.int .i64 s6, .slice a6 n6 c6] 24) = w4 := ⟨_, rfl⟩
    obtain ⟨b6, hb6⟩ : ∃ b6, w3.heap.size = b6 := ⟨_, rfl⟩
    rw [hw4] at F4 F6 I6 hB4 ⊢
    rw [hb6] at F6 h46 ⊢
    have I6' : Hid (IsInt w4 (.agg #[.int .i64 s6, .slice a6 n6 c6]) x) := I6
    have F4' : Hid _ := F4
    have F6' : Hid _ := F6
    have HB5 : Hid _ := hB4
    have M4 : Hid (Mag w4 vw x n) := Mag.below HM.out hB4
    clear F4 F6 I6 hB3 hB4 hw4 hb6 hm3 hb3 HF4 HB1 HM
    refine (shiftRight_any w4 vw x n p M4.out (by omega) (by unfold maxLen; omega)).mono ?_
    rintro e w5 ⟨v5, n5, rfl, hb5, hm5, hn5⟩
    have hn50 : 0 < n5 := Nat.pos_of_ne_zero fun h0 => by have := hm5.zero_iff.2 h0; have := Q2.out; omega
    go_wp2_with (go_at_call 89; fail)
    refine (IH.out (x / 2 ^ p) Q3.out w5 v5 n5 hm5 hn50 (by omega)).mono ?_
    rintro e w6 ⟨v6, r', rfl, hb6, hi6, hr6⟩
    obtain ⟨hr0, hX0⟩ := _root_.Rad.start_le (s := h) (k := k) (a := x) (r := r') (by omega) (by rw [HP.out]; exact hr6) (by rw [HP.out]; exact Q2.out)
    have hX1 := _root_.Rad.start_gt (s := h) (k := k) (a := x) (r := r') (by rw [HP.out]; exact hr6)
    have HXS : Hid (r' + 1 ≤ x) := Nat.le_trans (show r' + 1 ≤ x / 2 ^ p + 1 from Nat.succ_le_succ (Nat.le_trans (Nat.le_self_pow (by omega) _) hr6.1)) Q3.out
    have HX0 : Hid _ := hX0
    have HRX : Hid _ := HR.out.lt_of hX1
    clear hX0 hX1 hr6
    have hxB : x < B ^ 53 := Nat.lt_of_lt_of_le M4.out.lt (Nat.pow_le_pow_right B_pos hn53)
    have HXB : Hid _ := hxB
    clear hxB
    go_wp2_with (go_at_call 16; fail)
    refine (of_any w6 1 (by decide) (by decide)).mono ?_
    rintro e w7 ⟨v7, rfl, hb7, hi7⟩
    go_wp2_with (go_at_call 22; fail)
    refine (add_any w7 _ _ _ _ 53 (hi6.below hb7) hi7 (by rw [Int.natAbs_natCast]; exact Nat.lt_of_lt_of_le (Nat.lt_of_succ_le HXS.out) (Nat.le_of_lt HXB.out)) (by exact Nat.one_lt_pow (by decide) (by decide)) (by decide)).mono ?_
    rintro e w8 ⟨v8, rfl, hb8, hi8⟩
    rw [show ((r' : Nat) : Int) + 1 = ((r' + 1 : Nat) : Int) from rfl] at hi8
    go_wp2_with (go_at_call 119; fail)
    refine (timesTwoTo_any w8 _ _ h hi8 (Int.natCast_nonneg _) (by rw [Int.natAbs_natCast]; exact Nat.lt_of_le_of_lt HXS.out (Nat.lt_of_lt_of_le HXB.out (Nat.pow_le_pow_right B_pos (by decide)))) (by omega)).mono ?_
    rintro e w9 ⟨v9, rfl, hb9, hi9⟩
    rw [← Int.natCast_mul] at hi9
    obtain ⟨X0, hX0⟩ : ∃ X0, (r' + 1) * 2 ^ h = X0 := ⟨_, rfl⟩
    rw [hX0] at hi9
    have HX2 : Hid (X0 ≤ 2 * x) := by have := HX0.out; rw [hX0] at this; exact this
    have HRX2 : Hid (r < X0) := by have := HRX.out; rw [hX0] at this; exact this
    have hB9 := ((hb5.trans (hb6.mono hb5.size)).trans (hb7.mono (Nat.le_trans hb5.size hb6.size))).trans (hb8.mono (Nat.le_trans (Nat.le_trans hb5.size hb6.size) hb7.size))
    have hB9' := hB9.trans (hb9.mono hB9.size)
    obtain ⟨s8, a8, n8, c8, rfl⟩ := hi9.form
    have F4 := (F4'.out.below hB9').alloc (Obj.cells #[.int .i64 s8, .slice a8 n8 c8] 24)
    have F6 : IV _ b6 (x : Int) := (IV.below ⟨_, _, _, _, F6'.out, I6'.out⟩ hB9').below (bel1 _ (Obj.cells #[.int .i64 s8, .slice a8 n8 c8] 24))
    have F8 : IV _ _ (X0 : Int) := ⟨_, _, _, _, FB.mk0 w9 (.int .i64 s8) (.slice a8 n8 c8) 24, hi9.below (bel1 _ _)⟩
    have h68 : b6 < w9.heap.size := (F6'.out.below hB9').lt
    have hBB := HB5.out.trans (hB9'.mono HB5.out.size)
    have hBB' := hBB.trans ((bel1 w9 (Obj.cells #[.int .i64 s8, .slice a8 n8 c8] 24)).mono hBB.size)
    have HST : Hid _ := (⟨hBB', F4, F6, F8⟩ : Below w.heap.size w _ ∧ FB _ b4 _ _ ∧ IV _ b6 (x : Int) ∧ IV _ w9.heap.size (X0 : Int))
    obtain ⟨b8, hb8e⟩ : ∃ b8, w9.heap.size = b8 := ⟨_, rfl⟩
    rw [hb8e] at HST h68
    clear hi9 hi8 hi7 hi6 hb5 hb6 hb7 hb8 hb9 hB9 hB9' F4 F6 F8 hBB hBB' F4' F6' I6' HB5 M4 hm5 HX0 HRX hX0 IH Q2 Q3 HP HXS hn5 hn50 e1 e2 e3 e4 e5 HLO HHI HT
    go_wp2
    clear hb8e
    obtain ⟨j, hj⟩ : ∃ j, k = j + 1 := ⟨k - 1, by omega⟩
    have HKJ : Hid ((k : Int) - 1 = (j : Int)) := by show _ = _; omega
    have HKW : Hid (IntKind.i64.wrap ((k : Int) - 1) = (j : Int)) := by show _ = _; rw [IntKind.wrap_i64]; omega
    have hj2 : j ≤ 199 := by omega
    have hjk : k - 1 = j := by omega
    have HJK : Hid (k - 1 = j) := hjk
    clear hj hjk
    go_loopg [] X0 (fun g wr => (Below w.heap.size w wr ∧ FB wr b4 (.int .i64 0) (.slice none 0 0) ∧ IV wr b6 (x : Int) ∧ IV wr b8 (g : Int)) ∧ r ≤ g ∧ g ≤ 2 * x)
    case atStart => exact ⟨HST.out, Nat.le_of_lt HRX2.out, HX2.out⟩
    case round =>
      clear HST HRX2 HX2
      obtain ⟨⟨hB1, F4, ⟨s6, a6, n6, c6, F6, I6⟩, ⟨s8, a8, n8, c8, F8, I8⟩⟩, hrX, hX2⟩ := hrel
      have HF4 : Hid _ := F4
      have HF6 : Hid _ := F6
      have HF8 : Hid _ := F8
      have HI6 : Hid (IsInt wr (.agg #[.int .i64 s6, .slice a6 n6 c6]) (x : Int)) := I6
      have HI8 : Hid (IsInt wr (.agg #[.int .i64 s8, .slice a8 n8 c8]) (gk : Int)) := I8
      have HB1 : Hid _ := hB1
      have hr0 : 0 < r := Nat.pos_of_ne_zero fun h0 => by
        have h1 := HR.out.2
        rw [h0, Nat.zero_add, Nat.one_pow] at h1
        omega
      have HRX : Hid _ := hrX
      have HX2 : Hid _ := hX2
      have hX0 : 0 < gk := by omega
      have hXB : gk < B ^ 54 := by
        have h1 : B ^ 54 = B * B ^ 53 := Nat.pow_succ'
        have h2 := Nat.mul_le_mul_right (B ^ 53) (show 2 ≤ B by decide)
        have := HXB.out
        omega
      have HX : Hid ((gk : Int).natAbs < B ^ 54) := hXB
      have HXp : Hid (((gk : Int) ^ j) ≠ 0) := Int.pow_ne_zero (by omega)
      have HXA : Hid ((x : Int).natAbs < B ^ 159) := Nat.lt_of_lt_of_le HXB.out (Nat.pow_le_pow_right B_pos (by decide))
      have HQX : Hid ((x : Int) / (gk : Int) ^ j = ((x / gk ^ j : Nat) : Int)) := by show _ = _; rw [Int.natCast_ediv, Int.natCast_pow]
      have HJ : Hid ((j : Int).natAbs < B ^ 1) := by show j < B ^ 1; rw [Nat.pow_one]; unfold B; omega
      have HK0 : Hid ((k : Int) ≠ 0) := by show (k : Int) ≠ 0; omega
      have HKB : Hid ((k : Int).natAbs < B ^ 1) := by show k < B ^ 1; rw [Nat.pow_one]; unfold B; omega
      have hn1 : gk * j < B ^ 55 := by rw [Nat.pow_succ]; exact Nat.mul_lt_mul'' hXB (by unfold B; omega)
      have hn2 : x / gk ^ j < B ^ 53 := Nat.lt_of_le_of_lt (Nat.div_le_self _ _) HXB.out
      have HN1 : Hid (((gk : Int) * (j : Int)).natAbs < B ^ 56) := by show _ < _; rw [Int.natAbs_mul]; exact Nat.lt_of_lt_of_le hn1 (Nat.pow_le_pow_right B_pos (by decide))
      have HN2 : Hid (((x : Int) / (gk : Int) ^ j).natAbs < B ^ 56) := by show _ < _; rw [HQX.out]; exact Nat.lt_of_lt_of_le hn2 (Nat.pow_le_pow_right B_pos (by decide))
      have HN3 : Hid (((gk : Int) * (j : Int) + (x : Int) / (gk : Int) ^ j).natAbs < B ^ 159) := by
        show _ < _
        rw [HQX.out, ← Int.natCast_mul, ← Int.natCast_add, Int.natAbs_natCast]
        have h1 : B ^ 55 + B ^ 55 ≤ B ^ 159 := by
          have h2 : B ^ 56 = B * B ^ 55 := Nat.pow_succ'
          have h3 := Nat.mul_le_mul_right (B ^ 55) (show 2 ≤ B by decide)
          have h4 : B ^ 56 ≤ B ^ 159 := Nat.pow_le_pow_right B_pos (by decide)
          omega
        have h5 : B ^ 53 ≤ B ^ 55 := Nat.pow_le_pow_right B_pos (by decide)
        exact Nat.lt_of_lt_of_le (Nat.add_lt_add hn1 (Nat.lt_of_lt_of_le hn2 h5)) h1
      have HY : Hid (((gk : Int) * (j : Int) + (x : Int) / (gk : Int) ^ j) / (k : Int) = ((((k - 1) * gk + x / gk ^ (k - 1)) / k : Nat) : Int)) := by
        show _ = _
        rw [HJK.out, HQX.out, ← Int.natCast_mul, ← Int.natCast_add, ← Int.natCast_ediv, Nat.mul_comm gk j]
      clear F4 F6 F8 I6 I8 hB1 hrX hX2 hn1 hn2 hXB
      obtain ⟨l6, k60, k61, -, -⟩ := HF6.out
      obtain ⟨l8, k80, k81, -, -⟩ := HF8.out
      go_upto_region 6 with fail
      refine wp_world (fun w1 => w1 = wr) rfl ?_
      rintro w1 rfl
      refine wp_draw3 mixed [⟨38, [], [], [6]⟩, ⟨39, [], [], [8]⟩, ⟨40, [], [], [1]⟩, ⟨41, [2], [2], []⟩, ⟨42, [1, 3], [1, 2, 3], []⟩, ⟨43, [0, 4], [0, 1, 2, 3, 4], []⟩, ⟨37, [5], [0, 1, 2, 3, 4, 5], []⟩, ⟨44, [6], [0, 1, 2, 3, 4, 5, 6], []⟩, ⟨45, [6], [0, 1, 2, 3, 4, 5, 6], []⟩, ⟨9, [], [], []⟩, ⟨10, [], [], []⟩, ⟨76, [0, 1, 2, 3, 4, 5, 6, 7, 9, 10], [0, 1, 2, 3, 4, 5, 6, 7, 9, 10], []⟩, ⟨77, [0, 1, 2, 3, 4, 5, 6, 7, 8, 9, 10, 11], [0, 1, 2, 3, 4, 5, 6, 7, 8, 9, 10, 11], []⟩] [] 65 rfl (by kernel_rfl) (fun (i : Nat) (v : Value) (wq : World) => match i with | 0 => v = .agg #[.int .i64 (s6), .slice a6 (n6) (c6)] | 1 => v = .agg #[.int .i64 (s8), .slice a8 (n8) (c8)] | 2 => v = .int .i64 ((k : Int)) | 3 => v = .int .i64 ((j : Int)) | 4 => IsInt wq v ((gk : Int) ^ j) | 5 => ∃ vq vr, v = .tuple #[vq, vr] ∧ IsInt wq vq ((x : Int) / (gk : Int) ^ j) ∧ IsInt wq vr ((x : Int) % (gk : Int) ^ j) | 6 => ∃ vq vr, v = .tuple #[vq, vr] ∧ IsInt wq vq ((x : Int) / (gk : Int) ^ j) ∧ IsInt wq vr ((x : Int) % (gk : Int) ^ j) | 7 => IsInt wq v ((x : Int) / (gk : Int) ^ j) | 8 => IsInt wq v ((x : Int) % (gk : Int) ^ j) | 9 => True | 10 => True | 11 => True | 12 => True | _ => True) (fun (L : Nat → Bool) (fr : Act) (wq : World) => TwoV w1 ((x : Int) / (gk : Int) ^ j) ((x : Int) % (gk : Int) ^ j) (L 9) (L 10) (L 11) (L 12) (fr.eval (.tmp 9)) (fr.eval (.tmp 10)) wq) Keep (TwoV.start _ _ _ _ _) (fun i v wx wy h hx => match i, h with | 0, h => h | 1, h => h | 2, h => h | 3, h => h | 4, h => (h : IsInt wx v _).keep hx | 5, h => by obtain ⟨vq, vr, h0, h1, h2⟩ := h; exact ⟨vq, vr, h0, h1.keep hx, h2.keep hx⟩ | 6, h => by obtain ⟨vq, vr, h0, h1, h2⟩ := h; exact ⟨vq, vr, h0, h1.keep hx, h2.keep hx⟩ | 7, h => h.keep hx | 8, h => h.keep hx | 9, _ => trivial | 10, _ => trivial | 11, _ => trivial | 12, _ => trivial | n + 13, _ => trivial) ?_ ?_
      · intro i o r ho hr L fr wx hW hL hpr hds hsz hpre hfree
        replace hW : TwoV w1 ((x : Int) / (gk : Int) ^ j) ((x : Int) % (gk : Int) ^ j) (L 9) (L 10) (L 11) (L 12) (fr.eval (.tmp 9)) (fr.eval (.tmp 10)) wx := hW
        have HSZ : Hid _ := hsz
        clear hsz
        match i, ho, hr with
        | 0, ho, hr =>
          obtain rfl := Option.some.inj ho; obtain rfl := Option.some.inj hr
          have t6 := ev_tmp (show fr.eval (.tmp 6) = .pointer (some ⟨b6, 0, none⟩) from hfree 6 (by decide))
          clear hpre hfree hds hpr
          have c0 := (hW.bel.cell (p := ⟨b6, 0, none⟩) l6).trans k60
          have c1 := (hW.bel.cell (p := ⟨b6, 1, none⟩) l6).trans k61
          refine stpK3 rfl rfl (by decide) fun K hK => ?_
          have HW : Hid _ := hW
          go_simp
          exact hK _ _ ⟨rfl, TwoV.atPut (by decide) (by decide) HW.out, Keep.refl _, fun h => (List.not_mem_nil h).elim⟩
        | 1, ho, hr =>
          obtain rfl := Option.some.inj ho; obtain rfl := Option.some.inj hr
          have t8 := ev_tmp (show fr.eval (.tmp 8) = .pointer (some ⟨b8, 0, none⟩) from hfree 8 (by decide))
          clear hpre hfree hds hpr
          have c0 := (hW.bel.cell (p := ⟨b8, 0, none⟩) l8).trans k80
          have c1 := (hW.bel.cell (p := ⟨b8, 1, none⟩) l8).trans k81
          refine stpK3 rfl rfl (by decide) fun K hK => ?_
          have HW : Hid _ := hW
          go_simp
          exact hK _ _ ⟨rfl, TwoV.atPut (by decide) (by decide) HW.out, Keep.refl _, fun h => (List.not_mem_nil h).elim⟩
        | 2, ho, hr =>
          obtain rfl := Option.some.inj ho; obtain rfl := Option.some.inj hr
          have t1 := ev_tmp (show fr.eval (.tmp 1) = .int .i64 ((k : Int)) from hfree 1 (by decide))
          clear hpre hfree hds hpr
          refine stpK3 rfl rfl (by decide) fun K hK => ?_
          have HW : Hid _ := hW
          go_simp
          exact hK _ _ ⟨rfl, TwoV.atPut (by decide) (by decide) HW.out, Keep.refl _, fun h => (List.not_mem_nil h).elim⟩
        | 3, ho, hr =>
          obtain rfl := Option.some.inj ho; obtain rfl := Option.some.inj hr
          have e2 := ev_tmp (show fr.eval (.tmp 40) = .int .i64 ((k : Int)) from hpre 2 (by decide) _ rfl)
          clear hpre hfree hds hpr
          refine stpK3 rfl rfl (by decide) fun K hK => ?_
          have HW : Hid _ := hW
          go_simp
          exact hK _ _ ⟨(by first | exact congrArg (Value.int .i64) HKJ.out | exact congrArg (Value.int .i64) HKW.out), TwoV.atPut (by decide) (by decide) HW.out, Keep.refl _, fun h => (List.not_mem_nil h).elim⟩
        | 4, ho, hr =>
          obtain rfl := Option.some.inj ho; obtain rfl := Option.some.inj hr
          have e1 := ev_tmp (show fr.eval (.tmp 39) = .agg #[.int .i64 (s8), .slice a8 (n8) (c8)] from hpre 1 (by decide) _ rfl)
          have e3 := ev_tmp (show fr.eval (.tmp 41) = .int .i64 ((j : Int)) from hpre 3 (by decide) _ rfl)
          clear hpre hfree hds hpr
          refine stpK3 rfl rfl (by decide) fun K hK => ?_
          have HW : Hid _ := hW
          go_simp
          refine (power_any wx _ _ 54 j (IsInt.below HI8.out HW.out.bel) HX.out (by omega) (by omega) (by decide)).mono ?_
          rintro e wy ⟨v4, rfl, hb, hm4⟩
          exact hK _ _ ⟨hm4, TwoV.atPut (by decide) (by decide) (TwoV.below HW.out hb), Keep.of_below hb, fun h => (List.not_mem_nil h).elim⟩
        | 5, ho, hr =>
          obtain rfl := Option.some.inj ho; obtain rfl := Option.some.inj hr
          have e0 := ev_tmp (show fr.eval (.tmp 38) = .agg #[.int .i64 (s6), .slice a6 (n6) (c6)] from hpre 0 (by decide) _ rfl)
          obtain ⟨u4, q4⟩ : ∃ u, fr.eval (.tmp 42) = u := ⟨_, rfl⟩
          have p4 : IsInt wx u4 ((gk : Int) ^ j) := by rw [← q4]; exact hpre 4 (by decide) _ rfl
          have e4 := ev_tmp q4; clear q4
          clear hpre hfree hds hpr
          refine stpK3 rfl rfl (by decide) fun K hK => ?_
          have HW : Hid _ := hW
          go_simp
          refine (cut_any wx _ _ _ _ (54 * j + 1) (IsInt.below HI6.out HW.out.bel) p4 HXp.out HXA.out (pow_bound HX.out) (by omega)).mono ?_
          rintro e wy ⟨vq, vr, rfl, hb, hq4, hr4⟩
          exact hK _ _ ⟨⟨vq, vr, rfl, hq4, hr4⟩, TwoV.atPut (by decide) (by decide) (TwoV.below HW.out hb), Keep.of_below hb, fun h => (List.not_mem_nil h).elim⟩
        | 6, ho, hr =>
          obtain rfl := Option.some.inj ho; obtain rfl := Option.some.inj hr
          obtain ⟨u5, q5⟩ : ∃ u, fr.eval (.tmp 43) = u := ⟨_, rfl⟩
          have p5 : ∃ vq vr, u5 = .tuple #[vq, vr] ∧ IsInt wx vq ((x : Int) / (gk : Int) ^ j) ∧ IsInt wx vr ((x : Int) % (gk : Int) ^ j) := by rw [← q5]; exact hpre 5 (by decide) _ rfl
          have e5 := ev_tmp q5; clear q5
          clear hpre hfree hds hpr
          refine stpK3 rfl rfl (by decide) fun K hK => ?_
          have HW : Hid _ := hW
          go_simp
          exact hK _ _ ⟨p5, TwoV.atPut (by decide) (by decide) HW.out, Keep.refl _, fun h => (List.not_mem_nil h).elim⟩
        | 7, ho, hr =>
          obtain rfl := Option.some.inj ho; obtain rfl := Option.some.inj hr
          obtain ⟨u6, q6⟩ : ∃ u, fr.eval (.tmp 37) = u := ⟨_, rfl⟩
          have p6 : ∃ vq vr, u6 = .tuple #[vq, vr] ∧ IsInt wx vq ((x : Int) / (gk : Int) ^ j) ∧ IsInt wx vr ((x : Int) % (gk : Int) ^ j) := by rw [← q6]; exact hpre 6 (by decide) _ rfl
          have e6 := ev_tmp q6; clear q6
          clear hpre hfree hds hpr
          refine stpK3 rfl rfl (by decide) fun K hK => ?_
          have HW : Hid _ := hW
          obtain ⟨vq, vr, rfl, hq4, hr4⟩ := p6
          go_simp
          exact hK _ _ ⟨hq4, TwoV.atPut (by decide) (by decide) HW.out, Keep.refl _, fun h => (List.not_mem_nil h).elim⟩
        | 8, ho, hr =>
          obtain rfl := Option.some.inj ho; obtain rfl := Option.some.inj hr
          obtain ⟨u6, q6⟩ : ∃ u, fr.eval (.tmp 37) = u := ⟨_, rfl⟩
          have p6 : ∃ vq vr, u6 = .tuple #[vq, vr] ∧ IsInt wx vq ((x : Int) / (gk : Int) ^ j) ∧ IsInt wx vr ((x : Int) % (gk : Int) ^ j) := by rw [← q6]; exact hpre 6 (by decide) _ rfl
          have e6 := ev_tmp q6; clear q6
          clear hpre hfree hds hpr
          refine stpK3 rfl rfl (by decide) fun K hK => ?_
          have HW : Hid _ := hW
          obtain ⟨vq, vr, rfl, hq4, hr4⟩ := p6
          go_simp
          exact hK _ _ ⟨hr4, TwoV.atPut (by decide) (by decide) HW.out, Keep.refl _, fun h => (List.not_mem_nil h).elim⟩
        | 9, ho, hr =>
          obtain rfl := Option.some.inj ho; obtain rfl := Option.some.inj hr
          have hs : L 11 = false := hds 11 (by decide)
          clear hpre hfree hds hpr
          refine stpK3 rfl rfl (by decide) fun K hK => ?_
          rw [hs] at hW
          have hA := hW.allocP
          go_simp
          refine hK _ _ ⟨trivial, ?_, Keep.of_below (bel1 _ _), fun h => (List.not_mem_nil h).elim⟩
          have e1 : ((fr.put (some 9) (.pointer (some ⟨wx.heap.size, 0, none⟩)))).eval (.tmp 9) = .pointer (some ⟨wx.heap.size, 0, none⟩) := eval_put_same (by rw [HSZ.out]; decide)
          have e2 : ((fr.put (some 9) (.pointer (some ⟨wx.heap.size, 0, none⟩)))).eval (.tmp 10) = fr.eval (.tmp 10) := eval_put9 (by decide)
          rw [← e1, ← e2, ← hs] at hA
          exact hA
        | 10, ho, hr =>
          obtain rfl := Option.some.inj ho; obtain rfl := Option.some.inj hr
          have hs : L 12 = false := hds 12 (by decide)
          clear hpre hfree hds hpr
          refine stpK3 rfl rfl (by decide) fun K hK => ?_
          rw [hs] at hW
          have hA := hW.allocQ
          go_simp
          refine hK _ _ ⟨trivial, ?_, Keep.of_below (bel1 _ _), fun h => (List.not_mem_nil h).elim⟩
          have e1 : ((fr.put (some 10) (.pointer (some ⟨wx.heap.size, 0, none⟩)))).eval (.tmp 10) = .pointer (some ⟨wx.heap.size, 0, none⟩) := eval_put_same (by rw [HSZ.out]; decide)
          have e2 : ((fr.put (some 10) (.pointer (some ⟨wx.heap.size, 0, none⟩)))).eval (.tmp 9) = fr.eval (.tmp 9) := eval_put9 (by decide)
          rw [← e1, ← e2, ← hs] at hA
          exact hA
        | 11, ho, hr =>
          obtain rfl := Option.some.inj ho; obtain rfl := Option.some.inj hr
          obtain ⟨u7, q7⟩ : ∃ u, fr.eval (.tmp 44) = u := ⟨_, rfl⟩
          have p7 : IsInt wx u7 ((x : Int) / (gk : Int) ^ j) := by rw [← q7]; exact hpre 7 (by decide) _ rfl
          have e7 := ev_tmp q7; clear q7
          have hl : L 9 = true := hpr 9 (by decide)
          clear hpre hfree hds hpr
          rw [hl] at hW
          obtain ⟨bb, hb, -⟩ := hW.p rfl
          have ea := ev_tmp hb
          rw [hb] at hW
          obtain ⟨s4, a4, n4, c4, rfl⟩ := p7.form
          have hS := hW.storeP p7
          obtain ⟨hge, x0, y0, m0, d0, hfb⟩ := (hW.p rfl).ge
          have hkeep := hfb.keep (.int .i64 s4) (.slice a4 n4 c4)
          have HS : Hid _ := hS
          have HKP : Hid _ := hkeep
          have HLL : Hid _ := hl
          have HBB : Hid _ := hb
          obtain ⟨lb, k0, k1, f0, f1⟩ := hfb
          refine stpS rfl HSZ.out (by decide) fun K hK => ?_
          clear hS hkeep hW p7 hl hb
          go_simp
          refine hK _ ⟨trivial, ?_, ⟨HKP.out.size, HKP.out.u64⟩, fun h => (List.not_mem_nil h).elim⟩
          have hS := HS.out
          rw [put_out (by rw [HSZ.out]; decide)]
          show TwoV w1 ((x : Int) / (gk : Int) ^ j) ((x : Int) % (gk : Int) ^ j) (L 9) (L 10) true (L 12) (fr.eval (.tmp 9)) (fr.eval (.tmp 10)) _
          rw [HLL.out, HBB.out]
          exact hS
        | 12, ho, hr =>
          obtain rfl := Option.some.inj ho; obtain rfl := Option.some.inj hr
          obtain ⟨u8, q8⟩ : ∃ u, fr.eval (.tmp 45) = u := ⟨_, rfl⟩
          have p8 : IsInt wx u8 ((x : Int) % (gk : Int) ^ j) := by rw [← q8]; exact hpre 8 (by decide) _ rfl
          have e8 := ev_tmp q8; clear q8
          have hl : L 10 = true := hpr 10 (by decide)
          clear hpre hfree hds hpr
          rw [hl] at hW
          obtain ⟨bb, hb, -⟩ := hW.q rfl
          have ea := ev_tmp hb
          rw [hb] at hW
          obtain ⟨s4, a4, n4, c4, rfl⟩ := p8.form
          have hS := hW.storeQ p8
          obtain ⟨hge, x0, y0, m0, d0, hfb⟩ := (hW.q rfl).ge
          have hkeep := hfb.keep (.int .i64 s4) (.slice a4 n4 c4)
          have HS : Hid _ := hS
          have HKP : Hid _ := hkeep
          have HLL : Hid _ := hl
          have HBB : Hid _ := hb
          obtain ⟨lb, k0, k1, f0, f1⟩ := hfb
          refine stpS rfl HSZ.out (by decide) fun K hK => ?_
          clear hS hkeep hW p8 hl hb
          go_simp
          refine hK _ ⟨trivial, ?_, ⟨HKP.out.size, HKP.out.u64⟩, fun h => (List.not_mem_nil h).elim⟩
          have hS := HS.out
          rw [put_out (by rw [HSZ.out]; decide)]
          show TwoV w1 ((x : Int) / (gk : Int) ^ j) ((x : Int) % (gk : Int) ^ j) (L 9) (L 10) (L 11) true (fr.eval (.tmp 9)) (fr.eval (.tmp 10)) _
          rw [HLL.out, HBB.out]
          exact hS
        | n + 13, ho, hr => exact absurd hr (by simp)
      · intro vs wn hvs hW1 hat hap0
        clear hap0
        replace hW1 : TwoV w1 ((x : Int) / (gk : Int) ^ j) ((x : Int) % (gk : Int) ^ j) true true true true _ _ wn := hW1
        rw [hat 9 _ rfl, hat 10 _ rfl] at hW1
        clear hat
        have e0 : vs 0 = .agg #[.int .i64 (s6), .slice a6 (n6) (c6)] := hvs 0 (by decide)
        have e1 : vs 1 = .agg #[.int .i64 (s8), .slice a8 (n8) (c8)] := hvs 1 (by decide)
        have e2 : vs 2 = .int .i64 ((k : Int)) := hvs 2 (by decide)
        have e3 : vs 3 = .int .i64 ((j : Int)) := hvs 3 (by decide)
        obtain ⟨u4, e4⟩ : ∃ u, vs 4 = u := ⟨_, rfl⟩
        obtain ⟨u5, e5⟩ : ∃ u, vs 5 = u := ⟨_, rfl⟩
        obtain ⟨u6, e6⟩ : ∃ u, vs 6 = u := ⟨_, rfl⟩
        obtain ⟨u7, e7⟩ : ∃ u, vs 7 = u := ⟨_, rfl⟩
        obtain ⟨u8, e8⟩ : ∃ u, vs 8 = u := ⟨_, rfl⟩
        obtain ⟨bp, hbp, hgp, sp, ap, np, cp, Fp, Ip⟩ := hW1.p rfl
        obtain ⟨bq, hbq, hgq, sq, aq, nq, cq, Fq, Iq⟩ := hW1.q rfl
        have hpq : bp ≠ bq := fun h => hW1.apart rfl rfl (by rw [hbp, hbq, h])
        have hbel := hW1.bel
        replace Ip := Ip rfl
        replace Iq := Iq rfl
        obtain ⟨u11, e11⟩ : ∃ u, vs 11 = u := ⟨_, rfl⟩
        obtain ⟨u12, e12⟩ : ∃ u, vs 12 = u := ⟨_, rfl⟩
        simp only [puts, Nat.reduceAdd, e0, e1, e2, e3, e4, e5, e6, e7, e8, e11, e12, hbp, hbq, Act.put, List.setIfInBounds_toArray, List.set_cons_zero, List.set_cons_succ, List.set_nil, List.drop_succ_cons, List.drop_zero, List.drop_nil, List.length_cons, List.length_nil]
        clear hvs hW1 hbp hbq e0 e1 e2 e3 e4 e5 e6 e7 e8 e11 e12
        have F4 := HF4.out.below hbel
        have F6 := IV.below ⟨_, _, _, _, HF6.out, HI6.out⟩ hbel
        have F8 := HF8.out.below hbel
        have I8 := IsInt.below HI8.out hbel
        have hB1 := HB1.out.trans (hbel.mono HB1.out.size)
        have h8p : b8 < bp := Nat.lt_of_lt_of_le l8 hgp
        have hIp : Hid (IsInt wn (.agg #[.int .i64 sp, .slice ap np cp]) ((x : Int) / (gk : Int) ^ j)) := Ip
        clear l6 k60 k61 l8 k80 k81 HF4 HF6 HF8 HI6 HI8 HB1 Fq Iq hbel hgp hgq hpq Ip
        obtain ⟨lp, kp0, kp1, -, -⟩ := Fp
        obtain ⟨l8, k80, k81, -, -⟩ := id F8
        have HF4 : Hid _ := F4
        have HF6 : Hid (IV wn b6 (x : Int)) := F6
        have HF8 : Hid _ := F8
        have HI8 : Hid (IsInt wn (.agg #[.int .i64 s8, .slice a8 n8 c8]) (gk : Int)) := I8
        have HIP : Hid (IsInt wn (.agg #[.int .i64 sp, .slice ap np cp]) ((x : Int) / (gk : Int) ^ j)) := hIp
        have HB1 : Hid _ := hB1
        clear F4 F6 F8 I8 hB1 hIp
        go_upto_region 7 with fail
        refine wp_world (fun w1 => w1 = wn) rfl ?_
        rintro w1 rfl
        refine wp_draw3 mixed [⟨47, [], [], [8]⟩, ⟨48, [], [], [1]⟩, ⟨49, [1], [1], []⟩, ⟨50, [2], [1, 2], []⟩, ⟨51, [0, 3], [0, 1, 2, 3], []⟩, ⟨52, [], [], [9]⟩, ⟨53, [4, 5], [0, 1, 2, 3, 4, 5], []⟩, ⟨54, [], [], [1]⟩, ⟨55, [6, 7], [0, 1, 2, 3, 4, 5, 6, 7], []⟩, ⟨56, [6, 8], [0, 1, 2, 3, 4, 5, 6, 7, 8], []⟩, ⟨46, [9], [0, 1, 2, 3, 4, 5, 6, 7, 8, 9], []⟩, ⟨57, [10], [0, 1, 2, 3, 4, 5, 6, 7, 8, 9, 10], []⟩, ⟨58, [10], [0, 1, 2, 3, 4, 5, 6, 7, 8, 9, 10], []⟩, ⟨11, [], [], []⟩, ⟨12, [], [], []⟩, ⟨80, [0, 1, 2, 3, 4, 5, 6, 7, 8, 9, 10, 11, 13, 14], [0, 1, 2, 3, 4, 5, 6, 7, 8, 9, 10, 11, 13, 14], []⟩, ⟨81, [0, 1, 2, 3, 4, 5, 6, 7, 8, 9, 10, 11, 12, 13, 14, 15], [0, 1, 2, 3, 4, 5, 6, 7, 8, 9, 10, 11, 12, 13, 14, 15], []⟩] [] 65 rfl (by kernel_rfl) (fun (i : Nat) (v : Value) (wq : World) => match i with | 0 => v = .agg #[.int .i64 (s8), .slice a8 (n8) (c8)] | 1 => v = .int .i64 ((k : Int)) | 2 => v = .int .i64 ((j : Int)) | 3 => IsInt wq v ((j : Int)) | 4 => IsInt wq v ((gk : Int) * (j : Int)) | 5 => v = .agg #[.int .i64 (sp), .slice ap (np) (cp)] | 6 => IsInt wq v ((gk : Int) * (j : Int) + (x : Int) / (gk : Int) ^ j) | 7 => v = .int .i64 ((k : Int)) | 8 => IsInt wq v ((k : Int)) | 9 => ∃ vq vr, v = .tuple #[vq, vr] ∧ IsInt wq vq (((gk : Int) * (j : Int) + (x : Int) / (gk : Int) ^ j) / (k : Int)) ∧ IsInt wq vr (((gk : Int) * (j : Int) + (x : Int) / (gk : Int) ^ j) % (k : Int)) | 10 => ∃ vq vr, v = .tuple #[vq, vr] ∧ IsInt wq vq (((gk : Int) * (j : Int) + (x : Int) / (gk : Int) ^ j) / (k : Int)) ∧ IsInt wq vr (((gk : Int) * (j : Int) + (x : Int) / (gk : Int) ^ j) % (k : Int)) | 11 => IsInt wq v (((gk : Int) * (j : Int) + (x : Int) / (gk : Int) ^ j) / (k : Int)) | 12 => IsInt wq v (((gk : Int) * (j : Int) + (x : Int) / (gk : Int) ^ j) % (k : Int)) | 13 => True | 14 => True | 15 => True | 16 => True | _ => True) (fun (L : Nat → Bool) (fr : Act) (wq : World) => TwoV w1 (((gk : Int) * (j : Int) + (x : Int) / (gk : Int) ^ j) / (k : Int)) (((gk : Int) * (j : Int) + (x : Int) / (gk : Int) ^ j) % (k : Int)) (L 13) (L 14) (L 15) (L 16) (fr.eval (.tmp 11)) (fr.eval (.tmp 12)) wq) Keep (TwoV.start _ _ _ _ _) (fun i v wx wy h hx => match i, h with | 0, h => h | 1, h => h | 2, h => h | 3, h => (h : IsInt wx v _).keep hx | 4, h => (h : IsInt wx v _).keep hx | 5, h => h | 6, h => (h : IsInt wx v _).keep hx | 7, h => h | 8, h => (h : IsInt wx v _).keep hx | 9, h => by obtain ⟨vq, vr, h0, h1, h2⟩ := h; exact ⟨vq, vr, h0, h1.keep hx, h2.keep hx⟩ | 10, h => by obtain ⟨vq, vr, h0, h1, h2⟩ := h; exact ⟨vq, vr, h0, h1.keep hx, h2.keep hx⟩ | 11, h => h.keep hx | 12, h => h.keep hx | 13, _ => trivial | 14, _ => trivial | 15, _ => trivial | 16, _ => trivial | n + 17, _ => trivial) ?_ ?_
        · intro i o r ho hr L fr wx hW hL hpr hds hsz hpre hfree
          replace hW : TwoV w1 (((gk : Int) * (j : Int) + (x : Int) / (gk : Int) ^ j) / (k : Int)) (((gk : Int) * (j : Int) + (x : Int) / (gk : Int) ^ j) % (k : Int)) (L 13) (L 14) (L 15) (L 16) (fr.eval (.tmp 11)) (fr.eval (.tmp 12)) wx := hW
          have HSZ : Hid _ := hsz
          clear hsz
          match i, ho, hr with
          | 0, ho, hr =>
            obtain rfl := Option.some.inj ho; obtain rfl := Option.some.inj hr
            have t8 := ev_tmp (show fr.eval (.tmp 8) = .pointer (some ⟨b8, 0, none⟩) from hfree 8 (by decide))
            clear hpre hfree hds hpr
            have c0 := (hW.bel.cell (p := ⟨b8, 0, none⟩) l8).trans k80
            have c1 := (hW.bel.cell (p := ⟨b8, 1, none⟩) l8).trans k81
            refine stpK3 rfl rfl (by decide) fun K hK => ?_
            have HW : Hid _ := hW
            go_simp
            exact hK _ _ ⟨rfl, TwoV.atPut (by decide) (by decide) HW.out, Keep.refl _, fun h => (List.not_mem_nil h).elim⟩
          | 1, ho, hr =>
            obtain rfl := Option.some.inj ho; obtain rfl := Option.some.inj hr
            have t1 := ev_tmp (show fr.eval (.tmp 1) = .int .i64 ((k : Int)) from hfree 1 (by decide))
            clear hpre hfree hds hpr
            refine stpK3 rfl rfl (by decide) fun K hK => ?_
            have HW : Hid _ := hW
            go_simp
            exact hK _ _ ⟨rfl, TwoV.atPut (by decide) (by decide) HW.out, Keep.refl _, fun h => (List.not_mem_nil h).elim⟩
          | 2, ho, hr =>
            obtain rfl := Option.some.inj ho; obtain rfl := Option.some.inj hr
            have e1 := ev_tmp (show fr.eval (.tmp 48) = .int .i64 ((k : Int)) from hpre 1 (by decide) _ rfl)
            clear hpre hfree hds hpr
            refine stpK3 rfl rfl (by decide) fun K hK => ?_
            have HW : Hid _ := hW
            go_simp
            exact hK _ _ ⟨(by first | exact congrArg (Value.int .i64) HKJ.out | exact congrArg (Value.int .i64) HKW.out), TwoV.atPut (by decide) (by decide) HW.out, Keep.refl _, fun h => (List.not_mem_nil h).elim⟩
          | 3, ho, hr =>
            obtain rfl := Option.some.inj ho; obtain rfl := Option.some.inj hr
            have e2 := ev_tmp (show fr.eval (.tmp 49) = .int .i64 ((j : Int)) from hpre 2 (by decide) _ rfl)
            clear hpre hfree hds hpr
            refine stpK3 rfl rfl (by decide) fun K hK => ?_
            have HW : Hid _ := hW
            go_simp
            refine (of_any wx (j : Int) (by omega) (by omega)).mono ?_
            rintro e wy ⟨v4, rfl, hb, hm4⟩
            exact hK _ _ ⟨hm4, TwoV.atPut (by decide) (by decide) (TwoV.below HW.out hb), Keep.of_below hb, fun h => (List.not_mem_nil h).elim⟩
          | 4, ho, hr =>
            obtain rfl := Option.some.inj ho; obtain rfl := Option.some.inj hr
            have e0 := ev_tmp (show fr.eval (.tmp 47) = .agg #[.int .i64 (s8), .slice a8 (n8) (c8)] from hpre 0 (by decide) _ rfl)
            obtain ⟨u3, q3⟩ : ∃ u, fr.eval (.tmp 50) = u := ⟨_, rfl⟩
            have p3 : IsInt wx u3 ((j : Int)) := by rw [← q3]; exact hpre 3 (by decide) _ rfl
            have e3 := ev_tmp q3; clear q3
            clear hpre hfree hds hpr
            refine stpK3 rfl rfl (by decide) fun K hK => ?_
            have HW : Hid _ := hW
            go_simp
            refine (mul_any wx _ _ _ _ 54 1 (IsInt.below HI8.out HW.out.bel) p3 HX.out HJ.out (by decide)).mono ?_
            rintro e wy ⟨v4, rfl, hb, hm4⟩
            exact hK _ _ ⟨hm4, TwoV.atPut (by decide) (by decide) (TwoV.below HW.out hb), Keep.of_below hb, fun h => (List.not_mem_nil h).elim⟩
          | 5, ho, hr =>
            obtain rfl := Option.some.inj ho; obtain rfl := Option.some.inj hr
            have t9 := ev_tmp (show fr.eval (.tmp 9) = .pointer (some ⟨bp, 0, none⟩) from hfree 9 (by decide))
            clear hpre hfree hds hpr
            have c0 := (hW.bel.cell (p := ⟨bp, 0, none⟩) lp).trans kp0
            have c1 := (hW.bel.cell (p := ⟨bp, 1, none⟩) lp).trans kp1
            refine stpK3 rfl rfl (by decide) fun K hK => ?_
            have HW : Hid _ := hW
            go_simp
            exact hK _ _ ⟨rfl, TwoV.atPut (by decide) (by decide) HW.out, Keep.refl _, fun h => (List.not_mem_nil h).elim⟩
          | 6, ho, hr =>
            obtain rfl := Option.some.inj ho; obtain rfl := Option.some.inj hr
            obtain ⟨u4, q4⟩ : ∃ u, fr.eval (.tmp 51) = u := ⟨_, rfl⟩
            have p4 : IsInt wx u4 ((gk : Int) * (j : Int)) := by rw [← q4]; exact hpre 4 (by decide) _ rfl
            have e4 := ev_tmp q4; clear q4
            have e5 := ev_tmp (show fr.eval (.tmp 52) = .agg #[.int .i64 (sp), .slice ap (np) (cp)] from hpre 5 (by decide) _ rfl)
            clear hpre hfree hds hpr
            refine stpK3 rfl rfl (by decide) fun K hK => ?_
            have HW : Hid _ := hW
            go_simp
            refine (add_any wx _ _ _ _ 56 p4 (IsInt.below HIP.out HW.out.bel) HN1.out HN2.out (by decide)).mono ?_
            rintro e wy ⟨v4, rfl, hb, hm4⟩
            exact hK _ _ ⟨hm4, TwoV.atPut (by decide) (by decide) (TwoV.below HW.out hb), Keep.of_below hb, fun h => (List.not_mem_nil h).elim⟩
          | 7, ho, hr =>
            obtain rfl := Option.some.inj ho; obtain rfl := Option.some.inj hr
            have t1 := ev_tmp (show fr.eval (.tmp 1) = .int .i64 ((k : Int)) from hfree 1 (by decide))
            clear hpre hfree hds hpr
            refine stpK3 rfl rfl (by decide) fun K hK => ?_
            have HW : Hid _ := hW
            go_simp
            exact hK _ _ ⟨rfl, TwoV.atPut (by decide) (by decide) HW.out, Keep.refl _, fun h => (List.not_mem_nil h).elim⟩
          | 8, ho, hr =>
            obtain rfl := Option.some.inj ho; obtain rfl := Option.some.inj hr
            have e7 := ev_tmp (show fr.eval (.tmp 54) = .int .i64 ((k : Int)) from hpre 7 (by decide) _ rfl)
            clear hpre hfree hds hpr
            refine stpK3 rfl rfl (by decide) fun K hK => ?_
            have HW : Hid _ := hW
            go_simp
            refine (of_any wx (k : Int) (by omega) (by omega)).mono ?_
            rintro e wy ⟨v4, rfl, hb, hm4⟩
            exact hK _ _ ⟨hm4, TwoV.atPut (by decide) (by decide) (TwoV.below HW.out hb), Keep.of_below hb, fun h => (List.not_mem_nil h).elim⟩
          | 9, ho, hr =>
            obtain rfl := Option.some.inj ho; obtain rfl := Option.some.inj hr
            obtain ⟨u6, q6⟩ : ∃ u, fr.eval (.tmp 53) = u := ⟨_, rfl⟩
            have p6 : IsInt wx u6 ((gk : Int) * (j : Int) + (x : Int) / (gk : Int) ^ j) := by rw [← q6]; exact hpre 6 (by decide) _ rfl
            have e6 := ev_tmp q6; clear q6
            obtain ⟨u8, q8⟩ : ∃ u, fr.eval (.tmp 55) = u := ⟨_, rfl⟩
            have p8 : IsInt wx u8 ((k : Int)) := by rw [← q8]; exact hpre 8 (by decide) _ rfl
            have e8 := ev_tmp q8; clear q8
            clear hpre hfree hds hpr
            refine stpK3 rfl rfl (by decide) fun K hK => ?_
            have HW : Hid _ := hW
            go_simp
            refine (cut_any wx _ _ _ _ 1 p6 p8 HK0.out HN3.out HKB.out (by decide)).mono ?_
            rintro e wy ⟨vq, vr, rfl, hb, hq4, hr4⟩
            exact hK _ _ ⟨⟨vq, vr, rfl, hq4, hr4⟩, TwoV.atPut (by decide) (by decide) (TwoV.below HW.out hb), Keep.of_below hb, fun h => (List.not_mem_nil h).elim⟩
          | 10, ho, hr =>
            obtain rfl := Option.some.inj ho; obtain rfl := Option.some.inj hr
            obtain ⟨u9, q9⟩ : ∃ u, fr.eval (.tmp 56) = u := ⟨_, rfl⟩
            have p9 : ∃ vq vr, u9 = .tuple #[vq, vr] ∧ IsInt wx vq (((gk : Int) * (j : Int) + (x : Int) / (gk : Int) ^ j) / (k : Int)) ∧ IsInt wx vr (((gk : Int) * (j : Int) + (x : Int) / (gk : Int) ^ j) % (k : Int)) := by rw [← q9]; exact hpre 9 (by decide) _ rfl
            have e9 := ev_tmp q9; clear q9
            clear hpre hfree hds hpr
            refine stpK3 rfl rfl (by decide) fun K hK => ?_
            have HW : Hid _ := hW
            go_simp
            exact hK _ _ ⟨p9, TwoV.atPut (by decide) (by decide) HW.out, Keep.refl _, fun h => (List.not_mem_nil h).elim⟩
          | 11, ho, hr =>
            obtain rfl := Option.some.inj ho; obtain rfl := Option.some.inj hr
            obtain ⟨u10, q10⟩ : ∃ u, fr.eval (.tmp 46) = u := ⟨_, rfl⟩
            have p10 : ∃ vq vr, u10 = .tuple #[vq, vr] ∧ IsInt wx vq (((gk : Int) * (j : Int) + (x : Int) / (gk : Int) ^ j) / (k : Int)) ∧ IsInt wx vr (((gk : Int) * (j : Int) + (x : Int) / (gk : Int) ^ j) % (k : Int)) := by rw [← q10]; exact hpre 10 (by decide) _ rfl
            have e10 := ev_tmp q10; clear q10
            clear hpre hfree hds hpr
            refine stpK3 rfl rfl (by decide) fun K hK => ?_
            have HW : Hid _ := hW
            obtain ⟨vq, vr, rfl, hq4, hr4⟩ := p10
            go_simp
            exact hK _ _ ⟨hq4, TwoV.atPut (by decide) (by decide) HW.out, Keep.refl _, fun h => (List.not_mem_nil h).elim⟩
          | 12, ho, hr =>
            obtain rfl := Option.some.inj ho; obtain rfl := Option.some.inj hr
            obtain ⟨u10, q10⟩ : ∃ u, fr.eval (.tmp 46) = u := ⟨_, rfl⟩
            have p10 : ∃ vq vr, u10 = .tuple #[vq, vr] ∧ IsInt wx vq (((gk : Int) * (j : Int) + (x : Int) / (gk : Int) ^ j) / (k : Int)) ∧ IsInt wx vr (((gk : Int) * (j : Int) + (x : Int) / (gk : Int) ^ j) % (k : Int)) := by rw [← q10]; exact hpre 10 (by decide) _ rfl
            have e10 := ev_tmp q10; clear q10
            clear hpre hfree hds hpr
            refine stpK3 rfl rfl (by decide) fun K hK => ?_
            have HW : Hid _ := hW
            obtain ⟨vq, vr, rfl, hq4, hr4⟩ := p10
            go_simp
            exact hK _ _ ⟨hr4, TwoV.atPut (by decide) (by decide) HW.out, Keep.refl _, fun h => (List.not_mem_nil h).elim⟩
          | 13, ho, hr =>
            obtain rfl := Option.some.inj ho; obtain rfl := Option.some.inj hr
            have hs : L 15 = false := hds 15 (by decide)
            clear hpre hfree hds hpr
            refine stpK3 rfl rfl (by decide) fun K hK => ?_
            rw [hs] at hW
            have hA := hW.allocP
            go_simp
            refine hK _ _ ⟨trivial, ?_, Keep.of_below (bel1 _ _), fun h => (List.not_mem_nil h).elim⟩
            have e1 : ((fr.put (some 11) (.pointer (some ⟨wx.heap.size, 0, none⟩)))).eval (.tmp 11) = .pointer (some ⟨wx.heap.size, 0, none⟩) := eval_put_same (by rw [HSZ.out]; decide)
            have e2 : ((fr.put (some 11) (.pointer (some ⟨wx.heap.size, 0, none⟩)))).eval (.tmp 12) = fr.eval (.tmp 12) := eval_put9 (by decide)
            rw [← e1, ← e2, ← hs] at hA
            exact hA
          | 14, ho, hr =>
            obtain rfl := Option.some.inj ho; obtain rfl := Option.some.inj hr
            have hs : L 16 = false := hds 16 (by decide)
            clear hpre hfree hds hpr
            refine stpK3 rfl rfl (by decide) fun K hK => ?_
            rw [hs] at hW
            have hA := hW.allocQ
            go_simp
            refine hK _ _ ⟨trivial, ?_, Keep.of_below (bel1 _ _), fun h => (List.not_mem_nil h).elim⟩
            have e1 : ((fr.put (some 12) (.pointer (some ⟨wx.heap.size, 0, none⟩)))).eval (.tmp 12) = .pointer (some ⟨wx.heap.size, 0, none⟩) := eval_put_same (by rw [HSZ.out]; decide)
            have e2 : ((fr.put (some 12) (.pointer (some ⟨wx.heap.size, 0, none⟩)))).eval (.tmp 11) = fr.eval (.tmp 11) := eval_put9 (by decide)
            rw [← e1, ← e2, ← hs] at hA
            exact hA
          | 15, ho, hr =>
            obtain rfl := Option.some.inj ho; obtain rfl := Option.some.inj hr
            obtain ⟨u11, q11⟩ : ∃ u, fr.eval (.tmp 57) = u := ⟨_, rfl⟩
            have p11 : IsInt wx u11 (((gk : Int) * (j : Int) + (x : Int) / (gk : Int) ^ j) / (k : Int)) := by rw [← q11]; exact hpre 11 (by decide) _ rfl
            have e11 := ev_tmp q11; clear q11
            have hl : L 13 = true := hpr 13 (by decide)
            clear hpre hfree hds hpr
            rw [hl] at hW
            obtain ⟨bb, hb, -⟩ := hW.p rfl
            have ea := ev_tmp hb
            rw [hb] at hW
            obtain ⟨s4, a4, n4, c4, rfl⟩ := p11.form
            have hS := hW.storeP p11
            obtain ⟨hge, x0, y0, m0, d0, hfb⟩ := (hW.p rfl).ge
            have hkeep := hfb.keep (.int .i64 s4) (.slice a4 n4 c4)
            have HS : Hid _ := hS
            have HKP : Hid _ := hkeep
            have HLL : Hid _ := hl
            have HBB : Hid _ := hb
            obtain ⟨lb, k0, k1, f0, f1⟩ := hfb
            refine stpS rfl HSZ.out (by decide) fun K hK => ?_
            clear hS hkeep hW p11 hl hb
            go_simp
            refine hK _ ⟨trivial, ?_, ⟨HKP.out.size, HKP.out.u64⟩, fun h => (List.not_mem_nil h).elim⟩
            have hS := HS.out
            rw [put_out (by rw [HSZ.out]; decide)]
            show TwoV w1 (((gk : Int) * (j : Int) + (x : Int) / (gk : Int) ^ j) / (k : Int)) (((gk : Int) * (j : Int) + (x : Int) / (gk : Int) ^ j) % (k : Int)) (L 13) (L 14) true (L 16) (fr.eval (.tmp 11)) (fr.eval (.tmp 12)) _
            rw [HLL.out, HBB.out]
            exact hS
          | 16, ho, hr =>
            obtain rfl := Option.some.inj ho; obtain rfl := Option.some.inj hr
            obtain ⟨u12, q12⟩ : ∃ u, fr.eval (.tmp 58) = u := ⟨_, rfl⟩
            have p12 : IsInt wx u12 (((gk : Int) * (j : Int) + (x : Int) / (gk : Int) ^ j) % (k : Int)) := by rw [← q12]; exact hpre 12 (by decide) _ rfl
            have e12 := ev_tmp q12; clear q12
            have hl : L 14 = true := hpr 14 (by decide)
            clear hpre hfree hds hpr
            rw [hl] at hW
            obtain ⟨bb, hb, -⟩ := hW.q rfl
            have ea := ev_tmp hb
            rw [hb] at hW
            obtain ⟨s4, a4, n4, c4, rfl⟩ := p12.form
            have hS := hW.storeQ p12
            obtain ⟨hge, x0, y0, m0, d0, hfb⟩ := (hW.q rfl).ge
            have hkeep := hfb.keep (.int .i64 s4) (.slice a4 n4 c4)
            have HS : Hid _ := hS
            have HKP : Hid _ := hkeep
            have HLL : Hid _ := hl
            have HBB : Hid _ := hb
            obtain ⟨lb, k0, k1, f0, f1⟩ := hfb
            refine stpS rfl HSZ.out (by decide) fun K hK => ?_
            clear hS hkeep hW p12 hl hb
            go_simp
            refine hK _ ⟨trivial, ?_, ⟨HKP.out.size, HKP.out.u64⟩, fun h => (List.not_mem_nil h).elim⟩
            have hS := HS.out
            rw [put_out (by rw [HSZ.out]; decide)]
            show TwoV w1 (((gk : Int) * (j : Int) + (x : Int) / (gk : Int) ^ j) / (k : Int)) (((gk : Int) * (j : Int) + (x : Int) / (gk : Int) ^ j) % (k : Int)) (L 13) (L 14) (L 15) true (fr.eval (.tmp 11)) (fr.eval (.tmp 12)) _
            rw [HLL.out, HBB.out]
            exact hS
          | n + 17, ho, hr => exact absurd hr (by simp)
        · intro vs wn hvs hW1 hat hap0
          clear hap0
          replace hW1 : TwoV w1 (((gk : Int) * (j : Int) + (x : Int) / (gk : Int) ^ j) / (k : Int)) (((gk : Int) * (j : Int) + (x : Int) / (gk : Int) ^ j) % (k : Int)) true true true true _ _ wn := hW1
          rw [hat 13 _ rfl, hat 14 _ rfl] at hW1
          clear hat
          have e0 : vs 0 = .agg #[.int .i64 (s8), .slice a8 (n8) (c8)] := hvs 0 (by decide)
          have e1 : vs 1 = .int .i64 ((k : Int)) := hvs 1 (by decide)
          have e2 : vs 2 = .int .i64 ((j : Int)) := hvs 2 (by decide)
          obtain ⟨u3, e3⟩ : ∃ u, vs 3 = u := ⟨_, rfl⟩
          obtain ⟨u4, e4⟩ : ∃ u, vs 4 = u := ⟨_, rfl⟩
          have e5 : vs 5 = .agg #[.int .i64 (sp), .slice ap (np) (cp)] := hvs 5 (by decide)
          obtain ⟨u6, e6⟩ : ∃ u, vs 6 = u := ⟨_, rfl⟩
          have e7 : vs 7 = .int .i64 ((k : Int)) := hvs 7 (by decide)
          obtain ⟨u8, e8⟩ : ∃ u, vs 8 = u := ⟨_, rfl⟩
          obtain ⟨u9, e9⟩ : ∃ u, vs 9 = u := ⟨_, rfl⟩
          obtain ⟨u10, e10⟩ : ∃ u, vs 10 = u := ⟨_, rfl⟩
          obtain ⟨u11, e11⟩ : ∃ u, vs 11 = u := ⟨_, rfl⟩
          obtain ⟨u12, e12⟩ : ∃ u, vs 12 = u := ⟨_, rfl⟩
          obtain ⟨bp, hbp, hgp, sp, ap, np, cp, Fp, Ip⟩ := hW1.p rfl
          obtain ⟨bq, hbq, hgq, sq, aq, nq, cq, Fq, Iq⟩ := hW1.q rfl
          have hpq : bp ≠ bq := fun h => hW1.apart rfl rfl (by rw [hbp, hbq, h])
          have hbel := hW1.bel
          replace Ip := Ip rfl
          replace Iq := Iq rfl
          obtain ⟨u15, e15⟩ : ∃ u, vs 15 = u := ⟨_, rfl⟩
          obtain ⟨u16, e16⟩ : ∃ u, vs 16 = u := ⟨_, rfl⟩
          simp only [puts, Nat.reduceAdd, e0, e1, e2, e3, e4, e5, e6, e7, e8, e9, e10, e11, e12, e15, e16, hbp, hbq, Act.put, List.setIfInBounds_toArray, List.set_cons_zero, List.set_cons_succ, List.set_nil, List.drop_succ_cons, List.drop_zero, List.drop_nil, List.length_cons, List.length_nil]
          clear hvs hW1 hbp hbq e0 e1 e2 e3 e4 e5 e6 e7 e8 e9 e10 e11 e12 e15 e16
          obtain ⟨Y, hY⟩ : ∃ Y, ((k - 1) * gk + x / gk ^ (k - 1)) / k = Y := ⟨_, rfl⟩
          have hYr : r ≤ Y := by rw [← hY]; exact _root_.Rad.newton_ge (by omega) hX0 HR.out.1
          have hYs : gk ≤ Y → gk ≤ r := fun h => by rw [← hY] at h; exact _root_.Rad.newton_stop (by omega) hX0 HR.out.2 h
          have hYB : Hid ((Y : Int).natAbs < B ^ 159) := by
            show _ < _
            have h1 := HY.out
            rw [hY] at h1
            rw [← h1]
            exact Nat.lt_of_le_of_lt (Int.natAbs_ediv_le_natAbs _ _) HN3.out
          rw [HY.out, hY] at Ip
          have F4 := HF4.out.below hbel
          have F6 := IV.below HF6.out hbel
          have F8 := HF8.out.below hbel
          have I8 := IsInt.below HI8.out hbel
          have hB1 := HB1.out.trans (hbel.mono HB1.out.size)
          have h8q : b8 < bp := Nat.lt_of_lt_of_le l8 hgp
          have I11 : Hid (IsInt wn (.agg #[.int .i64 sp, .slice ap np cp]) (Y : Int)) := Ip
          have HF4 : Hid _ := F4
          have HF6 : Hid (IV wn b6 (x : Int)) := F6
          have HF8 : Hid _ := F8
          have HF11 : Hid _ := Fp
          have HI8 : Hid (IsInt wn (.agg #[.int .i64 s8, .slice a8 n8 c8]) (gk : Int)) := I8
          have HB1 : Hid _ := hB1
          have HYR : Hid _ := hYr
          have HYS : Hid _ := hYs
          clear lp kp0 kp1 l8 k80 k81 Fq Iq hbel hgp hgq hpq Ip HIP F4 F6 F8 I8 hB1 hY hYr hYs HY HN1 HN2 HN3 Fp
          obtain ⟨l8, k80, k81, -, -⟩ := HF8.out
          obtain ⟨lp, kp0, kp1, -, -⟩ := HF11.out
          by_cases hle : gk ≤ Y
          · have hc : 0 ≤ cmpI (Y : Int) (gk : Int) := by unfold cmpI; split <;> (try split) <;> omega
            have hgr : gk = r := Nat.le_antisymm (HYS.out hle) HRX.out
            have HGR : Hid _ := hgr
            have HC : Hid _ := hc
            clear hgr hc hle
            go_wp2_with (go_at_call 28; fail)
            refine (cmp_any wn _ _ _ _ 159 I11.out HI8.out hYB.out (Nat.lt_of_lt_of_le HX.out (Nat.pow_le_pow_right B_pos (by decide))) (by decide)).mono ?_
            rintro e wm ⟨rfl, hbm⟩
            have hc := HC.out
            have F4 := HF4.out.below hbm
            have F8 := HF8.out.below hbm
            have I8 := IsInt.below HI8.out hbm
            have hB1 := HB1.out.trans (hbm.mono HB1.out.size)
            have HW : Hid (Below w.heap.size w _) := below_set2 hB1 (show w.heap.size ≤ b4 by rw [HB4.out]; exact Nat.le_refl _) (.int .i64 s8) (.slice a8 n8 c8)
            have HI : Hid (IsInt _ _ _) := I8.keep (F4.keep (.int .i64 s8) (.slice a8 n8 c8))
            clear l8 k80 k81 lp kp0 kp1 I8 hB1 hbm
            obtain ⟨l4, k40, k41, p40, p41⟩ := F4
            obtain ⟨l8, k80, k81, -, -⟩ := F8
            go_wp2
            refine bodyPost_ret (v := .agg #[.int .i64 s8, .slice a8 n8 c8]) (by simp [results, go_sem, loadVar, World.cell?_setCell_same, World.cell?_setCell_other, *]; try rfl) rfl ?_
            exact ⟨_, gk, rfl, HW.out, HI.out, by rw [HGR.out]; exact HR.out⟩
          · have hc : ¬ 0 ≤ cmpI (Y : Int) (gk : Int) := by unfold cmpI; split <;> (try split) <;> omega
            have HC : Hid _ := hc
            have HLE : Hid (Y < gk) := Nat.lt_of_not_le hle
            clear hc hle
            go_wp2_with (go_at_call 28; fail)
            refine (cmp_any wn _ _ _ _ 159 I11.out HI8.out hYB.out (Nat.lt_of_lt_of_le HX.out (Nat.pow_le_pow_right B_pos (by decide))) (by decide)).mono ?_
            rintro e wm ⟨rfl, hbm⟩
            have hc := HC.out
            have F4 := HF4.out.below hbm
            have F6 := IV.below HF6.out hbm
            have F8 := HF8.out.below hbm
            have F11 := HF11.out.below hbm
            have I11 := IsInt.below I11.out hbm
            have hB1 := HB1.out.trans (hbm.mono HB1.out.size)
            have HST : Hid ((Below w.heap.size w _ ∧ FB _ b4 _ _ ∧ IV _ b6 (x : Int) ∧ IV _ b8 (Y : Int))) :=
              ⟨below_set2 hB1 (show w.heap.size ≤ b8 by rw [HB4.out]; omega) (.int .i64 sp) (.slice ap np cp), F4.other (.int .i64 sp) (.slice ap np cp) (show b4 ≠ b8 by omega), F6.other F8 (show b6 ≠ b8 by omega) (.int .i64 sp) (.slice ap np cp), IV.set F8 I11⟩
            clear l8 k80 k81 lp kp0 kp1 hB1 hbm F4 F6 I11
            obtain ⟨lp, kp0, kp1, -, -⟩ := F11
            obtain ⟨l8, k80, k81, p80, p81⟩ := F8
            go_wp2
            go_roundg Y
            case measure => have := HLE.out; omega
            case rel => exact ⟨HST.out, HYR.out, by have := HLE.out; have := HX2.out; omega⟩
end Go.Proofs.YtjlkplidpdhgbaaGreatDoor
