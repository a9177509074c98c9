/- A part of the proof: G10, G11, W30. -/
import Derived.Test.YtjlkplidpdhgbaaGreatDoorP28
import Derived.Test.YtjlkplidpdhgbaaGreatDoorP18
set_option linter.all false

namespace Go.Proofs.YtjlkplidpdhgbaaGreatDoor
open Go Go.Proofs Go.RowKit Go.Rad

theorem fb5 (w : World) (a0 a1 b0 b1 c0 c1 d0 d1 e0 e1 : Value) (T1 T2 T3 T4 T5 : TypeId) {w1 : World}
    (h : w1 = ((((w.alloc (Obj.cells #[a0, a1] T1)).alloc (Obj.cells #[b0, b1] T2)).alloc (Obj.cells #[c0, c1] T3)).alloc (Obj.cells #[d0, d1] T4)).alloc (Obj.cells #[e0, e1] T5)) :
    Below w.heap.size w w1 ∧ FB w1 w.heap.size a0 a1 ∧ FB w1 (w.heap.size + 1) b0 b1 ∧ FB w1 (w.heap.size + 1 + 1) c0 c1 ∧ FB w1 (w.heap.size + 1 + 1 + 1) d0 d1 ∧ FB w1 (w.heap.size + 1 + 1 + 1 + 1) e0 e1 := by
  subst h
  obtain ⟨h1, h2, h3, h4, h5⟩ := fb4 w a0 a1 b0 b1 c0 c1 d0 d1 T1 T2 T3 T4 rfl
  refine ⟨h1.alloc h1.size _, h2.alloc _, h3.alloc _, h4.alloc _, h5.alloc _, ?_⟩
  have := FB.mk0 ((((w.alloc (Obj.cells #[a0, a1] T1)).alloc (Obj.cells #[b0, b1] T2)).alloc (Obj.cells #[c0, c1] T3)).alloc (Obj.cells #[d0, d1] T4)) e0 e1 T5
  simpa using this

set_option maxRecDepth 10000 in
set_option maxHeartbeats 4000000 in
theorem div_any (w : World) (va vb : Value) (x y : Int) (LL : Nat) (hx : IsInt w va x) (hy : IsInt w vb y) (h0 : y ≠ 0) (hA : x.natAbs < B ^ 159) (hB : y.natAbs < B ^ LL) (hL : LL ≤ 100000) :
    Calls Tryz.prog 34 #[va, vb] w fun e w' => ∃ vq vr, e = .returned (.tuple #[vq, vr, .agg #[.int .i64 0, .int .i64 0]]) ∧ Below w.heap.size w w' ∧ IsInt w' vq (x / y) ∧ IsInt w' vr (x % y) := by
  obtain ⟨s, ao, n, c, rfl⟩ := hx.form
  obtain ⟨t, d, m, f, rfl⟩ := hy.form
  have ht0 : ¬ t = 0 := by have := hy.sgn; omega
  go_enter Tryz.func34, Tryz.ntmps34
  go_upto_region 1 with fail
  refine wp_world (fun w1 => Below w.heap.size w w1 ∧ FB w1 w.heap.size (.int .i64 s) (.slice ao n c) ∧ FB w1 (w.heap.size + 1) (.int .i64 t) (.slice d m f) ∧ FB w1 (w.heap.size + 1 + 1) (.int .i64 0) (.slice none 0 0) ∧ FB w1 (w.heap.size + 1 + 1 + 1) (.int .i64 0) (.slice none 0 0) ∧ FB w1 (w.heap.size + 1 + 1 + 1 + 1) (.int .i64 0) (.int .i64 0)) (fb5 w _ _ _ _ _ _ _ _ _ _ _ _ _ _ _ rfl) ?_
  rintro w1 ⟨hB1, F2, F3, F4, F5, F6⟩
  obtain ⟨b2, hb2⟩ : ∃ b, b = w.heap.size := ⟨_, rfl⟩
  obtain ⟨b3, hb3⟩ : ∃ b, b = w.heap.size + 1 := ⟨_, rfl⟩
  obtain ⟨b4, hb4⟩ : ∃ b, b = w.heap.size + 1 + 1 := ⟨_, rfl⟩
  obtain ⟨b5, hb5⟩ : ∃ b, b = w.heap.size + 1 + 1 + 1 := ⟨_, rfl⟩
  obtain ⟨b6, hb6⟩ : ∃ b, b = w.heap.size + 1 + 1 + 1 + 1 := ⟨_, rfl⟩
  have hne : b4 ≠ b5 ∧ b4 ≠ b6 ∧ b5 ≠ b6 ∧ w.heap.size ≤ b4 ∧ w.heap.size ≤ b5 ∧ w.heap.size ≤ b6 := by omega
  rw [← hb6] at F6 ⊢
  rw [← hb5] at F5 ⊢
  rw [← hb4] at F4 ⊢
  rw [← hb3] at F3 ⊢
  rw [← hb2] at F2 ⊢
  have CC := cut_any w1 _ _ x y LL (hx.below hB1) (hy.below hB1) h0 hA hB hL
  obtain ⟨l2, k20, k21, -, -⟩ := F2
  obtain ⟨l3, k30, k31, -, -⟩ := F3
  have HF4 : Hid (FB w1 b4 (.int .i64 0) (.slice none 0 0)) := F4
  have HF5 : Hid (FB w1 b5 (.int .i64 0) (.slice none 0 0)) := F5
  have HF6 : Hid (FB w1 b6 (.int .i64 0) (.int .i64 0)) := F6
  have HB1 : Hid (Below w.heap.size w w1) := hB1
  have HN : Hid _ := hne
  clear hb2 hb3 hb4 hb5 hb6 F4 F5 F6 hB1 hx hy h0 hA hB hne
  go_wp2_with (go_at_call 90; fail)
  refine CC.mono ?_
  rintro e w2 ⟨vq, vr, rfl, hb, hq, hr⟩
  obtain ⟨s7, a7, n7, c7, rfl⟩ := hq.form
  obtain ⟨s8, a8, n8, c8, rfl⟩ := hr.form
  have HQ : Hid (IsInt w2 (.agg #[.int .i64 s7, .slice a7 n7 c7]) (x / y)) := hq
  have HR : Hid (IsInt w2 (.agg #[.int .i64 s8, .slice a8 n8 c8]) (x % y)) := hr
  have HB : Hid (Below w1.heap.size w1 w2) := hb
  clear CC hq hr hb k20 k21 k30 k31 l2 l3
  go_upto_region 4 with fail
  refine wp_world (fun w3 => Below w2.heap.size w2 w3 ∧ FB w3 w2.heap.size (.int .i64 s7) (.slice a7 n7 c7) ∧ FB w3 (w2.heap.size + 1) (.int .i64 s8) (.slice a8 n8 c8)) (fb2 w2 _ _ _ _ _ _ rfl) ?_
  rintro w3 ⟨hb3, F7, F8⟩
  obtain ⟨b7, hb7⟩ : ∃ b, b = w2.heap.size := ⟨_, rfl⟩
  obtain ⟨b8, hb8⟩ : ∃ b, b = w2.heap.size + 1 := ⟨_, rfl⟩
  have F4 := (HF4.out.below HB.out).below hb3
  have F5 := (HF5.out.below HB.out).below hb3
  have F6 := (HF6.out.below HB.out).below hb3
  obtain ⟨n45, n46, n56, w4, w5, w6⟩ := HN.out
  have l4 := (HF4.out.below HB.out).lt
  have l5 := (HF5.out.below HB.out).lt
  have l6 := (HF6.out.below HB.out).lt
  have hne7 : b7 ≠ b4 ∧ b7 ≠ b5 ∧ b7 ≠ b6 ∧ b8 ≠ b4 ∧ b8 ≠ b5 ∧ b8 ≠ b6 := by omega
  rw [← hb8] at F8 ⊢
  rw [← hb7] at F7 ⊢
  have IQ := IsInt.below HQ.out hb3
  have IR := IsInt.below HR.out hb3
  have BW : Below w.heap.size w w3 := HB1.out.trans ((HB.out.mono HB1.out.size).trans (hb3.mono (Nat.le_trans HB1.out.size HB.out.size)))
  have F5' := F5.other (.int .i64 s7) (.slice a7 n7 c7) n45.symm
  have F6' := (F6.other (.int .i64 s7) (.slice a7 n7 c7) n46.symm).other (.int .i64 s8) (.slice a8 n8 c8) n56.symm
  have IQ' := ((IQ.keep (F4.keep (.int .i64 s7) (.slice a7 n7 c7))).keep (F5'.keep (.int .i64 s8) (.slice a8 n8 c8))).keep (F6'.keepF (.int .i64 0) (.int .i64 0))
  have IR' := ((IR.keep (F4.keep (.int .i64 s7) (.slice a7 n7 c7))).keep (F5'.keep (.int .i64 s8) (.slice a8 n8 c8))).keep (F6'.keepF (.int .i64 0) (.int .i64 0))
  have BW' := below_set2 (below_set2 (below_set2 BW w4 (.int .i64 s7) (.slice a7 n7 c7)) w5 (.int .i64 s8) (.slice a8 n8 c8)) w6 (.int .i64 0) (.int .i64 0)
  have HQ' : Hid (IsInt _ _ _) := IQ'.below (bel_drew _)
  have HR' : Hid (IsInt _ _ _) := IR'.below (bel_drew _)
  have HW : Hid (Below _ _ _) := BW'.drew
  obtain ⟨l4, k40, k41, p40, p41⟩ := F4
  obtain ⟨l5, k50, k51, p50, p51⟩ := F5
  obtain ⟨l6, k60, k61, p60, p61⟩ := F6
  obtain ⟨l7, k70, k71, p70, p71⟩ := F7
  obtain ⟨l8, k80, k81, p80, p81⟩ := F8
  obtain ⟨m74, m75, m76, m84, m85, m86⟩ := hne7
  have n54 := n45.symm
  have n64 := n46.symm
  have n65 := n56.symm
  clear IQ IR IQ' IR' BW BW' F5' F6' hb3 hb7 hb8 HQ HR HB HN HF4 HF5 HF6 HB1
  go_region
  all_goals
    go_wp2
    refine bodyPost_ret (v := .tuple #[.agg #[.int .i64 s7, .slice a7 n7 c7], .agg #[.int .i64 s8, .slice a8 n8 c8], .agg #[.int .i64 0, .int .i64 0]]) (by simp [results, go_sem, loadVar, World.cell?_setCell_same, World.cell?_setCell_other, *]; try rfl) rfl ?_
    exact ⟨_, _, rfl, HW.out, HQ'.out, HR'.out⟩
end Go.Proofs.YtjlkplidpdhgbaaGreatDoor

namespace Go.Proofs.YtjlkplidpdhgbaaGreatDoor
open Go Go.Proofs Go.RowKit Go.Rad

set_option maxRecDepth 10000 in
set_option maxHeartbeats 4000000 in
theorem div_zero (w : World) (va vb : Value) (x : Int) (hx : IsInt w va x) (hy : IsInt w vb 0) :
    Calls Tryz.prog 34 #[va, vb] w fun e w' => e = .returned (.tuple #[.agg #[.int .i64 0, .slice none 0 0], .agg #[.int .i64 0, .slice none 0 0], .agg #[.int .i64 4, .int .i64 0]]) ∧ Below w.heap.size w w' := by
  obtain ⟨s, ao, n, c, rfl⟩ := hx.form
  obtain ⟨t, d, m, f, rfl⟩ := hy.form
  have ht0 : t = 0 := by have := hy.sgn; omega
  subst ht0
  go_enter Tryz.func34, Tryz.ntmps34
  go_upto_region 1 with fail
  refine wp_world (fun w1 => Below w.heap.size w w1 ∧ FB w1 w.heap.size (.int .i64 s) (.slice ao n c) ∧ FB w1 (w.heap.size + 1) (.int .i64 0) (.slice d m f) ∧ FB w1 (w.heap.size + 1 + 1) (.int .i64 0) (.slice none 0 0) ∧ FB w1 (w.heap.size + 1 + 1 + 1) (.int .i64 0) (.slice none 0 0) ∧ FB w1 (w.heap.size + 1 + 1 + 1 + 1) (.int .i64 0) (.int .i64 0)) (fb5 w _ _ _ _ _ _ _ _ _ _ _ _ _ _ _ rfl) ?_
  rintro w1 ⟨hB1, F2, F3, F4, F5, F6⟩
  obtain ⟨b2, hb2⟩ : ∃ b, b = w.heap.size := ⟨_, rfl⟩
  obtain ⟨b3, hb3⟩ : ∃ b, b = w.heap.size + 1 := ⟨_, rfl⟩
  obtain ⟨b4, hb4⟩ : ∃ b, b = w.heap.size + 1 + 1 := ⟨_, rfl⟩
  obtain ⟨b5, hb5⟩ : ∃ b, b = w.heap.size + 1 + 1 + 1 := ⟨_, rfl⟩
  obtain ⟨b6, hb6⟩ : ∃ b, b = w.heap.size + 1 + 1 + 1 + 1 := ⟨_, rfl⟩
  have hne : b4 ≠ b5 ∧ b4 ≠ b6 ∧ b5 ≠ b6 ∧ w.heap.size ≤ b4 ∧ w.heap.size ≤ b5 ∧ w.heap.size ≤ b6 := by omega
  rw [← hb6] at F6 ⊢
  rw [← hb5] at F5 ⊢
  rw [← hb4] at F4 ⊢
  rw [← hb3] at F3 ⊢
  rw [← hb2] at F2 ⊢
  obtain ⟨l2, k20, k21, -, -⟩ := F2
  obtain ⟨l3, k30, k31, -, -⟩ := F3
  obtain ⟨n45, n46, n56, w4, w5, w6⟩ := hne
  have BW' := below_set2 (below_set2 (below_set2 hB1 w4 (.int .i64 0) (.slice none 0 0)) w5 (.int .i64 0) (.slice none 0 0)) w6 (.int .i64 4) (.int .i64 0)
  have HW : Hid (Below _ _ _) := BW'
  obtain ⟨l4, k40, k41, p40, p41⟩ := F4
  obtain ⟨l5, k50, k51, p50, p51⟩ := F5
  obtain ⟨l6, k60, k61, p60, p61⟩ := F6
  have n54 := n45.symm
  have n64 := n46.symm
  have n65 := n56.symm
  clear hb2 hb3 hb4 hb5 hb6 hB1 hx hy w4 w5 w6 BW'
  go_wp2
  refine bodyPost_ret (v := .tuple #[.agg #[.int .i64 0, .slice none 0 0], .agg #[.int .i64 0, .slice none 0 0], .agg #[.int .i64 4, .int .i64 0]]) (by simp [results, go_sem, loadVar, World.cell?_setCell_same, World.cell?_setCell_other, *]; try rfl) rfl ?_
  exact ⟨rfl, HW.out⟩
end Go.Proofs.YtjlkplidpdhgbaaGreatDoor

namespace Go.Proofs.YtjlkplidpdhgbaaGreatDoor
open Go Go.Proofs Go.RowKit Go.Rad

/-- A change of a new block is none of what was there. -/
theorem chg_new {a w w' : World} {b lo hi p q r : Nat} (h : Chg a w b lo hi) (k : Chg w w' p q r) (hp : a.heap.size ≤ p) (hb : b < a.heap.size) : Chg a w' b lo hi :=
  ⟨k.os.trans h.os, k.tape.trans h.tape, k.output.trans h.output, Nat.le_trans h.size k.size,
    fun c hc hne => (k.block c (Nat.lt_of_lt_of_le hc h.size) (by omega)).trans (h.block c hc hne),
    fun i hi => (k.cellAt (Nat.lt_of_lt_of_le hb h.size) (.inl (by omega))).trans (h.cell i hi),
    fun i => (k.frozAt (Nat.lt_of_lt_of_le hb h.size)).trans (h.froz i)⟩
/-- The last m bytes of a row of n are the digits of x. -/
def Dig (w : World) (b o n m x : Nat) : Prop := ∀ i, i < m → w.cell? ⟨b, o + (n - 1 - i), none⟩ = some (.int .u8 ((48 + x / 10 ^ i % 10 : Nat) : Int))

def CH : Nat := 10000000000000000000
theorem CH_eq : CH = 10 ^ 19 := by decide
theorem ch_pos : 0 < CH := by decide
theorem ch_lt : CH < B := by decide

theorem dig_digit (x i : Nat) : x / 10 ^ i % 10 ≤ 9 := by omega
/-- A digit of a chunk is one of the number's. -/
theorem chunk_digit (x j t : Nat) (ht : t < 19) : x / 10 ^ (19 * j) % CH / 10 ^ t % 10 = x / 10 ^ (19 * j + t) % 10 := by
  rw [CH_eq, Nat.pow_add 10 (19 * j) t, ← Nat.div_div_eq_div_mul]
  generalize x / 10 ^ (19 * j) = y
  have e : (10 : Nat) ^ 19 = 10 ^ t * 10 ^ (19 - t) := by rw [← Nat.pow_add]; congr 1; omega
  rw [e, Nat.mod_mul_right_div_self]
  obtain ⟨k, hk⟩ : ∃ k, 19 - t = k + 1 := ⟨19 - t - 1, by omega⟩
  rw [hk, Nat.pow_succ, Nat.mul_comm]
  exact Nat.mod_mod_of_dvd _ ⟨_, rfl⟩

theorem Mag.of_num {w : World} {b o n c x : Nat} (ha : Arr .u64 B w b o n) (hc : n ≤ c) (h : num B w b o n = x) (hg : n = 0 ∨ B ^ (n - 1) ≤ x) : Mag w (.slice (some ⟨b, o, none⟩) n c) x n := by
  refine ⟨_, b, o, c, rfl, Sl.mk _ _ _, hc, ha, h, ?_⟩
  rcases hg with hg | hg
  · exact .inl hg
  · rcases Nat.eq_zero_or_pos n with h0 | h0
    · exact .inl h0
    · right
      intro hw
      obtain ⟨m, rfl⟩ : ∃ m, n = m + 1 := ⟨n - 1, by omega⟩
      rw [Nat.add_sub_cancel] at hw hg
      rw [num_succ, hw, Nat.mul_zero, Nat.add_zero] at h
      have h1 : num B w b o m < B ^ m := num_lt (fun i hi => ha i (by omega))
      omega

set_option maxRecDepth 10000 in
set_option maxHeartbeats 2000000 in
theorem writeChunks_any (w : World) (b o n c m : Nat) (v : Value) (x k : Nat) (hn0 : 0 < n) (hm : m ≤ n) (hn : n ≤ 1099511627776) (hz : Dig w b o n m 0) (hf : Free w b o n) (hx : Mag w v x k) (hk : k ≤ 35184372088832)
    (hxm : x < 10 ^ m) (hl : b < w.heap.size) (hnc : n ≤ c) :
    Calls Tryz.prog 108 #[.slice (some ⟨b, o, none⟩) n c, v] w fun e w' => e = .returned (.tuple #[]) ∧ Chg w w' b (o + (n - m)) (o + n) ∧ Dig w' b o n m x := by
  obtain ⟨i0, hi0, hz0, hz1, hz2⟩ := info_parts info98
  have HGE : Hid (k = 0 ∨ B ^ (k - 1) ≤ x) := by
    rcases Nat.eq_zero_or_pos k with h | h
    · exact .inl h
    · exact .inr (hx.ge h)
  obtain ⟨ax, bx, ox, cx, rfl, hsx, hcx, hax, hnx, hrx⟩ := hx
  have HX : Hid (num B w bx ox k = x) := hnx
  clear hnx hrx
  go_enter Tryz.func108, Tryz.ntmps108
  go_wp2_with (first
    | (at_make; refine wpList_makeRow .u64 B B_pos rfl _ _ 22 rfl 98 i0 Tryz.underlying22 hi0 hz0 hz1 .i64 .i64 _ _ k rfl rfl (by omega) (by omega) (by rw [hz2]; omega) (by unfold maxLen; omega) ?_; intro w2 hm2)
    | (refine wpList_copyRow .u64 B rfl _ _ 22 22 rfl 98 Tryz.underlying22 size98 _ _ _ _ _ _ rfl rfl w.heap.size 0 bx ox (Sl.mk _ _ _) hsx hm2.arr hm2.free (arr_below hax hm2.below) ?_; intro w3 hcp; rw [Nat.min_self] at hcp))
  obtain ⟨hb3, ha3, hf3, hn3, hs3⟩ := row_copied hm2 hax (Nat.le_refl _) hcp
  rw [HX.out] at hn3
  have C3 : Chg w w3 b (o + (n - m)) (o + n) := chg_below hb3 hl
  have D3 : ∀ i, i < m → w3.cell? ⟨b, o + (n - 1 - i), none⟩ = some (.int .u8 ((48 + (if i < 19 * 0 then x / 10 ^ i % 10 else 0) : Nat) : Int)) := fun i hi => by
    rw [hb3.cell (p := ⟨b, o + (n - 1 - i), none⟩) hl, hz i hi]
    simp
  have M3 : Mag w3 (.slice (some ⟨w.heap.size, 0, none⟩) k k) x k := Mag.of_num ha3 (Nat.le_refl _) hn3 (HGE.out)
  obtain ⟨bl, hbl⟩ : ∃ bl, bl = w.heap.size := ⟨_, rfl⟩
  rw [← hbl] at ha3 hf3 hs3 M3 ⊢
  have hbb : b < bl := by rw [hbl]; exact hl
  have HBL : Hid (bl = w.heap.size) := hbl
  clear hm2 hcp hb3 hn3 hbl
  go_loopw [4, 5] (fun l e wr => ∃ j kq cl : Nat, l = .slice (some ⟨bl, 0, none⟩) kq cl ∧ e = .int .i64 ((n : Int) - 19 * (j : Int)) ∧ Chg w wr b (o + (n - m)) (o + n) ∧
      Mag wr (.slice (some ⟨bl, 0, none⟩) kq cl) (x / 10 ^ (19 * j)) kq ∧ Free wr bl 0 kq ∧ bl < wr.heap.size ∧ kq ≤ k ∧ 19 * j ≤ m + 19 ∧
      (∀ i, i < m → wr.cell? ⟨b, o + (n - 1 - i), none⟩ = some (.int .u8 ((48 + (if i < 19 * j then x / 10 ^ i % 10 else 0) : Nat) : Int))))
    (fun _ e _ => (intOf e).toNat)
  case atStart => exact ⟨0, k, k, rfl, by go_num, C3, by rw [Nat.mul_zero, Nat.pow_zero, Nat.div_one]; exact M3, hf3, hs3, Nat.le_refl _, by omega, D3⟩
  case round =>
    obtain ⟨j, kq, cl, rfl, rfl, hch, hM, hfl, hll, hkq, hj, hD⟩ := hrel
    clear C3 D3 M3 ha3 hf3 hs3
    by_cases h0 : kq = 0
    · subst h0
      have hx0 : x / 10 ^ (19 * j) = 0 := hM.zero_iff.2 rfl
      have HD : Hid (Dig wr b o n m x) := fun i hi => by
        rw [hD i hi]
        by_cases h1 : i < 19 * j
        · rw [if_pos h1]
        · rw [if_neg h1]
          have h2 : x / 10 ^ i = 0 := by
            obtain ⟨t, ht⟩ := Nat.exists_eq_add_of_le (Nat.le_of_not_lt h1)
            rw [ht, Nat.pow_add, ← Nat.div_div_eq_div_mul, hx0, Nat.zero_div]
          rw [h2]
      have HC : Hid _ := hch
      clear hD hch hM hx0
      go_wp2
      go_end0
      exact ⟨rfl, HC.out, HD.out⟩
    · have hpos : 0 < x / 10 ^ (19 * j) := hM.pos (by omega)
      have hjm : 19 * j < m := by
        have h1 : 10 ^ (19 * j) ≤ x := by
          refine Nat.le_of_not_lt fun h => ?_
          rw [Nat.div_eq_of_lt h] at hpos; omega
        exact (Nat.pow_lt_pow_iff_right (by decide : 1 < 10)).1 (Nat.lt_of_le_of_lt h1 hxm)
      obtain ⟨bl', ol', cl', hv, hcl, har, hnum, _⟩ := hM.row (by omega)
      simp only [Value.slice.injEq, Option.some.injEq, Addr.mk.injEq, and_true, true_and] at hv
      obtain ⟨⟨rfl, rfl⟩, rfl⟩ := hv
      have CD := divByWord_any wr (some ⟨bl, 0, none⟩) bl 0 kq cl CH (Sl.mk _ _ _) (by unfold maxLen; omega) har hfl ch_pos ch_lt
      rw [hnum] at CD
      obtain ⟨y, hy⟩ : ∃ y, x / 10 ^ (19 * j) % CH = y := ⟨_, rfl⟩
      rw [hy] at CD
      have hyl : y < CH := by rw [← hy]; exact Nat.mod_lt _ ch_pos
      have HY : Hid _ := hy
      clear hy
      have hkpos : (0 : Int) < (kq : Int) := by omega
      have HD0 : Hid _ := hD
      clear hM har hnum hpos hD
      go_wp2_with (go_at_call 134; fail)
      refine CD.mono ?_
      rintro e w4 ⟨rfl, hc4, ha4, hn4⟩
      clear CD
      have CF := front_at w4 (some ⟨bl, 0, none⟩) bl 0 kq cl kq (Sl.mk _ _ _) hcl (by unfold maxLen; omega) (by unfold maxLen; omega) ha4
      rw [Nat.min_self, hn4] at CF
      have hl4 : bl < w4.heap.size := Nat.lt_of_lt_of_le hll hc4.size
      have HC4 : Hid (Chg w w4 b (o + (n - m)) (o + n)) := chg_new hch hc4 (by have := HBL.out; omega) hl
      have hf4 := hc4.free hfl (fun _ => hll)
      have HD4 : Hid (∀ i, i < m → w4.cell? ⟨b, o + (n - 1 - i), none⟩ = some (.int .u8 ((48 + (if i < 19 * j then x / 10 ^ i % 10 else 0) : Nat) : Int))) := fun i hi => by
        rw [hc4.cellAt (by have := hch.size; omega) (.inl (by omega))]; exact HD0.out i hi
      have ha4' := ha4
      clear hn4 ha4 hch hc4 HD0
      go_wp2_with (go_at_call 86; fail)
      refine CF.mono ?_
      rintro e w5 ⟨k5, rfl, hw5, hk5, _, hm5⟩
      subst hw5
      clear CF
      have hx19 : x / 10 ^ (19 * j) / CH = x / 10 ^ (19 * (j + 1)) := by
        rw [CH_eq, Nat.div_div_eq_div_mul, ← Nat.pow_add]; rfl
      rw [hx19] at hm5
      have HM5 : Hid _ := hm5
      have hf5 : Free w5 bl 0 k5 := free_sub0 hf4 hk5
      clear hx19 hm5 ha4' hfl hll hf4
      have hd4 := HD4.out
      have hc4 := HC4.out
      go_wp2
      clear hd4 hc4
      go_loopw [6, 7] (fun d e wr => ∃ t z : Nat, t ≤ 19 ∧ z = y / 10 ^ t ∧ d = .int .u64 (z : Int) ∧ e = .int .i64 ((n : Int) - 19 * (j : Int) - 1 - (t : Int)) ∧ Chg w5 wr b (o + (n - m)) (o + n) ∧
        (∀ i, i < m → wr.cell? ⟨b, o + (n - 1 - i), none⟩ = some (.int .u8 ((48 + (if i < 19 * j + t then x / 10 ^ i % 10 else 0) : Nat) : Int))))
        (fun d _ _ => (intOf d).toNat)
      case atStart => exact ⟨0, y, by omega, by rw [Nat.pow_zero, Nat.div_one], rfl, by go_num, Chg.refl _ _ _ _, HD4.out⟩
      case round =>
        obtain ⟨t, z, ht, hz', rfl, rfl, hch, hD⟩ := hrel
        by_cases hz0' : z = 0
        · subst hz0'
          have HD5 : Hid (∀ i, i < m → wr.cell? ⟨b, o + (n - 1 - i), none⟩ = some (.int .u8 ((48 + (if i < 19 * (j + 1) then x / 10 ^ i % 10 else 0) : Nat) : Int))) := fun i hi => by
            rw [hD i hi]
            by_cases h1 : i < 19 * j + t
            · rw [if_pos h1, if_pos (by omega)]
            · rw [if_neg h1]
              by_cases h2 : i < 19 * (j + 1)
              · rw [if_pos h2]
                obtain ⟨u, rfl⟩ := Nat.exists_eq_add_of_le (show 19 * j ≤ i by omega)
                rw [← chunk_digit x j u (by omega), HY.out]
                obtain ⟨e, he⟩ := Nat.exists_eq_add_of_le (show t ≤ u by omega)
                rw [he, Nat.pow_add, ← Nat.div_div_eq_div_mul, ← hz', Nat.zero_div]
              · rw [if_neg h2]
          have HM6 : Hid (Mag wr (.slice (some ⟨bl, 0, none⟩) k5 k5) (x / 10 ^ (19 * (j + 1))) k5) := Mag.chg HM5.out hch (fun _ => .inl (by omega))
          have HC6 : Hid (Chg w wr b (o + (n - m)) (o + n)) := HC4.out.trans hch
          have HF6 : Hid (Free wr bl 0 k5) := hch.free hf5 (fun _ => hl4)
          have HL6 : Hid (bl < wr.heap.size) := Nat.lt_of_lt_of_le hl4 hch.size
          clear hD hch hz'
          go_wp2
          go_roundw
          case rel => exact ⟨j + 1, k5, k5, rfl, by go_num, HC6.out, HM6.out, HF6.out, HL6.out, by omega, by omega, HD5.out⟩
          case measure => simp [intOf]; omega
        · have hpos : 0 < x / 10 ^ (19 * j + t) := by
            rw [Nat.pow_add, ← Nat.div_div_eq_div_mul]
            refine Nat.pos_of_ne_zero fun h => hz0' ?_
            rw [hz', ← HY.out]
            exact Nat.le_zero.1 (Nat.le_trans (Nat.div_le_div_right (Nat.mod_le _ _)) (Nat.le_of_eq h))
          have hjt : 19 * j + t < m := by
            have h1 : 10 ^ (19 * j + t) ≤ x := by
              refine Nat.le_of_not_lt fun h => ?_
              rw [Nat.div_eq_of_lt h] at hpos; omega
            exact (Nat.pow_lt_pow_iff_right (by decide : 1 < 10)).1 (Nat.lt_of_le_of_lt h1 hxm)
          have ht19 : t < 19 := by
            refine Nat.lt_of_not_le fun h => hz0' ?_
            rw [hz']
            exact Nat.div_eq_of_lt (Nat.lt_of_lt_of_le hyl (by rw [CH_eq]; exact Nat.pow_le_pow_right (by decide) h))
          have hdg : z % 10 = x / 10 ^ (19 * j + t) % 10 := by rw [hz', ← HY.out, chunk_digit x j t ht19]
          have hzB : z < B := Nat.lt_of_le_of_lt (by rw [hz']; exact Nat.div_le_self _ _) (Nat.lt_trans hyl ch_lt)
          have hcell := hD (19 * j + t) hjt
          rw [if_neg (by omega)] at hcell
          obtain ⟨p, hp⟩ : ∃ p, p = n - 1 - (19 * j + t) := ⟨_, rfl⟩
          rw [← hp] at hcell
          have hfr : wr.frozen? ⟨b, o + p, none⟩ = false := by
            have h1 := (HC4.out.trans hch).free hf (fun _ => hl) p (by omega)
            exact h1
          have e1 : (n : Int) - 19 * (j : Int) - 1 - (t : Int) = (p : Int) := by omega
          rw [e1]
          have hzm : (z : Int) % 10 = ((z % 10 : Nat) : Int) := by omega
          obtain ⟨g, hg⟩ : ∃ g, z % 10 = g := ⟨_, rfl⟩
          have hg9 : g ≤ 9 := by omega
          rw [hg] at hzm
          have hq : z / 10 = y / 10 ^ (t + 1) := by rw [hz', Nat.div_div_eq_div_mul, Nat.pow_succ]
          have hzd : (z : Int) / 10 = ((z / 10 : Nat) : Int) := by omega
          obtain ⟨z2, hz2'⟩ : ∃ g, z / 10 = g := ⟨_, rfl⟩
          have hzlt : z2 < z := by omega
          rw [hz2'] at hzd hq
          have hpc : p < n := by omega
          have HCH : Hid _ := hch
          have HDD : Hid _ := hD
          have HQ : Hid _ := hq
          have HG : Hid (g = x / 10 ^ (19 * j + t) % 10) := by show _ = _; rw [← hg]; exact hdg
          have HP : Hid (p = n - 1 - (19 * j + t)) := hp
          clear hch hD hz' hpos hq hdg hg hp e1 hz2'
          unfold B at hzB
          go_wp2
          go_roundw
          case rel =>
            refine ⟨t + 1, z2, by omega, HQ.out, rfl, by have := HP.out; go_num, HCH.out.set (by have := HP.out; omega) (by have := HP.out; omega) _, fun i hi => ?_⟩
            by_cases h1 : n - 1 - i = p
            · have h2 : i = 19 * j + t := by have := HP.out; omega
              subst h2
              rw [h1, cell_same hcell, if_pos (by omega), ← HG.out]
              rfl
            · rw [cell_other (.inr (by omega)), HDD.out i hi]
              by_cases h2 : i < 19 * j + t
              · rw [if_pos h2, if_pos (by omega)]
              · rw [if_neg h2, if_neg (by have := HP.out; omega)]
          case measure => simp [intOf]; omega
end Go.Proofs.YtjlkplidpdhgbaaGreatDoor
