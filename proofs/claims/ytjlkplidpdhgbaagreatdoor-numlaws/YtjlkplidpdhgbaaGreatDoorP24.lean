/- A part of the proof: G1, G8. -/
import Derived.Test.YtjlkplidpdhgbaaGreatDoorP23
import Derived.Test.YtjlkplidpdhgbaaGreatDoorP12
import Derived.Test.YtjlkplidpdhgbaaGreatDoorP03
import Derived.Test.YtjlkplidpdhgbaaGreatDoorP14
set_option linter.all false

namespace Go.Proofs.YtjlkplidpdhgbaaGreatDoor
open Go Go.Proofs Go.RowKit Go.Rad

theorem shr_odd {k m : Nat} : (2 ^ k * (2 * m + 1)) / 2 ^ k = 2 * m + 1 := Nat.mul_div_cancel_left _ (Nat.pow_pos (by decide))
/-- What stands ahead of a round: the first number is odd. -/
structure GW (a b s x y : Nat) : Prop where
  odd : x % 2 = 1
  x0 : x < B
  y0 : y < B
  g : Nat.gcd x y * 2 ^ s = Nat.gcd a b
theorem GW.step {a b s x k m : Nat} (h : GW a b s x (2 ^ k * (2 * m + 1))) : GW a b s (min x (2 * m + 1)) (max x (2 * m + 1) - min x (2 * m + 1)) := by
  obtain ⟨o, x0, y0, g⟩ := h
  have h2 : 2 * m + 1 < B := Nat.lt_of_le_of_lt (Nat.le_mul_of_pos_left (2 * m + 1) (Nat.pow_pos (by decide))) y0
  rw [_root_.Rad.gcd_odd_pow o] at g
  refine ⟨by omega, by omega, by omega, ?_⟩
  rw [_root_.Rad.gcd_min_max, g]
theorem GW.done {a b s x y : Nat} (h : GW a b s x y) (hy : y = 0) : x * 2 ^ s = Nat.gcd a b := by
  have := h.g
  rw [hy, Nat.gcd_zero_right] at this
  exact this
set_option maxRecDepth 10000 in
set_option maxHeartbeats 1000000 in
theorem gcdWord_any (w : World) (a b : Nat) (ha : a < B) (hb : b < B) (ht : TabB w) :
    Calls Tryz.prog 91 #[.int .u64 a, .int .u64 b] w fun e w' => e = .returned (.int .u64 (Nat.gcd a b : Nat)) ∧ w' = w := by
  by_cases h0 : a = 0 ∨ b = 0
  · have hor : bits .or .u64 (a : Int) (b : Int) = ((Nat.gcd a b : Nat) : Int) := by
      rcases h0 with rfl | rfl
      · have h := bits_or_u64_nat 0 b (by decide) hb
        rw [Nat.zero_or] at h
        rw [Nat.gcd_zero_left]; exact h
      · have h := bits_or_u64_nat a 0 ha (by decide)
        rw [Nat.or_zero] at h
        rw [Nat.gcd_zero_right]; exact h
    by_cases ha0 : a = 0
    · subst ha0
      have H : Hid (bits .or .u64 0 (b : Int) = ((Nat.gcd 0 b : Nat) : Int)) := hor
      clear hor ht h0
      go_enter Tryz.func91, Tryz.ntmps91
      go_wp2
      rw [H.out]
      go_ret
      exact ⟨rfl, rfl⟩
    · obtain rfl : b = 0 := by omega
      have hai : ¬ (a : Int) = 0 := by omega
      have hai' : ((a : Int) == 0) = false := by simpa using hai
      have H : Hid (bits .or .u64 (a : Int) 0 = ((Nat.gcd a 0 : Nat) : Int)) := hor
      clear hor ht ha0 h0
      go_enter Tryz.func91, Tryz.ntmps91
      go_wp2
      rw [H.out]
      go_ret
      exact ⟨rfl, rfl⟩
  · obtain ⟨i, p, ea⟩ := odd_part a (by omega)
    obtain ⟨j, q, eb⟩ := odd_part b (by omega)
    obtain ⟨m, em⟩ := _root_.Rad.or_parts (x := 2 * p + 1) (y := 2 * q + 1) (by omega) (by omega) i j
    rw [← ea, ← eb] at em
    have hor := bits_or_u64_nat a b ha hb
    rw [em] at hor
    have hmB : 2 ^ min i j * (2 * m + 1) < B := by
      rw [← em]; exact Nat.or_lt_two_pow (n := 64) ha hb
    have hai : ¬ (a : Int) = 0 := by omega
    have hbi : ¬ (b : Int) = 0 := by omega
    have hai' : ((a : Int) == 0) = false := by simpa using hai
    have hbi' : ((b : Int) == 0) = false := by simpa using hbi
    have HT : Hid (TabB w) := ht
    have HO : Hid _ := hor
    have HG : Hid (GW a b (min i j) (2 * p + 1) b) := by
      refine ⟨by omega, ?_, hb, ?_⟩
      · exact Nat.lt_of_le_of_lt (Nat.le_mul_of_pos_left (2 * p + 1) (Nat.pow_pos (by decide))) (ea ▸ ha)
      · conv => lhs; rw [eb]
        conv => rhs; rw [ea, eb]
        exact (_root_.Rad.gcd_parts (x := 2 * p + 1) (y := 2 * q + 1) (by omega) (by omega) i j).symm
    have HA : Hid _ := ea
    have HD : Hid ((a : Int) / 2 ^ i = ((2 * p + 1 : Nat) : Int)) := by
      show _ = _
      rw [shr_nat, ea, shr_odd]
    have hi64 : i < 64 := by
      refine Classical.byContradiction fun hk => ?_
      have h1 : 2 ^ 64 ≤ 2 ^ i := Nat.pow_le_pow_right (by decide) (by omega)
      have h2 := Nat.le_mul_of_pos_right (2 ^ i) (show 0 < 2 * p + 1 by omega)
      rw [← ea] at h2
      unfold B at ha
      omega
    have hl64 : min i j < 64 := by omega
    obtain ⟨s, hs⟩ : ∃ s, min i j = s := ⟨_, rfl⟩
    rw [hs] at hor hmB HO HG hl64
    have CT : Calls Tryz.prog 121 #[.int .u64 (bits .or .u64 (a : Int) (b : Int))] w fun e w' => e = .returned (.int .i64 s) ∧ w' = w := by
      rw [HO.out]; exact trailingZeros_any s m hmB w ht
    have CA : Calls Tryz.prog 121 #[.int .u64 (a : Int)] w fun e w' => e = .returned (.int .i64 i) ∧ w' = w := by
      have h := trailingZeros_any i p (ea ▸ ha) w ht
      rw [← ea] at h
      exact h
    have HGB : Hid (Nat.gcd a b < B) := Nat.lt_of_le_of_lt (Nat.gcd_le_left _ (by omega)) ha
    clear ea eb em hor hmB hs h0 ht ha hb
    go_enter Tryz.func91, Tryz.ntmps91
    go_wp2_with (go_at_call 121; fail)
    refine CT.mono ?_
    rintro e w1 ⟨rfl, hw⟩
    subst w1
    go_wp2_with (go_at_call 121; fail)
    refine CA.mono ?_
    rintro e w2 ⟨rfl, hw⟩
    subst w2
    clear CT CA
    go_wp2
    rw [HD.out]
    go_loopw [0, 1] (fun a0 a1 wr => ∃ x y : Nat, a0 = .int .u64 x ∧ a1 = .int .u64 y ∧ wr = w ∧ Hid (GW a b s x y))
      (fun a0 a1 _ => (intOf a0).toNat + (intOf a1).toNat)
    case atStart => exact ⟨_, _, rfl, rfl, rfl, HG⟩
    case round =>
      obtain ⟨x, y, rfl, rfl, hwr, HW⟩ := hrel
      subst wr
      by_cases hy : y = 0
      · subst hy
        clear HG HD HA
        have hsh : Hid (IntKind.u64.wrap ((x : Int) * 2 ^ s) = ((Nat.gcd a b : Nat) : Int)) := by
          show _ = _
          rw [shl_nat, GW.done HW.out rfl]
          unfold lo
          rw [Nat.mod_eq_of_lt (show Nat.gcd a b < 18446744073709551616 from HGB.out)]
        go_wp2
        rw [hsh.out]
        go_ret
        exact ⟨rfl, rfl⟩
      · obtain ⟨k, m, e⟩ := odd_part y (by omega)
        have hw := HW.out
        have CT := trailingZeros_any k m (e ▸ hw.y0) w HT.out
        rw [← e] at CT
        have hyi : ¬ (y : Int) = 0 := by omega
        have hyi' : ((y : Int) == 0) = false := by simpa using hyi
        have HD2 : Hid ((y : Int) / 2 ^ k = ((2 * m + 1 : Nat) : Int)) := by
          show _ = _
          rw [shr_nat, e, shr_odd]
        have hz : 2 * m + 1 ≤ y := by
          conv => rhs; rw [e]
          exact Nat.le_mul_of_pos_left (2 * m + 1) (Nat.pow_pos (by decide))
        have hk64 : k < 64 := by
          refine Classical.byContradiction fun hk => ?_
          have h1 : 2 ^ 64 ≤ 2 ^ k := Nat.pow_le_pow_right (by decide) (by omega)
          have h2 := Nat.le_mul_of_pos_right (2 ^ k) (show 0 < 2 * m + 1 by omega)
          rw [← e] at h2
          have h3 := hw.y0
          unfold B at h3
          omega
        have hx0 : 0 < x := by have := hw.odd; omega
        have HS : Hid _ := (show GW a b s x (2 ^ k * (2 * m + 1)) from e ▸ hw).step
        have hyB := hw.y0
        have hxB := hw.x0
        unfold B at hyB hxB
        clear hw HW HD HA e HG
        obtain ⟨o, ho⟩ : ∃ o, o = 2 * m + 1 := ⟨_, rfl⟩
        rw [← ho] at HD2 hz HS
        have ho0 : 0 < o := by omega
        have hmin : min k 64 = k := by omega
        clear ho
        go_wp2_with (go_at_call 121; fail)
        refine CT.mono ?_
        rintro e w2 ⟨rfl, hw⟩
        subst w2
        clear CT hyi hyi'
        go_wp2
        all_goals
          rw [hmin, HD2.out] at *
          refine ⟨⟨min x o, by omega, max x o - min x o, ?_, HS⟩, ?_⟩
          · rw [IntKind.wrap_u64]; omega
          · simp only [intOf, IntKind.wrap_u64]; omega
end Go.Proofs.YtjlkplidpdhgbaaGreatDoor

namespace Go.Proofs.YtjlkplidpdhgbaaGreatDoor
open Go Go.Proofs Go.RowKit Go.Rad

theorem TabB.lt {w : World} (h : TabB w) : 1 < w.heap.size := block_lt (h 0 (by decide))
theorem TabB.below {w w' : World} (h : TabB w) (hb : Below w.heap.size w w') : TabB w' := fun j hj => (World.cell?_of_block (hb.block 1 h.lt)).trans (h j hj)
/-- One word as a number. -/
theorem mag_one (w : World) (g : Nat) (h0 : 0 < g) (h : g < B) : Mag (w.alloc (.cells #[.int .u64 (g : Int)] 98)) (.slice (some ⟨w.heap.size, 0, none⟩) 1 1) g 1 := by
  obtain ⟨A1, N1⟩ := one_arr w g h
  refine ⟨_, w.heap.size, 0, 1, rfl, Sl.mk _ _ _, Nat.le_refl _, A1, N1, .inr ?_⟩
  rw [num_succ, num_zero, Nat.zero_add, Nat.pow_zero, Nat.one_mul] at N1
  show word _ _ (0 + (1 - 1)) ≠ 0
  rw [Nat.sub_self, N1]
  omega
theorem Mag.head {w : World} {v : Value} {y : Nat} (h : Mag w v y 1) : ∃ b o c, v = .slice (some ⟨b, o, none⟩) 1 c ∧ 1 ≤ c ∧ w.cell? ⟨b, o, none⟩ = some (.int .u64 (y : Int)) ∧ y < B ∧ 0 < y := by
  obtain ⟨b, o, c, hv, hc, ha, hx, ht⟩ := h.row (by decide)
  have hcell := arr_cell ha (i := 0) (by decide)
  have hbv : word w b (o + 0) = y := by
    rw [← hx, num_succ, num_zero, Nat.zero_add, Nat.pow_zero, Nat.one_mul]
  rw [hbv, Nat.add_zero] at hcell
  have hl := h.lt
  rw [Nat.pow_one] at hl
  exact ⟨b, o, c, hv, hc, hcell, hl, h.pos (by decide)⟩

set_option maxRecDepth 10000 in
set_option maxHeartbeats 4000000 in
theorem gcdWords_any (w : World) (va vb : Value) (a b na nb : Nat) (ha : Mag w va a na) (hb : Mag w vb b nb) (ha0 : 0 < na) (hb0 : 0 < nb) (hna : na < 160) (hnb : nb < 160) (ht : TabB w) :
    Calls Tryz.prog 92 #[va, vb] w fun e w' => ∃ v n, e = .returned v ∧ Below w.heap.size w w' ∧ Mag w' v (Nat.gcd a b) n := by
  have hg0 : 0 < Nat.gcd a b := Nat.gcd_pos_of_pos_right _ (hb.pos hb0)
  by_cases h1 : nb = 1
  · subst h1
    obtain ⟨bb, ob, cb, rfl, hcb, hcell, hbB, hbp⟩ := hb.head
    obtain ⟨ba, oa, ca, rfl, hca, -, -, -⟩ := ha.row ha0
    have hlt := block_lt hcell
    have hrg : Nat.gcd b (a % b) = Nat.gcd a b := by rw [Nat.gcd_comm a b, Nat.gcd_rec b a, Nat.gcd_comm]
    have hgB : Nat.gcd a b < B := Nat.lt_of_le_of_lt (Nat.gcd_le_right _ hbp) hbB
    have CM : ∀ wx, Below w.heap.size w wx → Calls Tryz.prog 122 #[.slice (some ⟨ba, oa, none⟩) na ca, .int .u64 b] wx fun e w' => e = .returned (.int .u64 (a % b : Nat)) ∧ Below wx.heap.size wx w' :=
      fun wx h => modWord_any wx _ a na b (ha.below h) (by omega) hbp hbB
    have CG : ∀ wx, Below w.heap.size w wx → Calls Tryz.prog 91 #[.int .u64 b, .int .u64 (a % b : Nat)] wx fun e w' => e = .returned (.int .u64 (Nat.gcd a b : Nat)) ∧ w' = wx := fun wx h => by
      have := gcdWord_any wx b (a % b) hbB (Nat.lt_trans (Nat.mod_lt _ hbp) hbB) (ht.below h)
      rw [hrg] at this
      exact this
    have HC : Hid (∀ wx, Below w.heap.size w wx → wx.cell? ⟨bb, ob, none⟩ = some (.int .u64 (b : Int))) := fun wx h => (World.cell?_of_block (h.block bb hlt)).trans hcell
    have HG : Hid (0 < Nat.gcd a b ∧ Nat.gcd a b < B) := ⟨hg0, hgB⟩
    obtain ⟨g, hg⟩ : ∃ g, Nat.gcd a b = g := ⟨_, rfl⟩
    rw [hg] at CG HG ⊢
    clear ha hb hg0 ht hrg hgB hg ha0 hb0
    go_enter Tryz.func92, Tryz.ntmps92
    go_wp2
    go_region_with (first
      | (go_at_call 122; refine (CM _ (bel_drew w)).mono ?_; rintro e w3 ⟨rfl, hb3⟩; have c3 := HC.out w3 ((bel_drew w).trans hb3))
      | (go_at_call 91; refine (CG _ ((bel_drew w).trans hb3)).mono ?_; rintro e w4 ⟨rfl, hw4⟩; subst w4))
    all_goals
      have HB : Hid (Below w.heap.size w w3) := (bel_drew w).trans hb3
      clear CM CG hb3
      go_wp2
      go_ret
      exact ⟨_, 1, rfl, HB.out.alloc HB.out.size _, mag_one w3 g HG.out.1 HG.out.2⟩
  · have hnb2 : ¬ (nb : Int) = 1 := by omega
    have CA := chaseOf_any w va vb a b na nb ha hb ha0 hb0 hna hnb
    obtain ⟨ba, oa, ca, rfl, hca, -, -, -⟩ := ha.row ha0
    obtain ⟨bb, ob, cb, rfl, hcb, -, -, -⟩ := hb.row hb0
    have hab : Nat.gcd (max a b) (min a b) = Nat.gcd a b := by
      rcases Nat.le_total a b with h | h
      · rw [Nat.max_eq_right h, Nat.min_eq_left h, Nat.gcd_comm]
      · rw [Nat.max_eq_left h, Nat.min_eq_right h]
    have hmax : 0 < max a b := by have := hb.pos hb0; omega
    have hbB : Nat.gcd a b ≤ b := Nat.gcd_le_right _ (hb.pos hb0)
    have HT : Hid (TabB w) := ht
    have HG0 : Hid (0 < Nat.gcd a b) := hg0
    have HAB : Hid (Nat.gcd (max a b) (min a b) = Nat.gcd a b) := hab
    have HMX : Hid (0 < max a b) := hmax
    clear ha hb ht hg0 hab hmax hbB
    go_enter Tryz.func92, Tryz.ntmps92
    go_wp2_with (go_at_call 123; fail)
    refine CA.mono ?_
    rintro e w1 ⟨pc, n0, rfl, hb1, hC1⟩
    clear CA
    have CR := run_any w.heap.size w1 pc n0 _ _ hC1 HMX.out hb1.size
    have HB1 : Hid (Below w.heap.size w w1) := hb1
    clear hC1 hb1
    go_wp2_with (go_at_call 124; fail)
    refine CR.mono ?_
    rintro e w2 ⟨n, x, y, rfl, hb2, hC2, hg2, hx0, hyB⟩
    clear CR
    obtain ⟨bx, cx, by', cy, uv, vv, mi, C, R⟩ := hC2
    have HB2 : Hid (Below w.heap.size w w2) := HB1.out.trans hb2
    have HGX : Hid (Nat.gcd x y = Nat.gcd a b) := hg2.trans HAB.out
    have HYB : Hid (y < B ^ 1) := by show y < B ^ 1; rw [Nat.pow_one]; exact hyB
    have HX0 : Hid (0 < x) := hx0
    have AX : ∀ wx, Below w2.heap.size w2 wx → Arr .u64 B wx bx 0 n ∧ num B wx bx 0 n = x := fun wx h => ⟨arr_below R.ax h, (num_below R.ax h).trans R.ex⟩
    have AY : ∀ wx, Below w2.heap.size w2 wx → Arr .u64 B wx by' 0 n ∧ num B wx by' 0 n = y := fun wx h => ⟨arr_below R.ay h, (num_below R.ay h).trans R.ey⟩
    have hn0 := R.n0
    have hn := R.nm
    have hcx := R.cx1
    have hcy := R.cy1
    have HML : Hid (n ≤ maxLen) := by show n ≤ maxLen; unfold maxLen; omega
    obtain ⟨lp, k0, k1, k2, -, -, -, -, -, -, -, -, -⟩ := id C
    clear HB1 hb2 hg2 HAB HMX hx0 hyB C R hnb2
    go_wp2
    refine wp_world (fun w1 => w1 = w2) rfl ?_
    rintro w1 rfl
    refine wp_drawn mixed [⟨26, [], [], [5]⟩, ⟨27, [0], [0], []⟩, ⟨28, [1], [0, 1], []⟩, ⟨29, [2], [0, 1, 2], []⟩, ⟨30, [], [], [5]⟩, ⟨31, [4], [4], []⟩, ⟨32, [5], [4, 5], []⟩, ⟨33, [6], [4, 5, 6], []⟩, ⟨34, [7], [4, 5, 6, 7], []⟩, ⟨35, [3, 8], [0, 1, 2, 3, 4, 5, 6, 7, 8], []⟩, ⟨36, [], [], [5]⟩, ⟨37, [10], [10], []⟩, ⟨38, [11], [10, 11], []⟩, ⟨39, [12], [10, 11, 12], []⟩, ⟨40, [9, 13], [0, 1, 2, 3, 4, 5, 6, 7, 8, 9, 10, 11, 12, 13], []⟩, ⟨6, [0, 1, 2, 3, 4, 5, 6, 7, 8, 9, 14], [0, 1, 2, 3, 4, 5, 6, 7, 8, 9, 10, 11, 12, 13, 14], []⟩, ⟨7, [0, 1, 2, 3, 4, 5, 6, 7, 8, 9, 10, 11, 12, 13, 14, 15], [0, 1, 2, 3, 4, 5, 6, 7, 8, 9, 10, 11, 12, 13, 14, 15], []⟩] [] (by kernel_rfl) 55 rfl (by kernel_rfl) (fun (i : Nat) (v : Value) (wq : World) => match i with | 0 => v = .pointer (some ⟨pc, 0, none⟩) | 1 => v = .pointer (some ⟨pc, 0, none⟩) | 2 => v = .pointer (some ⟨pc, 0, none⟩) | 3 => v = .slice (some ⟨bx, 0, none⟩) (n) (cx) | 4 => v = .pointer (some ⟨pc, 0, none⟩) | 5 => v = .pointer (some ⟨pc, 0, none⟩) | 6 => v = .pointer (some ⟨pc, 0, none⟩) | 7 => v = .slice (some ⟨bx, 0, none⟩) (n) (cx) | 8 => v = .int .i64 (((n : Nat) : Int)) | 9 => ∃ k, k ≤ n ∧ Mag wq v x k | 10 => v = .pointer (some ⟨pc, 0, none⟩) | 11 => v = .pointer (some ⟨pc, 0, none⟩) | 12 => v = .pointer (some ⟨pc, 1, none⟩) | 13 => v = .slice (some ⟨by', 0, none⟩) (n) (cy) | 14 => ∃ k, k ≤ 1 ∧ Mag wq v y k | 15 => ∃ k, k ≤ n ∧ Mag wq v x k | 16 => ∃ k, k ≤ 1 ∧ Mag wq v y k | _ => True) (fun _ wq => Below w1.heap.size w1 wq) (fun wx wy => Below wx.heap.size wx wy) (Below.refl _ _).drew (fun i v wx wy h hx => match i, h with | 0, h => h | 1, h => h | 2, h => h | 3, h => h | 4, h => h | 5, h => h | 6, h => h | 7, h => h | 8, h => h | 10, h => h | 11, h => h | 12, h => h | 13, h => h | 9, h => by obtain ⟨k, h1, h2⟩ := h; exact ⟨k, h1, h2.below hx⟩ | 14, h => by obtain ⟨k, h1, h2⟩ := h; exact ⟨k, h1, h2.below hx⟩ | 15, h => by obtain ⟨k, h1, h2⟩ := h; exact ⟨k, h1, h2.below hx⟩ | 16, h => by obtain ⟨k, h1, h2⟩ := h; exact ⟨k, h1, h2.below hx⟩ | n + 17, _ => trivial) ?_ ?_
    · intro i o r ho hr L fr wx hW hL hpr hds hdef hpre hfree
      clear hL hpr hds hdef
      match i, ho, hr with
      | 0, ho, hr =>
        obtain rfl := Option.some.inj ho; obtain rfl := Option.some.inj hr
        have t5 := ev_tmp (show fr.eval (.tmp 5) = .pointer (some ⟨pc, 0, none⟩) from hfree 5 (by decide))
        clear hpre hfree
        refine stpK rfl rfl fun K hK => ?_
        go_simp
        exact hK _ _ ⟨rfl, hW, Below.refl _ _, fun h => (List.not_mem_nil h).elim⟩
      | 1, ho, hr =>
        obtain rfl := Option.some.inj ho; obtain rfl := Option.some.inj hr
        have e0 := ev_tmp (show fr.eval (.tmp 26) = .pointer (some ⟨pc, 0, none⟩) from hpre 0 (by decide) _ rfl)
        clear hpre hfree
        refine stpK rfl rfl fun K hK => ?_
        go_simp
        exact hK _ _ ⟨rfl, hW, Below.refl _ _, fun h => (List.not_mem_nil h).elim⟩
      | 2, ho, hr =>
        obtain rfl := Option.some.inj ho; obtain rfl := Option.some.inj hr
        have e1 := ev_tmp (show fr.eval (.tmp 27) = .pointer (some ⟨pc, 0, none⟩) from hpre 1 (by decide) _ rfl)
        clear hpre hfree
        refine stpK rfl rfl fun K hK => ?_
        go_simp
        exact hK _ _ ⟨rfl, hW, Below.refl _ _, fun h => (List.not_mem_nil h).elim⟩
      | 3, ho, hr =>
        obtain rfl := Option.some.inj ho; obtain rfl := Option.some.inj hr
        have e2 := ev_tmp (show fr.eval (.tmp 28) = .pointer (some ⟨pc, 0, none⟩) from hpre 2 (by decide) _ rfl)
        clear hpre hfree
        have c0 := (hW.cell (p := ⟨pc, 0, none⟩) lp).trans k0
        refine stpK rfl rfl fun K hK => ?_
        go_simp
        exact hK _ _ ⟨rfl, hW, Below.refl _ _, fun h => (List.not_mem_nil h).elim⟩
      | 4, ho, hr =>
        obtain rfl := Option.some.inj ho; obtain rfl := Option.some.inj hr
        have t5 := ev_tmp (show fr.eval (.tmp 5) = .pointer (some ⟨pc, 0, none⟩) from hfree 5 (by decide))
        clear hpre hfree
        refine stpK rfl rfl fun K hK => ?_
        go_simp
        exact hK _ _ ⟨rfl, hW, Below.refl _ _, fun h => (List.not_mem_nil h).elim⟩
      | 5, ho, hr =>
        obtain rfl := Option.some.inj ho; obtain rfl := Option.some.inj hr
        have e4 := ev_tmp (show fr.eval (.tmp 30) = .pointer (some ⟨pc, 0, none⟩) from hpre 4 (by decide) _ rfl)
        clear hpre hfree
        refine stpK rfl rfl fun K hK => ?_
        go_simp
        exact hK _ _ ⟨rfl, hW, Below.refl _ _, fun h => (List.not_mem_nil h).elim⟩
      | 6, ho, hr =>
        obtain rfl := Option.some.inj ho; obtain rfl := Option.some.inj hr
        have e5 := ev_tmp (show fr.eval (.tmp 31) = .pointer (some ⟨pc, 0, none⟩) from hpre 5 (by decide) _ rfl)
        clear hpre hfree
        refine stpK rfl rfl fun K hK => ?_
        go_simp
        exact hK _ _ ⟨rfl, hW, Below.refl _ _, fun h => (List.not_mem_nil h).elim⟩
      | 7, ho, hr =>
        obtain rfl := Option.some.inj ho; obtain rfl := Option.some.inj hr
        have e6 := ev_tmp (show fr.eval (.tmp 32) = .pointer (some ⟨pc, 0, none⟩) from hpre 6 (by decide) _ rfl)
        clear hpre hfree
        have c0 := (hW.cell (p := ⟨pc, 0, none⟩) lp).trans k0
        refine stpK rfl rfl fun K hK => ?_
        go_simp
        exact hK _ _ ⟨rfl, hW, Below.refl _ _, fun h => (List.not_mem_nil h).elim⟩
      | 8, ho, hr =>
        obtain rfl := Option.some.inj ho; obtain rfl := Option.some.inj hr
        have e7 := ev_tmp (show fr.eval (.tmp 33) = .slice (some ⟨bx, 0, none⟩) (n) (cx) from hpre 7 (by decide) _ rfl)
        clear hpre hfree
        refine stpK rfl rfl fun K hK => ?_
        go_simp
        exact hK _ _ ⟨rfl, hW, Below.refl _ _, fun h => (List.not_mem_nil h).elim⟩
      | 9, ho, hr =>
        obtain rfl := Option.some.inj ho; obtain rfl := Option.some.inj hr
        have e3 := ev_tmp (show fr.eval (.tmp 29) = .slice (some ⟨bx, 0, none⟩) (n) (cx) from hpre 3 (by decide) _ rfl)
        have e8 := ev_tmp (show fr.eval (.tmp 34) = .int .i64 (((n : Nat) : Int)) from hpre 8 (by decide) _ rfl)
        clear hpre hfree
        refine stpK rfl rfl fun K hK => ?_
        go_simp
        refine (front_mag wx (some ⟨bx, 0, none⟩) bx 0 n _ n (Sl.mk _ _ _) (by omega) HML.out HML.out (AX wx hW).1).mono ?_
        rintro e wy ⟨v4, k4, rfl, hw4, hk1, hk2, hm4⟩
        subst wy
        exact hK _ _ ⟨⟨k4, hk2, by rw [Nat.min_self, (AX wx hW).2] at hm4; exact hm4⟩, hW, Below.refl _ _, fun h => (List.not_mem_nil h).elim⟩
      | 10, ho, hr =>
        obtain rfl := Option.some.inj ho; obtain rfl := Option.some.inj hr
        have t5 := ev_tmp (show fr.eval (.tmp 5) = .pointer (some ⟨pc, 0, none⟩) from hfree 5 (by decide))
        clear hpre hfree
        refine stpK rfl rfl fun K hK => ?_
        go_simp
        exact hK _ _ ⟨rfl, hW, Below.refl _ _, fun h => (List.not_mem_nil h).elim⟩
      | 11, ho, hr =>
        obtain rfl := Option.some.inj ho; obtain rfl := Option.some.inj hr
        have e10 := ev_tmp (show fr.eval (.tmp 36) = .pointer (some ⟨pc, 0, none⟩) from hpre 10 (by decide) _ rfl)
        clear hpre hfree
        refine stpK rfl rfl fun K hK => ?_
        go_simp
        exact hK _ _ ⟨rfl, hW, Below.refl _ _, fun h => (List.not_mem_nil h).elim⟩
      | 12, ho, hr =>
        obtain rfl := Option.some.inj ho; obtain rfl := Option.some.inj hr
        have e11 := ev_tmp (show fr.eval (.tmp 37) = .pointer (some ⟨pc, 0, none⟩) from hpre 11 (by decide) _ rfl)
        clear hpre hfree
        refine stpK rfl rfl fun K hK => ?_
        go_simp
        exact hK _ _ ⟨rfl, hW, Below.refl _ _, fun h => (List.not_mem_nil h).elim⟩
      | 13, ho, hr =>
        obtain rfl := Option.some.inj ho; obtain rfl := Option.some.inj hr
        have e12 := ev_tmp (show fr.eval (.tmp 38) = .pointer (some ⟨pc, 1, none⟩) from hpre 12 (by decide) _ rfl)
        clear hpre hfree
        have c0 := (hW.cell (p := ⟨pc, 1, none⟩) lp).trans k1
        refine stpK rfl rfl fun K hK => ?_
        go_simp
        exact hK _ _ ⟨rfl, hW, Below.refl _ _, fun h => (List.not_mem_nil h).elim⟩
      | 14, ho, hr =>
        obtain rfl := Option.some.inj ho; obtain rfl := Option.some.inj hr
        have e13 := ev_tmp (show fr.eval (.tmp 39) = .slice (some ⟨by', 0, none⟩) (n) (cy) from hpre 13 (by decide) _ rfl)
        clear hpre hfree
        refine stpK rfl rfl fun K hK => ?_
        go_simp
        refine (front_mag wx (some ⟨by', 0, none⟩) by' 0 n _ 1 (Sl.mk _ _ _) (by omega) HML.out (by decide) (AY wx hW).1).mono ?_
        rintro e wy ⟨v4, k4, rfl, hw4, hk1, hk2, hm4⟩
        subst wy
        exact hK _ _ ⟨⟨k4, hk1, by rw [Nat.min_eq_left hn0, num_cut (AY wx hW).2 hn0 HYB.out] at hm4; exact hm4⟩, hW, Below.refl _ _, fun h => (List.not_mem_nil h).elim⟩
      | 15, ho, hr =>
        obtain rfl := Option.some.inj ho; obtain rfl := Option.some.inj hr
        obtain ⟨u9, q9⟩ : ∃ u, fr.eval (.tmp 35) = u := ⟨_, rfl⟩
        have p9 : ∃ k, k ≤ n ∧ Mag wx u9 x k := by rw [← q9]; exact hpre 9 (by decide) _ rfl
        have e9 := ev_tmp q9; clear q9
        clear hpre hfree
        refine stpK rfl rfl fun K hK => ?_
        go_simp
        exact hK _ _ ⟨p9, hW, Below.refl _ _, fun h => (List.not_mem_nil h).elim⟩
      | 16, ho, hr =>
        obtain rfl := Option.some.inj ho; obtain rfl := Option.some.inj hr
        obtain ⟨u14, q14⟩ : ∃ u, fr.eval (.tmp 40) = u := ⟨_, rfl⟩
        have p14 : ∃ k, k ≤ 1 ∧ Mag wx u14 y k := by rw [← q14]; exact hpre 14 (by decide) _ rfl
        have e14 := ev_tmp q14; clear q14
        clear hpre hfree
        refine stpK rfl rfl fun K hK => ?_
        go_simp
        exact hK _ _ ⟨p14, hW, Below.refl _ _, fun h => (List.not_mem_nil h).elim⟩
      | n + 17, ho, hr => exact absurd hr (by simp)
    · intro vs wn hvs hW1 hap0
      clear hap0
      have e0 : vs 0 = .pointer (some ⟨pc, 0, none⟩) := hvs 0 (by decide)
      have e1 : vs 1 = .pointer (some ⟨pc, 0, none⟩) := hvs 1 (by decide)
      have e2 : vs 2 = .pointer (some ⟨pc, 0, none⟩) := hvs 2 (by decide)
      have e3 : vs 3 = .slice (some ⟨bx, 0, none⟩) (n) (cx) := hvs 3 (by decide)
      have e4 : vs 4 = .pointer (some ⟨pc, 0, none⟩) := hvs 4 (by decide)
      have e5 : vs 5 = .pointer (some ⟨pc, 0, none⟩) := hvs 5 (by decide)
      have e6 : vs 6 = .pointer (some ⟨pc, 0, none⟩) := hvs 6 (by decide)
      have e7 : vs 7 = .slice (some ⟨bx, 0, none⟩) (n) (cx) := hvs 7 (by decide)
      have e8 : vs 8 = .int .i64 (((n : Nat) : Int)) := hvs 8 (by decide)
      obtain ⟨u9, e9⟩ : ∃ u, vs 9 = u := ⟨_, rfl⟩
      have p9 : ∃ k, k ≤ n ∧ Mag wn u9 x k := by rw [← e9]; exact hvs 9 (by decide)
      have e10 : vs 10 = .pointer (some ⟨pc, 0, none⟩) := hvs 10 (by decide)
      have e11 : vs 11 = .pointer (some ⟨pc, 0, none⟩) := hvs 11 (by decide)
      have e12 : vs 12 = .pointer (some ⟨pc, 1, none⟩) := hvs 12 (by decide)
      have e13 : vs 13 = .slice (some ⟨by', 0, none⟩) (n) (cy) := hvs 13 (by decide)
      obtain ⟨u14, e14⟩ : ∃ u, vs 14 = u := ⟨_, rfl⟩
      have p14 : ∃ k, k ≤ 1 ∧ Mag wn u14 y k := by rw [← e14]; exact hvs 14 (by decide)
      obtain ⟨u15, e15⟩ : ∃ u, vs 15 = u := ⟨_, rfl⟩
      have p15 : ∃ k, k ≤ n ∧ Mag wn u15 x k := by rw [← e15]; exact hvs 15 (by decide)
      obtain ⟨u16, e16⟩ : ∃ u, vs 16 = u := ⟨_, rfl⟩
      have p16 : ∃ k, k ≤ 1 ∧ Mag wn u16 y k := by rw [← e16]; exact hvs 16 (by decide)
      simp only [puts, Nat.reduceAdd, e0, e1, e2, e3, e4, e5, e6, e7, e8, e9, e10, e11, e12, e13, e14, e15, e16, Act.put, List.setIfInBounds_toArray, List.set_cons_zero, List.set_cons_succ, List.drop_succ_cons, List.drop_zero, List.length_cons, List.length_nil]
      clear hvs e0 e1 e2 e3 e4 e5 e6 e7 e8 e9 e10 e11 e12 e13 e14 e15 e16
      obtain ⟨kx, hkx, hmx⟩ := p15
      obtain ⟨ky, hky, hmy⟩ := p16
      have HW : Hid (Below w.heap.size w wn) := HB2.out.trans (hW1.mono HB2.out.size)
      clear p9 p14 AX AY k0 k1 k2 lp hW1
      by_cases hky0 : ky = 0
      · have hy0 : y = 0 := hmy.zero_iff.2 hky0
        subst hky0
        have hmx' := hmx
        obtain ⟨ay, byy, oy, cyy, rfl, -, -, -, -, -⟩ := hmy
        have HM : Hid (Mag wn u15 (Nat.gcd a b) kx) := by
          rw [hy0, Nat.gcd_zero_right] at HGX
          show Mag wn u15 (Nat.gcd a b) kx
          rw [← HGX.out]; exact hmx'
        clear hmx hmx' hy0 HGX HYB
        go_wp2
        go_ret
        exact ⟨_, kx, rfl, HW.out, HM.out⟩
      · obtain rfl : ky = 1 := by omega
        obtain ⟨bb', ob', cb', rfl, hcb', hcell, hyB, hyp⟩ := hmy.head
        have hkx0 : 0 < kx := Nat.pos_of_ne_zero fun h => by have := hmx.zero_iff.2 h; have := HX0.out; omega
        have hxl := hmx
        obtain ⟨ba', oa', ca', rfl, hca', -, -, -⟩ := hmx.row hkx0
        have hlt := block_lt hcell
        have ht := TabB.below HT.out (HW.out.mono (Nat.le_refl _))
        have hrg : Nat.gcd y (x % y) = Nat.gcd a b := by rw [← HGX.out, Nat.gcd_comm x y, Nat.gcd_rec y x, Nat.gcd_comm]
        have hgB : Nat.gcd a b < B := by rw [← HGX.out]; exact Nat.lt_of_le_of_lt (Nat.gcd_le_right _ hyp) hyB
        have CM : ∀ wx, Below wn.heap.size wn wx → Calls Tryz.prog 122 #[.slice (some ⟨ba', oa', none⟩) kx ca', .int .u64 y] wx fun e w' => e = .returned (.int .u64 (x % y : Nat)) ∧ Below wx.heap.size wx w' :=
          fun wx h => modWord_any wx _ x kx y (hxl.below h) (by omega) hyp hyB
        have CG : ∀ wx, Below wn.heap.size wn wx → Calls Tryz.prog 91 #[.int .u64 y, .int .u64 (x % y : Nat)] wx fun e w' => e = .returned (.int .u64 (Nat.gcd a b : Nat)) ∧ w' = wx := fun wx h => by
          have := gcdWord_any wx y (x % y) hyB (Nat.lt_trans (Nat.mod_lt _ hyp) hyB) (ht.below h)
          rw [hrg] at this
          exact this
        have HC : Hid (∀ wx, Below wn.heap.size wn wx → wx.cell? ⟨bb', ob', none⟩ = some (.int .u64 (y : Int))) := fun wx h => (World.cell?_of_block (h.block bb' hlt)).trans hcell
        have HG : Hid (0 < Nat.gcd a b ∧ Nat.gcd a b < B) := ⟨HG0.out, hgB⟩
        obtain ⟨g, hg⟩ : ∃ g, Nat.gcd a b = g := ⟨_, rfl⟩
        rw [hg] at CG HG
        have HGG : Hid (Nat.gcd a b = g) := hg
        clear hmx hmy hxl ht hrg hgB hg HGX HYB HX0 HG0 HT HB2 hky hkx
        go_wp2
        go_region_with (first
          | (go_at_call 122; refine (CM _ (bel_drew wn)).mono ?_; rintro e w3 ⟨rfl, hb3⟩; have c3 := HC.out w3 ((bel_drew wn).trans hb3))
          | (go_at_call 91; refine (CG _ ((bel_drew wn).trans hb3)).mono ?_; rintro e w4 ⟨rfl, hw4⟩; subst w4))
        all_goals
          have HB : Hid (Below w.heap.size w w3) := HW.out.trans (((bel_drew wn).trans hb3).mono HW.out.size)
          clear CM CG hb3
          go_wp2
          go_ret
          exact ⟨_, 1, rfl, HB.out.alloc HB.out.size _, by rw [HGG.out]; exact mag_one w3 g HG.out.1 HG.out.2⟩
end Go.Proofs.YtjlkplidpdhgbaaGreatDoor
