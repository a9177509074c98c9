/- A part of the proof: W28. -/
import Derived.Test.YtjlkplidpdhgbaaGreatDoorP17
set_option linter.all false

namespace Go.Proofs.YtjlkplidpdhgbaaGreatDoor
open Go Go.Proofs Go.RowKit Go.Rad

set_option maxRecDepth 10000 in
theorem short_any (n m : Nat) (hn : n < 160) (hm : m ≤ n) (w : World) : Calls Tryz.prog 138 #[.int .i64 n, .int .i64 m] w fun e w' => e = .returned (.bool true) ∧ w' = w := by
  by_cases h : m < 80
  · have h1 : (m : Int) < 80 := by omega
    go_enter Tryz.func138, Tryz.ntmps138
    go_wp2
    go_ret
    exact ⟨rfl, rfl⟩
  · have h1 : ¬ (m : Int) < 80 := by omega
    have h2 : (n : Int) - (m : Int) < 80 := by omega
    go_enter Tryz.func138, Tryz.ntmps138
    go_wp2
    go_ret
    exact ⟨rfl, rfl⟩

/-- A magnitude with its words at hand. -/
theorem Mag.row {w : World} {v : Value} {x n : Nat} (h : Mag w v x n) (hn : 0 < n) : ∃ b o c : Nat, v = .slice (some ⟨b, o, none⟩) n c ∧ n ≤ c ∧ Arr .u64 B w b o n ∧ num B w b o n = x ∧ word w b (o + (n - 1)) ≠ 0 := by
  obtain ⟨ao, b, o, c, hv, hs, hc, ha, hx, hr⟩ := h
  obtain rfl := hs hn
  exact ⟨b, o, c, hv, hc, ha, hx, by rcases hr with h | h <;> first | omega | exact h⟩
theorem one_arr (w : World) (x : Nat) (h : x < B) : Arr .u64 B (w.alloc (.cells #[.int .u64 (x : Int)] 98)) w.heap.size 0 1 ∧ num B (w.alloc (.cells #[.int .u64 (x : Int)] 98)) w.heap.size 0 1 = x := by
  have hc : (w.alloc (.cells #[.int .u64 (x : Int)] 98)).cell? ⟨w.heap.size, 0, none⟩ = some (.int .u64 (x : Int)) := by
    rw [World.cell?_alloc_at (w := w) _ _ w.heap.size 0 rfl]; rfl
  have hw := word_eq hc
  refine ⟨fun i hi => ?_, ?_⟩
  · obtain rfl : i = 0 := by omega
    rw [Nat.zero_add, hw]; exact ⟨hc, h⟩
  · rw [num_succ, num_zero, Nat.zero_add, hw]; simp
/-- A row's number behind a change that does not meet it. -/
theorem Mag.chg {w w' : World} {b o c x n p lo hi : Nat} (h : Mag w (.slice (some ⟨b, o, none⟩) n c) x n) (hc : Chg w w' p lo hi) (hap : 0 < n → b ≠ p ∨ o + n ≤ lo ∨ hi ≤ o) : Mag w' (.slice (some ⟨b, o, none⟩) n c) x n := by
  obtain ⟨ao, b', o', c', hv, hs, hcc, ha, hx, hr⟩ := h
  simp only [Value.slice.injEq, true_and] at hv
  obtain ⟨rfl, rfl⟩ := hv
  by_cases h0 : n = 0
  · subst h0
    exact ⟨_, b', o', c, rfl, hs, hcc, fun i hi => by omega, by rw [← hx]; rfl, .inl rfl⟩
  · have e := hs (by omega)
    simp only [Option.some.injEq, Addr.mk.injEq, and_true] at e
    obtain ⟨rfl, rfl⟩ := e
    refine ⟨_, b, o, c, rfl, Sl.mk _ _ _, hcc, hc.arr ha ha.lt hap, (hc.num ha.lt hap).trans hx, ?_⟩
    rcases hr with hr | hr
    · exact .inl hr
    · right
      rw [word_of_cell (hc.cellAt (ha.lt (by omega)) (by have := hap (by omega); omega))]
      exact hr
theorem mul_pow_lt {β x a b n m : Nat} (hx : 0 < x) (ha : a < β ^ n) (hb : β ^ (m - 1) ≤ b) (hm : 0 < m) (hmn : m ≤ n + 1) : a * x < b * x * β ^ (n + 1 - m) := by
  have h1 : β ^ n = β ^ (m - 1) * β ^ (n + 1 - m) := by rw [← Nat.pow_add]; congr 1; omega
  have h2 := Nat.mul_le_mul_right (β ^ (n + 1 - m)) hb
  have h3 := Nat.mul_lt_mul_of_pos_right (show a < b * β ^ (n + 1 - m) by omega) hx
  rw [Nat.mul_right_comm]; exact h3
/-- The highest words of a number that is small enough. -/
theorem high_lt {β : Nat} {w : World} {b o n k y : Nat} (h : num β w b o (k + n) < y * β ^ k) : num β w b (o + k) n < y := by
  rw [num_add] at h
  refine Nat.lt_of_not_le fun hc => ?_
  have := Nat.mul_le_mul_left (β ^ k) hc
  rw [Nat.mul_comm (β ^ k) y] at this
  omega
/-- The highest word. -/
theorem top_ge {w : World} {b o n y : Nat} (ha : Arr .u64 B w b o (n + 1)) (h : num B w b o (n + 1) = y) (hy : 9223372036854775808 * B ^ n ≤ y) : 9223372036854775808 ≤ word w b (o + n) := by
  refine Nat.le_of_not_lt fun hc => ?_
  have h1 : num B w b o n < B ^ n := num_lt (fun i hi => ha i (by omega))
  rw [num_succ] at h
  have h2 := Nat.mul_le_mul_left (B ^ n) (show word w b (o + n) + 1 ≤ 9223372036854775808 from hc)
  rw [Nat.mul_add, Nat.mul_comm (B ^ n) 9223372036854775808] at h2
  omega

theorem len_shift' {y L : Nat} (h0 : 0 < y) (h : IsLen y L) (h64 : L ≤ 64) : (y + 1) * 2 ^ (64 - L) ≤ 18446744073709551616 := by
  rcases h with ⟨h1, _⟩ | ⟨h1, h2, h3⟩
  · omega
  · have e2 : 2 ^ L * 2 ^ (64 - L) = 18446744073709551616 := by rw [← Nat.pow_add, show L + (64 - L) = 64 by omega]
    rw [← e2]
    exact Nat.mul_le_mul_right _ h3
/-- A number shifted until its highest bit is set. -/
theorem shifted_range {w : World} {b o m y s : Nat} (ha : Arr .u64 B w b o (m + 1)) (h : num B w b o (m + 1) = y) (h1 : 9223372036854775808 ≤ word w b (o + m) * 2 ^ s) (h2 : (word w b (o + m) + 1) * 2 ^ s ≤ 18446744073709551616) :
    9223372036854775808 * B ^ m ≤ y * 2 ^ s ∧ y * 2 ^ s < B ^ (m + 1) := by
  have h3 : num B w b o m < B ^ m := num_lt (fun i hi => ha i (by omega))
  rw [num_succ] at h
  have h4 := Nat.mul_le_mul_right (B ^ m) h1
  have h5 := Nat.mul_le_mul_right (B ^ m) h2
  constructor
  · rw [← h, Nat.add_mul]
    have : B ^ m * word w b (o + m) * 2 ^ s = word w b (o + m) * 2 ^ s * B ^ m := by rw [Nat.mul_comm (B ^ m), Nat.mul_right_comm]
    omega
  · have h6 : y < B ^ m * (word w b (o + m) + 1) := by rw [Nat.mul_add]; omega
    have h7 := Nat.mul_lt_mul_of_pos_right h6 (Nat.pow_pos (show 0 < 2 by decide) (n := s))
    have h8 : B ^ m * (word w b (o + m) + 1) * 2 ^ s = (word w b (o + m) + 1) * 2 ^ s * B ^ m := by rw [Nat.mul_comm (B ^ m), Nat.mul_right_comm]
    rw [Nat.pow_succ, Nat.mul_comm (B ^ m) B]
    unfold B at *
    omega

theorem Fr_ge {base b o n c : Nat} (h : base ≤ b) : Fr base (.slice (some ⟨b, o, none⟩) n c) := by
  intro b' o' n' c' e
  injection e with h1
  injection h1 with h1
  injection h1 with h1
  omega
set_option maxRecDepth 10000 in
set_option maxHeartbeats 2000000 in
theorem divWords_fr (w : World) (va vb : Value) (a b na nb : Nat) (ha : Mag w va a na) (hb : Mag w vb b nb) (hnb : 0 < nb) (hna : na < 160) (hnb2 : nb ≤ 35184372088832) :
    Calls Tryz.prog 109 #[va, vb] w fun e w' => ∃ vq vr nq nr, e = .returned (.tuple #[vq, vr]) ∧ Below w.heap.size w w' ∧ Mag w' vq (a / b) nq ∧ Mag w' vr (a % b) nr ∧ (b ≤ a → Fr w.heap.size vr) := by
  obtain ⟨i0, hi0, hz0, hz1, hz2⟩ := info_parts info98
  have hb0 : 0 < b := hb.pos hnb
  rcases Nat.lt_or_ge a b with hlt | hge
  · have hc : cmpI ((a : Nat) : Int) ((b : Nat) : Int) = -1 := cmpI_nat_lt hlt
    have hq : a / b = 0 := Nat.div_eq_of_lt hlt
    have hr : a % b = a := Nat.mod_eq_of_lt hlt
    rw [hq, hr]
    have CC := cmp_mag w _ _ a b na nb ha hb (by omega) hnb2
    rw [hc] at CC
    obtain ⟨ao, ba, oa, ca, rfl, _⟩ := id ha
    obtain ⟨bo, bb, ob, cb, rfl, _⟩ := id hb
    have HA : Hid _ := ha
    clear ha hb hq hr hc
    go_enter Tryz.func109, Tryz.ntmps109
    go_wp2_with (go_at_call 87; refine CC.mono ?_; rintro e w1 ⟨rfl, hb1⟩)
    go_ret2
    exact ⟨_, _, 0, na, rfl, hb1, mag_nil _, Mag.below HA.out hb1, fun h => absurd h (Nat.not_le_of_lt hlt)⟩
  · have hnn : nb ≤ na := by
      refine hb.len_le ?_ |> fun h => h
      exact Nat.lt_of_le_of_lt hge ha.lt
    have hc : ¬ cmpI ((a : Nat) : Int) ((b : Nat) : Int) < 0 := by
      unfold cmpI; rw [if_neg (by omega)]; split <;> omega
    obtain ⟨ba, oa, ca, rfl, hca, haa, hxa, hta⟩ := ha.row (by omega)
    obtain ⟨bb, ob, cb, rfl, hcb, hbb, hxb, htb⟩ := hb.row hnb
    by_cases h1 : nb = 1
    · subst h1
      have CC := cmp_mag w _ _ a b na 1 ha hb (by omega) (by omega)
      have hcell := arr_cell hbb (i := 0) (by omega)
      have hbv : word w bb (ob + 0) = b := by
        rw [← hxb, num_succ, num_zero, Nat.zero_add, Nat.pow_zero, Nat.one_mul]
      rw [hbv, Nat.add_zero] at hcell
      have hbB : b < B := by have := hb.lt; rwa [Nat.pow_one] at this
      have HC : Hid _ := hc
      clear hc ha hb hta htb hge hxb hbb hbv
      go_enter Tryz.func109, Tryz.ntmps109
      go_wp2_with (go_at_call 87; fail)
      refine CC.mono ?_
      rintro e w1 ⟨rfl, hb1⟩
      clear CC
      have hc := HC.out
      have hcell1 : w1.cell? ⟨bb, ob, none⟩ = some (.int .u64 (b : Int)) := (hb1.cell (p := ⟨bb, ob, none⟩) (block_lt hcell)).trans hcell
      have ha1 := arr_below haa hb1
      have hx1 : num B w1 ba oa na = a := (num_below haa hb1).trans hxa
      have HX1 : Hid _ := hx1
      clear hx1 hxa HC
      go_wp2_with (first
        | (at_make; refine wpList_makeRow .u64 B B_pos rfl _ _ 22 rfl 98 i0 Tryz.underlying22 hi0 hz0 hz1 .i64 .i64 _ _ na rfl rfl (by omega) (by omega) (by rw [hz2]; omega) (by unfold maxLen; omega) ?_; intro w2 hm2)
        | (refine wpList_copyRow .u64 B rfl _ _ 22 22 rfl 98 Tryz.underlying22 size98 _ _ _ _ _ _ rfl rfl w1.heap.size 0 ba oa (Sl.mk _ _ _) (Sl.mk _ _ _) hm2.arr hm2.free (arr_below ha1 hm2.below) ?_; intro w3 hcp; rw [Nat.min_self] at hcp; have hcell3 : w3.cell? ⟨bb, ob, none⟩ = some (.int .u64 (b : Int)) := (((hm2.below.trans (hcp.chg.below (Nat.le_refl _) (by have := hm2.lt; omega))).cell (p := ⟨bb, ob, none⟩) (block_lt hcell1)).trans hcell1))
        | (go_at_call 134; fail))
      obtain ⟨hb3, ha3, hf3, hn3, hs3⟩ := row_copied hm2 ha1 (Nat.le_refl _) hcp
      have CD := divByWord_any w3 (some ⟨w1.heap.size, 0, none⟩) w1.heap.size 0 na na b (Sl.mk _ _ _) (by unfold maxLen; omega) ha3 hf3 hb0 hbB
      rw [hn3, HX1.out] at CD
      have HB3 : Hid (Below w.heap.size w w3) := hb1.trans (hb3.mono hb1.size)
      have HBU : Hid (w.heap.size ≤ w1.heap.size) := hb1.size
      obtain ⟨bu, hbu⟩ : ∃ bu, bu = w1.heap.size := ⟨_, rfl⟩
      rw [← hbu] at CD hs3 HBU ⊢
      clear hm2 hcp hb3 ha3 hf3 hn3 hbu hcell1 hcell3 ha1 hb1
      refine CD.mono ?_
      rintro e w4 ⟨rfl, hch, ha4, hx4⟩
      clear CD
      have HB4 : Hid (Below w.heap.size w w4) := HB3.out.trans (hch.below HBU.out (by have := HB3.out.size; omega))
      have CF := front_at w4 (some ⟨bu, 0, none⟩) bu 0 na na na (Sl.mk _ _ _) (Nat.le_refl _) (by unfold maxLen; omega) (by unfold maxLen; omega) ha4
      rw [Nat.min_self, hx4] at CF
      clear hx4 ha4 hch
      go_wp2_with (go_at_call 86; fail)
      refine CF.mono ?_
      rintro e w5 ⟨k5, rfl, hw5, _, _, hm5⟩
      subst hw5
      clear CF
      have hrB : a % b < B := Nat.lt_trans (Nat.mod_lt _ hb0) hbB
      obtain ⟨A1, N1⟩ := one_arr w5 (a % b) hrB
      have HM5 : Hid _ := hm5
      clear hm5
      go_wp2_with (go_at_call 86; fail)
      have CG := front_at (w5.alloc (.cells #[.int .u64 ((a % b : Nat) : Int)] 98)) (some ⟨w5.heap.size, 0, none⟩) w5.heap.size 0 1 1 1 (Sl.mk _ _ _) (Nat.le_refl _) (by unfold maxLen; omega) (by unfold maxLen; omega) A1
      rw [Nat.min_self, N1] at CG
      refine CG.mono ?_
      rintro e w6 ⟨k6, rfl, hw6, _, _, hm6⟩
      subst hw6
      clear CG
      have HM6 : Hid _ := hm6
      clear hm6 A1 N1
      go_wp2
      go_ret2
      exact ⟨_, _, k5, k6, rfl, HB4.out.alloc HB4.out.size _, Mag.below HM5.out ((Below.refl _ _).alloc (Nat.le_refl _) _), HM6.out, fun _ => Fr_ge HB4.out.size⟩
    · obtain ⟨m, rfl⟩ : ∃ m, nb = m + 2 := ⟨nb - 2, by omega⟩
      have CC := cmp_mag w _ _ a b na (m + 2) ha hb (by omega) (by omega)
      have hword := arr_lt hbb (i := m + 1) (by omega)
      have hcell := arr_cell hbb (i := m + 1) (by omega)
      have hl0 := fun L => len_shift (y := word w bb (ob + (m + 1))) (L := L) (Nat.pos_of_ne_zero htb)
      have hl1 := fun L => len_shift' (y := word w bb (ob + (m + 1))) (L := L) (Nat.pos_of_ne_zero htb)
      have HC : Hid _ := hc
      have HA : Hid _ := ha
      have HB : Hid _ := hb
      have hm2 : ¬ ((m : Int) + 2) = 1 := by omega
      have e1 : (m : Int) + 2 - 1 = (m : Int) + 1 := by omega
      clear hc ha hb hta htb hge
      go_enter Tryz.func109, Tryz.ntmps109
      go_wp2_with (go_at_call 87; fail)
      refine CC.mono ?_
      rintro e w1 ⟨rfl, hb1⟩
      clear CC
      have hc := HC.out
      have hcell1 : w1.cell? ⟨bb, ob + (m + 1), none⟩ = some (.int .u64 ((word w bb (ob + (m + 1)) : Nat) : Int)) := (hb1.cell (p := ⟨bb, ob + (m + 1), none⟩) (hbb.lt (by omega))).trans hcell
      go_wp2_with (go_at_call 135; fail)
      refine (leadingZeros_any _ hword _).mono ?_
      rintro e w2 ⟨L, rfl, hw, hl, h64⟩
      subst hw
      have hsh := shifted_range (m := m + 1) hbb hxb (hl0 _ hl h64).1 (hl1 _ hl h64)
      have hs64 : 64 - L < 64 := by
        have h0 := (hl0 _ hl h64).1
        rcases Nat.eq_zero_or_pos L with h | h
        · subst h
          have h3 := hl1 _ hl h64
          omega
        · omega
      obtain ⟨s, hs⟩ : ∃ s, s = 64 - L := ⟨_, rfl⟩
      rw [← hs] at hsh hs64 ⊢
      clear hl0 hl1 hl hs h64
      have CS := shiftLeft_any w2 _ b (m + 2) s (Mag.below HB.out hb1) (by omega) (by unfold maxLen; omega)
      go_wp2_with (go_at_call 136; fail)
      refine CS.mono ?_
      rintro e w3 ⟨vb', n', rfl, hb3, hm3, hn3⟩
      clear CS
      have hn' : n' = m + 2 := by
        refine Nat.le_antisymm (hm3.len_le hsh.2) ?_
        refine Nat.le_of_not_lt fun hc => ?_
        have h3 := hm3.lt
        have h4 : B ^ n' ≤ B ^ (m + 1) := Nat.pow_le_pow_right B_pos (by omega)
        have := hsh.1
        omega
      subst hn'
      obtain ⟨b3, o3, c3, rfl, hc3, ha3, hx3, _⟩ := hm3.row (by omega)
      have htop := top_ge (n := m + 1) ha3 hx3 hsh.1
      have B3 : Below w.heap.size w w3 := hb1.trans (hb3.mono hb1.size)
      have ha3a : Arr .u64 B w3 ba oa na := arr_below haa B3
      have hxa3 : num B w3 ba oa na = a := (num_below haa B3).trans hxa
      have lba : ba < w.heap.size := haa.lt (by omega)
      have lb3 : b3 < w3.heap.size := ha3.lt (by omega)
      have HSH : Hid _ := hsh
      have HTOP : Hid _ := htop
      have HXA3 : Hid _ := hxa3
      have HX3 : Hid _ := hx3
      have HB3 : Hid _ := B3
      clear hsh htop hxa3 hx3 B3 hm3 hcell1 hcell hword hc hxa hxb hb3 hb1 HC
      go_wp2_with (first
        | (at_make; refine wpList_makeRow .u64 B B_pos rfl _ _ 22 rfl 98 i0 Tryz.underlying22 hi0 hz0 hz1 .i64 .i64 _ _ (na + 1) rfl rfl (by omega) (by omega) (by rw [hz2]; omega) (by unfold maxLen; omega) ?_; intro w4 hm4)
        | (go_at_call 137; fail))
      have l4 := hm4.lt
      have ha4a : Arr .u64 B w4 ba oa na := arr_below ha3a hm4.below
      have hxa4 : num B w4 ba oa na = a := (num_below ha3a hm4.below).trans HXA3.out
      have ha4 : Arr .u64 B w4 b3 o3 (m + 2) := arr_below ha3 hm4.below
      have hx4 : num B w4 b3 o3 (m + 2) = b * 2 ^ s := (num_below ha3 hm4.below).trans HX3.out
      have ht4 : 9223372036854775808 ≤ word w4 b3 (o3 + (m + 1)) := by rw [word_below ha3 hm4.below (by omega)]; exact HTOP.out
      have CM := moveUp_any w4 (some ⟨w3.heap.size, 0, none⟩) (some ⟨ba, oa, none⟩) w3.heap.size 0 (na + 1) (na + 1) ba oa na ca s (Sl.mk _ _ _) (Sl.mk _ _ _) hm4.arr hm4.free ha4a rfl
        (fun _ => .inl (by have := HB3.out.size; omega)) (by unfold maxLen; omega) hs64
      rw [hxa4] at CM
      have HB4 : Hid (Below w.heap.size w w4) := HB3.out.trans (hm4.below.mono HB3.out.size)
      have hf4 := hm4.free
      obtain ⟨bu, hbu⟩ : ∃ bu, bu = w3.heap.size := ⟨_, rfl⟩
      have HBU : Hid (w.heap.size ≤ w3.heap.size) := HB3.out.size
      rw [← hbu] at CM hf4 l4 lb3 HBU ⊢
      clear hm4 hxa4 HX3 HXA3 HTOP HB3 hbu ha3 ha3a
      refine CM.mono ?_
      rintro e w5 ⟨rfl, hch, ha5, hx5⟩
      clear CM
      have ha5b : Arr .u64 B w5 b3 o3 (m + 2) := hch.arr ha4 ha4.lt (fun _ => .inl (by omega))
      have hx5b : num B w5 b3 o3 (m + 2) = b * 2 ^ s := (hch.num (fun _ => ha4.lt (by omega)) (fun _ => .inl (by omega))).trans hx4
      have ht5 : 9223372036854775808 ≤ word w5 b3 (o3 + (m + 1)) := by rw [word_of_cell (hch.cellAt (ha4.lt (by omega)) (.inl (by omega)))]; exact ht4
      have hf5 : Free w5 bu 0 (na + 1) := hch.free hf4 (fun _ => l4)
      have hlt5 : num B w5 bu (0 + (na + 1 - (m + 2))) (m + 2) < num B w5 b3 o3 (m + 2) := by
        refine high_lt (k := na + 1 - (m + 2)) ?_
        rw [show na + 1 - (m + 2) + (m + 2) = na + 1 by omega, hx5, hx5b]
        refine mul_pow_lt (Nat.pow_pos (by decide)) (Mag.lt HA.out) ?_ (by omega) (by omega)
        exact Mag.ge HB.out (by omega)
      have CD := divRows_any w5 bu 0 (na + 1) (na + 1) b3 o3 c3 m (by omega) (by omega) (Nat.le_refl _) (by unfold maxLen; omega) ha5 hf5 ha5b (by omega) ht5 hlt5
      rw [hx5, hx5b, Nat.mul_div_mul_right _ _ (Nat.pow_pos (by decide)), Nat.mul_mod_mul_right] at CD
      have HB5 : Hid (Below w.heap.size w w5) := HB4.out.trans (hch.below HBU.out (by have := HB4.out.size; omega))
      clear hx5b ht5 hlt5 hx5 hch ha4a ha4 hx4 ht4 hf4 HB4
      go_wp2_with (first
        | (go_at_call 138; refine (short_any na (m + 2) hna hnn _).mono ?_; rintro e w' ⟨rfl, hw⟩; subst hw)
        | (go_at_call 139; fail))
      refine CD.mono ?_
      rintro e w6 ⟨kq, kr, rfl, hkq, hkr, hch6, ha6, hmq, hmr⟩
      clear CD
      rw [Nat.zero_add] at hmq
      have hr6 : num B w6 bu 0 kr = a % b * 2 ^ s := by
        obtain ⟨ao, b', o', c', hv, hs', _, _, hx', _⟩ := hmr
        simp only [Value.slice.injEq, true_and] at hv
        obtain ⟨rfl, rfl⟩ := hv
        by_cases h0 : kr = 0
        · subst h0; rw [← hx']; rfl
        · have e := hs' (by omega)
          simp only [Option.some.injEq, Addr.mk.injEq, and_true] at e
          obtain ⟨rfl, rfl⟩ := e
          exact hx'
      have l6 : bu < w6.heap.size := ha6.lt (by omega)
      have hf6 : Free w6 bu 0 kr := free_sub0 (hch6.free hf5 (fun _ => ha5.lt (by omega))) (by omega)
      have har6 : Arr .u64 B w6 bu 0 kr := row_sub0 ha6 (by omega)
      have CW := moveDown_any w6 (some ⟨bu, 0, none⟩) (some ⟨bu, 0, none⟩) bu 0 kr kr bu 0 kr s (Sl.mk _ _ _) (Sl.mk _ _ _) har6 hf6 har6 (fun _ => .inr (.inr (.inr rfl))) (by unfold maxLen; omega) hs64
      rw [hr6, Nat.mul_div_cancel _ (Nat.pow_pos (by decide))] at CW
      have HB6 : Hid (Below w.heap.size w w6) := HB5.out.trans (hch6.below HBU.out (by have := HB5.out.size; omega))
      have HMQ : Hid _ := hmq
      clear hmr hr6 hf6 har6 hch6 ha6 HB5 ha5 ha5b hf5 hmq
      go_wp2_with (go_at_call 140; fail)
      refine CW.mono ?_
      rintro e w7 ⟨rfl, hch7, ha7, hx7⟩
      clear CW
      have CF := front_at w7 (some ⟨bu, 0, none⟩) bu 0 kr kr kr (Sl.mk _ _ _) (Nat.le_refl _) (by unfold maxLen; omega) (by unfold maxLen; omega) ha7
      rw [Nat.min_self, hx7] at CF
      have HMQ7 : Hid _ := Mag.chg HMQ.out hch7 (fun _ => .inr (.inr (by omega)))
      have HB7 : Hid (Below w.heap.size w w7) := HB6.out.trans (hch7.below HBU.out (by have := HB6.out.size; omega))
      clear hch7 ha7 hx7
      go_wp2_with (go_at_call 86; fail)
      refine CF.mono ?_
      rintro e w8 ⟨k8, rfl, hw8, hk8, _, hm8⟩
      subst hw8
      clear CF
      have HM8 : Hid _ := hm8
      clear hm8
      go_wp2
      go_ret2
      exact ⟨_, _, kq, k8, rfl, HB7.out, HMQ7.out, HM8.out, fun _ => Fr_ge HBU.out⟩
theorem divWords_any (w : World) (va vb : Value) (a b na nb : Nat) (ha : Mag w va a na) (hb : Mag w vb b nb) (hnb : 0 < nb) (hna : na < 160) (hnb2 : nb ≤ 35184372088832) :
    Calls Tryz.prog 109 #[va, vb] w fun e w' => ∃ vq vr nq nr, e = .returned (.tuple #[vq, vr]) ∧ Below w.heap.size w w' ∧ Mag w' vq (a / b) nq ∧ Mag w' vr (a % b) nr :=
  (divWords_fr w va vb a b na nb ha hb hnb hna hnb2).mono fun _ _ ⟨vq, vr, nq, nr, h1, h2, h3, h4, _⟩ => ⟨vq, vr, nq, nr, h1, h2, h3, h4⟩
end Go.Proofs.YtjlkplidpdhgbaaGreatDoor
