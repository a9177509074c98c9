/- A part of the proof: W25, Pm5, W26. -/
import Derived.Test.YtjlkplidpdhgbaaGreatDoorP13
import Derived.Test.YtjlkplidpdhgbaaGreatDoorP03
import Derived.Test.YtjlkplidpdhgbaaGreatDoorP12
import Derived.Deep.RegionHeld3
import Derived.Deep.Draws
set_option linter.all false

namespace Go.Proofs.YtjlkplidpdhgbaaGreatDoor
open Go Go.Proofs Go.RowKit Go.Rad

theorem chg_drewN {a w : World} {b lo hi : Nat} (h : Chg a w b lo hi) (n : Nat) : Chg a (w.drewN n) b lo hi := ⟨h.os, h.tape, h.output, h.size, h.block, h.cell, h.froz⟩
theorem arr_drewN {k : IntKind} {β : Nat} {w : World} {b o n : Nat} (h : Arr k β w b o n) (m : Nat) : Arr k β (w.drewN m) b o n := h
/-- One word more of a division by a word. -/
theorem div_word {X x d : Nat} (hd : 0 < d) : (x + B * X) / d = (X % d * B + x) / d + B * (X / d) ∧ (x + B * X) % d = (X % d * B + x) % d := by
  have e : x + B * X = (X % d * B + x) + d * (B * (X / d)) := by
    have h1 := Nat.mod_add_div X d
    have h2 : B * X = B * (X % d) + B * (d * (X / d)) := by rw [← Nat.mul_add, h1]
    rw [Nat.mul_comm (X % d) B, Nat.mul_left_comm d B]
    omega
  rw [e]
  exact ⟨Nat.add_mul_div_left _ _ hd, Nat.add_mul_mod_self_left _ _ _⟩

set_option maxRecDepth 10000 in
set_option maxHeartbeats 1000000 in
theorem divByWord_any (w : World) (ao : Option Addr) (b o n c d : Nat) (hs : Sl ao b o n) (hcm : n ≤ maxLen) (ha : Arr .u64 B w b o n) (hf : Free w b o n) (hd0 : 0 < d) (hd : d < B) :
    Calls Tryz.prog 134 #[.slice ao n c, .int .u64 d] w fun e w' => e = .returned (.int .u64 (num B w b o n % d : Nat)) ∧ Chg w w' b o (o + n) ∧ Arr .u64 B w' b o n ∧ num B w' b o n = num B w b o n / d := by
  unfold maxLen at hcm
  go_enter Tryz.func134, Tryz.ntmps134
  go_wp2
  go_loopw [5, 6] (fun r s wr => ∃ k x : Nat, k ≤ n ∧ s = .int .i64 ((k : Int) - 1) ∧ r = .int .u64 (x : Int) ∧ x = num B w b (o + k) (n - k) % d ∧ Chg w wr b (o + k) (o + n) ∧ Arr .u64 B wr b o n ∧ num B wr b (o + k) (n - k) = num B w b (o + k) (n - k) / d)
    (fun _ s _ => (intOf s + 1).toNat)
  case atStart => exact ⟨n, 0, by omega, by go_num, rfl, by rw [Nat.sub_self, num_zero, Nat.zero_mod], Chg.refl _ _ _ _, ha, by rw [Nat.sub_self, num_zero, Nat.zero_div]⟩
  case round =>
    obtain ⟨k, x, hk, rfl, rfl, hx, hch, har, hnum⟩ := hrel
    by_cases h0 : k = 0
    · subst h0
      rw [Nat.sub_zero, Nat.add_zero] at hx hnum
      rw [Nat.add_zero] at hch
      have H : Hid _ := hnum
      have HX : Hid _ := hx
      clear hnum hx
      go_wp2
      go_ret
      exact ⟨ret_int (by rw [HX.out]), hch, har, H.out⟩
    · obtain ⟨j, rfl⟩ : ∃ j, k = j + 1 := ⟨k - 1, by omega⟩
      obtain rfl := hs (by omega)
      have hcj := arr_cell har (i := j) (by omega)
      have hej : word wr b (o + j) = word w b (o + j) := word_of_cell (hch.cell _ (by omega))
      rw [hej] at hcj
      have hlt := arr_lt ha (i := j) (by omega)
      have hfj : wr.frozen? ⟨b, o + j, none⟩ = false := (hch.free hf ha.lt) j (by omega)
      have he : ((j + 1 : Nat) : Int) - 1 = (j : Int) := by omega
      rw [he]
      obtain ⟨hq, hr⟩ := div_word (X := num B w b (o + (j + 1)) (n - (j + 1))) (x := word w b (o + j)) hd0
      rw [← hx] at hq hr
      have hX : word w b (o + j) + B * num B w b (o + (j + 1)) (n - (j + 1)) = num B w b (o + j) (n - j) := by
        rw [show n - j = n - (j + 1) + 1 by omega, num_head]; rfl
      rw [hX] at hq hr
      have hxd : x < d := by rw [hx]; exact Nat.mod_lt _ hd0
      obtain ⟨Q, hQ⟩ : ∃ Q, (x * B + word w b (o + j)) / d = Q := ⟨_, rfl⟩
      obtain ⟨R, hR⟩ : ∃ R, (x * B + word w b (o + j)) % d = R := ⟨_, rfl⟩
      have CD := div64_any x (word w b (o + j)) d Q R hxd hlt hd hQ hR wr
      have hQB : Q < B := by
        rw [← hQ]
        refine Nat.div_lt_of_lt_mul ?_
        have h1 := Nat.mul_le_mul_right B (show x + 1 ≤ d from hxd)
        rw [Nat.add_mul] at h1
        omega
      rw [hQ] at hq
      rw [hR] at hr
      have Hq : Hid _ := hq
      have Hr : Hid _ := hr
      have Hn : Hid _ := hnum
      have HQB : Hid _ := hQB
      clear hq hr hnum hX hx hej hxd hQ hR he hQB
      go_wp2_with (go_at_call 149; fail)
      refine CD.mono ?_
      rintro e w' ⟨rfl, m, rfl⟩
      clear CD
      go_wp2
      go_roundw
      case rel =>
        refine ⟨j, R, by omega, by go_num, rfl, Hr.out.symm, ((chg_drewN hch m).mono (by omega) (Nat.le_refl _)).set (by omega) (by omega) _, (arr_drewN har m).set HQB.out, ?_⟩
        have hc0 : ((wr.drewN m).cell? ⟨b, o + j, none⟩).isSome = true := by rw [World.cell?_drewN, hcj]; rfl
        rw [Hq.out, show n - j = n - (j + 1) + 1 by omega, num_head, word_set_same hc0, num_set_other (.inr (.inl (by omega)))]
        rw [← Hn.out]
        rfl
      case measure => simp [intOf]

set_option maxRecDepth 10000 in
set_option maxHeartbeats 1000000 in
theorem modWord_any (w : World) (v : Value) (x n d : Nat) (hx : Mag w v x n) (hn : n ≤ 35184372088832) (hd0 : 0 < d) (hd : d < B) :
    Calls Tryz.prog 122 #[v, .int .u64 d] w fun e w' => e = .returned (.int .u64 (x % d : Nat)) ∧ Below w.heap.size w w' := by
  obtain ⟨ao, b, o, c, rfl, hs, hc, ha, hnx, hr⟩ := hx
  have HX : Hid _ := hnx
  clear hnx hr
  go_enter Tryz.func122, Tryz.ntmps122
  go_wp2
  go_loopw [5, 6] (fun r s wr => ∃ k x m : Nat, k ≤ n ∧ s = .int .i64 ((k : Int) - 1) ∧ r = .int .u64 (x : Int) ∧ x = num B w b (o + k) (n - k) % d ∧ wr = w.drewN m)
    (fun _ s _ => (intOf s + 1).toNat)
  case atStart => exact ⟨n, 0, 0, by omega, by go_num, rfl, by rw [Nat.sub_self, num_zero, Nat.zero_mod], rfl⟩
  case round =>
    obtain ⟨k, y, m, hk, rfl, rfl, hx, rfl⟩ := hrel
    by_cases h0 : k = 0
    · subst h0
      rw [Nat.sub_zero, Nat.add_zero, HX.out] at hx
      have HY : Hid _ := hx
      clear hx
      go_wp2
      go_ret
      exact ⟨ret_int (by rw [HY.out]), ⟨rfl, rfl, rfl, Nat.le_refl _, fun _ _ => rfl⟩⟩
    · obtain ⟨j, rfl⟩ : ∃ j, k = j + 1 := ⟨k - 1, by omega⟩
      obtain rfl := hs (by omega)
      have hcj := arr_cell ha (i := j) (by omega)
      have hlt := arr_lt ha (i := j) (by omega)
      have he : ((j + 1 : Nat) : Int) - 1 = (j : Int) := by omega
      rw [he]
      obtain ⟨_, hr⟩ := div_word (X := num B w b (o + (j + 1)) (n - (j + 1))) (x := word w b (o + j)) hd0
      rw [← hx] at hr
      have hX : word w b (o + j) + B * num B w b (o + (j + 1)) (n - (j + 1)) = num B w b (o + j) (n - j) := by
        rw [show n - j = n - (j + 1) + 1 by omega, num_head]; rfl
      rw [hX] at hr
      have hxd : y < d := by rw [hx]; exact Nat.mod_lt _ hd0
      obtain ⟨Q, hQ⟩ : ∃ Q, (y * B + word w b (o + j)) / d = Q := ⟨_, rfl⟩
      obtain ⟨R, hR⟩ : ∃ R, (y * B + word w b (o + j)) % d = R := ⟨_, rfl⟩
      have CD := div64_any y (word w b (o + j)) d Q R hxd hlt hd hQ hR (w.drewN m)
      rw [hR] at hr
      have Hr : Hid _ := hr
      clear hr hX hx hxd hQ hR he
      go_wp2_with (go_at_call 149; fail)
      refine CD.mono ?_
      rintro e w' ⟨rfl, m2, rfl⟩
      clear CD
      rw [World.drewN_drewN]
      go_wp2
      go_roundw
      case rel => exact ⟨j, R, m + m2, by omega, by go_num, rfl, Hr.out.symm, rfl⟩
      case measure => simp [intOf]
end Go.Proofs.YtjlkplidpdhgbaaGreatDoor

/- The quotient's word, guessed by the highest words. -/
namespace Rad
theorem guess_three {P Ul bl U3 B2 : Nat} (hU : Ul < P) (hb : bl < P) (h2 : 0 < B2) (hq : U3 / B2 ≤ B2 + 1) :
    (Ul + P * U3) / (bl + P * B2) ≤ U3 / B2 ∧ U3 / B2 ≤ (Ul + P * U3) / (bl + P * B2) + 1 := by
  have hP : 0 < P := by omega
  have hpos : 0 < bl + P * B2 := by have := Nat.mul_pos hP h2; omega
  have hdm := Nat.div_add_mod U3 B2
  have hm := Nat.mod_lt U3 h2
  obtain ⟨q, hqv⟩ : ∃ q, U3 / B2 = q := ⟨_, rfl⟩
  rw [hqv] at hq hdm ⊢
  constructor
  · refine Nat.le_of_lt_succ ((Nat.div_lt_iff_lt_mul hpos).2 ?_)
    show Ul + P * U3 < (q + 1) * (bl + P * B2)
    have h1 : U3 + 1 ≤ (q + 1) * B2 := by rw [Nat.add_mul, Nat.mul_comm q B2]; omega
    have h3 := Nat.mul_le_mul_left P h1
    rw [Nat.mul_add, Nat.mul_one] at h3
    have h4 : (q + 1) * (bl + P * B2) = (q + 1) * bl + P * ((q + 1) * B2) := by rw [Nat.mul_add, Nat.mul_left_comm]
    omega
  · rcases Nat.eq_zero_or_pos q with h0 | h0
    · rw [h0]; exact Nat.zero_le _
    · obtain ⟨p, rfl⟩ : ∃ p, q = p + 1 := ⟨q - 1, by omega⟩
      refine Nat.add_le_add_right ((Nat.le_div_iff_mul_le hpos).2 ?_) 1
      have h1 : p * (bl + P * B2) ≤ P * (p * (B2 + 1)) := by
        rw [Nat.mul_left_comm P p]
        refine Nat.mul_le_mul_left p ?_
        rw [Nat.mul_add]; omega
      have h3 : p * (B2 + 1) ≤ U3 := by
        rw [Nat.mul_add, Nat.mul_one]
        rw [Nat.mul_add, Nat.mul_one, Nat.mul_comm B2 p] at hdm
        omega
      have h4 := Nat.mul_le_mul_left P h3
      omega
theorem guess_top {β P Ul bl u0 u1 u2 y0 y1 : Nat} (hb : bl < P) (h0 : y0 < β) (hy : β ≤ 2 * y1 + 2) (hu : y1 ≤ u2) (hlt : Ul + P * (u0 + β * (u1 + β * u2)) < β * (bl + P * (y0 + β * y1))) :
    (Ul + P * (u0 + β * (u1 + β * u2))) / (bl + P * (y0 + β * y1)) ≤ β - 1 ∧ β - 1 ≤ (Ul + P * (u0 + β * (u1 + β * u2))) / (bl + P * (y0 + β * y1)) + 1 := by
  have hpos : 0 < bl + P * (y0 + β * y1) := by
    rcases Nat.eq_zero_or_pos (bl + P * (y0 + β * y1)) with h | h
    · rw [h] at hlt; omega
    · exact h
  constructor
  · have := (Nat.div_lt_iff_lt_mul hpos).2 hlt
    omega
  · have h1 : β - 2 ≤ (Ul + P * (u0 + β * (u1 + β * u2))) / (bl + P * (y0 + β * y1)) := by
      refine (Nat.le_div_iff_mul_le hpos).2 ?_
      have h3 : bl + P * (y0 + β * y1) ≤ P * (β * (y1 + 1)) := by
        have h5 : y0 + β * y1 + 1 ≤ β * (y1 + 1) := by rw [Nat.mul_add]; omega
        have h6 := Nat.mul_le_mul_left P h5
        rw [Nat.mul_add] at h6
        omega
      have h4 := Nat.mul_le_mul_left (β - 2) h3
      have h7 : (β - 2) * (P * (β * (y1 + 1))) = P * β * ((β - 2) * (y1 + 1)) := by
        rw [Nat.mul_left_comm, Nat.mul_left_comm (β - 2) β, Nat.mul_assoc]
      have h8 : (β - 2) * (y1 + 1) ≤ β * y1 := by
        rcases Nat.lt_or_ge β 2 with h | h
        · rw [Nat.sub_eq_zero_of_le (by omega), Nat.zero_mul]; omega
        · obtain ⟨k, rfl⟩ : ∃ k, β = k + 2 := ⟨β - 2, by omega⟩
          rw [Nat.add_sub_cancel, Nat.mul_add, Nat.add_mul]
          omega
      have h9 := Nat.mul_le_mul_left (P * β) h8
      have h10 : P * β * (β * y1) ≤ P * (u0 + β * (u1 + β * u2)) := by
        rw [Nat.mul_assoc]
        refine Nat.mul_le_mul_left P ?_
        have h11 := Nat.mul_le_mul_left β (Nat.mul_le_mul_left β hu)
        rw [Nat.mul_add]
        omega
      omega
    omega
end Rad

namespace Go.Proofs.YtjlkplidpdhgbaaGreatDoor
open Go Go.Proofs Go.RowKit Go.Rad

theorem num_three (w : World) (b o m : Nat) : num B w b o (m + 3) = num B w b o m + B ^ m * (word w b (o + m) + B * (word w b (o + (m + 1)) + B * word w b (o + (m + 2)))) := by
  simp only [num_succ, Nat.pow_succ, Nat.mul_add, Nat.mul_assoc, Nat.add_assoc]
theorem num_two (w : World) (b o m : Nat) : num B w b o (m + 2) = num B w b o m + B ^ m * (word w b (o + m) + B * word w b (o + (m + 1))) := by
  rw [num_succ, num_succ, Nat.pow_succ, Nat.mul_add]
  simp only [Nat.mul_assoc, Nat.add_assoc]

set_option maxRecDepth 10000 in
set_option maxHeartbeats 1000000 in
theorem guessWord_any (w : World) (bu ou cu bb ob cb m : Nat) (hm : m + 3 ≤ 35184372088832) (hu : Arr .u64 B w bu ou (m + 3)) (hb : Arr .u64 B w bb ob (m + 2))
    (htop : 9223372036854775808 ≤ word w bb (ob + (m + 1))) (hlt : num B w bu ou (m + 3) < B * num B w bb ob (m + 2)) :
    Calls Tryz.prog 164 #[.slice (some ⟨bu, ou, none⟩) (m + 3 : Nat) cu, .slice (some ⟨bb, ob, none⟩) (m + 2 : Nat) cb] w fun e w' => ∃ d : Nat, e = .returned (.int .u64 d) ∧ (∃ k, w' = w.drewN k) ∧ d < B ∧
      num B w bu ou (m + 3) / num B w bb ob (m + 2) ≤ d ∧ d ≤ num B w bu ou (m + 3) / num B w bb ob (m + 2) + 1 := by
  have cu0 := arr_cell hu (i := m) (by omega)
  have cu1 := arr_cell hu (i := m + 1) (by omega)
  have cu2 := arr_cell hu (i := m + 2) (by omega)
  have cb0 := arr_cell hb (i := m) (by omega)
  have cb1 := arr_cell hb (i := m + 1) (by omega)
  have lu0 := arr_lt hu (i := m) (by omega)
  have lu1 := arr_lt hu (i := m + 1) (by omega)
  have lu2 := arr_lt hu (i := m + 2) (by omega)
  have lb0 := arr_lt hb (i := m) (by omega)
  have lb1 := arr_lt hb (i := m + 1) (by omega)
  have lUl : num B w bu ou m < B ^ m := num_lt (fun i hi => hu i (by omega))
  have lbl : num B w bb ob m < B ^ m := num_lt (fun i hi => hb i (by omega))
  rw [num_three, num_two] at hlt ⊢
  generalize num B w bu ou m = Ul at *
  generalize num B w bb ob m = bl at *
  generalize B ^ m = P at *
  generalize word w bu (ou + m) = u0 at *
  generalize word w bu (ou + (m + 1)) = u1 at *
  generalize word w bu (ou + (m + 2)) = u2 at *
  generalize word w bb (ob + m) = y0 at *
  generalize word w bb (ob + (m + 1)) = y1 at *
  clear hu hb
  have e1 : ((m : Int) + 2 - 1) = (m : Int) + 1 := by omega
  have e2 : ((m : Int) + 2 - 2) = (m : Int) := by omega
  by_cases hc : y1 ≤ u2
  · have hg := _root_.Rad.guess_top (β := B) (u1 := u1) lbl lb0 (by unfold B; omega) hc hlt
    have HG : Hid _ := hg
    clear hg hlt lUl lbl
    go_enter Tryz.func164, Tryz.ntmps164
    go_wp2
    go_quiet (fail)
    go_wp2
    go_ret
    exact ⟨18446744073709551615, rfl, ⟨_, rfl⟩, by unfold B; omega, HG.out.1, HG.out.2⟩
  · have hN : u2 * B + u1 < y1 * B + y0 := by
      have h1 := Nat.mul_le_mul_right B (show u2 + 1 ≤ y1 by omega)
      rw [Nat.add_mul] at h1
      omega
    have hg0 := _root_.Rad.guess_start (h := B) (y1 := y1) (y0 := y0) (u := u2 * B + u1) (d := u0) (by unfold B; omega) lb0 lu0 hN
    have hQB : (u2 * B + u1) / y1 < B := by
      refine Nat.div_lt_of_lt_mul ?_
      have h1 := Nat.mul_le_mul_right B (show u2 + 1 ≤ y1 by omega)
      rw [Nat.add_mul] at h1
      omega
    have hRB := Nat.mod_lt (u2 * B + u1) (show 0 < y1 by omega)
    have h3 := _root_.Rad.guess_three (U3 := (u2 * B + u1) * B + u0) (B2 := y1 * B + y0) lUl lbl (by have := Nat.mul_pos (show 0 < y1 by omega) B_pos; omega)
      (by
        have h1 := _root_.Rad.guess_lt lu0 hN
        have h2 := Nat.le_mul_of_pos_left B (show 0 < y1 by omega)
        omega)
    have e3 : u0 + B * (u1 + B * u2) = (u2 * B + u1) * B + u0 := by rw [Nat.mul_comm (u2 * B + u1) B, Nat.mul_comm u2 B, Nat.add_comm (B * u2) u1]; omega
    have e4 : y0 + B * y1 = y1 * B + y0 := by rw [Nat.mul_comm]; omega
    rw [e3, e4]
    obtain ⟨N, hNv⟩ : ∃ N, u2 * B + u1 = N := ⟨_, rfl⟩
    rw [hNv] at hN hg0 hQB hRB h3 ⊢
    obtain ⟨Q0, hQ0⟩ : ∃ Q, N / y1 = Q := ⟨_, rfl⟩
    obtain ⟨R0, hR0⟩ : ∃ R, N % y1 = R := ⟨_, rfl⟩
    have CD := fun w => div64_any u2 u1 y1 Q0 R0 (by omega) lu1 lb1 (by rw [hNv]; exact hQ0) (by rw [hNv]; exact hR0) w
    rw [hQ0] at hg0 hQB
    rw [hR0] at hg0 hRB
    have HN : Hid (N < y1 * B + y0) := hN
    have H3 : Hid _ := h3
    have HG0 : Hid _ := hg0
    have hc' : ¬ (y1 : Int) ≤ (u2 : Int) := by omega
    have CD' : Hid _ := CD
    clear hN h3 hg0 hlt lUl lbl e3 e4 hQ0 hR0 hNv CD
    go_enter Tryz.func164, Tryz.ntmps164
    go_wp2
    go_quiet (fail)
    go_wp2
    have i1 : (m : Int) + 2 < (m : Int) + 3 := by omega
    have i2 : (0 : Int) ≤ (m : Int) + 2 := by omega
    have i3 : (m : Int) + 1 < (m : Int) + 3 := by omega
    have i4 : (0 : Int) ≤ (m : Int) + 1 := by omega
    have i5 : ((m : Int) + 2).toNat = m + 2 := by omega
    have i6 : ((m : Int) + 1).toNat = m + 1 := by omega
    have i7 : IntKind.i64.wrap ((m : Int) + 1) = (m : Int) + 1 := by rw [IntKind.wrap_i64]; omega
    have i8 : (m : Int) + 1 < (m : Int) + 1 + 2 := by omega
    go_region_held3 (fun w' => w'.cell? ⟨bu, ou + (m + 1), none⟩ = some (.int .u64 u1) ∧ w'.cell? ⟨bu, ou + (m + 2), none⟩ = some (.int .u64 u2)) (go_keep)
      (first
        | (go_at_call 149; refine (CD'.out _).mono ?_; rintro e w'' ⟨rfl, k, rfl⟩))
    go_wp2
    clear i1 i2 i3 i4 i5 i6 i7 i8
    rename_i hHeld
    clear hHeld
    go_loopw [8, 9] (fun d r wr => ∃ d' r' j : Nat, d = .int .u64 (d' : Int) ∧ r = .int .u64 (r' : Int) ∧ wr = w.drewN j ∧ d' < B ∧ r' < B ∧ _root_.Rad.Guess B y1 y0 N u0 d' r') (fun d _ _ => (intOf d).toNat)
    case atStart => exact ⟨Q0, R0, _, rfl, rfl, rfl, hQB, by omega, HG0.out⟩
    case round =>
      obtain ⟨d, r, j, rfl, rfl, rfl, hd, hr, hg⟩ := hrel
      have hz : d * y0 < B * B := Nat.mul_lt_mul'' hd lb0
      have hzB := hi_lt hz
      have hzl := lo_lt (d * y0)
      have hzs := lo_hi (d * y0)
      have CM := mul64 d y0 hd lb0 (w.drewN j)
      obtain ⟨z, hzv⟩ : ∃ z, d * y0 = z := ⟨_, rfl⟩
      rw [hzv] at hzB hzl hzs CM
      obtain ⟨zl, hzl'⟩ : ∃ z', lo z = z' := ⟨_, rfl⟩
      obtain ⟨zh, hzh'⟩ : ∃ z', hi z = z' := ⟨_, rfl⟩
      rw [hzl'] at hzl hzs CM
      rw [hzh'] at hzB hzs CM
      have HG : Hid (_root_.Rad.Guess B y1 y0 N u0 d r) := hg
      have HZ : Hid (d * y0 = z) := hzv
      have HS : Hid (zl + B * zh = z) := hzs
      clear hg hzv hzs hz hzl' hzh'
      have hexit : z ≤ B * r + u0 → (Ul + P * (N * B + u0)) / (bl + P * (y1 * B + y0)) ≤ d ∧ d ≤ (Ul + P * (N * B + u0)) / (bl + P * (y1 * B + y0)) + 1 := fun h => by
        have h1 := HG.out.done (by have := HN.out; omega) (by rw [HZ.out]; exact h)
        rw [h1]; exact H3.out
      have HE : Hid _ := hexit
      clear hexit
      by_cases c1 : zh < r
      · have k1 : (zh : Int) < (r : Int) := by omega
        have hle : z ≤ B * r + u0 := by
          have h1 := Nat.mul_le_mul_left B (show zh + 1 ≤ r from c1)
          rw [Nat.mul_add] at h1
          have := HS.out
          omega
        have HF : Hid _ := HE.out hle
        clear hle c1
        go_wp2_with (go_at_call 85; refine CM.mono ?_; rintro e w' ⟨rfl, hw⟩; subst hw)
        go_ret
        exact ⟨d, rfl, ⟨_, rfl⟩, hd, HF.out.1, HF.out.2⟩
      · have k1 : ¬ (zh : Int) < (r : Int) := by omega
        by_cases c2 : zh = r ∧ zl ≤ u0
        · obtain ⟨rfl, c2⟩ := c2
          have k2 : (zl : Int) ≤ (u0 : Int) := by omega
          have hle : z ≤ B * zh + u0 := by have := HS.out; omega
          have HF : Hid _ := HE.out hle
          clear hle c1 c2
          go_wp2_with (go_at_call 85; refine CM.mono ?_; rintro e w' ⟨rfl, hw⟩; subst hw)
          go_ret
          exact ⟨d, rfl, ⟨_, rfl⟩, hd, HF.out.1, HF.out.2⟩
        · have hgt : B * r + u0 < z := by
            have := HS.out
            by_cases h0 : zh = r
            · subst h0; omega
            · have h1 := Nat.mul_le_mul_left B (show r + 1 ≤ zh by omega)
              rw [Nat.mul_add] at h1
              have := lu0
              omega
          have hst := HG.out.step lu0 HN.out (.inr (by rw [HZ.out]; exact hgt))
          have hd0 := hst.1
          have HST : Hid _ := hst.2
          have cs := HG.out
          obtain ⟨d1, rfl⟩ : ∃ d1, d = d1 + 1 := ⟨d - 1, by omega⟩
          have e9 : ((d1 + 1 : Nat) : Int) - 1 = (d1 : Int) := by omega
          have hd1 : ((d1 + 1 : Nat) : Int) = (d1 : Int) + 1 := by omega
          have e10 : IntKind.u64.wrap (d1 : Int) = (d1 : Int) := wrapN d1 (by unfold B at hd; omega)
          clear hst hgt cs
          have ca : hi (r + y1) ≤ 1 := by unfold hi B at *; omega
          have cb := lo_hi (r + y1)
          have cl := lo_lt (r + y1)
          by_cases h0 : zh = r
          · have k2 : (zh : Int) = (r : Int) := by omega
            have k3 : ¬ (zl : Int) ≤ (u0 : Int) := by omega
            subst h0
            rcases (show hi (zh + y1) = 0 ∨ hi (zh + y1) = 1 by omega) with h1 | h1
            · have hlr : lo (zh + y1) = zh + y1 := by rw [h1] at cb; omega
              have AD : ∀ w, (callFunc 131 #[.int .u64 zh, .int .u64 y1, .int .u64 0]).run Tryz.prog w = .ok (.value (.tuple #[.int .u64 ((zh + y1 : Nat) : Int), .int .u64 0])) w := fun w => by
                have := add64_c zh y1 w
                rw [h1, hlr] at this
                exact this
              have hry : zh + y1 < B := by rw [← hlr]; exact cl
              clear ca cb cl h1 hlr
              go_wp2_with (go_at_call 85; refine CM.mono ?_; rintro e w' ⟨rfl, hw⟩; subst hw)
              go_roundw
              case rel => exact ⟨d1, zh + y1, j, by go_num, by go_num, rfl, by omega, hry, HST.out⟩
              case measure => simp [intOf]
            · have AD : ∀ w, (callFunc 131 #[.int .u64 zh, .int .u64 y1, .int .u64 0]).run Tryz.prog w = .ok (.value (.tuple #[.int .u64 ((lo (zh + y1) : Nat) : Int), .int .u64 1])) w := fun w => by
                have := add64_c zh y1 w
                rw [h1] at this
                exact this
              have hov := HST.out.over (by have := HN.out; omega) lb0 (by show d1 ≤ B; omega) (by rw [h1] at cb; omega)
              have hf := H3.out
              rw [← hov] at hf
              have HF : Hid _ := hf
              clear ca cb cl h1 hov hf
              go_wp2_with (go_at_call 85; refine CM.mono ?_; rintro e w' ⟨rfl, hw⟩; subst hw)
              go_ret
              exact ⟨d1, ret_int (by first | rfl | omega), ⟨_, rfl⟩, by omega, HF.out.1, HF.out.2⟩
          · have k2 : ¬ (zh : Int) = (r : Int) := by omega
            clear c2
            rcases (show hi (r + y1) = 0 ∨ hi (r + y1) = 1 by omega) with h1 | h1
            · have hlr : lo (r + y1) = r + y1 := by rw [h1] at cb; omega
              have AD : ∀ w, (callFunc 131 #[.int .u64 r, .int .u64 y1, .int .u64 0]).run Tryz.prog w = .ok (.value (.tuple #[.int .u64 ((r + y1 : Nat) : Int), .int .u64 0])) w := fun w => by
                have := add64_c r y1 w
                rw [h1, hlr] at this
                exact this
              have hry : r + y1 < B := by rw [← hlr]; exact cl
              clear ca cb cl h1 hlr
              go_wp2_with (go_at_call 85; refine CM.mono ?_; rintro e w' ⟨rfl, hw⟩; subst hw)
              go_roundw
              case rel => exact ⟨d1, r + y1, j, by go_num, by go_num, rfl, by omega, hry, HST.out⟩
              case measure => simp [intOf]
            · have AD : ∀ w, (callFunc 131 #[.int .u64 r, .int .u64 y1, .int .u64 0]).run Tryz.prog w = .ok (.value (.tuple #[.int .u64 ((lo (r + y1) : Nat) : Int), .int .u64 1])) w := fun w => by
                have := add64_c r y1 w
                rw [h1] at this
                exact this
              have hov := HST.out.over (by have := HN.out; omega) lb0 (by show d1 ≤ B; omega) (by rw [h1] at cb; omega)
              have hf := H3.out
              rw [← hov] at hf
              have HF : Hid _ := hf
              clear ca cb cl h1 hov hf
              go_wp2_with (go_at_call 85; refine CM.mono ?_; rintro e w' ⟨rfl, hw⟩; subst hw)
              go_ret
              exact ⟨d1, ret_int (by first | rfl | omega), ⟨_, rfl⟩, by omega, HF.out.1, HF.out.2⟩
end Go.Proofs.YtjlkplidpdhgbaaGreatDoor
