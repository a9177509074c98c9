/- A part of the proof: W24. -/
import Derived.Test.YtjlkplidpdhgbaaGreatDoorP12
import Derived.Test.YtjlkplidpdhgbaaGreatDoorP11
import Derived.Deep.QuietTactic
import Derived.BigQuiet
set_option linter.all false

namespace Go.Proofs.YtjlkplidpdhgbaaGreatDoor
open Go Go.Proofs Go.RowKit Go.Rad

def HB : Nat := 4294967296

/-- The divisor's highest bit is set by the shift. -/
theorem len_shift {y L : Nat} (h0 : 0 < y) (h : IsLen y L) (h64 : L ≤ 64) : 9223372036854775808 ≤ y * 2 ^ (64 - L) ∧ y * 2 ^ (64 - L) < 18446744073709551616 := by
  rcases h with ⟨h1, _⟩ | ⟨h1, h2, h3⟩
  · omega
  · have e1 : 2 ^ (L - 1) * 2 ^ (64 - L) = 9223372036854775808 := by rw [← Nat.pow_add, show L - 1 + (64 - L) = 63 by omega]
    have e2 : 2 ^ L * 2 ^ (64 - L) = 18446744073709551616 := by rw [← Nat.pow_add, show L + (64 - L) = 64 by omega]
    have h4 := Nat.mul_le_mul_right (2 ^ (64 - L)) h2
    have h5 := Nat.mul_lt_mul_of_pos_right h3 (Nat.pow_pos (show 0 < 2 by decide) (n := 64 - L))
    omega

set_option maxRecDepth 10000 in
set_option maxHeartbeats 1000000 in
theorem div64_any (u v y QQ RR : Nat) (hu : u < y) (hv : v < B) (hy : y < B) (hQ : (u * B + v) / y = QQ) (hR : (u * B + v) % y = RR) (w : World) :
    Calls Tryz.prog 149 #[.int .u64 u, .int .u64 v, .int .u64 y] w fun e w' => e = .returned (.tuple #[.int .u64 QQ, .int .u64 RR]) ∧ ∃ n, w' = w.drewN n := by
  by_cases hu0 : u = 0
  · subst hu0
    rw [Nat.zero_mul, Nat.zero_add] at hQ hR
    have hqq : QQ < 18446744073709551616 := by rw [← hQ]; exact Nat.lt_of_le_of_lt (Nat.div_le_self _ _) hv
    have e1 : (v : Int) / (y : Int) = (QQ : Int) := by rw [← hQ]; rfl
    have e2 : (v : Int) % (y : Int) = (RR : Int) := by rw [← hR]; rfl
    have q1 : ¬ (y : Int) = 0 := by omega
    have q2 : ¬ (y : Int) ≤ 0 := by omega
    clear hQ hR
    go_enter Tryz.func149, Tryz.ntmps149
    go_wp2
    go_quiet (fail)
    go_wp2
    refine bodyPost_ret (v := .tuple #[.int .u64 QQ, .int .u64 RR]) (by simp [results, go_sem, loadVar, e2]) rfl ?_
    exact ⟨rfl, _, rfl⟩
  · have hl0 := fun L => len_shift (y := y) (L := L) (by omega)
    have q1 : ¬ (y : Int) = 0 := by omega
    have q2 : ¬ (y : Int) ≤ (u : Int) := by omega
    have q3 : ¬ (u : Int) = 0 := by omega
    have HQ : Hid _ := hQ
    have HR : Hid _ := hR
    clear hQ hR
    go_enter Tryz.func149, Tryz.ntmps149
    go_wp2_with (go_at_call 135; fail)
    refine (leadingZeros_any y hy _).mono ?_
    rintro e w' ⟨L, rfl, rfl, hl, h64⟩
    have hsh := hl0 _ hl h64
    obtain ⟨s, hs⟩ : ∃ s, s = 64 - L := ⟨_, rfl⟩
    rw [← hs] at hsh ⊢
    have hs64 : s < 64 := by rcases hl with ⟨h1, _⟩ | ⟨h1, _, _⟩ <;> omega
    have d1 : v / 2 ^ (64 - s) < 2 ^ s := hi_shl_lt (by omega) hv
    have e0 := shl_or (d := u) (s := s) (c := v / 2 ^ (64 - s)) (by omega) d1
    rw [← shr_nat v (64 - s)] at e0
    have hlu : lo (u * 2 ^ s) = u * 2 ^ s := by
      unfold lo
      refine Nat.mod_eq_of_lt ?_
      have h1 := Nat.mul_le_mul_right (2 ^ s) (Nat.le_of_lt hu)
      omega
    rw [hlu] at e0
    have e1 := shl_nat y s
    have hly : lo (y * 2 ^ s) = y * 2 ^ s := Nat.mod_eq_of_lt hsh.2
    rw [hly] at e1
    have e2 := shl_nat v s
    have hlv := lo_shl (d := v) (s := s) (by omega)
    -- the numbers by letters
    have hU : u * 2 ^ s + v / 2 ^ (64 - s) < y * 2 ^ s := by
      have h1 := Nat.mul_le_mul_right (2 ^ s) (show u + 1 ≤ y from hu)
      rw [Nat.add_mul] at h1
      omega
    have hN : (u * 2 ^ s + v / 2 ^ (64 - s)) * B + lo (v * 2 ^ s) = 2 ^ s * (u * B + v) := by
      have h1 := lo_hi (v * 2 ^ s)
      rw [hi_shl (by omega)] at h1
      rw [Nat.add_mul, Nat.mul_add, Nat.mul_comm (v / 2 ^ (64 - s)) B, Nat.mul_right_comm, Nat.mul_comm (2 ^ s) (u * B), Nat.mul_comm (2 ^ s) v]
      omega
    have hq1 : (2 ^ s * (u * B + v)) / (y * 2 ^ s) = (u * B + v) / y := by
      rw [Nat.mul_comm y, Nat.mul_div_mul_left _ _ (Nat.pow_pos (by decide))]
    have hq2 : (2 ^ s * (u * B + v)) % (y * 2 ^ s) = 2 ^ s * ((u * B + v) % y) := by
      rw [Nat.mul_comm y, Nat.mul_mod_mul_left]
    rw [← hN] at hq1 hq2
    have hVl := lo_lt (v * 2 ^ s)
    clear hl0 hl h64 hs hN hlv hly hlu d1
    rw [HQ.out] at hq1
    rw [HR.out] at hq2
    clear HQ HR
    obtain ⟨U, eU⟩ : ∃ U, u * 2 ^ s + v / 2 ^ (64 - s) = U := ⟨_, rfl⟩
    obtain ⟨Y, eY⟩ : ∃ Y, y * 2 ^ s = Y := ⟨_, rfl⟩
    obtain ⟨V, eV⟩ : ∃ V, lo (v * 2 ^ s) = V := ⟨_, rfl⟩
    rw [eU] at e0 hU hq1 hq2
    rw [eY] at e1 hU hsh hq1 hq2
    rw [eV] at e2 hVl hq1 hq2
    clear eU eY eV hu hv hy
    unfold B at hVl
    have m1 := maskN Y hsh.2
    have m2 := maskN V hVl
    have m3 := divN Y
    have m4 := divN V
    obtain ⟨y1, hy1⟩ : ∃ n, n = Y / 4294967296 := ⟨_, rfl⟩
    obtain ⟨y0, hy0⟩ : ∃ n, n = Y % 4294967296 := ⟨_, rfl⟩
    obtain ⟨v1, hv1⟩ : ∃ n, n = V / 4294967296 := ⟨_, rfl⟩
    obtain ⟨v0, hv0⟩ : ∃ n, n = V % 4294967296 := ⟨_, rfl⟩
    rw [← hy0] at m1
    rw [← hv0] at m2
    rw [← hy1] at m3
    rw [← hv1] at m4
    have a1 : y1 * 4294967296 + y0 = Y := by omega
    have a2 : v1 * 4294967296 + v0 = V := by
      clear a1 hU hq1 hq2 e0 e1 e2 m1 m2 m3 m4
      omega
    have a3 : y0 < 4294967296 := by omega
    have a4 : v1 < 4294967296 := by omega
    have a5 : v0 < 4294967296 := by omega
    have a6 : 2147483648 ≤ y1 := by
      have h1 := hsh.1
      clear hU hq1 hq2 e0 e1 e2 m1 m2 m3 m4
      omega
    clear hy0 hy1 hv0 hv1
    have a7 : ¬ (y1 : Int) = 0 := by omega
    have HY : Hid (y1 * 4294967296 + y0 = Y) := a1
    have HV : Hid (v1 * 4294967296 + v0 = V) := a2
    have HU : Hid (U < Y) := hU
    have HQ1 : Hid _ := hq1
    have HQ2 : Hid _ := hq2
    have HS : Hid _ := hsh
    clear a1 a2 hU hq1 hq2 hsh hVl
    go_wp2
    have HUU : Hid (U < Y) := HU
    go_loop [15, 16] (fun q r => ∃ q' r' : Nat, q = .int .u64 (q' : Int) ∧ r = .int .u64 (r' : Int) ∧ r' < 4294967296 ∧ _root_.Rad.Guess 4294967296 y1 y0 U v1 q' r') (fun q _ => (intOf q).toNat)
    case atStart =>
      have e3 := wrapN (U / y1) (by have := Nat.div_le_self U y1; have := HS.out; have := HUU.out; omega)
      have e4 := wrapN (U / y1 * y1) (by have := Nat.div_mul_le_self U y1; have := HS.out; have := HUU.out; omega)
      have e5 := wrapN (U % y1) (by have := Nat.mod_lt U (show 0 < y1 by omega); have := HS.out; have := HY.out; omega)
      have e6 : ((U : Nat) : Int) - ((U / y1 * y1 : Nat) : Int) = ((U % y1 : Nat) : Int) := by
        have h1 := Nat.div_add_mod U y1
        rw [Nat.mul_comm] at h1
        omega
      have hg := _root_.Rad.guess_start (h := 4294967296) (y1 := y1) (y0 := y0) (u := U) (d := v1) (by omega) a3 (by assumption) (by have := HY.out; have := HUU.out; omega)
      have hr := Nat.mod_lt U (show 0 < y1 by omega)
      refine ⟨U / y1, U % y1, ?_, ?_, by have := HS.out; have := HY.out; omega, hg⟩
      · rw [← Int.natCast_ediv, e3]
      · rw [← Int.natCast_ediv, e3, mulN, e4, e6, e5]
    case round =>
      obtain ⟨q, r, rfl, rfl, hr, hg⟩ := hrel
      have hgl : q ≤ 4294967297 := hg.le
      have hqy := Nat.mul_le_mul hgl (show y0 ≤ 4294967295 by omega)
      obtain ⟨p, hp⟩ : ∃ p, q * y0 = p := ⟨_, rfl⟩
      have ep : (q : Int) * (y0 : Int) = (p : Int) := by rw [mulN, hp]
      have hpl : p < 18446744073709551616 := by omega
      have HG : Hid (_root_.Rad.Guess 4294967296 y1 y0 U v1 q r) := hg
      have HP : Hid (q * y0 = p) := hp
      clear hg hp hqy
      by_cases hc1 : 4294967296 ≤ q
      · have hi1 : (4294967296 : Int) ≤ (q : Int) := by omega
        have hst := HG.out.step (by assumption) (by have := HY.out; have := HUU.out; omega) (.inl hc1)
        have hq0 := hst.1
        have HST : Hid _ := hst.2
        clear hst
        obtain ⟨r2, e7⟩ : ∃ r2, r + y1 = r2 := ⟨_, rfl⟩
        have e8 : (r : Int) + (y1 : Int) = (r2 : Int) := by omega
        have hl2 : r2 < 18446744073709551616 := by have := HY.out; have := HS.out; omega
        by_cases hr2 : 4294967296 ≤ r + y1
        · have hi3 : (4294967296 : Int) ≤ (r2 : Int) := by omega
          have hq := HST.out.over (by have := HY.out; have := HS.out; omega) a3 (by omega) hr2
          have hql := Nat.lt_of_le_of_lt (Nat.le_of_eq hq) (_root_.Rad.guess_lt (by assumption) (by have := HY.out; have := HUU.out; omega))
          obtain ⟨qm, hqm⟩ : ∃ z, z = q - 1 := ⟨q - 1, rfl⟩
          rw [← hqm] at hq hql
          have e9 : (q : Int) - 1 = (qm : Int) := by omega
          clear HG HP HST hqm
          obtain ⟨U2, hU2⟩ : ∃ n, n = (U * 4294967296 + v1) % Y := ⟨_, rfl⟩
          have HU2 : Hid (U2 < Y) := by
            show U2 < Y
            rw [hU2]; exact Nat.mod_lt _ (by have := HS.out; omega)
          have hdm : qm * Y + U2 = U * 4294967296 + v1 := by
            have h1 := Nat.div_add_mod (U * 4294967296 + v1) Y
            rw [Nat.mul_comm, ← HY.out, ← hq, HY.out, ← hU2] at h1
            exact h1
          have Hq1 : Hid ((U * 4294967296 + v1) / Y = qm ∧ (U * 4294967296 + v1) % Y = U2) := by
            refine ⟨?_, hU2.symm⟩
            rw [← HY.out]; exact hq.symm
          obtain ⟨A, hA⟩ : ∃ n, n = lo (U * 4294967296) := ⟨_, rfl⟩
          obtain ⟨A2, hA2⟩ : ∃ n, n = lo (A + v1) := ⟨_, rfl⟩
          obtain ⟨P2, hP2⟩ : ∃ n, n = lo (qm * Y) := ⟨_, rfl⟩
          have f1 : IntKind.u64.wrap ((U : Int) * 4294967296) = (A : Int) := by rw [hA, ← wrap_u64_nat, Int.natCast_mul]; rfl
          have f2 : IntKind.u64.wrap ((A : Int) + (v1 : Int)) = (A2 : Int) := by rw [hA2, ← wrap_u64_nat, Int.natCast_add]
          have f3 : IntKind.u64.wrap ((qm : Int) * (Y : Int)) = (P2 : Int) := by rw [hP2, ← wrap_u64_nat, Int.natCast_mul]
          have f4 : IntKind.u64.wrap ((A2 : Int) - (P2 : Int)) = (U2 : Int) := by
            have h1 := HS.out
            have h2 := HU2.out
            clear hq hU2 f1 f2 f3
            rw [IntKind.wrap_u64, hP2, hA2, hA]
            unfold lo
            generalize qm * Y = z at *
            omega
          clear hA hA2 hP2 hdm hU2 hq
          have Hql : Hid _ := hql
          clear hql
          have HQL := Hql
          clear Hql
          go_wp2
          clear ep hpl hi3 e7 e8 e9 hl2 hq0 hr2 f1 f2 f3 f4
          go_loop [16, 18] (fun r q => ∃ q' r' : Nat, q = .int .u64 (q' : Int) ∧ r = .int .u64 (r' : Int) ∧ r' < 4294967296 ∧ _root_.Rad.Guess 4294967296 y1 y0 U2 v0 q' r') (fun _ q => (intOf q).toNat)
          case atStart =>
            have e3 := wrapN (U2 / y1) (by have := Nat.div_le_self U2 y1; have := HS.out; have := HU2.out; omega)
            have e4 := wrapN (U2 / y1 * y1) (by have := Nat.div_mul_le_self U2 y1; have := HS.out; have := HU2.out; omega)
            have e5 := wrapN (U2 % y1) (by have := Nat.mod_lt U2 (show 0 < y1 by omega); have := HS.out; have := HY.out; omega)
            have e6 : ((U2 : Nat) : Int) - ((U2 / y1 * y1 : Nat) : Int) = ((U2 % y1 : Nat) : Int) := by
              have h1 := Nat.div_add_mod U2 y1
              rw [Nat.mul_comm] at h1
              omega
            have hg := _root_.Rad.guess_start (h := 4294967296) (y1 := y1) (y0 := y0) (u := U2) (d := v0) (by omega) a3 (by assumption) (by have := HY.out; have := HU2.out; omega)
            have hr := Nat.mod_lt U2 (show 0 < y1 by omega)
            refine ⟨U2 / y1, U2 % y1, ?_, ?_, by have := HS.out; have := HY.out; omega, hg⟩
            · rw [← Int.natCast_ediv, e3]
            · rw [← Int.natCast_ediv, e3, mulN, e4, e6, e5]
          case round =>
            obtain ⟨k, rr, rfl, rfl, hr, hg⟩ := hrel
            have hgl : k ≤ 4294967297 := hg.le
            have hqy := Nat.mul_le_mul hgl (show y0 ≤ 4294967295 by omega)
            obtain ⟨pp, hp⟩ : ∃ pp, k * y0 = pp := ⟨_, rfl⟩
            have ep : (k : Int) * (y0 : Int) = (pp : Int) := by rw [mulN, hp]
            have hpl : pp < 18446744073709551616 := by omega
            have HG : Hid (_root_.Rad.Guess 4294967296 y1 y0 U2 v0 k rr) := hg
            have HP : Hid (k * y0 = pp) := hp
            clear hg hp hqy
            by_cases hc1 : 4294967296 ≤ k
            · have hi1 : (4294967296 : Int) ≤ (k : Int) := by omega
              have hst := HG.out.step (by assumption) (by have := HY.out; have := HU2.out; omega) (.inl hc1)
              have hq0 := hst.1
              have HST : Hid _ := hst.2
              clear hst
              obtain ⟨rr2, e7⟩ : ∃ rr2, rr + y1 = rr2 := ⟨_, rfl⟩
              have e8 : (rr : Int) + (y1 : Int) = (rr2 : Int) := by omega
              have hl2 : rr2 < 18446744073709551616 := by have := HY.out; have := HS.out; omega
              by_cases hr2 : 4294967296 ≤ rr + y1
              · have hi3 : (4294967296 : Int) ≤ (rr2 : Int) := by omega
                have hq := HST.out.over (by have := HY.out; have := HS.out; omega) a3 (by omega) hr2
                have hql := Nat.lt_of_le_of_lt (Nat.le_of_eq hq) (_root_.Rad.guess_lt (by assumption) (by have := HY.out; have := HU2.out; omega))
                obtain ⟨km, hqm⟩ : ∃ z, z = k - 1 := ⟨k - 1, rfl⟩
                rw [← hqm] at hq hql
                have e9 : (k : Int) - 1 = (km : Int) := by omega
                clear HG HP HST hqm
                obtain ⟨U3, hU3⟩ : ∃ n, n = (U2 * 4294967296 + v0) % Y := ⟨_, rfl⟩
                have HU3 : Hid (U3 < Y) := by
                  show U3 < Y
                  rw [hU3]; exact Nat.mod_lt _ (by have := HS.out; omega)
                have hdm : km * Y + U3 = U2 * 4294967296 + v0 := by
                  have h1 := Nat.div_add_mod (U2 * 4294967296 + v0) Y
                  rw [Nat.mul_comm, ← HY.out, ← hq, HY.out, ← hU3] at h1
                  exact h1
                have Hq2 : Hid ((U2 * 4294967296 + v0) / Y = km ∧ (U2 * 4294967296 + v0) % Y = U3) := by
                  refine ⟨?_, hU3.symm⟩
                  rw [← HY.out]; exact hq.symm
                obtain ⟨A, hA⟩ : ∃ n, n = lo (U2 * 4294967296) := ⟨_, rfl⟩
                obtain ⟨A2, hA2⟩ : ∃ n, n = lo (A + v0) := ⟨_, rfl⟩
                obtain ⟨P2, hP2⟩ : ∃ n, n = lo (km * Y) := ⟨_, rfl⟩
                have f1 : IntKind.u64.wrap ((U2 : Int) * 4294967296) = (A : Int) := by rw [hA, ← wrap_u64_nat, Int.natCast_mul]; rfl
                have f2 : IntKind.u64.wrap ((A : Int) + (v0 : Int)) = (A2 : Int) := by rw [hA2, ← wrap_u64_nat, Int.natCast_add]
                have f3 : IntKind.u64.wrap ((km : Int) * (Y : Int)) = (P2 : Int) := by rw [hP2, ← wrap_u64_nat, Int.natCast_mul]
                have f4 : IntKind.u64.wrap ((A2 : Int) - (P2 : Int)) = (U3 : Int) := by
                  have h1 := HS.out
                  have h2 := HU3.out
                  clear hq hU3 f1 f2 f3
                  rw [IntKind.wrap_u64, hP2, hA2, hA]
                  unfold lo
                  generalize km * Y = z at *
                  omega
                clear hA hA2 hP2 hdm hU3 hq
                have Hql : Hid _ := hql
                clear hql
                have HQL2 := Hql
                clear Hql
                have g1 : IntKind.u64.wrap ((qm : Int) * 4294967296) = ((qm * 4294967296 : Nat) : Int) := by
                  have := HQL.out
                  rw [IntKind.wrap_u64]; omega
                have g2 : IntKind.u64.wrap (((qm * 4294967296 : Nat) : Int) + (km : Int)) = (QQ : Int) := by
                  have h1 := HQL.out
                  have h2 := HQL2.out
                  have h3 := (_root_.Rad.two_digits (h := 4294967296) (u := U) (d1 := v1) (d0 := v0) (y := Y)).1
                  rw [Hq1.out.1, Hq1.out.2, Hq2.out.1] at h3
                  have h4 : U * (4294967296 * 4294967296) + v1 * 4294967296 + v0 = U * B + V := by
                    rw [← HV.out]; unfold B; omega
                  rw [h4, HQ1.out] at h3
                  rw [IntKind.wrap_u64]; omega
                have g4 : IntKind.u64.wrap ((qm : Int) * 4294967296 + (km : Int)) = (QQ : Int) := by
                  rw [← g2, Int.natCast_mul]; rfl
                have g3 : (U3 : Int) / 2 ^ s = (RR : Int) := by
                  rw [shr_nat]
                  have h3 := (_root_.Rad.two_digits (h := 4294967296) (u := U) (d1 := v1) (d0 := v0) (y := Y)).2
                  rw [Hq1.out.2, Hq2.out.2] at h3
                  have h4 : U * (4294967296 * 4294967296) + v1 * 4294967296 + v0 = U * B + V := by
                    rw [← HV.out]; unfold B; omega
                  rw [h4, HQ2.out] at h3
                  rw [← h3, Nat.mul_div_cancel_left _ (Nat.pow_pos (by decide))]
                go_wp2
                try simp only [f1, f2, f3, f4, g4, g1, g2, g3]
                go_ret2
                exact ⟨rfl, 0, rfl⟩
              · have hi3 : ¬ (4294967296 : Int) ≤ (rr2 : Int) := by omega
                clear hc1
                go_wp2
                go_round
                case rel => exact ⟨k - 1, rr + y1, by go_num, by rw [← e8]; go_num, by omega, HST.out⟩
                case measure => simp [intOf]; omega
            · have hi1 : ¬ (4294967296 : Int) ≤ (k : Int) := by omega
              by_cases hc2 : 4294967296 * rr + v0 < pp
              · have hi2 : (4294967296 : Int) * (rr : Int) + (v0 : Int) < (pp : Int) := by omega
                have hst := HG.out.step (by assumption) (by have := HY.out; have := HU2.out; omega) (.inr (by rw [HP.out]; exact hc2))
                have hq0 := hst.1
                have HST : Hid _ := hst.2
                clear hst
                obtain ⟨rr2, e7⟩ : ∃ rr2, rr + y1 = rr2 := ⟨_, rfl⟩
                have e8 : (rr : Int) + (y1 : Int) = (rr2 : Int) := by omega
                have hl2 : rr2 < 18446744073709551616 := by have := HY.out; have := HS.out; omega
                by_cases hr2 : 4294967296 ≤ rr + y1
                · have hi3 : (4294967296 : Int) ≤ (rr2 : Int) := by omega
                  have hq := HST.out.over (by have := HY.out; have := HS.out; omega) a3 (by omega) hr2
                  have hql := Nat.lt_of_le_of_lt (Nat.le_of_eq hq) (_root_.Rad.guess_lt (by assumption) (by have := HY.out; have := HU2.out; omega))
                  obtain ⟨km, hqm⟩ : ∃ z, z = k - 1 := ⟨k - 1, rfl⟩
                  rw [← hqm] at hq hql
                  have e9 : (k : Int) - 1 = (km : Int) := by omega
                  clear HG HP HST hqm
                  obtain ⟨U3, hU3⟩ : ∃ n, n = (U2 * 4294967296 + v0) % Y := ⟨_, rfl⟩
                  have HU3 : Hid (U3 < Y) := by
                    show U3 < Y
                    rw [hU3]; exact Nat.mod_lt _ (by have := HS.out; omega)
                  have hdm : km * Y + U3 = U2 * 4294967296 + v0 := by
                    have h1 := Nat.div_add_mod (U2 * 4294967296 + v0) Y
                    rw [Nat.mul_comm, ← HY.out, ← hq, HY.out, ← hU3] at h1
                    exact h1
                  have Hq2 : Hid ((U2 * 4294967296 + v0) / Y = km ∧ (U2 * 4294967296 + v0) % Y = U3) := by
                    refine ⟨?_, hU3.symm⟩
                    rw [← HY.out]; exact hq.symm
                  obtain ⟨A, hA⟩ : ∃ n, n = lo (U2 * 4294967296) := ⟨_, rfl⟩
                  obtain ⟨A2, hA2⟩ : ∃ n, n = lo (A + v0) := ⟨_, rfl⟩
                  obtain ⟨P2, hP2⟩ : ∃ n, n = lo (km * Y) := ⟨_, rfl⟩
                  have f1 : IntKind.u64.wrap ((U2 : Int) * 4294967296) = (A : Int) := by rw [hA, ← wrap_u64_nat, Int.natCast_mul]; rfl
                  have f2 : IntKind.u64.wrap ((A : Int) + (v0 : Int)) = (A2 : Int) := by rw [hA2, ← wrap_u64_nat, Int.natCast_add]
                  have f3 : IntKind.u64.wrap ((km : Int) * (Y : Int)) = (P2 : Int) := by rw [hP2, ← wrap_u64_nat, Int.natCast_mul]
                  have f4 : IntKind.u64.wrap ((A2 : Int) - (P2 : Int)) = (U3 : Int) := by
                    have h1 := HS.out
                    have h2 := HU3.out
                    clear hq hU3 f1 f2 f3
                    rw [IntKind.wrap_u64, hP2, hA2, hA]
                    unfold lo
                    generalize km * Y = z at *
                    omega
                  clear hA hA2 hP2 hdm hU3 hq
                  have Hql : Hid _ := hql
                  clear hql
                  have HQL2 := Hql
                  clear Hql
                  have g1 : IntKind.u64.wrap ((qm : Int) * 4294967296) = ((qm * 4294967296 : Nat) : Int) := by
                    have := HQL.out
                    rw [IntKind.wrap_u64]; omega
                  have g2 : IntKind.u64.wrap (((qm * 4294967296 : Nat) : Int) + (km : Int)) = (QQ : Int) := by
                    have h1 := HQL.out
                    have h2 := HQL2.out
                    have h3 := (_root_.Rad.two_digits (h := 4294967296) (u := U) (d1 := v1) (d0 := v0) (y := Y)).1
                    rw [Hq1.out.1, Hq1.out.2, Hq2.out.1] at h3
                    have h4 : U * (4294967296 * 4294967296) + v1 * 4294967296 + v0 = U * B + V := by
                      rw [← HV.out]; unfold B; omega
                    rw [h4, HQ1.out] at h3
                    rw [IntKind.wrap_u64]; omega
                  have g4 : IntKind.u64.wrap ((qm : Int) * 4294967296 + (km : Int)) = (QQ : Int) := by
                    rw [← g2, Int.natCast_mul]; rfl
                  have g3 : (U3 : Int) / 2 ^ s = (RR : Int) := by
                    rw [shr_nat]
                    have h3 := (_root_.Rad.two_digits (h := 4294967296) (u := U) (d1 := v1) (d0 := v0) (y := Y)).2
                    rw [Hq1.out.2, Hq2.out.2] at h3
                    have h4 : U * (4294967296 * 4294967296) + v1 * 4294967296 + v0 = U * B + V := by
                      rw [← HV.out]; unfold B; omega
                    rw [h4, HQ2.out] at h3
                    rw [← h3, Nat.mul_div_cancel_left _ (Nat.pow_pos (by decide))]
                  go_wp2
                  try simp only [f1, f2, f3, f4, g4, g1, g2, g3]
                  go_ret2
                  exact ⟨rfl, 0, rfl⟩
                · have hi3 : ¬ (4294967296 : Int) ≤ (rr2 : Int) := by omega
                  clear hc1 hc2
                  go_wp2
                  go_round
                  case rel => exact ⟨k - 1, rr + y1, by go_num, by rw [← e8]; go_num, by omega, HST.out⟩
                  case measure => simp [intOf]; omega
              · have hi2 : ¬ (4294967296 : Int) * (rr : Int) + (v0 : Int) < (pp : Int) := by omega
                have hq := HG.out.done (by have := HY.out; have := HS.out; omega) (by rw [HP.out]; omega)
                have hql : k < 4294967296 := by omega
                clear hgl
                obtain ⟨U3, hU3⟩ : ∃ n, n = (U2 * 4294967296 + v0) % Y := ⟨_, rfl⟩
                have HU3 : Hid (U3 < Y) := by
                  show U3 < Y
                  rw [hU3]; exact Nat.mod_lt _ (by have := HS.out; omega)
                have hdm : k * Y + U3 = U2 * 4294967296 + v0 := by
                  have h1 := Nat.div_add_mod (U2 * 4294967296 + v0) Y
                  rw [Nat.mul_comm, ← HY.out, ← hq, HY.out, ← hU3] at h1
                  exact h1
                have Hq2 : Hid ((U2 * 4294967296 + v0) / Y = k ∧ (U2 * 4294967296 + v0) % Y = U3) := by
                  refine ⟨?_, hU3.symm⟩
                  rw [← HY.out]; exact hq.symm
                obtain ⟨A, hA⟩ : ∃ n, n = lo (U2 * 4294967296) := ⟨_, rfl⟩
                obtain ⟨A2, hA2⟩ : ∃ n, n = lo (A + v0) := ⟨_, rfl⟩
                obtain ⟨P2, hP2⟩ : ∃ n, n = lo (k * Y) := ⟨_, rfl⟩
                have f1 : IntKind.u64.wrap ((U2 : Int) * 4294967296) = (A : Int) := by rw [hA, ← wrap_u64_nat, Int.natCast_mul]; rfl
                have f2 : IntKind.u64.wrap ((A : Int) + (v0 : Int)) = (A2 : Int) := by rw [hA2, ← wrap_u64_nat, Int.natCast_add]
                have f3 : IntKind.u64.wrap ((k : Int) * (Y : Int)) = (P2 : Int) := by rw [hP2, ← wrap_u64_nat, Int.natCast_mul]
                have f4 : IntKind.u64.wrap ((A2 : Int) - (P2 : Int)) = (U3 : Int) := by
                  have h1 := HS.out
                  have h2 := HU3.out
                  clear hq hU3 f1 f2 f3
                  rw [IntKind.wrap_u64, hP2, hA2, hA]
                  unfold lo
                  generalize k * Y = z at *
                  omega
                clear HG HP hc1 hc2 hA hA2 hP2 hdm hU3 hq
                have Hql : Hid _ := hql
                clear hql
                have HQL2 := Hql
                clear Hql
                have g1 : IntKind.u64.wrap ((qm : Int) * 4294967296) = ((qm * 4294967296 : Nat) : Int) := by
                  have := HQL.out
                  rw [IntKind.wrap_u64]; omega
                have g2 : IntKind.u64.wrap (((qm * 4294967296 : Nat) : Int) + (k : Int)) = (QQ : Int) := by
                  have h1 := HQL.out
                  have h2 := HQL2.out
                  have h3 := (_root_.Rad.two_digits (h := 4294967296) (u := U) (d1 := v1) (d0 := v0) (y := Y)).1
                  rw [Hq1.out.1, Hq1.out.2, Hq2.out.1] at h3
                  have h4 : U * (4294967296 * 4294967296) + v1 * 4294967296 + v0 = U * B + V := by
                    rw [← HV.out]; unfold B; omega
                  rw [h4, HQ1.out] at h3
                  rw [IntKind.wrap_u64]; omega
                have g4 : IntKind.u64.wrap ((qm : Int) * 4294967296 + (k : Int)) = (QQ : Int) := by
                  rw [← g2, Int.natCast_mul]; rfl
                have g3 : (U3 : Int) / 2 ^ s = (RR : Int) := by
                  rw [shr_nat]
                  have h3 := (_root_.Rad.two_digits (h := 4294967296) (u := U) (d1 := v1) (d0 := v0) (y := Y)).2
                  rw [Hq1.out.2, Hq2.out.2] at h3
                  have h4 : U * (4294967296 * 4294967296) + v1 * 4294967296 + v0 = U * B + V := by
                    rw [← HV.out]; unfold B; omega
                  rw [h4, HQ2.out] at h3
                  rw [← h3, Nat.mul_div_cancel_left _ (Nat.pow_pos (by decide))]
                go_wp2
                try simp only [f1, f2, f3, f4, g4, g1, g2, g3]
                go_ret2
                exact ⟨rfl, 0, rfl⟩
        · have hi3 : ¬ (4294967296 : Int) ≤ (r2 : Int) := by omega
          clear hc1
          go_wp2
          go_round
          case rel => exact ⟨q - 1, r + y1, by go_num, by rw [← e8]; go_num, by omega, HST.out⟩
          case measure => simp [intOf]; omega
      · have hi1 : ¬ (4294967296 : Int) ≤ (q : Int) := by omega
        by_cases hc2 : 4294967296 * r + v1 < p
        · have hi2 : (4294967296 : Int) * (r : Int) + (v1 : Int) < (p : Int) := by omega
          have hst := HG.out.step (by assumption) (by have := HY.out; have := HUU.out; omega) (.inr (by rw [HP.out]; exact hc2))
          have hq0 := hst.1
          have HST : Hid _ := hst.2
          clear hst
          obtain ⟨r2, e7⟩ : ∃ r2, r + y1 = r2 := ⟨_, rfl⟩
          have e8 : (r : Int) + (y1 : Int) = (r2 : Int) := by omega
          have hl2 : r2 < 18446744073709551616 := by have := HY.out; have := HS.out; omega
          by_cases hr2 : 4294967296 ≤ r + y1
          · have hi3 : (4294967296 : Int) ≤ (r2 : Int) := by omega
            have hq := HST.out.over (by have := HY.out; have := HS.out; omega) a3 (by omega) hr2
            have hql := Nat.lt_of_le_of_lt (Nat.le_of_eq hq) (_root_.Rad.guess_lt (by assumption) (by have := HY.out; have := HUU.out; omega))
            obtain ⟨qm, hqm⟩ : ∃ z, z = q - 1 := ⟨q - 1, rfl⟩
            rw [← hqm] at hq hql
            have e9 : (q : Int) - 1 = (qm : Int) := by omega
            clear HG HP HST hqm
            obtain ⟨U2, hU2⟩ : ∃ n, n = (U * 4294967296 + v1) % Y := ⟨_, rfl⟩
            have HU2 : Hid (U2 < Y) := by
              show U2 < Y
              rw [hU2]; exact Nat.mod_lt _ (by have := HS.out; omega)
            have hdm : qm * Y + U2 = U * 4294967296 + v1 := by
              have h1 := Nat.div_add_mod (U * 4294967296 + v1) Y
              rw [Nat.mul_comm, ← HY.out, ← hq, HY.out, ← hU2] at h1
              exact h1
            have Hq1 : Hid ((U * 4294967296 + v1) / Y = qm ∧ (U * 4294967296 + v1) % Y = U2) := by
              refine ⟨?_, hU2.symm⟩
              rw [← HY.out]; exact hq.symm
            obtain ⟨A, hA⟩ : ∃ n, n = lo (U * 4294967296) := ⟨_, rfl⟩
            obtain ⟨A2, hA2⟩ : ∃ n, n = lo (A + v1) := ⟨_, rfl⟩
            obtain ⟨P2, hP2⟩ : ∃ n, n = lo (qm * Y) := ⟨_, rfl⟩
            have f1 : IntKind.u64.wrap ((U : Int) * 4294967296) = (A : Int) := by rw [hA, ← wrap_u64_nat, Int.natCast_mul]; rfl
            have f2 : IntKind.u64.wrap ((A : Int) + (v1 : Int)) = (A2 : Int) := by rw [hA2, ← wrap_u64_nat, Int.natCast_add]
            have f3 : IntKind.u64.wrap ((qm : Int) * (Y : Int)) = (P2 : Int) := by rw [hP2, ← wrap_u64_nat, Int.natCast_mul]
            have f4 : IntKind.u64.wrap ((A2 : Int) - (P2 : Int)) = (U2 : Int) := by
              have h1 := HS.out
              have h2 := HU2.out
              clear hq hU2 f1 f2 f3
              rw [IntKind.wrap_u64, hP2, hA2, hA]
              unfold lo
              generalize qm * Y = z at *
              omega
            clear hA hA2 hP2 hdm hU2 hq
            have Hql : Hid _ := hql
            clear hql
            have HQL := Hql
            clear Hql
            go_wp2
            clear ep hpl hi3 e7 e8 e9 hl2 hq0 hr2 f1 f2 f3 f4
            go_loop [16, 18] (fun r q => ∃ q' r' : Nat, q = .int .u64 (q' : Int) ∧ r = .int .u64 (r' : Int) ∧ r' < 4294967296 ∧ _root_.Rad.Guess 4294967296 y1 y0 U2 v0 q' r') (fun _ q => (intOf q).toNat)
            case atStart =>
              have e3 := wrapN (U2 / y1) (by have := Nat.div_le_self U2 y1; have := HS.out; have := HU2.out; omega)
              have e4 := wrapN (U2 / y1 * y1) (by have := Nat.div_mul_le_self U2 y1; have := HS.out; have := HU2.out; omega)
              have e5 := wrapN (U2 % y1) (by have := Nat.mod_lt U2 (show 0 < y1 by omega); have := HS.out; have := HY.out; omega)
              have e6 : ((U2 : Nat) : Int) - ((U2 / y1 * y1 : Nat) : Int) = ((U2 % y1 : Nat) : Int) := by
                have h1 := Nat.div_add_mod U2 y1
                rw [Nat.mul_comm] at h1
                omega
              have hg := _root_.Rad.guess_start (h := 4294967296) (y1 := y1) (y0 := y0) (u := U2) (d := v0) (by omega) a3 (by assumption) (by have := HY.out; have := HU2.out; omega)
              have hr := Nat.mod_lt U2 (show 0 < y1 by omega)
              refine ⟨U2 / y1, U2 % y1, ?_, ?_, by have := HS.out; have := HY.out; omega, hg⟩
              · rw [← Int.natCast_ediv, e3]
              · rw [← Int.natCast_ediv, e3, mulN, e4, e6, e5]
            case round =>
              obtain ⟨k, rr, rfl, rfl, hr, hg⟩ := hrel
              have hgl : k ≤ 4294967297 := hg.le
              have hqy := Nat.mul_le_mul hgl (show y0 ≤ 4294967295 by omega)
              obtain ⟨pp, hp⟩ : ∃ pp, k * y0 = pp := ⟨_, rfl⟩
              have ep : (k : Int) * (y0 : Int) = (pp : Int) := by rw [mulN, hp]
              have hpl : pp < 18446744073709551616 := by omega
              have HG : Hid (_root_.Rad.Guess 4294967296 y1 y0 U2 v0 k rr) := hg
              have HP : Hid (k * y0 = pp) := hp
              clear hg hp hqy
              by_cases hc1 : 4294967296 ≤ k
              · have hi1 : (4294967296 : Int) ≤ (k : Int) := by omega
                have hst := HG.out.step (by assumption) (by have := HY.out; have := HU2.out; omega) (.inl hc1)
                have hq0 := hst.1
                have HST : Hid _ := hst.2
                clear hst
                obtain ⟨rr2, e7⟩ : ∃ rr2, rr + y1 = rr2 := ⟨_, rfl⟩
                have e8 : (rr : Int) + (y1 : Int) = (rr2 : Int) := by omega
                have hl2 : rr2 < 18446744073709551616 := by have := HY.out; have := HS.out; omega
                by_cases hr2 : 4294967296 ≤ rr + y1
                · have hi3 : (4294967296 : Int) ≤ (rr2 : Int) := by omega
                  have hq := HST.out.over (by have := HY.out; have := HS.out; omega) a3 (by omega) hr2
                  have hql := Nat.lt_of_le_of_lt (Nat.le_of_eq hq) (_root_.Rad.guess_lt (by assumption) (by have := HY.out; have := HU2.out; omega))
                  obtain ⟨km, hqm⟩ : ∃ z, z = k - 1 := ⟨k - 1, rfl⟩
                  rw [← hqm] at hq hql
                  have e9 : (k : Int) - 1 = (km : Int) := by omega
                  clear HG HP HST hqm
                  obtain ⟨U3, hU3⟩ : ∃ n, n = (U2 * 4294967296 + v0) % Y := ⟨_, rfl⟩
                  have HU3 : Hid (U3 < Y) := by
                    show U3 < Y
                    rw [hU3]; exact Nat.mod_lt _ (by have := HS.out; omega)
                  have hdm : km * Y + U3 = U2 * 4294967296 + v0 := by
                    have h1 := Nat.div_add_mod (U2 * 4294967296 + v0) Y
                    rw [Nat.mul_comm, ← HY.out, ← hq, HY.out, ← hU3] at h1
                    exact h1
                  have Hq2 : Hid ((U2 * 4294967296 + v0) / Y = km ∧ (U2 * 4294967296 + v0) % Y = U3) := by
                    refine ⟨?_, hU3.symm⟩
                    rw [← HY.out]; exact hq.symm
                  obtain ⟨A, hA⟩ : ∃ n, n = lo (U2 * 4294967296) := ⟨_, rfl⟩
                  obtain ⟨A2, hA2⟩ : ∃ n, n = lo (A + v0) := ⟨_, rfl⟩
                  obtain ⟨P2, hP2⟩ : ∃ n, n = lo (km * Y) := ⟨_, rfl⟩
                  have f1 : IntKind.u64.wrap ((U2 : Int) * 4294967296) = (A : Int) := by rw [hA, ← wrap_u64_nat, Int.natCast_mul]; rfl
                  have f2 : IntKind.u64.wrap ((A : Int) + (v0 : Int)) = (A2 : Int) := by rw [hA2, ← wrap_u64_nat, Int.natCast_add]
                  have f3 : IntKind.u64.wrap ((km : Int) * (Y : Int)) = (P2 : Int) := by rw [hP2, ← wrap_u64_nat, Int.natCast_mul]
                  have f4 : IntKind.u64.wrap ((A2 : Int) - (P2 : Int)) = (U3 : Int) := by
                    have h1 := HS.out
                    have h2 := HU3.out
                    clear hq hU3 f1 f2 f3
                    rw [IntKind.wrap_u64, hP2, hA2, hA]
                    unfold lo
                    generalize km * Y = z at *
                    omega
                  clear hA hA2 hP2 hdm hU3 hq
                  have Hql : Hid _ := hql
                  clear hql
                  have HQL2 := Hql
                  clear Hql
                  have g1 : IntKind.u64.wrap ((qm : Int) * 4294967296) = ((qm * 4294967296 : Nat) : Int) := by
                    have := HQL.out
                    rw [IntKind.wrap_u64]; omega
                  have g2 : IntKind.u64.wrap (((qm * 4294967296 : Nat) : Int) + (km : Int)) = (QQ : Int) := by
                    have h1 := HQL.out
                    have h2 := HQL2.out
                    have h3 := (_root_.Rad.two_digits (h := 4294967296) (u := U) (d1 := v1) (d0 := v0) (y := Y)).1
                    rw [Hq1.out.1, Hq1.out.2, Hq2.out.1] at h3
                    have h4 : U * (4294967296 * 4294967296) + v1 * 4294967296 + v0 = U * B + V := by
                      rw [← HV.out]; unfold B; omega
                    rw [h4, HQ1.out] at h3
                    rw [IntKind.wrap_u64]; omega
                  have g4 : IntKind.u64.wrap ((qm : Int) * 4294967296 + (km : Int)) = (QQ : Int) := by
                    rw [← g2, Int.natCast_mul]; rfl
                  have g3 : (U3 : Int) / 2 ^ s = (RR : Int) := by
                    rw [shr_nat]
                    have h3 := (_root_.Rad.two_digits (h := 4294967296) (u := U) (d1 := v1) (d0 := v0) (y := Y)).2
                    rw [Hq1.out.2, Hq2.out.2] at h3
                    have h4 : U * (4294967296 * 4294967296) + v1 * 4294967296 + v0 = U * B + V := by
                      rw [← HV.out]; unfold B; omega
                    rw [h4, HQ2.out] at h3
                    rw [← h3, Nat.mul_div_cancel_left _ (Nat.pow_pos (by decide))]
                  go_wp2
                  try simp only [f1, f2, f3, f4, g4, g1, g2, g3]
                  go_ret2
                  exact ⟨rfl, 0, rfl⟩
                · have hi3 : ¬ (4294967296 : Int) ≤ (rr2 : Int) := by omega
                  clear hc1
                  go_wp2
                  go_round
                  case rel => exact ⟨k - 1, rr + y1, by go_num, by rw [← e8]; go_num, by omega, HST.out⟩
                  case measure => simp [intOf]; omega
              · have hi1 : ¬ (4294967296 : Int) ≤ (k : Int) := by omega
                by_cases hc2 : 4294967296 * rr + v0 < pp
                · have hi2 : (4294967296 : Int) * (rr : Int) + (v0 : Int) < (pp : Int) := by omega
                  have hst := HG.out.step (by assumption) (by have := HY.out; have := HU2.out; omega) (.inr (by rw [HP.out]; exact hc2))
                  have hq0 := hst.1
                  have HST : Hid _ := hst.2
                  clear hst
                  obtain ⟨rr2, e7⟩ : ∃ rr2, rr + y1 = rr2 := ⟨_, rfl⟩
                  have e8 : (rr : Int) + (y1 : Int) = (rr2 : Int) := by omega
                  have hl2 : rr2 < 18446744073709551616 := by have := HY.out; have := HS.out; omega
                  by_cases hr2 : 4294967296 ≤ rr + y1
                  · have hi3 : (4294967296 : Int) ≤ (rr2 : Int) := by omega
                    have hq := HST.out.over (by have := HY.out; have := HS.out; omega) a3 (by omega) hr2
                    have hql := Nat.lt_of_le_of_lt (Nat.le_of_eq hq) (_root_.Rad.guess_lt (by assumption) (by have := HY.out; have := HU2.out; omega))
                    obtain ⟨km, hqm⟩ : ∃ z, z = k - 1 := ⟨k - 1, rfl⟩
                    rw [← hqm] at hq hql
                    have e9 : (k : Int) - 1 = (km : Int) := by omega
                    clear HG HP HST hqm
                    obtain ⟨U3, hU3⟩ : ∃ n, n = (U2 * 4294967296 + v0) % Y := ⟨_, rfl⟩
                    have HU3 : Hid (U3 < Y) := by
                      show U3 < Y
                      rw [hU3]; exact Nat.mod_lt _ (by have := HS.out; omega)
                    have hdm : km * Y + U3 = U2 * 4294967296 + v0 := by
                      have h1 := Nat.div_add_mod (U2 * 4294967296 + v0) Y
                      rw [Nat.mul_comm, ← HY.out, ← hq, HY.out, ← hU3] at h1
                      exact h1
                    have Hq2 : Hid ((U2 * 4294967296 + v0) / Y = km ∧ (U2 * 4294967296 + v0) % Y = U3) := by
                      refine ⟨?_, hU3.symm⟩
                      rw [← HY.out]; exact hq.symm
                    obtain ⟨A, hA⟩ : ∃ n, n = lo (U2 * 4294967296) := ⟨_, rfl⟩
                    obtain ⟨A2, hA2⟩ : ∃ n, n = lo (A + v0) := ⟨_, rfl⟩
                    obtain ⟨P2, hP2⟩ : ∃ n, n = lo (km * Y) := ⟨_, rfl⟩
                    have f1 : IntKind.u64.wrap ((U2 : Int) * 4294967296) = (A : Int) := by rw [hA, ← wrap_u64_nat, Int.natCast_mul]; rfl
                    have f2 : IntKind.u64.wrap ((A : Int) + (v0 : Int)) = (A2 : Int) := by rw [hA2, ← wrap_u64_nat, Int.natCast_add]
                    have f3 : IntKind.u64.wrap ((km : Int) * (Y : Int)) = (P2 : Int) := by rw [hP2, ← wrap_u64_nat, Int.natCast_mul]
                    have f4 : IntKind.u64.wrap ((A2 : Int) - (P2 : Int)) = (U3 : Int) := by
                      have h1 := HS.out
                      have h2 := HU3.out
                      clear hq hU3 f1 f2 f3
                      rw [IntKind.wrap_u64, hP2, hA2, hA]
                      unfold lo
                      generalize km * Y = z at *
                      omega
                    clear hA hA2 hP2 hdm hU3 hq
                    have Hql : Hid _ := hql
                    clear hql
                    have HQL2 := Hql
                    clear Hql
                    have g1 : IntKind.u64.wrap ((qm : Int) * 4294967296) = ((qm * 4294967296 : Nat) : Int) := by
                      have := HQL.out
                      rw [IntKind.wrap_u64]; omega
                    have g2 : IntKind.u64.wrap (((qm * 4294967296 : Nat) : Int) + (km : Int)) = (QQ : Int) := by
                      have h1 := HQL.out
                      have h2 := HQL2.out
                      have h3 := (_root_.Rad.two_digits (h := 4294967296) (u := U) (d1 := v1) (d0 := v0) (y := Y)).1
                      rw [Hq1.out.1, Hq1.out.2, Hq2.out.1] at h3
                      have h4 : U * (4294967296 * 4294967296) + v1 * 4294967296 + v0 = U * B + V := by
                        rw [← HV.out]; unfold B; omega
                      rw [h4, HQ1.out] at h3
                      rw [IntKind.wrap_u64]; omega
                    have g4 : IntKind.u64.wrap ((qm : Int) * 4294967296 + (km : Int)) = (QQ : Int) := by
                      rw [← g2, Int.natCast_mul]; rfl
                    have g3 : (U3 : Int) / 2 ^ s = (RR : Int) := by
                      rw [shr_nat]
                      have h3 := (_root_.Rad.two_digits (h := 4294967296) (u := U) (d1 := v1) (d0 := v0) (y := Y)).2
                      rw [Hq1.out.2, Hq2.out.2] at h3
                      have h4 : U * (4294967296 * 4294967296) + v1 * 4294967296 + v0 = U * B + V := by
                        rw [← HV.out]; unfold B; omega
                      rw [h4, HQ2.out] at h3
                      rw [← h3, Nat.mul_div_cancel_left _ (Nat.pow_pos (by decide))]
                    go_wp2
                    try simp only [f1, f2, f3, f4, g4, g1, g2, g3]
                    go_ret2
                    exact ⟨rfl, 0, rfl⟩
                  · have hi3 : ¬ (4294967296 : Int) ≤ (rr2 : Int) := by omega
                    clear hc1 hc2
                    go_wp2
                    go_round
                    case rel => exact ⟨k - 1, rr + y1, by go_num, by rw [← e8]; go_num, by omega, HST.out⟩
                    case measure => simp [intOf]; omega
                · have hi2 : ¬ (4294967296 : Int) * (rr : Int) + (v0 : Int) < (pp : Int) := by omega
                  have hq := HG.out.done (by have := HY.out; have := HS.out; omega) (by rw [HP.out]; omega)
                  have hql : k < 4294967296 := by omega
                  clear hgl
                  obtain ⟨U3, hU3⟩ : ∃ n, n = (U2 * 4294967296 + v0) % Y := ⟨_, rfl⟩
                  have HU3 : Hid (U3 < Y) := by
                    show U3 < Y
                    rw [hU3]; exact Nat.mod_lt _ (by have := HS.out; omega)
                  have hdm : k * Y + U3 = U2 * 4294967296 + v0 := by
                    have h1 := Nat.div_add_mod (U2 * 4294967296 + v0) Y
                    rw [Nat.mul_comm, ← HY.out, ← hq, HY.out, ← hU3] at h1
                    exact h1
                  have Hq2 : Hid ((U2 * 4294967296 + v0) / Y = k ∧ (U2 * 4294967296 + v0) % Y = U3) := by
                    refine ⟨?_, hU3.symm⟩
                    rw [← HY.out]; exact hq.symm
                  obtain ⟨A, hA⟩ : ∃ n, n = lo (U2 * 4294967296) := ⟨_, rfl⟩
                  obtain ⟨A2, hA2⟩ : ∃ n, n = lo (A + v0) := ⟨_, rfl⟩
                  obtain ⟨P2, hP2⟩ : ∃ n, n = lo (k * Y) := ⟨_, rfl⟩
                  have f1 : IntKind.u64.wrap ((U2 : Int) * 4294967296) = (A : Int) := by rw [hA, ← wrap_u64_nat, Int.natCast_mul]; rfl
                  have f2 : IntKind.u64.wrap ((A : Int) + (v0 : Int)) = (A2 : Int) := by rw [hA2, ← wrap_u64_nat, Int.natCast_add]
                  have f3 : IntKind.u64.wrap ((k : Int) * (Y : Int)) = (P2 : Int) := by rw [hP2, ← wrap_u64_nat, Int.natCast_mul]
                  have f4 : IntKind.u64.wrap ((A2 : Int) - (P2 : Int)) = (U3 : Int) := by
                    have h1 := HS.out
                    have h2 := HU3.out
                    clear hq hU3 f1 f2 f3
                    rw [IntKind.wrap_u64, hP2, hA2, hA]
                    unfold lo
                    generalize k * Y = z at *
                    omega
                  clear HG HP hc1 hc2 hA hA2 hP2 hdm hU3 hq
                  have Hql : Hid _ := hql
                  clear hql
                  have HQL2 := Hql
                  clear Hql
                  have g1 : IntKind.u64.wrap ((qm : Int) * 4294967296) = ((qm * 4294967296 : Nat) : Int) := by
                    have := HQL.out
                    rw [IntKind.wrap_u64]; omega
                  have g2 : IntKind.u64.wrap (((qm * 4294967296 : Nat) : Int) + (k : Int)) = (QQ : Int) := by
                    have h1 := HQL.out
                    have h2 := HQL2.out
                    have h3 := (_root_.Rad.two_digits (h := 4294967296) (u := U) (d1 := v1) (d0 := v0) (y := Y)).1
                    rw [Hq1.out.1, Hq1.out.2, Hq2.out.1] at h3
                    have h4 : U * (4294967296 * 4294967296) + v1 * 4294967296 + v0 = U * B + V := by
                      rw [← HV.out]; unfold B; omega
                    rw [h4, HQ1.out] at h3
                    rw [IntKind.wrap_u64]; omega
                  have g4 : IntKind.u64.wrap ((qm : Int) * 4294967296 + (k : Int)) = (QQ : Int) := by
                    rw [← g2, Int.natCast_mul]; rfl
                  have g3 : (U3 : Int) / 2 ^ s = (RR : Int) := by
                    rw [shr_nat]
                    have h3 := (_root_.Rad.two_digits (h := 4294967296) (u := U) (d1 := v1) (d0 := v0) (y := Y)).2
                    rw [Hq1.out.2, Hq2.out.2] at h3
                    have h4 : U * (4294967296 * 4294967296) + v1 * 4294967296 + v0 = U * B + V := by
                      rw [← HV.out]; unfold B; omega
                    rw [h4, HQ2.out] at h3
                    rw [← h3, Nat.mul_div_cancel_left _ (Nat.pow_pos (by decide))]
                  go_wp2
                  try simp only [f1, f2, f3, f4, g4, g1, g2, g3]
                  go_ret2
                  exact ⟨rfl, 0, rfl⟩
          · have hi3 : ¬ (4294967296 : Int) ≤ (r2 : Int) := by omega
            clear hc1 hc2
            go_wp2
            go_round
            case rel => exact ⟨q - 1, r + y1, by go_num, by rw [← e8]; go_num, by omega, HST.out⟩
            case measure => simp [intOf]; omega
        · have hi2 : ¬ (4294967296 : Int) * (r : Int) + (v1 : Int) < (p : Int) := by omega
          have hq := HG.out.done (by have := HY.out; have := HS.out; omega) (by rw [HP.out]; omega)
          have hql : q < 4294967296 := by omega
          clear hgl
          obtain ⟨U2, hU2⟩ : ∃ n, n = (U * 4294967296 + v1) % Y := ⟨_, rfl⟩
          have HU2 : Hid (U2 < Y) := by
            show U2 < Y
            rw [hU2]; exact Nat.mod_lt _ (by have := HS.out; omega)
          have hdm : q * Y + U2 = U * 4294967296 + v1 := by
            have h1 := Nat.div_add_mod (U * 4294967296 + v1) Y
            rw [Nat.mul_comm, ← HY.out, ← hq, HY.out, ← hU2] at h1
            exact h1
          have Hq1 : Hid ((U * 4294967296 + v1) / Y = q ∧ (U * 4294967296 + v1) % Y = U2) := by
            refine ⟨?_, hU2.symm⟩
            rw [← HY.out]; exact hq.symm
          obtain ⟨A, hA⟩ : ∃ n, n = lo (U * 4294967296) := ⟨_, rfl⟩
          obtain ⟨A2, hA2⟩ : ∃ n, n = lo (A + v1) := ⟨_, rfl⟩
          obtain ⟨P2, hP2⟩ : ∃ n, n = lo (q * Y) := ⟨_, rfl⟩
          have f1 : IntKind.u64.wrap ((U : Int) * 4294967296) = (A : Int) := by rw [hA, ← wrap_u64_nat, Int.natCast_mul]; rfl
          have f2 : IntKind.u64.wrap ((A : Int) + (v1 : Int)) = (A2 : Int) := by rw [hA2, ← wrap_u64_nat, Int.natCast_add]
          have f3 : IntKind.u64.wrap ((q : Int) * (Y : Int)) = (P2 : Int) := by rw [hP2, ← wrap_u64_nat, Int.natCast_mul]
          have f4 : IntKind.u64.wrap ((A2 : Int) - (P2 : Int)) = (U2 : Int) := by
            have h1 := HS.out
            have h2 := HU2.out
            clear hq hU2 f1 f2 f3
            rw [IntKind.wrap_u64, hP2, hA2, hA]
            unfold lo
            generalize q * Y = z at *
            omega
          clear HG HP hc1 hc2 hA hA2 hP2 hdm hU2 hq
          have Hql : Hid _ := hql
          clear hql
          have HQL := Hql
          clear Hql
          go_wp2
          clear ep hpl hi1 hi2 hr f1 f2 f3 f4
          go_loop [16, 18] (fun r q => ∃ q' r' : Nat, q = .int .u64 (q' : Int) ∧ r = .int .u64 (r' : Int) ∧ r' < 4294967296 ∧ _root_.Rad.Guess 4294967296 y1 y0 U2 v0 q' r') (fun _ q => (intOf q).toNat)
          case atStart =>
            have e3 := wrapN (U2 / y1) (by have := Nat.div_le_self U2 y1; have := HS.out; have := HU2.out; omega)
            have e4 := wrapN (U2 / y1 * y1) (by have := Nat.div_mul_le_self U2 y1; have := HS.out; have := HU2.out; omega)
            have e5 := wrapN (U2 % y1) (by have := Nat.mod_lt U2 (show 0 < y1 by omega); have := HS.out; have := HY.out; omega)
            have e6 : ((U2 : Nat) : Int) - ((U2 / y1 * y1 : Nat) : Int) = ((U2 % y1 : Nat) : Int) := by
              have h1 := Nat.div_add_mod U2 y1
              rw [Nat.mul_comm] at h1
              omega
            have hg := _root_.Rad.guess_start (h := 4294967296) (y1 := y1) (y0 := y0) (u := U2) (d := v0) (by omega) a3 (by assumption) (by have := HY.out; have := HU2.out; omega)
            have hr := Nat.mod_lt U2 (show 0 < y1 by omega)
            refine ⟨U2 / y1, U2 % y1, ?_, ?_, by have := HS.out; have := HY.out; omega, hg⟩
            · rw [← Int.natCast_ediv, e3]
            · rw [← Int.natCast_ediv, e3, mulN, e4, e6, e5]
          case round =>
            obtain ⟨k, rr, rfl, rfl, hr, hg⟩ := hrel
            have hgl : k ≤ 4294967297 := hg.le
            have hqy := Nat.mul_le_mul hgl (show y0 ≤ 4294967295 by omega)
            obtain ⟨pp, hp⟩ : ∃ pp, k * y0 = pp := ⟨_, rfl⟩
            have ep : (k : Int) * (y0 : Int) = (pp : Int) := by rw [mulN, hp]
            have hpl : pp < 18446744073709551616 := by omega
            have HG : Hid (_root_.Rad.Guess 4294967296 y1 y0 U2 v0 k rr) := hg
            have HP : Hid (k * y0 = pp) := hp
            clear hg hp hqy
            by_cases hc1 : 4294967296 ≤ k
            · have hi1 : (4294967296 : Int) ≤ (k : Int) := by omega
              have hst := HG.out.step (by assumption) (by have := HY.out; have := HU2.out; omega) (.inl hc1)
              have hq0 := hst.1
              have HST : Hid _ := hst.2
              clear hst
              obtain ⟨rr2, e7⟩ : ∃ rr2, rr + y1 = rr2 := ⟨_, rfl⟩
              have e8 : (rr : Int) + (y1 : Int) = (rr2 : Int) := by omega
              have hl2 : rr2 < 18446744073709551616 := by have := HY.out; have := HS.out; omega
              by_cases hr2 : 4294967296 ≤ rr + y1
              · have hi3 : (4294967296 : Int) ≤ (rr2 : Int) := by omega
                have hq := HST.out.over (by have := HY.out; have := HS.out; omega) a3 (by omega) hr2
                have hql := Nat.lt_of_le_of_lt (Nat.le_of_eq hq) (_root_.Rad.guess_lt (by assumption) (by have := HY.out; have := HU2.out; omega))
                obtain ⟨km, hqm⟩ : ∃ z, z = k - 1 := ⟨k - 1, rfl⟩
                rw [← hqm] at hq hql
                have e9 : (k : Int) - 1 = (km : Int) := by omega
                clear HG HP HST hqm
                obtain ⟨U3, hU3⟩ : ∃ n, n = (U2 * 4294967296 + v0) % Y := ⟨_, rfl⟩
                have HU3 : Hid (U3 < Y) := by
                  show U3 < Y
                  rw [hU3]; exact Nat.mod_lt _ (by have := HS.out; omega)
                have hdm : km * Y + U3 = U2 * 4294967296 + v0 := by
                  have h1 := Nat.div_add_mod (U2 * 4294967296 + v0) Y
                  rw [Nat.mul_comm, ← HY.out, ← hq, HY.out, ← hU3] at h1
                  exact h1
                have Hq2 : Hid ((U2 * 4294967296 + v0) / Y = km ∧ (U2 * 4294967296 + v0) % Y = U3) := by
                  refine ⟨?_, hU3.symm⟩
                  rw [← HY.out]; exact hq.symm
                obtain ⟨A, hA⟩ : ∃ n, n = lo (U2 * 4294967296) := ⟨_, rfl⟩
                obtain ⟨A2, hA2⟩ : ∃ n, n = lo (A + v0) := ⟨_, rfl⟩
                obtain ⟨P2, hP2⟩ : ∃ n, n = lo (km * Y) := ⟨_, rfl⟩
                have f1 : IntKind.u64.wrap ((U2 : Int) * 4294967296) = (A : Int) := by rw [hA, ← wrap_u64_nat, Int.natCast_mul]; rfl
                have f2 : IntKind.u64.wrap ((A : Int) + (v0 : Int)) = (A2 : Int) := by rw [hA2, ← wrap_u64_nat, Int.natCast_add]
                have f3 : IntKind.u64.wrap ((km : Int) * (Y : Int)) = (P2 : Int) := by rw [hP2, ← wrap_u64_nat, Int.natCast_mul]
                have f4 : IntKind.u64.wrap ((A2 : Int) - (P2 : Int)) = (U3 : Int) := by
                  have h1 := HS.out
                  have h2 := HU3.out
                  clear hq hU3 f1 f2 f3
                  rw [IntKind.wrap_u64, hP2, hA2, hA]
                  unfold lo
                  generalize km * Y = z at *
                  omega
                clear hA hA2 hP2 hdm hU3 hq
                have Hql : Hid _ := hql
                clear hql
                have HQL2 := Hql
                clear Hql
                have g1 : IntKind.u64.wrap ((q : Int) * 4294967296) = ((q * 4294967296 : Nat) : Int) := by
                  have := HQL.out
                  rw [IntKind.wrap_u64]; omega
                have g2 : IntKind.u64.wrap (((q * 4294967296 : Nat) : Int) + (km : Int)) = (QQ : Int) := by
                  have h1 := HQL.out
                  have h2 := HQL2.out
                  have h3 := (_root_.Rad.two_digits (h := 4294967296) (u := U) (d1 := v1) (d0 := v0) (y := Y)).1
                  rw [Hq1.out.1, Hq1.out.2, Hq2.out.1] at h3
                  have h4 : U * (4294967296 * 4294967296) + v1 * 4294967296 + v0 = U * B + V := by
                    rw [← HV.out]; unfold B; omega
                  rw [h4, HQ1.out] at h3
                  rw [IntKind.wrap_u64]; omega
                have g4 : IntKind.u64.wrap ((q : Int) * 4294967296 + (km : Int)) = (QQ : Int) := by
                  rw [← g2, Int.natCast_mul]; rfl
                have g3 : (U3 : Int) / 2 ^ s = (RR : Int) := by
                  rw [shr_nat]
                  have h3 := (_root_.Rad.two_digits (h := 4294967296) (u := U) (d1 := v1) (d0 := v0) (y := Y)).2
                  rw [Hq1.out.2, Hq2.out.2] at h3
                  have h4 : U * (4294967296 * 4294967296) + v1 * 4294967296 + v0 = U * B + V := by
                    rw [← HV.out]; unfold B; omega
                  rw [h4, HQ2.out] at h3
                  rw [← h3, Nat.mul_div_cancel_left _ (Nat.pow_pos (by decide))]
                go_wp2
                try simp only [f1, f2, f3, f4, g4, g1, g2, g3]
                go_ret2
                exact ⟨rfl, 0, rfl⟩
              · have hi3 : ¬ (4294967296 : Int) ≤ (rr2 : Int) := by omega
                clear hc1
                go_wp2
                go_round
                case rel => exact ⟨k - 1, rr + y1, by go_num, by rw [← e8]; go_num, by omega, HST.out⟩
                case measure => simp [intOf]; omega
            · have hi1 : ¬ (4294967296 : Int) ≤ (k : Int) := by omega
              by_cases hc2 : 4294967296 * rr + v0 < pp
              · have hi2 : (4294967296 : Int) * (rr : Int) + (v0 : Int) < (pp : Int) := by omega
                have hst := HG.out.step (by assumption) (by have := HY.out; have := HU2.out; omega) (.inr (by rw [HP.out]; exact hc2))
                have hq0 := hst.1
                have HST : Hid _ := hst.2
                clear hst
                obtain ⟨rr2, e7⟩ : ∃ rr2, rr + y1 = rr2 := ⟨_, rfl⟩
                have e8 : (rr : Int) + (y1 : Int) = (rr2 : Int) := by omega
                have hl2 : rr2 < 18446744073709551616 := by have := HY.out; have := HS.out; omega
                by_cases hr2 : 4294967296 ≤ rr + y1
                · have hi3 : (4294967296 : Int) ≤ (rr2 : Int) := by omega
                  have hq := HST.out.over (by have := HY.out; have := HS.out; omega) a3 (by omega) hr2
                  have hql := Nat.lt_of_le_of_lt (Nat.le_of_eq hq) (_root_.Rad.guess_lt (by assumption) (by have := HY.out; have := HU2.out; omega))
                  obtain ⟨km, hqm⟩ : ∃ z, z = k - 1 := ⟨k - 1, rfl⟩
                  rw [← hqm] at hq hql
                  have e9 : (k : Int) - 1 = (km : Int) := by omega
                  clear HG HP HST hqm
                  obtain ⟨U3, hU3⟩ : ∃ n, n = (U2 * 4294967296 + v0) % Y := ⟨_, rfl⟩
                  have HU3 : Hid (U3 < Y) := by
                    show U3 < Y
                    rw [hU3]; exact Nat.mod_lt _ (by have := HS.out; omega)
                  have hdm : km * Y + U3 = U2 * 4294967296 + v0 := by
                    have h1 := Nat.div_add_mod (U2 * 4294967296 + v0) Y
                    rw [Nat.mul_comm, ← HY.out, ← hq, HY.out, ← hU3] at h1
                    exact h1
                  have Hq2 : Hid ((U2 * 4294967296 + v0) / Y = km ∧ (U2 * 4294967296 + v0) % Y = U3) := by
                    refine ⟨?_, hU3.symm⟩
                    rw [← HY.out]; exact hq.symm
                  obtain ⟨A, hA⟩ : ∃ n, n = lo (U2 * 4294967296) := ⟨_, rfl⟩
                  obtain ⟨A2, hA2⟩ : ∃ n, n = lo (A + v0) := ⟨_, rfl⟩
                  obtain ⟨P2, hP2⟩ : ∃ n, n = lo (km * Y) := ⟨_, rfl⟩
                  have f1 : IntKind.u64.wrap ((U2 : Int) * 4294967296) = (A : Int) := by rw [hA, ← wrap_u64_nat, Int.natCast_mul]; rfl
                  have f2 : IntKind.u64.wrap ((A : Int) + (v0 : Int)) = (A2 : Int) := by rw [hA2, ← wrap_u64_nat, Int.natCast_add]
                  have f3 : IntKind.u64.wrap ((km : Int) * (Y : Int)) = (P2 : Int) := by rw [hP2, ← wrap_u64_nat, Int.natCast_mul]
                  have f4 : IntKind.u64.wrap ((A2 : Int) - (P2 : Int)) = (U3 : Int) := by
                    have h1 := HS.out
                    have h2 := HU3.out
                    clear hq hU3 f1 f2 f3
                    rw [IntKind.wrap_u64, hP2, hA2, hA]
                    unfold lo
                    generalize km * Y = z at *
                    omega
                  clear hA hA2 hP2 hdm hU3 hq
                  have Hql : Hid _ := hql
                  clear hql
                  have HQL2 := Hql
                  clear Hql
                  have g1 : IntKind.u64.wrap ((q : Int) * 4294967296) = ((q * 4294967296 : Nat) : Int) := by
                    have := HQL.out
                    rw [IntKind.wrap_u64]; omega
                  have g2 : IntKind.u64.wrap (((q * 4294967296 : Nat) : Int) + (km : Int)) = (QQ : Int) := by
                    have h1 := HQL.out
                    have h2 := HQL2.out
                    have h3 := (_root_.Rad.two_digits (h := 4294967296) (u := U) (d1 := v1) (d0 := v0) (y := Y)).1
                    rw [Hq1.out.1, Hq1.out.2, Hq2.out.1] at h3
                    have h4 : U * (4294967296 * 4294967296) + v1 * 4294967296 + v0 = U * B + V := by
                      rw [← HV.out]; unfold B; omega
                    rw [h4, HQ1.out] at h3
                    rw [IntKind.wrap_u64]; omega
                  have g4 : IntKind.u64.wrap ((q : Int) * 4294967296 + (km : Int)) = (QQ : Int) := by
                    rw [← g2, Int.natCast_mul]; rfl
                  have g3 : (U3 : Int) / 2 ^ s = (RR : Int) := by
                    rw [shr_nat]
                    have h3 := (_root_.Rad.two_digits (h := 4294967296) (u := U) (d1 := v1) (d0 := v0) (y := Y)).2
                    rw [Hq1.out.2, Hq2.out.2] at h3
                    have h4 : U * (4294967296 * 4294967296) + v1 * 4294967296 + v0 = U * B + V := by
                      rw [← HV.out]; unfold B; omega
                    rw [h4, HQ2.out] at h3
                    rw [← h3, Nat.mul_div_cancel_left _ (Nat.pow_pos (by decide))]
                  go_wp2
                  try simp only [f1, f2, f3, f4, g4, g1, g2, g3]
                  go_ret2
                  exact ⟨rfl, 0, rfl⟩
                · have hi3 : ¬ (4294967296 : Int) ≤ (rr2 : Int) := by omega
                  clear hc1 hc2
                  go_wp2
                  go_round
                  case rel => exact ⟨k - 1, rr + y1, by go_num, by rw [← e8]; go_num, by omega, HST.out⟩
                  case measure => simp [intOf]; omega
              · have hi2 : ¬ (4294967296 : Int) * (rr : Int) + (v0 : Int) < (pp : Int) := by omega
                have hq := HG.out.done (by have := HY.out; have := HS.out; omega) (by rw [HP.out]; omega)
                have hql : k < 4294967296 := by omega
                clear hgl
                obtain ⟨U3, hU3⟩ : ∃ n, n = (U2 * 4294967296 + v0) % Y := ⟨_, rfl⟩
                have HU3 : Hid (U3 < Y) := by
                  show U3 < Y
                  rw [hU3]; exact Nat.mod_lt _ (by have := HS.out; omega)
                have hdm : k * Y + U3 = U2 * 4294967296 + v0 := by
                  have h1 := Nat.div_add_mod (U2 * 4294967296 + v0) Y
                  rw [Nat.mul_comm, ← HY.out, ← hq, HY.out, ← hU3] at h1
                  exact h1
                have Hq2 : Hid ((U2 * 4294967296 + v0) / Y = k ∧ (U2 * 4294967296 + v0) % Y = U3) := by
                  refine ⟨?_, hU3.symm⟩
                  rw [← HY.out]; exact hq.symm
                obtain ⟨A, hA⟩ : ∃ n, n = lo (U2 * 4294967296) := ⟨_, rfl⟩
                obtain ⟨A2, hA2⟩ : ∃ n, n = lo (A + v0) := ⟨_, rfl⟩
                obtain ⟨P2, hP2⟩ : ∃ n, n = lo (k * Y) := ⟨_, rfl⟩
                have f1 : IntKind.u64.wrap ((U2 : Int) * 4294967296) = (A : Int) := by rw [hA, ← wrap_u64_nat, Int.natCast_mul]; rfl
                have f2 : IntKind.u64.wrap ((A : Int) + (v0 : Int)) = (A2 : Int) := by rw [hA2, ← wrap_u64_nat, Int.natCast_add]
                have f3 : IntKind.u64.wrap ((k : Int) * (Y : Int)) = (P2 : Int) := by rw [hP2, ← wrap_u64_nat, Int.natCast_mul]
                have f4 : IntKind.u64.wrap ((A2 : Int) - (P2 : Int)) = (U3 : Int) := by
                  have h1 := HS.out
                  have h2 := HU3.out
                  clear hq hU3 f1 f2 f3
                  rw [IntKind.wrap_u64, hP2, hA2, hA]
                  unfold lo
                  generalize k * Y = z at *
                  omega
                clear HG HP hc1 hc2 hA hA2 hP2 hdm hU3 hq
                have Hql : Hid _ := hql
                clear hql
                have HQL2 := Hql
                clear Hql
                have g1 : IntKind.u64.wrap ((q : Int) * 4294967296) = ((q * 4294967296 : Nat) : Int) := by
                  have := HQL.out
                  rw [IntKind.wrap_u64]; omega
                have g2 : IntKind.u64.wrap (((q * 4294967296 : Nat) : Int) + (k : Int)) = (QQ : Int) := by
                  have h1 := HQL.out
                  have h2 := HQL2.out
                  have h3 := (_root_.Rad.two_digits (h := 4294967296) (u := U) (d1 := v1) (d0 := v0) (y := Y)).1
                  rw [Hq1.out.1, Hq1.out.2, Hq2.out.1] at h3
                  have h4 : U * (4294967296 * 4294967296) + v1 * 4294967296 + v0 = U * B + V := by
                    rw [← HV.out]; unfold B; omega
                  rw [h4, HQ1.out] at h3
                  rw [IntKind.wrap_u64]; omega
                have g4 : IntKind.u64.wrap ((q : Int) * 4294967296 + (k : Int)) = (QQ : Int) := by
                  rw [← g2, Int.natCast_mul]; rfl
                have g3 : (U3 : Int) / 2 ^ s = (RR : Int) := by
                  rw [shr_nat]
                  have h3 := (_root_.Rad.two_digits (h := 4294967296) (u := U) (d1 := v1) (d0 := v0) (y := Y)).2
                  rw [Hq1.out.2, Hq2.out.2] at h3
                  have h4 : U * (4294967296 * 4294967296) + v1 * 4294967296 + v0 = U * B + V := by
                    rw [← HV.out]; unfold B; omega
                  rw [h4, HQ2.out] at h3
                  rw [← h3, Nat.mul_div_cancel_left _ (Nat.pow_pos (by decide))]
                go_wp2
                try simp only [f1, f2, f3, f4, g4, g1, g2, g3]
                go_ret2
                exact ⟨rfl, 0, rfl⟩
end Go.Proofs.YtjlkplidpdhgbaaGreatDoor
