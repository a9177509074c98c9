/- A part of the proof: W35. -/
import Derived.Test.YtjlkplidpdhgbaaGreatDoorP37
import Derived.Test.YtjlkplidpdhgbaaGreatDoorP08
import Derived.Test.YtjlkplidpdhgbaaGreatDoorShelf
import Derived.Laws.IdiomStrings
import Derived.Lib.ItoaMem
set_option linter.all false

namespace Go.Proofs.YtjlkplidpdhgbaaGreatDoor
open Go Go.Proofs Go.RowKit Go.Rad

/-- A number's numeral. -/
def txt (z : Int) : List UInt8 := Lib.itoa z
/-- The table that strconv reads. -/
def TabP (w : World) : Prop := Lib.TabIs Tryz.prog w "internal/strconv.uint64pow10" .u64 Lib.pow10Tab

theorem dg_val (x j : Nat) : (Lib.dg x j).toNat = 48 + x / 10 ^ j % 10 := by
  unfold Lib.dg
  have : x / 10 ^ j % 10 < 10 := Nat.mod_lt _ (by decide)
  simp; omega
theorem B_lt_pow (k : Nat) : B ^ k ≤ 10 ^ (20 * k) := by
  rw [Nat.pow_mul]
  exact Nat.pow_le_pow_left (by decide) k
theorem pow_le_nDigits (x : Nat) (hx : 0 < x) : 10 ^ (Lib.nDigits x - 1) ≤ x := by
  induction x using Nat.strongRecOn with
  | ind x ih =>
    by_cases h : x < 10
    · rw [Lib.nDigits_small h]; exact hx
    · rw [Lib.nDigits_big h, Nat.add_sub_cancel]
      have h1 := ih (x / 10) (by omega) (by omega)
      have h2 := Lib.nDigits_pos (x / 10)
      obtain ⟨k, hk⟩ : ∃ k, Lib.nDigits (x / 10) = k + 1 := ⟨Lib.nDigits (x / 10) - 1, by omega⟩
      rw [hk, Nat.add_sub_cancel] at h1
      rw [hk, Nat.pow_succ]
      omega
theorem nDigits_le {x k : Nat} (hx : 0 < x) (h : x < 10 ^ k) : Lib.nDigits x ≤ k := by
  refine Nat.le_of_not_lt fun hc => ?_
  have h1 := pow_le_nDigits x hx
  have h2 : 10 ^ k ≤ 10 ^ (Lib.nDigits x - 1) := Nat.pow_le_pow_right (by decide) (by omega)
  omega
theorem decDigits_at (x t : Nat) (ht : t < (Lib.decDigits x).length) : (Lib.decDigits x)[t].toNat = 48 + x / 10 ^ (Lib.nDigits x - 1 - t) % 10 := by
  have h : (Lib.decDigits x)[t]? = some (Lib.dg x (Lib.nDigits x - 1 - t)) := by
    rw [Lib.decDigits_length] at ht
    rw [Lib.decDigits_eq, List.getElem?_map, List.getElem?_range ht]
    rfl
  rw [List.getElem?_eq_getElem ht] at h
  rw [Option.some.inj h, dg_val]
theorem below_grow (w : World) (k : Nat) (os : Array Obj) : Below w.heap.size w (Go.Sort.grow (w.drewN k) os) :=
  ⟨rfl, rfl, rfl, by simp [Go.Sort.grow], fun i hi => by simp [Go.Sort.grow, Array.getElem?_append, hi]⟩

theorem underlying9 : Tryz.prog.underlying 9 = some .string := by kernel_rfl
theorem underlying5 : Tryz.prog.underlying 5 = some (.int .u8) := by kernel_rfl

set_option maxRecDepth 10000 in
set_option maxHeartbeats 4000000 in
theorem text_any (w : World) (v : Value) (z : Int) (hv : IsInt w v z) (hz : z.natAbs < B ^ 159) (ht : TabP w) :
    Calls Tryz.prog 14 #[v] w fun e w' => e = .returned (.string ⟨(txt z).toArray⟩) ∧ Below w.heap.size w w' := by
  have q := qEq
  obtain ⟨s, a, n, c, rfl⟩ := hv.form
  obtain ⟨g1, g2, g3, g4, g5⟩ := hv.sgn
  rcases a with _ | a
  · obtain ⟨rfl, rfl, rfl⟩ := g5 rfl
    have CI := Tryz.strconv_Itoa s g1 g2 (w.alloc (Obj.cells #[Value.int IntKind.i64 s, Value.slice none 0 0] 24)) (Lib.tabIs_alloc ht _)
    clear hv g3 g4 g5 hz ht
    go_enter Tryz.func14, Tryz.ntmps14
    go_wp2_with (go_at_call 69; fail)
    refine CI.mono ?_
    rintro e w1 ⟨rfl, k, os, rfl⟩
    clear CI
    go_wp2
    go_ret
    exact ⟨rfl, (bel1 w _).trans ((below_grow _ k os).mono (by simp))⟩
  · obtain ⟨hm, hs⟩ := hv.mag
    obtain ⟨x, hx⟩ : ∃ x, x = z.natAbs := ⟨_, rfl⟩
    rw [← hx] at hm hz
    have hn : n ≤ 159 := hm.len_le hz
    have hx0 : 0 < x := by omega
    have hn0 : 0 < n := by
      rcases Nat.eq_zero_or_pos n with h | h
      · have := hm.zero_iff.2 h; omega
      · exact h
    have hxp : x < 10 ^ (20 * n) := Nat.lt_of_lt_of_le hm.lt (B_lt_pow n)
    have hZ : Hid (s = 1 ∧ z = (x : Int) ∨ s = -1 ∧ z = -(x : Int)) := by show _ ∨ _; omega
    have hs' : s = 1 ∨ s = -1 := by omega
    have b1 := bel1 w (Obj.cells #[Value.int IntKind.i64 s, Value.slice (some a) n c] 24)
    obtain ⟨N, hN⟩ : ∃ N, N = 1 + 20 * n := ⟨_, rfl⟩
    have e1 : (1 : Int) + 20 * (n : Int) = (N : Int) := by omega
    have HM : Hid (Mag w (.slice (some a) n c) x n) := hm
    have HXP : Hid _ := hxp
    have hNb : N ≤ 8192 := by omega
    have hN0 : 0 < N := by omega
    have hNn : n < N := by omega
    have HN : Hid (N = 1 + 20 * n) := hN
    clear hv g3 g4 g5 hz hm hs hx hxp hN
    go_enter Tryz.func14, Tryz.ntmps14
    go_wp2_with (go_at_call 70; fail)
    have b2 := bel2 w (Obj.cells #[Value.int IntKind.i64 s, Value.slice (some a) n c] 24) (Obj.cells #[Value.int IntKind.u8 48] 5)
    have sz2 : ((w.alloc (Obj.cells #[Value.int IntKind.i64 s, Value.slice (some a) n c] 24)).alloc (Obj.cells #[Value.int IntKind.u8 48] 5)).heap.size = w.heap.size + 1 + 1 := by simp
    have c48 : ((w.alloc (Obj.cells #[Value.int IntKind.i64 s, Value.slice (some a) n c] 24)).alloc (Obj.cells #[Value.int IntKind.u8 48] 5)).cell? ⟨w.heap.size + 1, 0, none⟩ = some (.int .u8 ((48 : Nat) : Int)) := by simp [go_sem]
    have k0 : ((w.alloc (Obj.cells #[Value.int IntKind.i64 s, Value.slice (some a) n c] 24)).alloc (Obj.cells #[Value.int IntKind.u8 48] 5)).cell? ⟨w.heap.size, 0, none⟩ = some (.int .i64 s) := by simp [go_sem]
    have k1 : ((w.alloc (Obj.cells #[Value.int IntKind.i64 s, Value.slice (some a) n c] 24)).alloc (Obj.cells #[Value.int IntKind.u8 48] 5)).cell? ⟨w.heap.size, 1, none⟩ = some (.slice (some a) n c) := by simp [go_sem]
    have w48 := word_eq c48
    have CR := repeat_any _ (w.heap.size + 1) 0 1 N (fun i hi => by
      obtain rfl : i = 0 := by omega
      rw [Nat.add_zero, w48]; exact ⟨c48, by omega⟩) w48 hN0 hNb
    have M2 := Mag.below HM.out b2
    refine CR.mono ?_
    rintro e w3 ⟨b, c3, rfl, hc3, hc3m, hb3, hl3, hB3, hF3, hP3⟩
    clear CR
    rw [sz2] at hb3
    have B3 : Below w.heap.size w w3 := b2.trans (hB3.mono (by rw [sz2]; omega))
    have k03 := (hB3.cell (p := ⟨w.heap.size, 0, none⟩) (by rw [sz2]; show w.heap.size < _; omega)).trans k0
    have k13 := (hB3.cell (p := ⟨w.heap.size, 1, none⟩) (by rw [sz2]; show w.heap.size < _; omega)).trans k1
    have M3 := M2.below hB3
    have CL := ladderFor_any w3 n (by omega)
    clear c48 k0 k1 w48 M2 hB3 b2 b1 sz2
    go_wp2_with (go_at_call 71; fail)
    refine CL.mono ?_
    rintro e w4 ⟨ap, bp, op, kp, cp, D, rfl, hsl, hkp, hkc, hD0, hD, hB4, hLd⟩
    clear CL
    have lw3 : w.heap.size < w3.heap.size := by omega
    have k04 := (hB4.cell (p := ⟨w.heap.size, 0, none⟩) lw3).trans k03
    have k14 := (hB4.cell (p := ⟨w.heap.size, 1, none⟩) lw3).trans k13
    have bw4 := bel1 w4 (Obj.cells #[Value.int IntKind.i64 (D : Int), Value.slice ap kp cp] 95)
    have hB45 := hB4.trans (bw4.mono hB4.size)
    have M5 := M3.below hB45
    have lw5 : w3.heap.size ≤ (w4.alloc (Obj.cells #[Value.int IntKind.i64 (D : Int), Value.slice ap kp cp] 95)).heap.size := hB45.size
    have D5 : Dig (w4.alloc (Obj.cells #[Value.int IntKind.i64 (D : Int), Value.slice ap kp cp] 95)) b 0 N N 0 := fun i hi => by
      rw [hB45.cell (p := ⟨b, 0 + (N - 1 - i), none⟩) hl3, Nat.zero_add, hP3 _ (by omega), Nat.zero_div]
      rfl
    have F5 : Free (w4.alloc (Obj.cells #[Value.int IntKind.i64 (D : Int), Value.slice ap kp cp] 95)) b 0 N := free_below hF3 hB45 hl3
    have hxN : x < 10 ^ N := Nat.lt_of_lt_of_le HXP.out (Nat.pow_le_pow_right (by decide) (by have := HN.out; omega))
    have hD8 : D * 2 ^ kp ≤ 1099511627776 := by
      have h2 : 2 ^ kp ≤ 2 ^ 3 := Nat.pow_le_pow_right (by decide) hkp
      exact Nat.le_trans (Nat.mul_le_mul hD h2) (by decide)
    have CW := write_any kp kp (Nat.le_refl _) (w4.alloc (Obj.cells #[Value.int IntKind.i64 (D : Int), Value.slice ap kp cp] 95)) ap kp cp bp op D b 0 N c3 N _ x n hsl (Nat.le_refl _) (Nat.le_refl _) (by omega) hkc (hLd.below bw4) hD0 hD8 hN0 (Nat.le_refl _) (by omega) hc3 hc3m D5 F5 M5 (by omega) hxN (by omega)
    have k05 := (bw4.cell (p := ⟨w.heap.size, 0, none⟩) (by have := hB4.size; show w.heap.size < _; omega)).trans k04
    have k15 := (bw4.cell (p := ⟨w.heap.size, 1, none⟩) (by have := hB4.size; show w.heap.size < _; omega)).trans k14
    have B5 : Below w.heap.size w (w4.alloc (Obj.cells #[Value.int IntKind.i64 (D : Int), Value.slice ap kp cp] 95)) := B3.trans (hB45.mono B3.size)
    have HL : Hid (b < (w4.alloc (Obj.cells #[Value.int IntKind.i64 (D : Int), Value.slice ap kp cp] 95)).heap.size) := Nat.lt_of_lt_of_le hl3 lw5
    clear D5 M5 hLd hP3 hF3 M3 hB4 bw4 hB45 B3 k03 k13 hD8 hxN lw5
    go_wp2_with (go_at_call 72; fail)
    refine CW.mono ?_
    rintro e w6 ⟨rfl, hC6, hD6⟩
    clear CW
    have lb5 : w.heap.size < (w4.alloc (Obj.cells #[Value.int IntKind.i64 (D : Int), Value.slice ap kp cp] 95)).heap.size := by have := HL.out; omega
    have k06 := (hC6.cellAt lb5 (.inl (by omega)) : w6.cell? ⟨w.heap.size, 0, none⟩ = _).trans k05
    have k16 := (hC6.cellAt lb5 (.inl (by omega)) : w6.cell? ⟨w.heap.size, 1, none⟩ = _).trans k15
    have F6 := hC6.free F5 (fun _ => HL.out)
    have B6 : Below w.heap.size w w6 := B5.trans (hC6.below (by omega) (by omega))
    have hnd1 := Lib.nDigits_pos x
    have hnd2 := nDigits_le hx0 HXP.out
    obtain ⟨P, hP⟩ : ∃ P, P = N - Lib.nDigits x := ⟨_, rfl⟩
    have hP1 : 1 ≤ P := by have := HN.out; omega
    have hP2 : P < N := by omega
    have hPn : N - 1 - P = Lib.nDigits x - 1 := by omega
    have C6 : ∀ i, i < N → w6.cell? ⟨b, i, none⟩ = some (.int .u8 ((48 + x / 10 ^ (N - 1 - i) % 10 : Nat) : Int)) := fun i hi => by
      have := hD6 (N - 1 - i) (by omega)
      rwa [Nat.zero_add, show N - 1 - (N - 1 - i) = i by omega] at this
    have hlow : ∀ i, i < P → w6.cell? ⟨b, i, none⟩ = some (.int .u8 48) := fun i hi => by
      have h1 : x / 10 ^ (N - 1 - i) = 0 := Nat.div_eq_of_lt (Nat.lt_of_lt_of_le (Lib.lt_pow_nDigits x) (Nat.pow_le_pow_right (by decide) (by omega)))
      rw [C6 i (by omega), h1]
      rfl
    have htop : ∃ d, 1 ≤ d ∧ d ≤ 9 ∧ w6.cell? ⟨b, P, none⟩ = some (.int .u8 ((48 + d : Nat) : Int)) := by
      refine ⟨x / 10 ^ (Lib.nDigits x - 1) % 10, ?_, by omega, by rw [C6 P hP2, hPn]⟩
      have h1 := pow_le_nDigits x hx0
      have h2 := Lib.lt_pow_nDigits x
      have h3 : 1 ≤ x / 10 ^ (Lib.nDigits x - 1) := (Nat.le_div_iff_mul_le (Nat.pow_pos (by decide))).2 (by omega)
      have h4 : x / 10 ^ (Lib.nDigits x - 1) < 10 := by
        refine Nat.div_lt_of_lt_mul ?_
        rw [← Nat.pow_succ, show (Lib.nDigits x - 1).succ = Lib.nDigits x by omega]; exact h2
      omega
    obtain ⟨d, hd1, hd9, hcP⟩ := htop
    have hdig : ∀ t (h : t < (Lib.decDigits x).length), w6.cell? ⟨b, P + t, none⟩ = some (.int .u8 (((Lib.decDigits x)[t].toNat : Nat) : Int)) := fun t h => by
      have h' : t < Lib.nDigits x := by rwa [Lib.decDigits_length] at h
      rw [C6 (P + t) (by omega), decDigits_at, show N - 1 - (P + t) = Lib.nDigits x - 1 - t by omega]
    have HDG : Hid _ := hdig
    have HNP : Hid (N - P = Lib.nDigits x) := by show _ = _; omega
    have HLOW : Hid _ := hlow
    have HB6 : Hid _ := B6
    have HF6 : Hid _ := F6
    clear hdig C6 hD6 hC6 F5 B5 k05 k15 k04 k14 hlow B6 F6 hP hnd1 hnd2 hPn
    go_wp2
    go_loop [5] (fun i => ∃ i' : Nat, i' ≤ P ∧ i = .int .i64 (i' : Int)) (fun i => P - (intOf i).toNat)
    case atStart => exact ⟨0, by omega, rfl⟩
    case round =>
      obtain ⟨i, hiP, rfl⟩ := hrel
      by_cases hi : i = P
      · subst hi
        have hne : ¬ ((48 + d : Nat) : Int) = 48 := by omega
        have hne' : ¬ (48 : Int) + (d : Int) = 48 := by omega
        rcases hs' with rfl | rfl
        · have hz : z = (x : Int) := by have := hZ.out; omega
          have hconv : (convert 91 9 (.slice (some ⟨b, i, none⟩) (N - i) (c3 - i))).run Tryz.prog w6 = .ok (.string ⟨(txt z).toArray⟩) w6 := by
            have h0 : txt z = Lib.decDigits x := by rw [hz]; exact Lib.itoa_nonneg x
            rw [h0, HNP.out, ← Lib.decDigits_length]
            exact run_convert_bytes_back w6 91 9 5 ⟨b, i, none⟩ _ (Lib.decDigits x) underlying91 underlying5 underlying9 (fun j hj => by rw [Lib.add_plain]; exact HDG.out j hj)
          go_wp2
          go_ret
          exact ⟨rfl, HB6.out⟩
        · have hz : z = -(x : Int) := by have := hZ.out; omega
          obtain ⟨p, rfl⟩ : ∃ p, i = p + 1 := ⟨i - 1, by omega⟩
          have e2 : ((p + 1 : Nat) : Int) - 1 = (p : Int) := by omega
          have hcp := HLOW.out p (by omega)
          have hfp : w6.frozen? ⟨b, p, none⟩ = false := by have := HF6.out p (by omega); rwa [Nat.zero_add] at this
          have hconv : (convert 91 9 (.slice (some ⟨b, p, none⟩) (N - p) (c3 - p))).run Tryz.prog (w6.setCell ⟨b, p, none⟩ (.int .u8 45)) = .ok (.string ⟨(txt z).toArray⟩) (w6.setCell ⟨b, p, none⟩ (.int .u8 45)) := by
            have h0 : txt z = 45 :: Lib.decDigits x := by rw [hz]; exact Lib.itoa_neg x hx0
            have hlen : N - p = (45 :: Lib.decDigits x).length := by rw [List.length_cons, Lib.decDigits_length, ← HNP.out]; omega
            rw [h0, hlen]
            refine run_convert_bytes_back _ 91 9 5 ⟨b, p, none⟩ _ (45 :: Lib.decDigits x) underlying91 underlying5 underlying9 (fun j hj => ?_)
            rw [Lib.add_plain]
            cases j with
            | zero => rw [Nat.add_zero, cell_same hcp]; rfl
            | succ j =>
              rw [cell_other (.inr (by omega)), show p + (j + 1) = p + 1 + j by omega]
              exact HDG.out j (by simpa using hj)
          have hpN : ¬ c3 = p := by omega
          go_wp2
          go_ret
          exact ⟨rfl, HB6.out.setCell (by show w.heap.size ≤ b; omega) _⟩
      · have hc := HLOW.out i (by omega)
        go_wp2
        go_round
        case rel => exact ⟨i + 1, by omega, by go_num⟩
        case measure => simp [intOf]; omega
end Go.Proofs.YtjlkplidpdhgbaaGreatDoor
