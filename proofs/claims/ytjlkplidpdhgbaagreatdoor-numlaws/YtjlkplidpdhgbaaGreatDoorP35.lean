/- A part of the proof: W35, Tx, Tx2. -/
import Derived.Test.YtjlkplidpdhgbaaGreatDoorP34
import Derived.Test.YtjlkplidpdhgbaaGreatDoorP09
import Derived.Test.YtjlkplidpdhgbaaGreatDoorShelf
import Derived.Laws.IdiomStrings
import Derived.Lib.ItoaMem
import Derived.Lib.AtoiAll
import Derived.Lib.ParseIntB
set_option linter.all false

namespace Go.Proofs.YtjlkplidpdhgbaaGreatDoor
open Go Go.Proofs Go.RowKit Go.Rad

/-- A number's numeral. -/
def txt (z : Int) : List UInt8 := Lib.itoa z
/-- The table that strconv reads. -/
def TabP (w : World) : Prop := Lib.TabIs Tryz.prog w "internal/strconv.uint64pow10" .u64 Lib.pow10Tab

theorem dg_val (x j : Nat) : (Lib.dg x j).toNat = 48 + x / 10 ^ j % 10 := by
  unfold Lib.dg
  have : x / 10 ^ j % 10 < 10 := Nat.mod_lt _ (by decide)
  simp; omega
theorem B_lt_pow (k : Nat) : B ^ k ≤ 10 ^ (20 * k) := by
  rw [Nat.pow_mul]
  exact Nat.pow_le_pow_left (by decide) k
theorem pow_le_nDigits (x : Nat) (hx : 0 < x) : 10 ^ (Lib.nDigits x - 1) ≤ x := by
  induction x using Nat.strongRecOn with
  | ind x ih =>
    by_cases h : x < 10
    · rw [Lib.nDigits_small h]; exact hx
    · rw [Lib.nDigits_big h, Nat.add_sub_cancel]
      have h1 := ih (x / 10) (by omega) (by omega)
      have h2 := Lib.nDigits_pos (x / 10)
      obtain ⟨k, hk⟩ : ∃ k, Lib.nDigits (x / 10) = k + 1 := ⟨Lib.nDigits (x / 10) - 1, by omega⟩
      rw [hk, Nat.add_sub_cancel] at h1
      rw [hk, Nat.pow_succ]
      omega
theorem nDigits_le {x k : Nat} (hx : 0 < x) (h : x < 10 ^ k) : Lib.nDigits x ≤ k := by
  refine Nat.le_of_not_lt fun hc => ?_
  have h1 := pow_le_nDigits x hx
  have h2 : 10 ^ k ≤ 10 ^ (Lib.nDigits x - 1) := Nat.pow_le_pow_right (by decide) (by omega)
  omega
theorem decDigits_at (x t : Nat) (ht : t < (Lib.decDigits x).length) : (Lib.decDigits x)[t].toNat = 48 + x / 10 ^ (Lib.nDigits x - 1 - t) % 10 := by
  have h : (Lib.decDigits x)[t]? = some (Lib.dg x (Lib.nDigits x - 1 - t)) := by
    rw [Lib.decDigits_length] at ht
    rw [Lib.decDigits_eq, List.getElem?_map, List.getElem?_range ht]
    rfl
  rw [List.getElem?_eq_getElem ht] at h
  rw [Option.some.inj h, dg_val]
theorem below_grow (w : World) (k : Nat) (os : Array Obj) : Below w.heap.size w (Go.Sort.grow (w.drewN k) os) :=
  ⟨rfl, rfl, rfl, by simp [Go.Sort.grow], fun i hi => by simp [Go.Sort.grow, Array.getElem?_append, hi]⟩

theorem underlying9 : Tryz.prog.underlying 9 = some .string := by kernel_rfl
theorem underlying5 : Tryz.prog.underlying 5 = some (.int .u8) := by kernel_rfl

set_option maxRecDepth 10000 in
set_option maxHeartbeats 4000000 in
theorem text_any (w : World) (v : Value) (z : Int) (hv : IsInt w v z) (hz : z.natAbs < B ^ 159) (ht : TabP w) :
    Calls Tryz.prog 14 #[v] w fun e w' => e = .returned (.string ⟨(txt z).toArray⟩) ∧ Below w.heap.size w w' := by
  have q := qEq
  obtain ⟨s, a, n, c, rfl⟩ := hv.form
  obtain ⟨g1, g2, g3, g4, g5⟩ := hv.sgn
  rcases a with _ | a
  · obtain ⟨rfl, rfl, rfl⟩ := g5 rfl
    have CI := Tryz.strconv_Itoa s g1 g2 (w.alloc (Obj.cells #[Value.int IntKind.i64 s, Value.slice none 0 0] 24)) (Lib.tabIs_alloc ht _)
    clear hv g3 g4 g5 hz ht
    go_enter Tryz.func14, Tryz.ntmps14
    go_wp2_with (go_at_call 69; fail)
    refine CI.mono ?_
    rintro e w1 ⟨rfl, k, os, rfl⟩
    clear CI
    go_wp2
    go_ret
    exact ⟨rfl, (bel1 w _).trans ((below_grow _ k os).mono (by simp))⟩
  · obtain ⟨hm, hs⟩ := hv.mag
    obtain ⟨x, hx⟩ : ∃ x, x = z.natAbs := ⟨_, rfl⟩
    rw [← hx] at hm hz
    have hn : n ≤ 159 := hm.len_le hz
    have hx0 : 0 < x := by omega
    have hn0 : 0 < n := by
      rcases Nat.eq_zero_or_pos n with h | h
      · have := hm.zero_iff.2 h; omega
      · exact h
    have hxp : x < 10 ^ (20 * n) := Nat.lt_of_lt_of_le hm.lt (B_lt_pow n)
    have hZ : Hid (s = 1 ∧ z = (x : Int) ∨ s = -1 ∧ z = -(x : Int)) := by show _ ∨ _; omega
    have hs' : s = 1 ∨ s = -1 := by omega
    have b1 := bel1 w (Obj.cells #[Value.int IntKind.i64 s, Value.slice (some a) n c] 24)
    obtain ⟨N, hN⟩ : ∃ N, N = 1 + 20 * n := ⟨_, rfl⟩
    have e1 : (1 : Int) + 20 * (n : Int) = (N : Int) := by omega
    have HM : Hid (Mag w (.slice (some a) n c) x n) := hm
    have HXP : Hid _ := hxp
    have hNb : N ≤ 8192 := by omega
    have hN0 : 0 < N := by omega
    have hNn : n < N := by omega
    have HN : Hid (N = 1 + 20 * n) := hN
    clear hv g3 g4 g5 hz hm hs hx hxp hN
    go_enter Tryz.func14, Tryz.ntmps14
    go_wp2_with (go_at_call 70; fail)
    have b2 := bel2 w (Obj.cells #[Value.int IntKind.i64 s, Value.slice (some a) n c] 24) (Obj.cells #[Value.int IntKind.u8 48] 5)
    have sz2 : ((w.alloc (Obj.cells #[Value.int IntKind.i64 s, Value.slice (some a) n c] 24)).alloc (Obj.cells #[Value.int IntKind.u8 48] 5)).heap.size = w.heap.size + 1 + 1 := by simp
    have c48 : ((w.alloc (Obj.cells #[Value.int IntKind.i64 s, Value.slice (some a) n c] 24)).alloc (Obj.cells #[Value.int IntKind.u8 48] 5)).cell? ⟨w.heap.size + 1, 0, none⟩ = some (.int .u8 ((48 : Nat) : Int)) := by simp [go_sem]
    have k0 : ((w.alloc (Obj.cells #[Value.int IntKind.i64 s, Value.slice (some a) n c] 24)).alloc (Obj.cells #[Value.int IntKind.u8 48] 5)).cell? ⟨w.heap.size, 0, none⟩ = some (.int .i64 s) := by simp [go_sem]
    have k1 : ((w.alloc (Obj.cells #[Value.int IntKind.i64 s, Value.slice (some a) n c] 24)).alloc (Obj.cells #[Value.int IntKind.u8 48] 5)).cell? ⟨w.heap.size, 1, none⟩ = some (.slice (some a) n c) := by simp [go_sem]
    have w48 := word_eq c48
    have CR := repeat_any _ (w.heap.size + 1) 0 1 N (fun i hi => by
      obtain rfl : i = 0 := by omega
      rw [Nat.add_zero, w48]; exact ⟨c48, by omega⟩) w48 hN0 hNb
    have M2 := Mag.below HM.out b2
    refine CR.mono ?_
    rintro e w3 ⟨b, c3, rfl, hc3, hc3m, hb3, hl3, hB3, hF3, hP3⟩
    clear CR
    rw [sz2] at hb3
    have B3 : Below w.heap.size w w3 := b2.trans (hB3.mono (by rw [sz2]; omega))
    have k03 := (hB3.cell (p := ⟨w.heap.size, 0, none⟩) (by rw [sz2]; show w.heap.size < _; omega)).trans k0
    have k13 := (hB3.cell (p := ⟨w.heap.size, 1, none⟩) (by rw [sz2]; show w.heap.size < _; omega)).trans k1
    have M3 := M2.below hB3
    have CL := ladderFor_any w3 n (by omega)
    clear c48 k0 k1 w48 M2 hB3 b2 b1 sz2
    go_wp2_with (go_at_call 71; fail)
    refine CL.mono ?_
    rintro e w4 ⟨ap, bp, op, kp, cp, D, rfl, hsl, hkp, hkc, hD0, hD, hB4, hLd⟩
    clear CL
    have lw3 : w.heap.size < w3.heap.size := by omega
    have k04 := (hB4.cell (p := ⟨w.heap.size, 0, none⟩) lw3).trans k03
    have k14 := (hB4.cell (p := ⟨w.heap.size, 1, none⟩) lw3).trans k13
    have bw4 := bel1 w4 (Obj.cells #[Value.int IntKind.i64 (D : Int), Value.slice ap kp cp] 95)
    have hB45 := hB4.trans (bw4.mono hB4.size)
    have M5 := M3.below hB45
    have lw5 : w3.heap.size ≤ (w4.alloc (Obj.cells #[Value.int IntKind.i64 (D : Int), Value.slice ap kp cp] 95)).heap.size := hB45.size
    have D5 : Dig (w4.alloc (Obj.cells #[Value.int IntKind.i64 (D : Int), Value.slice ap kp cp] 95)) b 0 N N 0 := fun i hi => by
      rw [hB45.cell (p := ⟨b, 0 + (N - 1 - i), none⟩) hl3, Nat.zero_add, hP3 _ (by omega), Nat.zero_div]
      rfl
    have F5 : Free (w4.alloc (Obj.cells #[Value.int IntKind.i64 (D : Int), Value.slice ap kp cp] 95)) b 0 N := free_below hF3 hB45 hl3
    have hxN : x < 10 ^ N := Nat.lt_of_lt_of_le HXP.out (Nat.pow_le_pow_right (by decide) (by have := HN.out; omega))
    have hD8 : D * 2 ^ kp ≤ 1099511627776 := by
      have h2 : 2 ^ kp ≤ 2 ^ 3 := Nat.pow_le_pow_right (by decide) hkp
      exact Nat.le_trans (Nat.mul_le_mul hD h2) (by decide)
    have CW := write_any kp kp (Nat.le_refl _) (w4.alloc (Obj.cells #[Value.int IntKind.i64 (D : Int), Value.slice ap kp cp] 95)) ap kp cp bp op D b 0 N c3 N _ x n hsl (Nat.le_refl _) (Nat.le_refl _) (by omega) hkc (hLd.below bw4) hD0 hD8 hN0 (Nat.le_refl _) (by omega) hc3 hc3m D5 F5 M5 (by omega) hxN (by omega)
    have k05 := (bw4.cell (p := ⟨w.heap.size, 0, none⟩) (by have := hB4.size; show w.heap.size < _; omega)).trans k04
    have k15 := (bw4.cell (p := ⟨w.heap.size, 1, none⟩) (by have := hB4.size; show w.heap.size < _; omega)).trans k14
    have B5 : Below w.heap.size w (w4.alloc (Obj.cells #[Value.int IntKind.i64 (D : Int), Value.slice ap kp cp] 95)) := B3.trans (hB45.mono B3.size)
    have HL : Hid (b < (w4.alloc (Obj.cells #[Value.int IntKind.i64 (D : Int), Value.slice ap kp cp] 95)).heap.size) := Nat.lt_of_lt_of_le hl3 lw5
    clear D5 M5 hLd hP3 hF3 M3 hB4 bw4 hB45 B3 k03 k13 hD8 hxN lw5
    go_wp2_with (go_at_call 72; fail)
    refine CW.mono ?_
    rintro e w6 ⟨rfl, hC6, hD6⟩
    clear CW
    have lb5 : w.heap.size < (w4.alloc (Obj.cells #[Value.int IntKind.i64 (D : Int), Value.slice ap kp cp] 95)).heap.size := by have := HL.out; omega
    have k06 := (hC6.cellAt lb5 (.inl (by omega)) : w6.cell? ⟨w.heap.size, 0, none⟩ = _).trans k05
    have k16 := (hC6.cellAt lb5 (.inl (by omega)) : w6.cell? ⟨w.heap.size, 1, none⟩ = _).trans k15
    have F6 := hC6.free F5 (fun _ => HL.out)
    have B6 : Below w.heap.size w w6 := B5.trans (hC6.below (by omega) (by omega))
    have hnd1 := Lib.nDigits_pos x
    have hnd2 := nDigits_le hx0 HXP.out
    obtain ⟨P, hP⟩ : ∃ P, P = N - Lib.nDigits x := ⟨_, rfl⟩
    have hP1 : 1 ≤ P := by have := HN.out; omega
    have hP2 : P < N := by omega
    have hPn : N - 1 - P = Lib.nDigits x - 1 := by omega
    have C6 : ∀ i, i < N → w6.cell? ⟨b, i, none⟩ = some (.int .u8 ((48 + x / 10 ^ (N - 1 - i) % 10 : Nat) : Int)) := fun i hi => by
      have := hD6 (N - 1 - i) (by omega)
      rwa [Nat.zero_add, show N - 1 - (N - 1 - i) = i by omega] at this
    have hlow : ∀ i, i < P → w6.cell? ⟨b, i, none⟩ = some (.int .u8 48) := fun i hi => by
      have h1 : x / 10 ^ (N - 1 - i) = 0 := Nat.div_eq_of_lt (Nat.lt_of_lt_of_le (Lib.lt_pow_nDigits x) (Nat.pow_le_pow_right (by decide) (by omega)))
      rw [C6 i (by omega), h1]
      rfl
    have htop : ∃ d, 1 ≤ d ∧ d ≤ 9 ∧ w6.cell? ⟨b, P, none⟩ = some (.int .u8 ((48 + d : Nat) : Int)) := by
      refine ⟨x / 10 ^ (Lib.nDigits x - 1) % 10, ?_, by omega, by rw [C6 P hP2, hPn]⟩
      have h1 := pow_le_nDigits x hx0
      have h2 := Lib.lt_pow_nDigits x
      have h3 : 1 ≤ x / 10 ^ (Lib.nDigits x - 1) := (Nat.le_div_iff_mul_le (Nat.pow_pos (by decide))).2 (by omega)
      have h4 : x / 10 ^ (Lib.nDigits x - 1) < 10 := by
        refine Nat.div_lt_of_lt_mul ?_
        rw [← Nat.pow_succ, show (Lib.nDigits x - 1).succ = Lib.nDigits x by omega]; exact h2
      omega
    obtain ⟨d, hd1, hd9, hcP⟩ := htop
    have hdig : ∀ t (h : t < (Lib.decDigits x).length), w6.cell? ⟨b, P + t, none⟩ = some (.int .u8 (((Lib.decDigits x)[t].toNat : Nat) : Int)) := fun t h => by
      have h' : t < Lib.nDigits x := by rwa [Lib.decDigits_length] at h
      rw [C6 (P + t) (by omega), decDigits_at, show N - 1 - (P + t) = Lib.nDigits x - 1 - t by omega]
    have HDG : Hid _ := hdig
    have HNP : Hid (N - P = Lib.nDigits x) := by show _ = _; omega
    have HLOW : Hid _ := hlow
    have HB6 : Hid _ := B6
    have HF6 : Hid _ := F6
    clear hdig C6 hD6 hC6 F5 B5 k05 k15 k04 k14 hlow B6 F6 hP hnd1 hnd2 hPn
    go_wp2
    go_loop [5] (fun i => ∃ i' : Nat, i' ≤ P ∧ i = .int .i64 (i' : Int)) (fun i => P - (intOf i).toNat)
    case atStart => exact ⟨0, by omega, rfl⟩
    case round =>
      obtain ⟨i, hiP, rfl⟩ := hrel
      by_cases hi : i = P
      · subst hi
        have hne : ¬ ((48 + d : Nat) : Int) = 48 := by omega
        have hne' : ¬ (48 : Int) + (d : Int) = 48 := by omega
        rcases hs' with rfl | rfl
        · have hz : z = (x : Int) := by have := hZ.out; omega
          have hconv : (convert 91 9 (.slice (some ⟨b, i, none⟩) (N - i) (c3 - i))).run Tryz.prog w6 = .ok (.string ⟨(txt z).toArray⟩) w6 := by
            have h0 : txt z = Lib.decDigits x := by rw [hz]; exact Lib.itoa_nonneg x
            rw [h0, HNP.out, ← Lib.decDigits_length]
            exact run_convert_bytes_back w6 91 9 5 ⟨b, i, none⟩ _ (Lib.decDigits x) underlying91 underlying5 underlying9 (fun j hj => by rw [Lib.add_plain]; exact HDG.out j hj)
          go_wp2
          go_ret
          exact ⟨rfl, HB6.out⟩
        · have hz : z = -(x : Int) := by have := hZ.out; omega
          obtain ⟨p, rfl⟩ : ∃ p, i = p + 1 := ⟨i - 1, by omega⟩
          have e2 : ((p + 1 : Nat) : Int) - 1 = (p : Int) := by omega
          have hcp := HLOW.out p (by omega)
          have hfp : w6.frozen? ⟨b, p, none⟩ = false := by have := HF6.out p (by omega); rwa [Nat.zero_add] at this
          have hconv : (convert 91 9 (.slice (some ⟨b, p, none⟩) (N - p) (c3 - p))).run Tryz.prog (w6.setCell ⟨b, p, none⟩ (.int .u8 45)) = .ok (.string ⟨(txt z).toArray⟩) (w6.setCell ⟨b, p, none⟩ (.int .u8 45)) := by
            have h0 : txt z = 45 :: Lib.decDigits x := by rw [hz]; exact Lib.itoa_neg x hx0
            have hlen : N - p = (45 :: Lib.decDigits x).length := by rw [List.length_cons, Lib.decDigits_length, ← HNP.out]; omega
            rw [h0, hlen]
            refine run_convert_bytes_back _ 91 9 5 ⟨b, p, none⟩ _ (45 :: Lib.decDigits x) underlying91 underlying5 underlying9 (fun j hj => ?_)
            rw [Lib.add_plain]
            cases j with
            | zero => rw [Nat.add_zero, cell_same hcp]; rfl
            | succ j =>
              rw [cell_other (.inr (by omega)), show p + (j + 1) = p + 1 + j by omega]
              exact HDG.out j (by simpa using hj)
          have hpN : ¬ c3 = p := by omega
          go_wp2
          go_ret
          exact ⟨rfl, HB6.out.setCell (by show w.heap.size ≤ b; omega) _⟩
      · have hc := HLOW.out i (by omega)
        go_wp2
        go_round
        case rel => exact ⟨i + 1, by omega, by go_num⟩
        case measure => simp [intOf]; omega
end Go.Proofs.YtjlkplidpdhgbaaGreatDoor

/- Texts of numbers: plain lists of bytes. -/
namespace Rad
open Go

abbrev IsDg (b : UInt8) : Prop := 48 ≤ b.toNat ∧ b.toNat ≤ 57
/-- How many digits a text begins with. -/
def runD : List UInt8 → Nat
  | [] => 0
  | b :: r => if IsDg b then runD r + 1 else 0
/-- The number that digits make. -/
def dvalF (acc : Nat) (l : List UInt8) : Nat := l.foldl (fun a b => a * 10 + (b.toNat - 48)) acc
def dval (l : List UInt8) : Nat := dvalF 0 l
/-- The length of the longest beginning with which some number begins. -/
def wlen : List UInt8 → Nat
  | [] => 0
  | b :: r => if b = 45 then 1 + (if r.head? = some 48 then 0 else runD r) else if b = 48 then 1 else runD (b :: r)
/-- The digits of a number's text. -/
def digs : List UInt8 → List UInt8
  | [] => []
  | b :: r => if b = 45 then r else b :: r
/-- A number's text. -/
abbrev Valid (l : List UInt8) : Prop := wlen l = l.length ∧ digs l ≠ []
/-- The number that a text tells. -/
def val (l : List UInt8) : Int := if l.head? = some 45 then -(dval (digs l) : Int) else (dval (digs l) : Int)

theorem runD_le : ∀ l, runD l ≤ l.length
  | [] => Nat.le_refl _
  | b :: r => by unfold runD; have := runD_le r; split <;> simp <;> omega
theorem runD_all : ∀ {l : List UInt8}, runD l = l.length → ∀ b ∈ l, IsDg b
  | [], _, b, hb => by simp at hb
  | c :: r, h, b, hb => by
    unfold runD at h
    split at h
    · rename_i hc
      rcases List.mem_cons.1 hb with rfl | h1
      · exact hc
      · exact runD_all (by simpa using h) b h1
    · simp at h
theorem runD_of_all : ∀ {l : List UInt8}, (∀ b ∈ l, IsDg b) → runD l = l.length
  | [], _ => rfl
  | c :: r, h => by
    unfold runD
    rw [if_pos (h c List.mem_cons_self), runD_of_all fun b hb => h b (List.mem_cons_of_mem _ hb)]
    rfl
theorem runD_at : ∀ {l : List UInt8} {i : Nat} (h : i < l.length), i < runD l → IsDg l[i]
  | b :: r, i, h, hi => by
    by_cases hb : IsDg b
    · have e : runD (b :: r) = runD r + 1 := by rw [runD, if_pos hb]
      rw [e] at hi
      cases i with
      | zero => exact hb
      | succ i => exact runD_at (l := r) (by simpa using h) (by omega)
    · have e : runD (b :: r) = 0 := by rw [runD, if_neg hb]
      omega
theorem runD_stop : ∀ {l : List UInt8} (h : runD l < l.length), ¬ IsDg l[runD l]
  | b :: r, h => by
    by_cases hb : IsDg b
    · have e : runD (b :: r) = runD r + 1 := by rw [runD, if_pos hb]
      simp only [e] at h ⊢
      exact runD_stop (l := r) (by simpa using h)
    · have e : runD (b :: r) = 0 := by rw [runD, if_neg hb]
      simp only [e]
      exact hb
/-- The run, by its places. -/
theorem runD_eq {l : List UInt8} {n : Nat} (hn : n ≤ l.length) (h1 : ∀ i (h : i < l.length), i < n → IsDg l[i]) (h2 : ∀ (h : n < l.length), ¬ IsDg l[n]) : runD l = n := by
  rcases Nat.lt_trichotomy (runD l) n with h | h | h
  · exact absurd (h1 (runD l) (by omega) h) (runD_stop (by omega))
  · exact h
  · have := runD_le l
    exact absurd (runD_at (by omega) h) (h2 (by omega))

theorem dvalF_append (acc : Nat) (l m : List UInt8) : dvalF acc (l ++ m) = dvalF (dvalF acc l) m := by unfold dvalF; rw [List.foldl_append]
theorem dvalF_acc (acc : Nat) (l : List UInt8) : dvalF acc l = acc * 10 ^ l.length + dval l := by
  induction l generalizing acc with
  | nil => simp [dvalF, dval]
  | cons b r ih =>
    have e1 : dvalF acc (b :: r) = dvalF (acc * 10 + (b.toNat - 48)) r := rfl
    have e2 : dval (b :: r) = dvalF (0 * 10 + (b.toNat - 48)) r := rfl
    rw [e1, e2, ih, ih (0 * 10 + (b.toNat - 48)), List.length_cons, Nat.pow_succ, Nat.add_mul, Nat.zero_mul, Nat.zero_add, Nat.mul_assoc, Nat.mul_comm 10]
    omega
theorem dval_append (l m : List UInt8) : dval (l ++ m) = dval l * 10 ^ m.length + dval m := by
  show dvalF 0 (l ++ m) = _
  rw [dvalF_append, dvalF_acc]; rfl
theorem dval_cons (b : UInt8) (r : List UInt8) : dval (b :: r) = (b.toNat - 48) * 10 ^ r.length + dval r := by
  have : dval (b :: r) = dvalF (0 * 10 + (b.toNat - 48)) r := rfl
  rw [this, dvalF_acc]; simp
theorem dval_lt : ∀ {l : List UInt8}, (∀ b ∈ l, IsDg b) → dval l < 10 ^ l.length
  | [], _ => by decide
  | b :: r, h => by
    have h1 := dval_lt fun c hc => h c (List.mem_cons_of_mem _ hc)
    have h2 := h b List.mem_cons_self
    rw [dval_cons, List.length_cons, Nat.pow_succ]
    have h3 : (b.toNat - 48) * 10 ^ r.length ≤ 9 * 10 ^ r.length := Nat.mul_le_mul_right _ (by unfold IsDg at h2; omega)
    omega
theorem dval_ge {b : UInt8} {r : List UInt8} (hb : IsDg b) (h0 : b ≠ 48) : 10 ^ r.length ≤ dval (b :: r) := by
  rw [dval_cons]
  have h1 : 1 ≤ b.toNat - 48 := by
    unfold IsDg at hb
    have : b.toNat ≠ 48 := fun h => h0 (UInt8.toNat_inj.1 h)
    omega
  have := Nat.mul_le_mul_right (10 ^ r.length) h1
  omega
theorem decDigits_snoc {l : List UInt8} {b : UInt8} (h : Lib.decDigits (dval l) = l) (hp : 0 < dval l) (hb : IsDg b) : Lib.decDigits (dval (l ++ [b])) = l ++ [b] := by
  have e : dval (l ++ [b]) = dval l * 10 + (b.toNat - 48) := by rw [dval_append, dval_cons]; simp [dval, dvalF]
  unfold IsDg at hb
  rw [e, Lib.decDigits, dif_neg (by omega), show (dval l * 10 + (b.toNat - 48)) / 10 = dval l by omega, show (dval l * 10 + (b.toNat - 48)) % 10 = b.toNat - 48 by omega, h, show 48 + (b.toNat - 48) = b.toNat by omega]
  simp
/-- Digits, the first not 0, are the numeral of their number. -/
theorem decDigits_dval {b : UInt8} {r : List UInt8} (h0 : b ≠ 48) (h : ∀ c ∈ b :: r, IsDg c) : Lib.decDigits (dval (b :: r)) = b :: r := by
  have key : ∀ n (m : List UInt8), m.length = n → (∀ c ∈ m, IsDg c) → Lib.decDigits (dval (b :: m)) = b :: m := by
    intro n
    induction n with
    | zero =>
      intro m hm _
      obtain rfl := List.length_eq_zero_iff.1 hm
      have hb := h b List.mem_cons_self
      unfold IsDg at hb
      have e : dval [b] = b.toNat - 48 := by rw [dval_cons]; simp [dval, dvalF]
      rw [e, Lib.decDigits, dif_pos (by omega), show 48 + (b.toNat - 48) = b.toNat by omega]
      simp
    | succ n ih =>
      intro m hm hall
      have hne : m ≠ [] := by intro e; rw [e] at hm; simp at hm
      have hsplit := List.dropLast_concat_getLast hne
      have h1 := ih m.dropLast (by rw [List.length_dropLast]; omega) (fun c hc => hall c (List.dropLast_subset _ hc))
      rw [← hsplit, ← List.cons_append]
      refine decDigits_snoc h1 ?_ (hall _ (List.getLast_mem hne))
      exact Nat.lt_of_lt_of_le (Nat.pow_pos (by decide)) (dval_ge (h b List.mem_cons_self) h0)
  exact key _ r rfl fun c hc => h c (List.mem_cons_of_mem _ hc)
theorem parseUint10_digits : ∀ (l : List UInt8) (acc : Nat), (∀ b ∈ l, IsDg b) → dvalF acc l < 18446744073709551616 → Lib.parseUint10 acc l = .ok (dvalF acc l)
  | [], acc, _, _ => rfl
  | c :: r, acc, h, hl => by
    have hc := h c List.mem_cons_self
    have e : dvalF acc (c :: r) = dvalF (acc * 10 + (c.toNat - 48)) r := rfl
    rw [e] at hl ⊢
    have h1 : acc * 10 + (c.toNat - 48) ≤ dvalF (acc * 10 + (c.toNat - 48)) r := by
      rw [dvalF_acc]
      have := Nat.le_mul_of_pos_right (acc * 10 + (c.toNat - 48)) (Nat.pow_pos (show 0 < 10 by decide) (n := r.length))
      omega
    unfold Lib.parseUint10
    rw [if_pos (show 48 ≤ c.toNat ∧ c.toNat ≤ 57 from hc), if_neg (by omega), if_neg (by omega)]
    exact parseUint10_digits r _ (fun b hb => h b (List.mem_cons_of_mem _ hb)) hl
theorem parseUintM_digits : ∀ (l : List UInt8) (M acc : Nat), (∀ b ∈ l, IsDg b) → dvalF acc l ≤ M → M < 18446744073709551616 → Lib.parseUintM M acc l = .ok (dvalF acc l)
  | [], M, acc, _, _, _ => rfl
  | c :: r, M, acc, h, hl, hM => by
    have hc := h c List.mem_cons_self
    have e : dvalF acc (c :: r) = dvalF (acc * 10 + (c.toNat - 48)) r := rfl
    rw [e] at hl ⊢
    have h1 : acc * 10 + (c.toNat - 48) ≤ dvalF (acc * 10 + (c.toNat - 48)) r := by
      rw [dvalF_acc]
      have := Nat.le_mul_of_pos_right (acc * 10 + (c.toNat - 48)) (Nat.pow_pos (show 0 < 10 by decide) (n := r.length))
      omega
    unfold Lib.parseUintM
    rw [if_pos (show 48 ≤ c.toNat ∧ c.toNat ≤ 57 from hc), if_neg (by omega), if_neg (by omega)]
    exact parseUintM_digits r M _ (fun b hb => h b (List.mem_cons_of_mem _ hb)) hl hM

theorem digs_neg (r : List UInt8) : digs (45 :: r) = r := by simp [digs]
theorem digs_pos {b : UInt8} (hb : b ≠ 45) (r : List UInt8) : digs (b :: r) = b :: r := by simp [digs, hb]
theorem wlen_neg (r : List UInt8) : wlen (45 :: r) = 1 + (if r.head? = some 48 then 0 else runD r) := by simp [wlen]
theorem wlen_zero (r : List UInt8) : wlen (48 :: r) = 1 := by simp [wlen]
theorem wlen_pos {b : UInt8} (hb : b ≠ 45) (h0 : b ≠ 48) (r : List UInt8) : wlen (b :: r) = runD (b :: r) := by simp [wlen, hb, h0]
/-- What a number's text is made of. -/
theorem Valid.cases {l : List UInt8} (h : Valid l) : (∃ b r, digs l = b :: r ∧ (∀ c ∈ b :: r, IsDg c) ∧ (b = 48 → r = [] ∧ l = [48])) ∧ (l = digs l ∧ l.head? ≠ some 45 ∨ l = 45 :: digs l) := by
  obtain ⟨h1, h2⟩ := h
  cases l with
  | nil => simp [digs] at h2
  | cons b r =>
    by_cases hb : b = 45
    · subst hb
      rw [digs_neg] at h2 ⊢
      refine ⟨?_, .inr rfl⟩
      cases r with
      | nil => simp at h2
      | cons c r =>
        rw [wlen_neg] at h1
        by_cases hc : c = 48
        · subst hc; simp at h1
        · rw [if_neg (by simpa using hc)] at h1
          refine ⟨c, r, rfl, runD_all (by simp at h1 ⊢; omega), fun e => absurd e hc⟩
    · rw [digs_pos hb]
      refine ⟨⟨b, r, rfl, ?_, fun e => ?_⟩, .inl ⟨rfl, by simpa using hb⟩⟩
      · by_cases h0 : b = 48
        · subst h0
          rw [wlen_zero] at h1
          have hr : r = [] := List.length_eq_zero_iff.1 (by simpa using h1.symm)
          subst hr
          intro c hc
          simp at hc; subst hc
          exact ⟨by decide, by decide⟩
        · rw [wlen_pos hb h0] at h1
          exact runD_all h1
      · subst e
        rw [wlen_zero] at h1
        have hr : r = [] := List.length_eq_zero_iff.1 (by simpa using h1.symm)
        subst hr
        exact ⟨rfl, rfl⟩
theorem Valid.digits {l : List UInt8} (h : Valid l) : ∀ c ∈ digs l, IsDg c := by
  obtain ⟨⟨b, r, hd, hall, _⟩, _⟩ := h.cases
  rw [hd]; exact hall
theorem Valid.val_abs {l : List UInt8} : (val l).natAbs = dval (digs l) := by unfold val; split <;> simp
/-- What is read is written so. -/
theorem Valid.back {l : List UInt8} (h : Valid l) : Lib.itoa (val l) = l := by
  obtain ⟨⟨b, r, hd, hall, h0⟩, hs⟩ := h.cases
  rcases hs with ⟨he, hh⟩ | he
  · have e : val l = ((dval (digs l) : Nat) : Int) := by unfold val; rw [if_neg hh]
    rw [e, Lib.itoa_nonneg]
    by_cases hb : b = 48
    · obtain ⟨_, hl⟩ := h0 hb
      subst hl
      have : dval (digs [48]) = 0 := by decide
      rw [this, Lib.decDigits_one (by decide)]; rfl
    · rw [hd, decDigits_dval hb hall, ← hd]; exact he.symm
  · have e : val l = -((dval (digs l) : Nat) : Int) := by unfold val; rw [if_pos (by rw [he]; rfl)]
    have hb : b ≠ 48 := fun hb => by
      have := (h0 hb).2
      rw [this] at he
      simp [digs] at he
    have hp : 0 < dval (digs l) := by
      rw [hd]
      exact Nat.lt_of_lt_of_le (Nat.pow_pos (by decide)) (dval_ge (hall b List.mem_cons_self) hb)
    rw [e, Lib.itoa_neg _ hp, hd, decDigits_dval hb hall, ← hd]; exact he.symm
end Rad

namespace Rad
open Go

theorem dg_not_sign {c : UInt8} (h : IsDg c) : ¬ c.toNat = 43 ∧ ¬ c.toNat = 45 := by unfold IsDg at h; omega
theorem parseMag_digits {d : List UInt8} (h0 : d ≠ []) (h : ∀ b ∈ d, IsDg b) (hl : d.length ≤ 19) : Lib.parseMag d = .ok (dval d) := by
  unfold Lib.parseMag
  rw [if_neg h0]
  refine parseUint10_digits d 0 h ?_
  have h1 : dvalF 0 d < 10 ^ d.length := dval_lt h
  have h2 : 10 ^ d.length ≤ 10 ^ 19 := Nat.pow_le_pow_right (by decide) hl
  omega
theorem pu_ok {d : List UInt8} (h0 : d ≠ []) (h : ∀ b ∈ d, IsDg b) (hl : d.length ≤ 19) : Lib.parseUintB 64 d = .ok (dval d) := by
  unfold Lib.parseUintB
  rw [if_neg h0]
  have h1 : dvalF 0 d < 10 ^ d.length := dval_lt h
  have h2 : 10 ^ d.length ≤ 10 ^ 19 := Nat.pow_le_pow_right (by decide) hl
  exact parseUintM_digits d _ 0 h (by omega) (by decide)
theorem atoi_ok {l : List UInt8} (h : Valid l) (hl : (digs l).length ≤ 18) : Lib.atoiAll l = .ok (val l) := by
  have hd := h.digits
  have hv : dval (digs l) < 1000000000000000000 := by
    have h1 := dval_lt hd
    have h2 : 10 ^ (digs l).length ≤ 10 ^ 18 := Nat.pow_le_pow_right (by decide) hl
    omega
  have hp := parseMag_digits h.2 hd (by omega)
  obtain ⟨⟨b, r, hbr, _, _⟩, hs⟩ := h.cases
  have hb : IsDg b := hd b (by rw [hbr]; exact List.mem_cons_self)
  have hns := dg_not_sign hb
  rcases hs with ⟨he, hh⟩ | he
  · have e : val l = ((dval (digs l) : Nat) : Int) := by unfold val; rw [if_neg hh]
    rw [e]
    have he2 : l = b :: r := by rw [he]; exact hbr
    rw [← he] at hp
    rw [he] at he2 ⊢
    rw [← he] at he2 ⊢
    rw [he2] at hp ⊢
    unfold Lib.atoiAll
    simp only [hns.1, hns.2, or_self, if_false, hp]
    have e3 : digs (b :: r) = b :: r := by rw [← he2]; exact he.symm
    rw [hbr] at hv
    rw [e3]
    rw [if_neg (by omega)]
    simp
  · have e : val l = -((dval (digs l) : Nat) : Int) := by unfold val; rw [if_pos (by rw [he]; rfl)]
    rw [e]
    rw [he]
    unfold Lib.atoiAll
    simp only [digs_neg]
    have h45 : (45 : UInt8).toNat = 45 := rfl
    simp only [h45, or_true, if_true, hp]
    simp only [not_true, false_and, if_false, true_and]
    rw [if_neg (by omega)]
/-- One chunk of digits read. -/
theorem chunk_step {W D : Nat} {t : List UInt8} {n V : Nat} (hn : n ≤ t.length) (h0 : W = 0 ∨ n = 19) (h : W * 10 ^ t.length + dval t = V) (hD : D = dval (t.take n)) :
    (W * 10000000000000000000 + D) * 10 ^ (t.drop n).length + dval (t.drop n) = V := by
  have e := dval_append (t.take n) (t.drop n)
  rw [List.take_append_drop] at e
  have hl : t.length = n + (t.drop n).length := by rw [List.length_drop]; omega
  rw [e, hl] at h
  rw [hD, ← h, Nat.add_mul, Nat.add_assoc]
  congr 1
  rcases h0 with h0 | h0
  · rw [h0]; simp
  · rw [h0, Nat.pow_add, ← Nat.mul_assoc]
end Rad
