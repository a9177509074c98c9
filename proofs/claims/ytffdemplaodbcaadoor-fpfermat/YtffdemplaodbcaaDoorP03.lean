/- A part of the proof: F1, F2. -/
import Derived.Test.YtffdemplaodbcaaDoorP02
import Derived.Deep.RegionWith
import Derived.Deep.Cut
import Derived.Deep.CutRange
set_option linter.all false
namespace Go.Proofs.YtffdemplaodbcaaDoor
open Go Go.Proofs Go.RowKit Go.Rad

theorem i64_and1 (n : Int) : bits .and .i64 n 1 = n % 2 := by
  have h1 : (BitVec.ofInt 64 (1 : Int)).toNat = 1 := by decide
  have h2 : ((BitVec.ofInt 64 n).toNat : Int) = n % 18446744073709551616 := by rw [BitVec.toNat_ofInt]; omega
  show IntKind.i64.wrap ((BitVec.ofInt 64 n &&& BitVec.ofInt 64 1).toNat : Int) = _
  rw [BitVec.toNat_and, h1, Nat.and_one_is_mod, IntKind.wrap_i64]
  omega
theorem bitLen_lt (n : Nat) (h : n < 9223372036854775808) : n < 2 ^ Lib.bitLen n ∧ Lib.bitLen n ≤ 63 := by
  refine ⟨?_, Lib.bitLen_le n 63 (by decide) (by omega)⟩
  have key : ∀ f x, x < 2 ^ f → x < 2 ^ Lib.bitLenAux f x := by
    intro f
    induction f with
    | zero => intro x hx; exact hx
    | succ f ih =>
      intro x hx
      unfold Lib.bitLenAux
      split
      · omega
      · have := ih (x / 2) (by rw [Nat.pow_succ] at hx; omega)
        rw [Nat.pow_add, Nat.pow_one]; omega
  exact key 64 n (by omega)
theorem pow_bit (A P n j : Nat) (hP : 2 ≤ P) : A ^ (n / 2 ^ j) % P = (if n / 2 ^ j % 2 = 1 then (A ^ (n / 2 ^ (j + 1)) % P * (A ^ (n / 2 ^ (j + 1)) % P) % P * A) % P else A ^ (n / 2 ^ (j + 1)) % P * (A ^ (n / 2 ^ (j + 1)) % P) % P) := by
  have e : n / 2 ^ (j + 1) = n / 2 ^ j / 2 := by rw [Nat.pow_succ, Nat.div_div_eq_div_mul]
  rw [e, ← Nat.mul_mod, ← Nat.pow_add]
  obtain ⟨k, hk⟩ : ∃ k, n / 2 ^ j = k := ⟨_, rfl⟩
  rw [hk]
  split
  · rw [Nat.mod_mul_mod, ← Nat.pow_succ]; congr 2; omega
  · congr 2; omega
set_option maxRecDepth 10000 in
set_option maxHeartbeats 1000000 in
theorem raise_any (w : World) (p q : Int) (P A n : Nat) (hP : p = P) (hp : P < 2147483648) (hp0 : 2 ≤ P) (ha : A < P) (hn : n < 9223372036854775808) :
    Calls Tryd.prog 79 #[FV p q, .int .i64 A, .int .i64 n] w fun e w' => e = .returned (.int .i64 ((A ^ n % P : Nat) : Int)) ∧ Below w.heap.size w w' := by
  have CL := fun w => Tryd.bits_Len (n : Int) w (by omega) (by omega)
  have HP : Hid (p = P) := hP
  have hpp : 2 ≤ p ∧ p < 2147483648 := by omega
  have HL : Hid (n < 2 ^ Lib.bitLen n ∧ Lib.bitLen n ≤ 63) := bitLen_lt n hn
  have hl := HL.out.2
  clear hP
  go_enter Tryd.func79, Tryd.ntmps79
  go_wp2_with (go_at_call 61; refine (CL _).mono ?_; rintro e w' ⟨rfl, hw⟩; subst hw)
  go_loopw [7, 8] (fun x i wr => ∃ (j : Nat) (y : Int), j ≤ Lib.bitLen n ∧ i = .int .i64 ((j : Int) - 1) ∧ x = .int .i64 y ∧ y = ((A ^ (n / 2 ^ j) % P : Nat) : Int) ∧ Below w.heap.size w wr ∧ w.heap.size < wr.heap.size ∧ wr.cell? ⟨w.heap.size, 0, none⟩ = some (.int .i64 p) ∧ wr.cell? ⟨w.heap.size, 1, none⟩ = some (.int .i64 q))
    (fun _ i _ => (Lib.intOf i + 1).toNat)
  case atStart =>
    refine ⟨Lib.bitLen n, 1, Nat.le_refl _, rfl, rfl, ?_, bel1 _ _, by simp, by simp [go_sem], by simp [go_sem]⟩
    rw [Nat.div_eq_of_lt HL.out.1, Nat.pow_zero, Nat.mod_eq_of_lt (by omega)]; rfl
  case round =>
    obtain ⟨j, y, hj, rfl, rfl, hy, hB, hlt, c0, c1⟩ := hrel
    cases j with
    | zero =>
      have HY : Hid (y = ((A ^ (n / 2 ^ 0) % P : Nat) : Int)) := hy
      have HB : Hid (Below w.heap.size w wr) := hB
      clear hy hB
      go_wp2
      go_ret
      exact ⟨ret_int (by rw [HY.out, Nat.pow_zero, Nat.div_one]), HB.out⟩
    | succ j =>
      have hyp : 0 ≤ y ∧ y < 2147483648 := by
        rw [hy]
        have := Nat.mod_lt (A ^ (n / 2 ^ (j + 1))) (show P > 0 by omega)
        omega
      have hyy := sq_lt hyp.1 hyp.2 hyp.1 hyp.2
      have L1 := fun w => least_any w p q (y * y) (by omega) (by omega) hyy.1 (by omega)
      have HY : Hid (y = ((A ^ (n / 2 ^ (j + 1)) % P : Nat) : Int)) := hy
      have HB : Hid (Below w.heap.size w wr) := hB
      clear hy hB
      have hb : bits .and .i64 ((n : Int) / 2 ^ j) 1 = ((n / 2 ^ j % 2 : Nat) : Int) := by rw [i64_and1]; push_cast; rfl
      go_wp2_with (go_at_call 56; fail)
      refine (L1 _).mono ?_
      rintro e w1 ⟨rfl, hb1⟩
      obtain ⟨z, hz⟩ : ∃ z, y * y % p = z := ⟨_, rfl⟩
      rw [hz]
      have hzp : 0 ≤ z ∧ z < 2147483648 := by
        have g1 := Int.emod_nonneg (y * y) (show p ≠ 0 by omega)
        have g2 := Int.emod_lt_of_pos (y * y) (show 0 < p by omega)
        omega
      have hza := sq_lt hzp.1 hzp.2 (show (0 : Int) ≤ (A : Int) by omega) (by omega)
      have L2 := fun w => least_any w p q (z * A) (by omega) (by omega) hza.1 (by omega)
      have HZ : Hid (y * y % p = z) := hz
      have HB1 : Hid (Below wr.heap.size wr w1) := hb1
      have hlt1 : w.heap.size < w1.heap.size := Nat.lt_of_lt_of_le hlt hb1.size
      replace c0 := (hb1.cell (p := ⟨w.heap.size, 0, none⟩) hlt).trans c0
      replace c1 := (hb1.cell (p := ⟨w.heap.size, 1, none⟩) hlt).trans c1
      have HPB := pow_bit A P n j hp0
      have HPB : Hid _ := HPB
      have hzn : z = ((A ^ (n / 2 ^ (j + 1)) % P * (A ^ (n / 2 ^ (j + 1)) % P) % P : Nat) : Int) := by
        rw [← hz, HY.out, HP.out]; push_cast; rfl
      have HZN : Hid _ := hzn
      clear L1 hz hb1 hzn
      by_cases hbit : n / 2 ^ j % 2 = 1
      · rw [hbit] at hb
        have HBIT : Hid (n / 2 ^ j % 2 = 1) := hbit
        clear hbit
        go_wp2_with (go_at_call 56; fail)
        refine (L2 _).mono ?_
        rintro e w2 ⟨rfl, hb2⟩
        have HB2 : Hid (Below w1.heap.size w1 w2) := hb2
        have hlt2 : w.heap.size < w2.heap.size := Nat.lt_of_lt_of_le hlt1 hb2.size
        replace c0 := (hb2.cell (p := ⟨w.heap.size, 0, none⟩) hlt1).trans c0
        replace c1 := (hb2.cell (p := ⟨w.heap.size, 1, none⟩) hlt1).trans c1
        clear L2 hb2 hb
        go_wp2
        go_roundw
        case rel =>
          refine ⟨j, _, by omega, rfl, rfl, ?_, ?_, hlt2, c0, c1⟩
          · rw [HPB.out, if_pos HBIT.out, HZN.out, HP.out]; push_cast; rfl
          · have h1 := HB.out.trans (HB1.out.mono HB.out.size)
            exact h1.trans (HB2.out.mono h1.size)
        case measure => simp only [Lib.intOf]; omega
      · have hb0 : n / 2 ^ j % 2 = 0 := by omega
        rw [hb0] at hb
        have HBIT : Hid (¬ n / 2 ^ j % 2 = 1) := hbit
        clear hbit hb0
        go_wp2
        go_roundw
        case rel =>
          refine ⟨j, _, by omega, rfl, rfl, ?_, HB.out.trans (HB1.out.mono HB.out.size), hlt1, c0, c1⟩
          rw [HPB.out, if_neg HBIT.out, HZN.out]
        case measure => simp only [Lib.intOf]; omega
end Go.Proofs.YtffdemplaodbcaaDoor
namespace Go.Proofs.YtffdemplaodbcaaDoor
open Go Go.Proofs Go.RowKit Go.Rad
open _root_.Rad (SP Prm odd_unique)

/-- The answer is whether that is so. -/
inductive BoolIs (w : World) (P : Prop) (e : Ending) (w' : World) : Prop
  | mk (r : Bool) (he : e = .returned (.bool r)) (h : r = true ↔ P) (hb : Below w.heap.size w w')
theorem TabB.below {w w' : World} (h : TabB w) (hb : Below w.heap.size w w') : TabB w' := fun j hj => (hb.cell (p := ⟨1, j, none⟩) (block_lt (h j hj))).trans (h j hj)
theorem div_two_pow {n s d : Nat} (h : n = 2 ^ s * d) : n / 2 ^ s = d := by rw [h]; exact Nat.mul_div_cancel_left d (Nat.pow_pos (by decide))
set_option maxRecDepth 10000 in
set_option maxHeartbeats 1000000 in
theorem seems_any (w : World) (N b s d : Nat) (h3 : 3 ≤ N) (hN : N < 2147483648) (hb : b < N) (hd : N - 1 = 2 ^ s * d) (hdo : d % 2 = 1) (hs : 1 ≤ s) (ht : TabB w) :
    Calls Tryd.prog 62 #[.int .i64 N, .int .i64 b] w fun e w' => BoolIs w (b ^ d % N = 1 ∨ ∃ i, i < s ∧ b ^ (2 ^ i * d) % N = N - 1) e w' := by
  have CF := fieldOf_any w N (N * N) (by omega) (by omega) rfl
  obtain ⟨q, hq⟩ : ∃ q : Int, (N : Int) * N = q := ⟨_, rfl⟩
  rw [hq] at CF
  have hdd : 2 * (d / 2) + 1 = d := by omega
  have CT := fun w => twos_any s (d / 2) (by rw [hdd, ← hd]; unfold B; omega) w
  rw [hdd, ← hd] at CT
  clear hdd
  have HT : Hid (TabB w) := ht
  clear hq ht
  have e1 : (((N - 1 : Nat) : Int)) = (N : Int) - 1 := by omega
  rw [e1] at CT
  clear e1
  go_enter Tryd.func62, Tryd.ntmps62
  go_wp2_with (go_at_call 31; fail)
  refine CF.mono ?_
  rintro e w1 ⟨rfl, hb1⟩
  clear CF
  have HB1 : Hid (Below w.heap.size w (w1.alloc (Obj.cells #[.int .i64 N, .int .i64 q] 53))) := hb1.alloc hb1.size _
  go_wp2_with (go_at_call 78; fail)
  refine (CT _ (HT.out.below HB1.out)).mono ?_
  rintro e w2 ⟨rfl, hw⟩
  clear CT
  obtain ⟨b5, hb5⟩ : ∃ x, x = w1.heap.size := ⟨_, rfl⟩
  have h5 : b5 < w2.heap.size ∧ w2.cell? ⟨b5, 0, none⟩ = some (.int .i64 N) ∧ w2.cell? ⟨b5, 1, none⟩ = some (.int .i64 q) := by
    rw [hw, hb5]; simp [go_sem]
  have HB2 : Hid (Below w.heap.size w w2) := by rw [hw]; exact HB1.out
  rw [← hb5]
  clear hw hb5 HB1 hb1
  obtain ⟨l5, c0, c1⟩ := h5
  have hsh : ((N : Int) - 1) / 2 ^ s = (d : Int) := by
    have e := div_two_pow hd
    rw [show (N : Int) - 1 = ((N - 1 : Nat) : Int) by omega, ← e]; push_cast; rfl
  have hs63 : s < 63 ∧ d ≤ N - 1 := by
    have h2 := Nat.le_mul_of_pos_right (2 ^ s) (show 0 < d by omega)
    have h4 := Nat.le_mul_of_pos_left d (show 0 < 2 ^ s from Nat.pow_pos (by decide))
    refine ⟨?_, by omega⟩
    rcases Nat.lt_or_ge s 63 with h | h
    · exact h
    · have h1 : 2 ^ 63 ≤ 2 ^ s := Nat.pow_le_pow_right (by decide) h
      omega
  have CR := fun w => raise_any w N q N b d rfl (by omega) (by omega) hb (by omega)
  obtain ⟨x, hx⟩ : ∃ x : Int, ((b ^ d % N : Nat) : Int) = x := ⟨_, rfl⟩
  rw [hx] at CR
  have HX : Hid (((b ^ d % N : Nat) : Int) = x) := hx
  have HD : Hid (N - 1 = 2 ^ s * d ∧ d % 2 = 1) := ⟨hd, hdo⟩
  clear hx hd hdo HT
  go_upto_region 3 with fail
  refine wp_drawn mixed [⟨15, [], [], [5]⟩, ⟨16, [], [], [1]⟩, ⟨17, [], [], [0]⟩, ⟨18, [2], [2], []⟩, ⟨19, [], [], [6]⟩, ⟨20, [3, 4], [2, 3, 4], []⟩, ⟨21, [0, 1, 5], [0, 1, 2, 3, 4, 5], []⟩, ⟨7, [0, 1, 2, 3, 4, 5, 6], [0, 1, 2, 3, 4, 5, 6], []⟩] [] (by kernel_rfl) 44 rfl (by kernel_rfl) (fun (i : Nat) (v : Value) (wq : World) => match i with | 0 => v = .agg #[.int .i64 (N), .int .i64 (q)] | 1 => v = .int .i64 (b) | 2 => v = .int .i64 (N) | 3 => v = .int .i64 (((N : Int) - 1)) | 4 => v = .int .i64 (s) | 5 => v = .int .i64 ((d : Int)) | 6 => v = .int .i64 (x) | 7 => v = .int .i64 (x) | _ => True) (fun _ wq => Below w2.heap.size w2 wq) (fun wx wy => Below wx.heap.size wx wy) (Below.refl _ _).drew (fun i v wx wy h hx => match i, h with | 0, h => h | 1, h => h | 2, h => h | 3, h => h | 4, h => h | 5, h => h | 6, h => h | 7, h => h  | n + 8, _ => trivial) ?_ ?_
  · intro i o r ho hr L fr wx hW hL hpr hds hdef hpre hfree
    clear hL hpr hds hdef
    match i, ho, hr with
    | 0, ho, hr => ?_
    | 1, ho, hr => ?_
    | 2, ho, hr => ?_
    | 3, ho, hr =>
      obtain rfl := Option.some.inj ho; obtain rfl := Option.some.inj hr
      have e2 := ev_tmp (show fr.eval (.tmp 17) = .int .i64 (N) from hpre 2 (by decide) _ rfl)
      clear hpre hfree
      refine stpK rfl rfl fun K hK => ?_
      go_simp
      exact hK _ _ ⟨(by show Value.int _ (IntKind.i64.wrap _) = _; rw [IntKind.wrap_i64]; congr 1; omega), hW, Below.refl _ _, fun h => (List.not_mem_nil h).elim⟩
    | 4, ho, hr => ?_
    | 5, ho, hr => ?_
    | 6, ho, hr =>
      obtain rfl := Option.some.inj ho; obtain rfl := Option.some.inj hr
      have e0 := ev_tmp (show fr.eval (.tmp 15) = .agg #[.int .i64 (N), .int .i64 (q)] from hpre 0 (by decide) _ rfl)
      have e1 := ev_tmp (show fr.eval (.tmp 16) = .int .i64 (b) from hpre 1 (by decide) _ rfl)
      have e5 := ev_tmp (show fr.eval (.tmp 20) = .int .i64 ((d : Int)) from hpre 5 (by decide) _ rfl)
      clear hpre hfree
      refine stpK rfl rfl fun K hK => ?_
      go_simp
      refine (CR wx).mono ?_
      rintro e wy ⟨rfl, hb⟩
      exact hK _ _ ⟨rfl, hW.trans (hb.mono hW.size), hb, fun h => (List.not_mem_nil h).elim⟩
    | 7, ho, hr => ?_
    | n + 8, ho, hr => exact absurd hr (by simp)
    all_goals
      obtain rfl := Option.some.inj ho; obtain rfl := Option.some.inj hr
      simp only [List.mem_cons, List.not_mem_nil, or_false, false_imp_iff, implies_true, forall_eq_or_imp, forall_eq, List.getElem?_cons_zero, List.getElem?_cons_succ, Option.some.injEq, forall_eq', evt] at hpre hfree
      have c0 := (hW.cell (p := ⟨b5, 0, none⟩) l5).trans c0
      have c1 := (hW.cell (p := ⟨b5, 1, none⟩) l5).trans c1
      refine stpK rfl rfl fun K hK => ?_ <;> (go_simp; exact hK _ _ ⟨(by first | rfl | exact (by first | rfl | (simp [hsh]; done) | (rw [hsh]))), hW, Below.refl _ _, fun h => (List.not_mem_nil h).elim⟩)
  · intro vs wn hvs hW1 hap0
    clear hap0
    have e0 : vs 0 = .agg #[.int .i64 (N), .int .i64 (q)] := hvs 0 (by decide)
    have e1 : vs 1 = .int .i64 (b) := hvs 1 (by decide)
    have e2 : vs 2 = .int .i64 (N) := hvs 2 (by decide)
    have e3 : vs 3 = .int .i64 (((N : Int) - 1)) := hvs 3 (by decide)
    have e4 : vs 4 = .int .i64 (s) := hvs 4 (by decide)
    have e5 : vs 5 = .int .i64 ((d : Int)) := hvs 5 (by decide)
    have e6 : vs 6 = .int .i64 (x) := hvs 6 (by decide)
    have e7 : vs 7 = .int .i64 (x) := hvs 7 (by decide)
    simp only [puts, Nat.reduceAdd, e0, e1, e2, e3, e4, e5, e6, e7, Act.put, List.setIfInBounds_toArray, List.set_cons_zero, List.set_cons_succ, List.drop_succ_cons, List.drop_zero, List.length_cons, List.length_nil]
    clear hvs e0 e1 e2 e3 e4 e5 e6 e7
    replace c0 := (hW1.cell (p := ⟨b5, 0, none⟩) l5).trans c0
    replace c1 := (hW1.cell (p := ⟨b5, 1, none⟩) l5).trans c1
    have HB3 : Hid (Below w.heap.size w wn) := HB2.out.trans (hW1.mono HB2.out.size)
    have hl5 : b5 < wn.heap.size := Nat.lt_of_lt_of_le l5 hW1.size
    have HN0 : Hid (w.heap.size ≤ wn.heap.size) := HB3.out.size
    clear hW1 CR hsh l5 HB2
    by_cases hx1 : x = 1
    · subst hx1
      go_wp2
      refine bodyPost_ret (v := .bool true) (by simp [results, go_sem, loadVar]) rfl ?_
      exact .mk true rfl ⟨fun _ => .inl (by have := HX.out; omega), fun _ => rfl⟩ HB3.out
    · have hx1' : (x == 1) = false := by simpa using hx1
      have HX1 : Hid (¬ x = 1) := hx1
      clear hx1
      go_wp2
      go_loopw [7, 8] (fun xv iv wr => ∃ (k : Nat) (y : Int), k + 1 ≤ s ∧ iv = .int .i64 ((k : Int) + 1) ∧ xv = .int .i64 y ∧ ((b ^ (2 ^ k * d) % N : Nat) : Int) = y ∧ (∀ i, i < k → b ^ (2 ^ i * d) % N ≠ N - 1) ∧ Below w.heap.size w wr ∧ b5 < wr.heap.size ∧ wr.cell? ⟨b5, 0, none⟩ = some (.int .i64 N) ∧ wr.cell? ⟨b5, 1, none⟩ = some (.int .i64 q))
        (fun _ i _ => (s : Int).toNat + 1 - (Lib.intOf i).toNat)
      case atStart => exact ⟨0, x, by omega, rfl, rfl, by rw [Nat.pow_zero, Nat.one_mul]; exact HX.out, fun i hi => by omega, HB3.out, hl5, c0, c1⟩
      case round =>
        obtain ⟨k, y, hk, rfl, rfl, hy, hno, hBr, hlr, d0, d1⟩ := hrel
        have hyp : 0 ≤ y ∧ y < N := by
          rw [← hy]
          have := Nat.mod_lt (b ^ (2 ^ k * d)) (show N > 0 by omega)
          omega
        have HY : Hid (((b ^ (2 ^ k * d) % N : Nat) : Int) = y) := hy
        have HNO : Hid (∀ i, i < k → b ^ (2 ^ i * d) % N ≠ N - 1) := hno
        have HBR : Hid (Below w.heap.size w wr) := hBr
        clear hy hno hBr c0 c1
        have fin : ∀ r : Bool, (r = true ↔ y = (N : Int) - 1) → (y = (N : Int) - 1 ∨ k + 1 = s) → (r = true ↔ (b ^ d % N = 1 ∨ ∃ i, i < s ∧ b ^ (2 ^ i * d) % N = N - 1)) := by
          intro r hr hend
          have h1 := HY.out
          constructor
          · intro h
            exact .inr ⟨k, by omega, by have := hr.1 h; omega⟩
          · rintro (h | ⟨i, hi, h⟩)
            · exact absurd (by have := HX.out; omega) HX1.out
            · refine hr.2 ?_
              rcases Nat.lt_trichotomy i k with h2 | h2 | h2
              · exact absurd h (HNO.out i h2)
              · subst h2; omega
              · rcases hend with h4 | h4
                · exact h4
                · omega
        have FIN : Hid _ := fin
        clear fin
        by_cases hlast : k + 1 = s
        · have hlt : ¬ (k : Int) + 1 < (s : Int) := by omega
          by_cases hyn : y = (N : Int) - 1
          · have hyb : (y == (N : Int) - 1) = true := by simpa using hyn
            have R := FIN.out true ⟨fun _ => hyn, fun _ => rfl⟩ (.inl hyn)
            have HR : Hid _ := R
            clear R hyn
            go_wp2
            refine bodyPost_ret (v := .bool true) (by simp [results, go_sem, loadVar]) rfl ?_
            exact .mk true rfl ⟨fun _ => HR.out.1 trivial, fun _ => rfl⟩ HBR.out
          · have hyb : (y == (N : Int) - 1) = false := by simpa using hyn
            have R := FIN.out false ⟨fun h => (by cases h), fun h => absurd h hyn⟩ (.inr hlast)
            have HR : Hid _ := R
            clear R hyn
            go_wp2
            refine bodyPost_ret (v := .bool false) (by simp [results, go_sem, loadVar]) rfl ?_
            exact .mk false rfl HR.out HBR.out
        · have hlt : (k : Int) + 1 < (s : Int) := by omega
          by_cases hyn : y = (N : Int) - 1
          · have hyb : (y == (N : Int) - 1) = true := by simpa using hyn
            have hyc : (y != (N : Int) - 1) = false := by simpa using hyn
            have R := FIN.out true ⟨fun _ => hyn, fun _ => rfl⟩ (.inl hyn)
            have HR : Hid _ := R
            clear R hyn
            go_wp2
            refine bodyPost_ret (v := .bool true) (by simp [results, go_sem, loadVar]) rfl ?_
            exact .mk true rfl ⟨fun _ => HR.out.1 trivial, fun _ => rfl⟩ HBR.out
          · have hyc : (y != (N : Int) - 1) = true := by simpa using hyn
            have hyy := sq_lt hyp.1 (by omega) hyp.1 (by omega)
            have L1 := fun w => least_any w N q (y * y) (by omega) (by omega) hyy.1 (by omega)
            have HYN : Hid (¬ y = (N : Int) - 1) := hyn
            clear hyn
            go_wp2_with (go_at_call 56; fail)
            refine (L1 _).mono ?_
            rintro e w4 ⟨rfl, hb4⟩
            have HB4 : Hid (Below wr.heap.size wr w4) := hb4
            have hl4 : b5 < w4.heap.size := Nat.lt_of_lt_of_le hlr hb4.size
            replace d0 := (hb4.cell (p := ⟨b5, 0, none⟩) hlr).trans d0
            replace d1 := (hb4.cell (p := ⟨b5, 1, none⟩) hlr).trans d1
            clear L1 hb4
            go_wp2
            go_roundw
            case rel =>
              refine ⟨k + 1, _, by omega, by congr 1, rfl, ?_, ?_, HBR.out.trans (HB4.out.mono HBR.out.size), hl4, d0, d1⟩
              · rw [← HY.out, ← Int.natCast_mul, ← Int.natCast_emod, ← Nat.mul_mod, ← Nat.pow_add]
                congr 3
                rw [Nat.pow_succ, Nat.mul_assoc, Nat.mul_comm 2 d, ← Nat.mul_assoc]; omega
              · intro i hi
                rcases Nat.lt_or_ge i k with h | h
                · exact HNO.out i h
                · obtain rfl : i = k := by omega
                  intro h2
                  have h1 := HY.out
                  exact HYN.out (by omega)
            case measure => simp only [Lib.intOf]; omega
end Go.Proofs.YtffdemplaodbcaaDoor
