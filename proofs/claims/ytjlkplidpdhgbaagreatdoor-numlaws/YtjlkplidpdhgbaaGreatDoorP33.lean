/- A part of the proof: W29, W34a. -/
import Derived.Test.YtjlkplidpdhgbaaGreatDoorP32
import Derived.Test.YtjlkplidpdhgbaaGreatDoorP11
import Derived.Test.YtjlkplidpdhgbaaGreatDoorP12
import Derived.Test.YtjlkplidpdhgbaaGreatDoorP31
import Derived.Deep.AppendLies
set_option linter.all false

namespace Go.Proofs.YtjlkplidpdhgbaaGreatDoor
open Go Go.Proofs Go.RowKit Go.Rad

theorem i64_and_one (n : Int) : bits .and .i64 n 1 = n % 2 := by
  have h1 : (BitVec.ofInt 64 1).toNat = 2 ^ 1 - 1 := by decide
  have key : (BitVec.ofInt 64 n &&& BitVec.ofInt 64 1).toNat = (n % ((2 ^ 64 : Nat) : Int)).toNat % 2 ^ 1 := by
    rw [BitVec.toNat_and, BitVec.toNat_ofInt, h1, Nat.and_two_pow_sub_one_eq_mod]
  show IntKind.i64.wrap ((BitVec.ofInt 64 n &&& BitVec.ofInt 64 1).toNat : Nat) = n % 2
  rw [key, IntKind.wrap_i64]
  omega
theorem pow_bound {a : Int} {L m : Nat} (h : a.natAbs < B ^ L) : (a ^ m).natAbs < B ^ (L * m + 1) := by
  induction m with
  | zero => simp; decide
  | succ k ih =>
    rw [Int.pow_succ, Int.natAbs_mul, Nat.mul_succ, Nat.add_right_comm, Nat.pow_add]
    exact Nat.mul_lt_mul'' ih h

/-- What stands in memory while power goes on: the argument's box, the result's variable, p. -/
structure PowW (w wr : World) (bp : Nat) (s : Int) (ao : Option Addr) (n c : Nat) : Prop where
  below : Below w.heap.size w wr
  hp : w.heap.size + 1 < bp
  lt : bp < wr.heap.size
  k0 : wr.cell? ⟨w.heap.size, 0, none⟩ = some (.int .i64 s)
  k1 : wr.cell? ⟨w.heap.size, 1, none⟩ = some (.slice ao n c)
  r0 : wr.cell? ⟨w.heap.size + 1, 0, none⟩ = some (.int .i64 0)
  r1 : wr.cell? ⟨w.heap.size + 1, 1, none⟩ = some (.slice none 0 0)
  f0 : wr.frozen? ⟨w.heap.size + 1, 0, none⟩ = false
  f1 : wr.frozen? ⟨w.heap.size + 1, 1, none⟩ = false
  g0 : wr.frozen? ⟨bp, 0, none⟩ = false
  g1 : wr.frozen? ⟨bp, 1, none⟩ = false
theorem PowW.step {w wr w2 : World} {bp : Nat} {s : Int} {ao : Option Addr} {n c : Nat} (h : PowW w wr bp s ao n c) (hb : Below wr.heap.size wr w2) (u1 u2 : Value) :
    PowW w ((w2.setCell ⟨bp, 0, none⟩ u1).setCell ⟨bp, 1, none⟩ u2) bp s ao n c := by
  have l0 : w.heap.size < wr.heap.size := by have := h.lt; have := h.hp; omega
  have l1 : w.heap.size + 1 < wr.heap.size := by have := h.lt; have := h.hp; omega
  have hp := h.hp
  have hlt := h.lt
  have hs := hb.size
  have e : ∀ c i, c < wr.heap.size → c ≠ bp → ((w2.setCell ⟨bp, 0, none⟩ u1).setCell ⟨bp, 1, none⟩ u2).cell? ⟨c, i, none⟩ = wr.cell? ⟨c, i, none⟩ := fun c i h1 h2 => by
    rw [cell_other (.inl h2), cell_other (.inl h2)]; exact hb.cell (p := ⟨c, i, none⟩) h1
  have f : ∀ c i, c < wr.heap.size → ((w2.setCell ⟨bp, 0, none⟩ u1).setCell ⟨bp, 1, none⟩ u2).frozen? ⟨c, i, none⟩ = wr.frozen? ⟨c, i, none⟩ := fun c i h1 => by
    rw [World.frozen?_setCell, World.frozen?_setCell]; exact hb.frozen (p := ⟨c, i, none⟩) h1
  refine ⟨?_, hp, by simp; omega, ?_, ?_, ?_, ?_, ?_, ?_, ?_, ?_⟩
  · exact ((h.below.trans (hb.mono h.below.size)).setCell (by show w.heap.size ≤ bp; omega) _).setCell (by show w.heap.size ≤ bp; omega) _
  · rw [e _ _ l0 (by omega)]; exact h.k0
  · rw [e _ _ l0 (by omega)]; exact h.k1
  · rw [e _ _ l1 (by omega)]; exact h.r0
  · rw [e _ _ l1 (by omega)]; exact h.r1
  · rw [f _ _ l1]; exact h.f0
  · rw [f _ _ l1]; exact h.f1
  · rw [f _ _ hlt]; exact h.g0
  · rw [f _ _ hlt]; exact h.g1

set_option maxRecDepth 10000 in
set_option maxHeartbeats 2000000 in
theorem power_any (w : World) (va : Value) (a : Int) (L n : Nat) (ha : IsInt w va a) (hb : a.natAbs < B ^ L) (hn : n ≤ 1048576) (hL : L * n ≤ 274877906944) (hL1 : L ≤ 274877906944) :
    Calls Tryz.prog 88 #[va, .int .i64 n] w fun e w' => ∃ v, e = .returned v ∧ Below w.heap.size w w' ∧ IsInt w' v (a ^ n) := by
  obtain ⟨s, ao, k, c, rfl⟩ := ha.form
  have hA : ∀ w1, Below w.heap.size w w1 → IsInt w1 (.agg #[.int .i64 s, .slice ao k c]) a := fun w1 h => ha.below h
  clear ha
  have HB : Hid _ := hb
  have e0 : ((n : Int)) % 18446744073709551616 = (n : Int) := by omega
  go_enter Tryz.func88, Tryz.ntmps88
  go_wp2_with (go_at_call 16; fail)
  refine (of_any _ 1 (by omega) (by omega)).mono ?_
  rintro e w2 ⟨v2, rfl, hb2, hm2⟩
  obtain ⟨s2, a2, n2, c2, rfl⟩ := hm2.form
  go_wp2_with (go_at_call 117; fail)
  have b2 := bel2 w (Obj.cells #[Value.int IntKind.i64 s, Value.slice ao k c] 24) (Obj.cells #[Value.int IntKind.i64 0, Value.slice none 0 0] 24)
  have sz : ((w.alloc (Obj.cells #[Value.int IntKind.i64 s, Value.slice ao k c] 24)).alloc (Obj.cells #[Value.int IntKind.i64 0, Value.slice none 0 0] 24)).heap.size = w.heap.size + 1 + 1 := by simp
  have P0 : PowW w (w2.alloc (Obj.cells #[Value.int IntKind.i64 s2, Value.slice a2 n2 c2] 24)) w2.heap.size s ao k c := by
    have hs2 := hb2.size
    rw [sz] at hs2
    have c0 := (hb2.cell (p := ⟨w.heap.size, 0, none⟩) (by rw [sz]; show w.heap.size < _; omega)).trans (by simp [go_sem] : _ = some (.int .i64 s))
    have c1 := (hb2.cell (p := ⟨w.heap.size, 1, none⟩) (by rw [sz]; show w.heap.size < _; omega)).trans (by simp [go_sem] : _ = some (.slice ao k c))
    have d0 := (hb2.cell (p := ⟨w.heap.size + 1, 0, none⟩) (by rw [sz]; show w.heap.size + 1 < _; omega)).trans (by simp [go_sem] : _ = some (.int .i64 0))
    have d1 := (hb2.cell (p := ⟨w.heap.size + 1, 1, none⟩) (by rw [sz]; show w.heap.size + 1 < _; omega)).trans (by simp [go_sem] : _ = some (.slice none 0 0))
    have f0 := (hb2.frozen (p := ⟨w.heap.size + 1, 0, none⟩) (by rw [sz]; show w.heap.size + 1 < _; omega)).trans (by simp [go_sem] : _ = false)
    have f1 := (hb2.frozen (p := ⟨w.heap.size + 1, 1, none⟩) (by rw [sz]; show w.heap.size + 1 < _; omega)).trans (by simp [go_sem] : _ = false)
    have B2 := (b2.trans (hb2.mono (by rw [sz]; omega)))
    have q := bel1 w2 (Obj.cells #[Value.int IntKind.i64 s2, Value.slice a2 n2 c2] 24)
    exact ⟨B2.trans (q.mono B2.size), by omega, by simp, (q.cell (p := ⟨w.heap.size, 0, none⟩) (by show w.heap.size < _; omega)).trans c0, (q.cell (p := ⟨w.heap.size, 1, none⟩) (by show w.heap.size < _; omega)).trans c1,
      (q.cell (p := ⟨w.heap.size + 1, 0, none⟩) (by show w.heap.size + 1 < _; omega)).trans d0, (q.cell (p := ⟨w.heap.size + 1, 1, none⟩) (by show w.heap.size + 1 < _; omega)).trans d1,
      (q.frozen (p := ⟨w.heap.size + 1, 0, none⟩) (by show w.heap.size + 1 < _; omega)).trans f0, (q.frozen (p := ⟨w.heap.size + 1, 1, none⟩) (by show w.heap.size + 1 < _; omega)).trans f1,
      World.frozen?_alloc_at (w := w2) _ _ w2.heap.size 0 rfl, World.frozen?_alloc_at (w := w2) _ _ w2.heap.size 1 rfl⟩
  have C0 : (w2.alloc (Obj.cells #[Value.int IntKind.i64 s2, Value.slice a2 n2 c2] 24)).cell? ⟨w2.heap.size, 0, none⟩ = some (.int .i64 s2) := by
    rw [World.cell?_alloc_at (w := w2) _ _ w2.heap.size 0 rfl]; rfl
  have C1 : (w2.alloc (Obj.cells #[Value.int IntKind.i64 s2, Value.slice a2 n2 c2] 24)).cell? ⟨w2.heap.size, 1, none⟩ = some (.slice a2 n2 c2) := by
    rw [World.cell?_alloc_at (w := w2) _ _ w2.heap.size 1 rfl]; rfl
  have I0 := hm2.below (bel1 w2 (Obj.cells #[Value.int IntKind.i64 s2, Value.slice a2 n2 c2] 24))
  obtain ⟨w3, hw3⟩ : ∃ x, x = w2.alloc (Obj.cells #[Value.int IntKind.i64 s2, Value.slice a2 n2 c2] 24) := ⟨_, rfl⟩
  obtain ⟨bp, hbp⟩ : ∃ x, x = w2.heap.size := ⟨_, rfl⟩
  rw [← hw3, ← hbp] at P0 C0 C1
  rw [← hw3] at I0 ⊢
  rw [← hbp]
  clear hw3 hbp hb2 hm2 sz b2
  refine (len_any n (by unfold B; omega) _).mono ?_
  rintro e w4 ⟨Lb, rfl, hw4, hlen, h64⟩
  subst hw4
  have hn0 : n / 2 ^ Lb = 0 := by
    rcases hlen with ⟨h1, h2⟩ | ⟨h1, h2, h3⟩
    · rw [h1, Nat.zero_div]
    · exact Nat.div_eq_of_lt h3
  clear hlen
  go_wp2
  go_loopw [6] (fun i wr => ∃ j : Nat, j ≤ Lb ∧ i = .int .i64 ((j : Int) - 1) ∧ PowW w wr bp s ao k c ∧ ∃ s' a' n' c', wr.cell? ⟨bp, 0, none⟩ = some (.int .i64 s') ∧ wr.cell? ⟨bp, 1, none⟩ = some (.slice a' n' c') ∧ IsInt wr (.agg #[.int .i64 s', .slice a' n' c']) (a ^ (n / 2 ^ j)))
    (fun i _ => (intOf i + 1).toNat)
  case atStart => exact ⟨Lb, Nat.le_refl _, by go_num, P0, s2, a2, n2, c2, C0, C1, by rw [hn0, Int.pow_zero]; exact I0⟩
  case round =>
    obtain ⟨j, hj, rfl, hP, s', a', n', c', g0, g1, hI⟩ := hrel
    clear P0 C0 C1 I0 hn0
    obtain ⟨hbel, hhp, hlt, k0, k1, r0, r1, f0, f1, ff0, ff1⟩ := id hP
    by_cases h0 : j = 0
    · subst h0
      rw [Nat.pow_zero, Nat.div_one] at hI
      have HE : Hid _ := ((hbel.setCell (p := ⟨w.heap.size + 1, 0, none⟩) (by simp) (.int .i64 s')).setCell (p := ⟨w.heap.size + 1, 1, none⟩) (by simp) (.slice a' n' c'))
      have HI : Hid _ := hI.stored (u1 := .int .i64 s') (u2 := .slice a' n' c') r0 r1 (by intro q; simp)
      clear hI hP hA hbel
      go_wp2
      refine bodyPost_ret (v := .agg #[.int .i64 s', .slice a' n' c']) (by simp [results, go_sem, loadVar, World.cell?_setCell_same, *]) rfl ?_
      exact ⟨_, rfl, HE.out, HI.out⟩
    · obtain ⟨i, rfl⟩ : ∃ i, j = i + 1 := ⟨j - 1, by omega⟩
      have he : ((i + 1 : Nat) : Int) - 1 = (i : Int) := by omega
      rw [he]
      have hq : n / 2 ^ i = n / 2 ^ (i + 1) + n / 2 ^ (i + 1) + n / 2 ^ i % 2 := by
        rw [Nat.pow_succ, ← Nat.div_div_eq_div_mul]; omega
      have hqn : n / 2 ^ i ≤ n := Nat.div_le_self _ _
      obtain ⟨q, hqv⟩ : ∃ q, n / 2 ^ (i + 1) = q := ⟨_, rfl⟩
      obtain ⟨t, htv⟩ : ∃ t, n / 2 ^ i = t := ⟨_, rfl⟩
      rw [hqv, htv] at hq
      rw [htv] at hqn
      rw [hqv] at hI
      have hb1 := pow_bound (m := q) HB.out
      have hLq : L * q ≤ 274877906944 := Nat.le_trans (Nat.mul_le_mul_left L (by omega)) hL
      have CM := mul_any wr _ _ _ _ (L * q + 1) (L * q + 1) hI hI hb1 hb1 (by omega)
      rw [← Int.pow_add] at CM
      have hsh : (n : Int) / 2 ^ i = (t : Int) := by rw [shr_nat, htv]
      have hbit : bits .and .i64 (t : Int) 1 = ((t % 2 : Nat) : Int) := by rw [i64_and_one]; omega
      have hLt : L * (q + q) ≤ 274877906944 := Nat.le_trans (Nat.mul_le_mul_left L (by omega)) hL
      have HHB : Hid _ := hbel
      have HTV : Hid (n / 2 ^ i = t) := htv
      clear he hb1 hqv htv hbel hI k0 k1 r0 r1 f0 f1
      go_wp2_with (go_at_call 26; fail)
      refine CM.mono ?_
      rintro e w5 ⟨v5, rfl, hb5, hm5⟩
      clear CM
      obtain ⟨s5, a5, n5, c5, rfl⟩ := hm5.form
      have P5 := hP.step hb5 (.int .i64 s5) (.slice a5 n5 c5)
      have q0 := (hb5.cell (p := ⟨bp, 0, none⟩) hlt).trans g0
      have q1 := (hb5.cell (p := ⟨bp, 1, none⟩) hlt).trans g1
      have p0 := (hb5.frozen (p := ⟨bp, 0, none⟩) hlt).trans ff0
      have p1 := (hb5.frozen (p := ⟨bp, 1, none⟩) hlt).trans ff1
      have I5 := hm5.stored (u1 := .int .i64 s5) (u2 := .slice a5 n5 c5) q0 q1 (by intro q; simp)
      have C0 : ((w5.setCell ⟨bp, 0, none⟩ (.int .i64 s5)).setCell ⟨bp, 1, none⟩ (.slice a5 n5 c5)).cell? ⟨bp, 0, none⟩ = some (.int .i64 s5) := by
        rw [cell_other (.inr (by omega)), cell_same q0]
      have C1 : ((w5.setCell ⟨bp, 0, none⟩ (.int .i64 s5)).setCell ⟨bp, 1, none⟩ (.slice a5 n5 c5)).cell? ⟨bp, 1, none⟩ = some (.slice a5 n5 c5) := by
        rw [cell_same (u := .slice a' n' c') (by rw [cell_other (.inr (by omega))]; exact q1)]
      have HP5 : Hid _ := P5
      have HI5 : Hid _ := I5
      have HC0 : Hid _ := C0
      have HC1 : Hid _ := C1
      by_cases hodd : t % 2 = 1
      · have hb1 : bits .and .i64 (t : Int) 1 = 1 := by rw [hbit, hodd]; rfl
        have ht : t = q + q + 1 := by omega
        have HT : Hid _ := ht
        have hl5 : bp < ((w5.setCell ⟨bp, 0, none⟩ (.int .i64 s5)).setCell ⟨bp, 1, none⟩ (.slice a5 n5 c5)).heap.size := HP5.out.lt
        have hb6 := pow_bound (m := q + q) HB.out
        have CM := mul_any ((w5.setCell ⟨bp, 0, none⟩ (.int .i64 s5)).setCell ⟨bp, 1, none⟩ (.slice a5 n5 c5)) _ _ _ _ (L * (q + q) + 1) L I5 (hA _ P5.below) hb6 HB.out (by omega)
        rw [← Int.pow_succ, show (q + q).succ = t from ht.symm] at CM
        have e0' := (hb5.cell (p := ⟨w.heap.size, 0, none⟩) (by show w.heap.size < _; omega)).trans hP.k0
        have e1' := (hb5.cell (p := ⟨w.heap.size, 1, none⟩) (by show w.heap.size < _; omega)).trans hP.k1
        have HHL : Hid _ := hl5
        clear P5 I5 C0 C1 hbit hm5 hP g0 g1 hb5 hq ht hb6 hodd hl5
        go_wp2_with (go_at_call 26; fail)
        refine CM.mono ?_
        rintro e w6 ⟨v6, rfl, hb7, hm6⟩
        clear CM q0 q1 p0 p1 e0' e1'
        obtain ⟨s6, a6, n6, c6, rfl⟩ := hm6.form
        have P6 := HP5.out.step hb7 (.int .i64 s6) (.slice a6 n6 c6)
        have q0 := (hb7.cell (p := ⟨bp, 0, none⟩) HHL.out).trans HC0.out
        have q1 := (hb7.cell (p := ⟨bp, 1, none⟩) HHL.out).trans HC1.out
        have p0 := (hb7.frozen (p := ⟨bp, 0, none⟩) HHL.out).trans HP5.out.g0
        have p1 := (hb7.frozen (p := ⟨bp, 1, none⟩) HHL.out).trans HP5.out.g1
        have I6 := hm6.stored (u1 := .int .i64 s6) (u2 := .slice a6 n6 c6) q0 q1 (by intro q; simp)
        have HP6 : Hid _ := P6
        have HI6 : Hid _ := I6
        have HD0 : Hid (((w6.setCell ⟨bp, 0, none⟩ (.int .i64 s6)).setCell ⟨bp, 1, none⟩ (.slice a6 n6 c6)).cell? ⟨bp, 0, none⟩ = some (.int .i64 s6)) := by
          show _ = _
          rw [cell_other (.inr (by omega)), cell_same q0]
        have HD1 : Hid (((w6.setCell ⟨bp, 0, none⟩ (.int .i64 s6)).setCell ⟨bp, 1, none⟩ (.slice a6 n6 c6)).cell? ⟨bp, 1, none⟩ = some (.slice a6 n6 c6)) := by
          show _ = _
          rw [cell_same (u := .slice a5 n5 c5) (by rw [cell_other (.inr (by omega))]; exact q1)]
        clear P6 I6 hm6 hb7
        go_wp2
        go_roundw
        case rel => exact ⟨i, by omega, by go_num, HP6.out, s6, a6, n6, c6, HD0.out, HD1.out, by rw [HTV.out]; exact HI6.out⟩
        case measure => simp [intOf]
      · have hb1 : bits .and .i64 (t : Int) 1 = 0 := by rw [hbit, show t % 2 = 0 by omega]; rfl
        have ht : t = q + q := by omega
        have HT : Hid _ := ht
        clear P5 I5 C0 C1 hbit hm5 hP g0 g1 hb5 hodd hq ht
        go_wp2
        go_roundw
        case rel => exact ⟨i, by omega, by go_num, HP5.out, s5, a5, n5, c5, HC0.out, HC1.out, by rw [HTV.out, HT.out]; exact HI5.out⟩
        case measure => simp [intOf]
end Go.Proofs.YtjlkplidpdhgbaaGreatDoor

namespace Go.Proofs.YtjlkplidpdhgbaaGreatDoor
open Go Go.Proofs Go.RowKit Go.Rad

theorem underlying93 : Tryz.prog.underlying 93 = some (.slice 22) := by kernel_rfl
theorem info22 : (Tryz.prog.info? 22).map (fun i => (i.zero, i.size, i.bytes)) = some (some (.slice none 0 0), 1, 24) := by kernel_rfl
theorem info_parts' {o : Option TypeInfo} {z : Value} {s b : Nat} (h : o.map (fun i => (i.zero, i.size, i.bytes)) = some (some z, s, b)) : ∃ i, o = some i ∧ i.zero = some z ∧ i.size = s ∧ i.bytes = b := by
  cases o with
  | none => simp at h
  | some i => simp at h; exact ⟨i, rfl, h.1, h.2.1, h.2.2⟩

/-- The powers that the ladder holds so far: a row of its own, none of whose numbers lies in that row itself. -/
structure Pows (w : World) (base D : Nat) (v : Value) (xs : List Value) : Prop where
  row : w.ownsRow base 22 1 v xs.length xs
  mag : ∀ t (h : t < xs.length), ∃ n, Mag w xs[t] (10 ^ (D * 2 ^ t)) n ∧ n ≤ 128 * 2 ^ t
  off : ∀ t (h : t < xs.length), ∀ b o n c : Nat, xs[t] = .slice (some ⟨b, o, none⟩) n c → some b ≠ v.ownBlock
theorem below_grownBy {w w' : World} (h : Below w.heap.size w w') : w.grownBy w' none := ⟨h.os, h.tape, h.output, h.size, fun k hk _ => h.block k hk⟩
theorem Pows.below {w w' : World} {base D : Nat} {v : Value} {xs : List Value} (h : Pows w base D v xs) (hb : Below w.heap.size w w') : Pows w' base D v xs := by
  refine ⟨h.row.kept (below_grownBy hb) ?_, fun t ht => ?_, h.off⟩
  · cases hv : v.ownBlock with
    | none => exact .inl rfl
    | some k => exact .inr (by simp)
  · obtain ⟨n, h1, h2⟩ := h.mag t ht
    exact ⟨n, h1.below hb, h2⟩
/-- A cell of the row. -/
theorem Pows.cell {w : World} {base D : Nat} {v : Value} {xs : List Value} (h : Pows w base D v xs) (h0 : 0 < xs.length) : ∃ g cap, v = .slice (some ⟨g, 0, none⟩) xs.length cap ∧ base ≤ g ∧ g < w.heap.size ∧ xs.length ≤ cap ∧ cap ≤ maxLen ∧
    ∀ t (ht : t < xs.length), w.cell? ⟨g, t, none⟩ = some xs[t] := by
  rcases h.row.2 with ⟨rfl, hn⟩ | ⟨g, cap, cur, rfl, hb, hg, hnc, hcm, hsz, htk⟩
  · omega
  · refine ⟨g, cap, rfl, hb, (Array.getElem?_eq_some_iff.1 hg).1, hnc, hcm, fun t ht => ?_⟩
    have h1 : cur.toList[t]? = some xs[t] := by
      have h2 : (cur.toList.take (xs.length * 1))[t]? = some xs[t] := by rw [htk]; simp
      rw [List.getElem?_take] at h2
      split at h2
      · exact h2
      · simp at h2
    unfold World.cell?
    rw [show (⟨g, t, none⟩ : Addr).block = g from rfl, hg]
    simpa using h1
/-- A magnitude in a world in which one block alone has turned. -/
theorem Mag.grown {w w' : World} {v : Value} {x n : Nat} {row : Option Nat} (h : Mag w v x n) (hg : w.grownBy w' row) (ho : ∀ b o n c : Nat, v = .slice (some ⟨b, o, none⟩) n c → some b ≠ row) : Mag w' v x n := by
  obtain ⟨ao, b, o, c, rfl, hs, hc, ha, hx, hr⟩ := h
  by_cases h0 : n = 0
  · subst h0
    exact ⟨ao, b, o, c, rfl, hs, hc, fun i hi => by omega, by rw [← hx]; rfl, .inl rfl⟩
  · obtain rfl := hs (by omega)
    have hb := ho b o n c rfl
    have hcell : ∀ i, i < n → w'.cell? ⟨b, o + i, none⟩ = w.cell? ⟨b, o + i, none⟩ := fun i hi => World.cell?_of_block (hg.block b (ha.lt (by omega)) hb)
    refine ⟨_, b, o, c, rfl, hs, hc, fun i hi => ?_, (num_congr fun i hi => word_of_cell (hcell i hi)).trans hx, ?_⟩
    · rw [word_of_cell (hcell i hi), hcell i hi]; exact ha i hi
    · rcases hr with hr | hr
      · exact .inl hr
      · right; rw [word_of_cell (hcell (n - 1) (by omega))]; exact hr
/-- One power more. -/
theorem Pows.appended {w w' : World} {base D cap g : Nat} {v u : Value} {xs : List Value} {n : Nat} (h : Pows w base D v xs) (hu : Mag w u (10 ^ (D * 2 ^ xs.length)) n) (hn : n ≤ 128 * 2 ^ xs.length)
    (hnew : ∀ b o n c : Nat, u = .slice (some ⟨b, o, none⟩) n c → some b ≠ v.ownBlock ∧ b < w.heap.size) (hold : ∀ t (ht : t < xs.length), ∀ b o n c : Nat, xs[t] = .slice (some ⟨b, o, none⟩) n c → b < w.heap.size)
    (hrow : w'.ownsRow base 22 1 (.slice (some ⟨g, 0, none⟩) (xs.length + 1) cap) (xs.length + 1) (xs ++ [u])) (hg : w.grownBy w' v.ownBlock) (hgg : v.ownBlock = some g ∨ g = w.heap.size) :
    Pows w' base D (.slice (some ⟨g, 0, none⟩) (xs.length + 1) cap) (xs ++ [u]) := by
  refine ⟨by rw [List.length_append]; exact hrow, fun t ht => ?_, fun t ht b o n' c he => ?_⟩
  · rw [List.length_append, List.length_singleton] at ht
    rcases Nat.lt_or_ge t xs.length with h1 | h1
    · rw [List.getElem_append_left h1]
      obtain ⟨n', h2, h3⟩ := h.mag t h1
      exact ⟨n', h2.grown hg (h.off t h1), h3⟩
    · obtain rfl : t = xs.length := by omega
      rw [List.getElem_append_right h1]
      simp only [Nat.sub_self, List.getElem_singleton]
      exact ⟨n, hu.grown hg (fun b o n c he => (hnew b o n c he).1), hn⟩
  · rw [List.length_append, List.length_singleton] at ht
    show some b ≠ some g
    rcases Nat.lt_or_ge t xs.length with h1 | h1
    · rw [List.getElem_append_left h1] at he
      rcases hgg with h2 | h2
      · rw [← h2]; exact h.off t h1 b o n' c he
      · have := hold t h1 b o n' c he
        simp; omega
    · obtain rfl : t = xs.length := by omega
      rw [List.getElem_append_right h1] at he
      simp only [Nat.sub_self, List.getElem_singleton] at he
      have h3 := hnew b o n' c he
      rcases hgg with h2 | h2
      · rw [← h2]; exact h3.1
      · simp; omega
end Go.Proofs.YtjlkplidpdhgbaaGreatDoor
