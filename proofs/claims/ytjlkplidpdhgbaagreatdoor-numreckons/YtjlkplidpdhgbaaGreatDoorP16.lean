/- A part of the proof: R12, Draw2, W9. -/
import Derived.Test.YtjlkplidpdhgbaaGreatDoorP15
import Derived.Test.YtjlkplidpdhgbaaGreatDoorP05
import Derived.Test.YtjlkplidpdhgbaaGreatDoorP04
import Derived.Laws.Bits64b
set_option linter.all false

namespace Go.Proofs.YtjlkplidpdhgbaaGreatDoor
open Go Go.Proofs Go.RowKit Go.Rad


set_option maxRecDepth 10000 in
set_option maxHeartbeats 2000000 in
theorem zSub_any (w : World) (vx vy : Value) (x y : Int) (LX : Nat) (hx : IsZ w vx x) (hy : IsZ w vy y) (hbx : x.natAbs < 10000 ^ LX) (hby : y.natAbs < 10000 ^ LX) (hL : LX ≤ 1073741824) :
    Calls Tryz.prog 25 #[vx, vy] w fun e w' => ∃ v, e = .returned v ∧ Below w.heap.size w w' ∧ IsZ w' v (x - y) := by
  obtain ⟨sx, a, n, c, rfl⟩ := hx.form
  obtain ⟨sy, b, m, d, rfl⟩ := hy.form
  have hX : ∀ w1, Below w.heap.size w w1 → IsZ w1 (.agg #[.bool sx, .slice a n c]) x := fun w1 h => hx.below h
  have hY : ∀ w1, Below w.heap.size w w1 → IsZ w1 (.agg #[.bool sy, .slice b m d]) y := fun w1 h => hy.below h
  have hbny : (-y).natAbs < 10000 ^ LX := by rw [Int.natAbs_neg]; exact hby
  clear hx hy hby
  go_enter Tryz.func25, Tryz.ntmps25
  go_wp2
  refine wp_world (fun w1 => Below w.heap.size w w1 ∧ w.heap.size + 2 < w1.heap.size ∧ w1.cell? ⟨w.heap.size, 0, none⟩ = some (.bool sx) ∧ w1.cell? ⟨w.heap.size, 1, none⟩ = some (.slice a n c) ∧ w1.cell? ⟨w.heap.size + 1, 0, none⟩ = some (.bool sy) ∧ w1.cell? ⟨w.heap.size + 1, 1, none⟩ = some (.slice b m d) ∧ w1.cell? ⟨w.heap.size + 2, 0, none⟩ = some (.bool false) ∧ w1.cell? ⟨w.heap.size + 2, 1, none⟩ = some (.slice none 0 0) ∧ w1.frozen? ⟨w.heap.size + 2, 0, none⟩ = false ∧ w1.frozen? ⟨w.heap.size + 2, 1, none⟩ = false) ⟨bel3 _ _ _ _, by simp, by simp [go_sem], by simp [go_sem], by simp [go_sem], by simp [go_sem], by simp [go_sem], by simp [go_sem], by simp [go_sem], by simp [go_sem]⟩ ?_
  rintro w1 ⟨hB1, hl, k00, k01, k10, k11, r0, r1, f0, f1⟩
  have lt0 : w.heap.size < w1.heap.size := by omega
  have lt1 : w.heap.size + 1 < w1.heap.size := by omega
  refine wp_drawn mixed [⟨5, [], [], [2]⟩, ⟨6, [], [], [3]⟩, ⟨7, [1], [1], []⟩, ⟨8, [0, 2], [0, 1, 2], []⟩] [] (by kernel_rfl) 9 rfl (by kernel_rfl) (fun (i : Nat) (v : Value) (wq : World) => match i with | 0 => v = .agg #[.bool (sx), .slice a (n) (c)] | 1 => v = .agg #[.bool (sy), .slice b (m) (d)] | 2 => IsZ wq v (-y) | 3 => IsZ wq v (x - y) | _ => True) (fun _ wq => Below w1.heap.size w1 wq) (fun wx wy => Below wx.heap.size wx wy) (Below.refl _ _).drew (fun i v wx wy h hx => match i, h with | 0, h => h | 1, h => h | 2, h => (h : IsZ _ _ _).below hx | 3, h => (h : IsZ _ _ _).below hx | n + 4, _ => trivial) ?_ ?_
  · intro i o r ho hr L fr wx hW hL hpr hds hdef hpre hfree
    clear hL hpr hds hdef
    match i, ho, hr with
    | 0, ho, hr =>
      obtain rfl := Option.some.inj ho; obtain rfl := Option.some.inj hr
      have t2 := ev_tmp (show fr.eval (.tmp 2) = .pointer (some ⟨w.heap.size, 0, none⟩) from hfree 2 (by decide))
      clear hpre hfree
      have c0 := (hW.cell (p := ⟨w.heap.size, 0, none⟩) lt0).trans k00
      have c1 := (hW.cell (p := ⟨w.heap.size, 1, none⟩) lt0).trans k01
      refine stpK rfl rfl fun K hK => ?_
      go_simp
      exact hK _ _ ⟨rfl, hW, Below.refl _ _, fun h => (List.not_mem_nil h).elim⟩
    | 1, ho, hr =>
      obtain rfl := Option.some.inj ho; obtain rfl := Option.some.inj hr
      have t3 := ev_tmp (show fr.eval (.tmp 3) = .pointer (some ⟨w.heap.size + 1, 0, none⟩) from hfree 3 (by decide))
      clear hpre hfree
      have c0 := (hW.cell (p := ⟨w.heap.size + 1, 0, none⟩) lt1).trans k10
      have c1 := (hW.cell (p := ⟨w.heap.size + 1, 1, none⟩) lt1).trans k11
      refine stpK rfl rfl fun K hK => ?_
      go_simp
      exact hK _ _ ⟨rfl, hW, Below.refl _ _, fun h => (List.not_mem_nil h).elim⟩
    | 2, ho, hr =>
      obtain rfl := Option.some.inj ho; obtain rfl := Option.some.inj hr
      have e1 := ev_tmp (show fr.eval (.tmp 6) = .agg #[.bool (sy), .slice b (m) (d)] from hpre 1 (by decide) _ rfl)
      clear hpre hfree
      refine stpK rfl rfl fun K hK => ?_
      go_simp
      refine (zNeg_any wx _ y (hY wx (hB1.trans (hW.mono hB1.size)))).mono ?_
      rintro e wy ⟨v4, rfl, hb, hm4⟩
      exact hK _ _ ⟨hm4, hW.trans (hb.mono hW.size), hb, fun h => (List.not_mem_nil h).elim⟩
    | 3, ho, hr =>
      obtain rfl := Option.some.inj ho; obtain rfl := Option.some.inj hr
      have e0 := ev_tmp (show fr.eval (.tmp 5) = .agg #[.bool (sx), .slice a (n) (c)] from hpre 0 (by decide) _ rfl)
      obtain ⟨u2, q2⟩ : ∃ u, fr.eval (.tmp 7) = u := ⟨_, rfl⟩
      have p2 : IsZ wx u2 (-y) := by rw [← q2]; exact hpre 2 (by decide) _ rfl
      have e2 := ev_tmp q2; clear q2
      clear hpre hfree
      refine stpK rfl rfl fun K hK => ?_
      go_simp
      refine (zAdd_any wx _ _ x (-y) LX (hX wx (hB1.trans (hW.mono hB1.size))) p2 hbx hbny hL).mono ?_
      rintro e wy ⟨v4, rfl, hb, hm4⟩
      exact hK _ _ ⟨by rw [← Int.sub_eq_add_neg] at hm4; exact hm4, hW.trans (hb.mono hW.size), hb, fun h => (List.not_mem_nil h).elim⟩
    | n + 4, ho, hr => exact absurd hr (by simp)
  · intro vs wn hvs hW1 hap0
    clear hap0
    have e0 : vs 0 = .agg #[.bool (sx), .slice a (n) (c)] := hvs 0 (by decide)
    have e1 : vs 1 = .agg #[.bool (sy), .slice b (m) (d)] := hvs 1 (by decide)
    obtain ⟨u2, e2⟩ : ∃ u, vs 2 = u := ⟨_, rfl⟩
    have p2 : IsZ wn u2 (-y) := by rw [← e2]; exact hvs 2 (by decide)
    obtain ⟨u3, e3⟩ : ∃ u, vs 3 = u := ⟨_, rfl⟩
    have p3 : IsZ wn u3 (x - y) := by rw [← e3]; exact hvs 3 (by decide)
    simp only [puts, Nat.reduceAdd, e0, e1, e2, e3, Act.put, List.setIfInBounds_toArray, List.set_cons_zero, List.set_cons_succ, List.drop_succ_cons, List.drop_zero, List.length_cons, List.length_nil]
    clear hvs e0 e1 e2 e3
    replace k00 := (hW1.cell (p := ⟨w.heap.size, 0, none⟩) lt0).trans k00
    replace k01 := (hW1.cell (p := ⟨w.heap.size, 1, none⟩) lt0).trans k01
    replace k10 := (hW1.cell (p := ⟨w.heap.size + 1, 0, none⟩) lt1).trans k10
    replace k11 := (hW1.cell (p := ⟨w.heap.size + 1, 1, none⟩) lt1).trans k11
    replace r0 := (hW1.cell (p := ⟨w.heap.size + 2, 0, none⟩) hl).trans r0
    replace f0 := (hW1.frozen (p := ⟨w.heap.size + 2, 0, none⟩) hl).trans f0
    replace r1 := (hW1.cell (p := ⟨w.heap.size + 2, 1, none⟩) hl).trans r1
    replace f1 := (hW1.frozen (p := ⟨w.heap.size + 2, 1, none⟩) hl).trans f1
    replace lt0 := Nat.lt_of_lt_of_le lt0 hW1.size
    replace lt1 := Nat.lt_of_lt_of_le lt1 hW1.size
    replace hl := Nat.lt_of_lt_of_le hl hW1.size
    replace hB1 := hB1.trans (hW1.mono hB1.size)
    obtain ⟨s5, a5, n5, c5, rfl⟩ := p3.form
    have HE : Hid _ := ((hB1.setCell (p := ⟨w.heap.size + 2, 0, none⟩) (by simp; try omega) (.bool s5)).setCell (p := ⟨w.heap.size + 2, 1, none⟩) (by simp; try omega) (.slice a5 n5 c5))
    have HI : Hid _ := p3.stored (u1 := .bool s5) (u2 := .slice a5 n5 c5) r0 r1 (by intro q; simp) (by intro q; simp)
    clear p3 hB1 hl
    go_wp2
    refine bodyPost_ret (v := .agg #[.bool s5, .slice a5 n5 c5]) (by simp [results, go_sem, loadVar, World.cell?_setCell_same, *]) rfl ?_
    exact ⟨_, rfl, HE.out, HI.out⟩

set_option maxRecDepth 10000 in
set_option maxHeartbeats 2000000 in
theorem zCmp_any (w : World) (vx vy : Value) (x y : Int) (LX : Nat) (hx : IsZ w vx x) (hy : IsZ w vy y) (hbx : x.natAbs < 10000 ^ LX) (hby : y.natAbs < 10000 ^ LX) (hL : LX ≤ 1073741824) :
    Calls Tryz.prog 29 #[vx, vy] w fun e w' => e = .returned (.int .i64 (cmpI x y)) ∧ Below w.heap.size w w' := by
  obtain ⟨sx, a, n, c, rfl⟩ := hx.form
  obtain ⟨sy, b, m, d, rfl⟩ := hy.form
  have b2 := bel2 w (Obj.cells #[Value.bool sx, Value.slice a n c] 31) (Obj.cells #[Value.bool sy, Value.slice b m d] 31)
  have C := zSub_any _ _ _ _ _ LX (hx.below b2) (hy.below b2) hbx hby hL
  have e0 : cmpI (x - y) 0 = cmpI x y := by unfold cmpI; split <;> split <;> first | omega | (split <;> split <;> omega) | (split <;> omega)
  have E0 : Hid _ := e0
  clear hx hy b2 hbx hby e0
  go_enter Tryz.func29, Tryz.ntmps29
  go_wp2_with (go_at_call 25; fail)
  refine C.mono ?_
  rintro e w2 ⟨v2, rfl, hb2, hm2⟩
  have hB := (bel2 w (Obj.cells #[Value.bool sx, Value.slice a n c] 31) (Obj.cells #[Value.bool sy, Value.slice b m d] 31)).trans (hb2.mono (by simp; omega))
  have C2 := zsign_any w2 v2 _ hm2
  rw [E0.out] at C2
  clear C hb2 hm2
  go_wp2_with (go_at_call 75; fail)
  refine C2.mono ?_
  rintro e w3 ⟨rfl, hb3⟩
  have hB3 := hB.trans (hb3.mono hB.size)
  clear C2 hb3
  go_wp2
  go_ret
  exact ⟨rfl, hB3⟩
end Go.Proofs.YtjlkplidpdhgbaaGreatDoor

namespace Go.Rad
open Go Go.RowKit
/-- A guarded operation whose guard says no. -/
theorem stpN {P : Program} {ops : List Oper} {Q : Exit → Act → World → Prop} {o : Oper} {a : Act} {w : World} {K : Act → World → Prop} {E : Prop} {j : Nat} {b c : Bool} {d : Nat} (hg : o.guard = some (j, b)) (hd : dstOf ops j = some d)
    (hv : a.tmps[d]?.getD undef = .bool c) (hc : c ≠ b) (h : E) : if Region.wanted o (yielded ops.toArray a.tmps) = true then o.wp P a w K Q else E := by
  have hy : yielded ops.toArray a.tmps j = some c := by
    unfold yielded
    unfold dstOf at hd
    have : (ops.toArray[j]?.bind (·.dst)) = some d := by simpa using hd
    rw [this]
    cases h2 : a.tmps[d]? with
    | none => rw [h2] at hv; simp [undef] at hv
    | some u => rw [h2] at hv; simp at hv; subst hv; simp [h2]
  rw [if_neg]
  · exact h
  · simp [Region.wanted, hg, hy, hc]
end Go.Rad

namespace Go.Proofs.YtjlkplidpdhgbaaGreatDoor
open Go Go.Proofs Go.RowKit Go.Rad

theorem two_pow_split {s : Nat} (hs : s ≤ 64) : 2 ^ (64 - s) * 2 ^ s = 18446744073709551616 := by
  rw [← Nat.pow_add, show 64 - s + s = 64 by omega]
theorem wrap_u64_nat (n : Nat) : IntKind.u64.wrap ((n : Nat) : Int) = ((lo n : Nat) : Int) := by
  rw [IntKind.wrap_u64]; unfold lo; omega
theorem shl_nat (d s : Nat) : IntKind.u64.wrap ((d : Int) * 2 ^ s) = ((lo (d * 2 ^ s) : Nat) : Int) := by
  rw [← wrap_u64_nat, Int.natCast_mul, Int.natCast_pow] <;> rfl
theorem shr_nat (d s : Nat) : (d : Int) / 2 ^ s = ((d / 2 ^ s : Nat) : Int) := by
  rw [Int.natCast_ediv, Int.natCast_pow]; rfl
/-- The low word of a shift, and what is shifted in. -/
theorem lo_shl {d s : Nat} (hs : s ≤ 64) : lo (d * 2 ^ s) = 2 ^ s * (d % 2 ^ (64 - s)) := by
  unfold lo
  rw [← two_pow_split hs, Nat.mul_mod_mul_right, Nat.mul_comm]
theorem hi_shl {d s : Nat} (hs : s ≤ 64) : hi (d * 2 ^ s) = d / 2 ^ (64 - s) := by
  unfold hi
  rw [← two_pow_split hs, Nat.mul_div_mul_right _ _ (Nat.pow_pos (by decide))]
theorem shl_or {d s c : Nat} (hs : s ≤ 64) (hc : c < 2 ^ s) :
    bits .or .u64 (IntKind.u64.wrap ((d : Int) * 2 ^ s)) (c : Int) = ((lo (d * 2 ^ s) + c : Nat) : Int) := by
  have h1 : 2 ^ s ≤ 2 ^ 64 := Nat.pow_le_pow_right (by decide) hs
  rw [shl_nat, bits_or_u64_nat _ _ (lo_lt _) (by omega), lo_shl hs, ← Nat.two_pow_add_eq_or_of_lt hc]
theorem shl_or_lt {d s c : Nat} (hs : s ≤ 64) (hc : c < 2 ^ s) : lo (d * 2 ^ s) + c < B := by
  rw [lo_shl hs]
  have h1 : d % 2 ^ (64 - s) < 2 ^ (64 - s) := Nat.mod_lt _ (Nat.pow_pos (by decide))
  have h2 := two_pow_split hs
  have h3 := Nat.mul_le_mul_left (2 ^ s) (show d % 2 ^ (64 - s) + 1 ≤ 2 ^ (64 - s) from h1)
  rw [Nat.mul_add, Nat.mul_comm (2 ^ s) (2 ^ (64 - s)), h2] at h3
  unfold B
  omega
theorem hi_shl_lt {d s : Nat} (hs : s ≤ 64) (hd : d < B) : d / 2 ^ (64 - s) < 2 ^ s := by
  refine Nat.div_lt_of_lt_mul ?_
  rw [two_pow_split hs]; exact hd
/-- One word of a shift upwards. -/
theorem up_step {k x d c r p e f : Nat} (h : r + B ^ k * c = x * p) (he : e + B * f = d * p + c) : r + B ^ k * e + B ^ (k + 1) * f = (x + B ^ k * d) * p := by
  have h2 : B ^ (k + 1) * f = B ^ k * (B * f) := by rw [Nat.pow_succ, Nat.mul_assoc]
  have h3 : B ^ k * (e + B * f) = B ^ k * (d * p + c) := by rw [he]
  rw [Nat.mul_add, Nat.mul_add] at h3
  have h4 : (x + B ^ k * d) * p = x * p + B ^ k * (d * p) := by rw [Nat.add_mul, Nat.mul_assoc]
  rw [h2, h4]
  omega

set_option maxRecDepth 10000 in
set_option maxHeartbeats 1000000 in
theorem moveUp_any (w : World) (az ax : Option Addr) (bz oz nz cz bx ox nx cx s : Nat) (hsz : Sl az bz oz nz) (hsx : Sl ax bx ox nx) (hz : Arr .u64 B w bz oz nz) (hf : Free w bz oz nz)
    (hx : Arr .u64 B w bx ox nx) (hn : nz = nx + 1) (hap : 0 < nx → bz ≠ bx ∨ ox + nx ≤ oz ∨ oz + nz ≤ ox) (hmz : nz ≤ maxLen) (hs : s < 64) :
    Calls Tryz.prog 137 #[.slice az nz cz, .slice ax nx cx, .int .u64 s] w fun e w' => e = .returned (.tuple #[]) ∧ Chg w w' bz oz (oz + nz) ∧ Arr .u64 B w' bz oz nz ∧
      num B w' bz oz nz = num B w bx ox nx * 2 ^ s := by
  subst hn
  have hmz' : nx + 1 ≤ 9223372036854775807 := hmz
  clear hmz
  go_enter Tryz.func137, Tryz.ntmps137
  go_wp2
  go_loopw [6, 11] (fun c i wr => ∃ k cc : Nat, k ≤ nx ∧ cc < 2 ^ s ∧ i = .int .i64 k ∧ c = .int .u64 cc ∧ Chg w wr bz oz (oz + k) ∧ Arr .u64 B wr bz oz (nx + 1) ∧
      num B wr bz oz k + B ^ k * cc = num B w bx ox k * 2 ^ s)
    (fun _ i _ => nx - (intOf i).toNat)
  case atStart => exact ⟨0, 0, by omega, Nat.pow_pos (by decide), rfl, rfl, Chg.refl _ _ _ _, hz, by simp [num_zero]⟩
  case round =>
    obtain ⟨k, cc, hk, hcc, rfl, rfl, hch, har, hnum⟩ := hrel
    obtain rfl := hsz (by omega)
    by_cases hlt : k < nx
    · obtain rfl := hsx (by omega)
      have hzk := arr_cell har (i := k) (by omega)
      have exk : wr.cell? ⟨bx, ox + k, none⟩ = w.cell? ⟨bx, ox + k, none⟩ := hch.cellAt (hx.lt (by omega)) (by have := hap (by omega); omega)
      have hxk : wr.cell? ⟨bx, ox + k, none⟩ = some (.int .u64 ((word w bx (ox + k) : Nat) : Int)) := exk.trans (arr_cell hx hlt)
      have hfk : wr.frozen? ⟨bz, oz + k, none⟩ = false := (hch.free hf hz.lt) k (by omega)
      have hs0 : (0 : Int) ≤ 64 - (s : Int) := by omega
      have hs1 : (64 - (s : Int)).toNat = 64 - s := by omega
      have hlt2 := arr_lt hx hlt
      have e1 := shl_or (d := word w bx (ox + k)) (s := s) (c := cc) (by omega) hcc
      have e2 := shr_nat (word w bx (ox + k)) (64 - s)
      have l1 := shl_or_lt (d := word w bx (ox + k)) (s := s) (c := cc) (by omega) hcc
      have l2 := hi_shl_lt (s := s) (by omega) hlt2
      have hstep := up_step (p := 2 ^ s) (e := lo (word w bx (ox + k) * 2 ^ s) + cc) (f := word w bx (ox + k) / 2 ^ (64 - s)) hnum
        (by rw [← hi_shl (by omega), Nat.add_right_comm, lo_hi])
      have H0 : num B wr bz oz k + B ^ k * (lo (word w bx (ox + k) * 2 ^ s) + cc) + B ^ (k + 1) * (word w bx (ox + k) / 2 ^ (64 - s)) = num B w bx ox (k + 1) * 2 ^ s := by
        rw [num_succ]; exact hstep
      have H : Hid _ := H0
      have E1 : Hid _ := e1
      have E2 : Hid _ := e2
      have L1 : Hid _ := l1
      have L2 : Hid _ := l2
      clear hnum exk hstep H0 e1 e2 l1 l2 hcc
      go_wp2
      rw [E1.out, E2.out]
      go_roundw
      case rel =>
        exact ⟨k + 1, _, by omega, L2.out, by go_num, rfl, (hch.mono (Nat.le_refl _) (by omega)).set (by omega) (by omega) _, har.set L1.out, by rw [num_store har (by omega)]; exact H.out⟩
      case measure => simp [intOf]; omega
    · obtain rfl : k = nx := by omega
      have hzk := arr_cell har (i := k) (by omega)
      have hfk : wr.frozen? ⟨bz, oz + k, none⟩ = false := (hch.free hf hz.lt) k (by omega)
      have H : Hid _ := hnum
      have C : Hid _ := hcc
      clear hnum hcc
      have hcB : cc < B := by
        have h1 := C.out
        have h2 : 2 ^ s ≤ 2 ^ 64 := Nat.pow_le_pow_right (by decide) (by omega)
        unfold B; omega
      go_wp2
      go_end0
      exact ⟨rfl, (hch.mono (Nat.le_refl _) (by omega)).set (by omega) (by omega) _, har.set hcB, by rw [num_store har (by omega)]; exact H.out⟩

/-- One word of a shift downwards: x stands above d; r is what x leaves. -/
theorem down_step {d x s : Nat} (hs : s ≤ 64) : (d + B * x) / 2 ^ s = (d / 2 ^ s + 2 ^ (64 - s) * (x % 2 ^ s)) + B * (x / 2 ^ s) := by
  have hp : 0 < 2 ^ s := Nat.pow_pos (by decide)
  have hB : B = 2 ^ s * 2 ^ (64 - s) := by rw [Nat.mul_comm, two_pow_split hs]; rfl
  have hx := Nat.mod_add_div x (2 ^ s)
  have e : d + B * x = d + 2 ^ s * (2 ^ (64 - s) * x) := by rw [hB, Nat.mul_assoc]
  rw [e, Nat.add_mul_div_left _ _ hp]
  have e2 : 2 ^ (64 - s) * x = 2 ^ (64 - s) * (x % 2 ^ s) + B * (x / 2 ^ s) := by
    conv => lhs; rw [← hx, Nat.mul_add, ← Nat.mul_assoc]
    rw [hB, Nat.mul_comm (2 ^ (64 - s)) (2 ^ s)]
  rw [e2]
  generalize B * (x / 2 ^ s) = u
  omega
theorem down_lt {d x s : Nat} (hs : s ≤ 64) (hd : d < B) : d / 2 ^ s + 2 ^ (64 - s) * (x % 2 ^ s) < B := by
  have h2 := two_pow_split hs
  have h1 : d / 2 ^ s < 2 ^ (64 - s) := Nat.div_lt_of_lt_mul (by rw [Nat.mul_comm, h2]; exact hd)
  have h3 : x % 2 ^ s < 2 ^ s := Nat.mod_lt _ (Nat.pow_pos (by decide))
  have h4 := Nat.mul_le_mul_left (2 ^ (64 - s)) (show x % 2 ^ s + 1 ≤ 2 ^ s from h3)
  rw [Nat.mul_add, h2, Nat.mul_one] at h4
  exact Nat.lt_of_lt_of_le (by rw [Nat.add_comm]; exact Nat.add_lt_add_left h1 _) h4
theorem shr_or {d x s : Nat} (hs : s ≤ 64) (hd : d < B) :
    bits .or .u64 ((d / 2 ^ s : Nat) : Int) ((2 ^ (64 - s) * (x % 2 ^ s) : Nat) : Int) = ((d / 2 ^ s + 2 ^ (64 - s) * (x % 2 ^ s) : Nat) : Int) := by
  have h2 := two_pow_split hs
  have h1 : d / 2 ^ s < 2 ^ (64 - s) := Nat.div_lt_of_lt_mul (by rw [Nat.mul_comm, h2]; exact hd)
  have h3 := down_lt (x := x) hs hd
  unfold B at h3
  rw [bits_or_u64_nat _ _ (Nat.lt_of_le_of_lt (Nat.le_add_right _ _) h3) (Nat.lt_of_le_of_lt (Nat.le_add_left _ _) h3), Nat.or_comm, ← Nat.two_pow_add_eq_or_of_lt h1, Nat.add_comm]
/-- What is shifted out at the low end, at the high end. -/
theorem shl_out {x s : Nat} (hs : s ≤ 64) : lo (x * 2 ^ (64 - s)) = 2 ^ (64 - s) * (x % 2 ^ s) := by
  have := lo_shl (d := x) (s := 64 - s) (by omega)
  rwa [show 64 - (64 - s) = s by omega] at this
theorem num_head (w : World) (b o n : Nat) : num B w b o (n + 1) = word w b o + B * num B w b (o + 1) n := by
  unfold num
  rw [_root_.Rad.vs_head]
  simp only [Nat.add_zero]
  congr 2
  exact _root_.Rad.vs_congr fun i _ => by rw [show o + 1 + i = o + (i + 1) by omega]

set_option maxRecDepth 10000 in
set_option maxHeartbeats 1000000 in
/-- moveDown: z may be x itself. -/
theorem moveDown_any (w : World) (az ax : Option Addr) (bz oz n cz bx ox cx s : Nat) (hsz : Sl az bz oz n) (hsx : Sl ax bx ox n) (hz : Arr .u64 B w bz oz n) (hf : Free w bz oz n)
    (hx : Arr .u64 B w bx ox n) (hap : 0 < n → bz ≠ bx ∨ ox + n ≤ oz ∨ oz + n ≤ ox ∨ ox = oz) (hmz : n ≤ maxLen) (hs : s < 64) :
    Calls Tryz.prog 140 #[.slice az n cz, .slice ax n cx, .int .u64 s] w fun e w' => e = .returned (.tuple #[]) ∧ Chg w w' bz oz (oz + n) ∧ Arr .u64 B w' bz oz n ∧
      num B w' bz oz n = num B w bx ox n / 2 ^ s := by
  have hmz' : n ≤ 9223372036854775807 := hmz
  clear hmz
  go_enter Tryz.func140, Tryz.ntmps140
  go_wp2
  go_loopw [6, 7] (fun c i wr => ∃ k d x : Nat, k + d = n ∧ x < B ∧ i = .int .i64 ((k : Int) - 1) ∧ c = .int .u64 (lo (x * 2 ^ (64 - s)) : Nat) ∧ Chg w wr bz (oz + k) (oz + n) ∧ Arr .u64 B wr bz oz n ∧
      x % 2 ^ s = num B w bx (ox + k) d % 2 ^ s ∧ num B wr bz (oz + k) d = num B w bx (ox + k) d / 2 ^ s)
    (fun _ i _ => (intOf i + 1).toNat)
  case atStart => exact ⟨n, 0, 0, by omega, B_pos, by go_num, by simp [lo], Chg.refl _ _ _ _, hz, by simp [num_zero], by simp [num_zero]⟩
  case round =>
    obtain ⟨k, d, x, hk, hxB, rfl, rfl, hch, har, hmod, hnum⟩ := hrel
    by_cases h0 : k = 0
    · subst h0
      obtain rfl : d = n := by omega
      go_wp2
      go_end0
      exact ⟨rfl, by simpa using hch, har, by simpa using hnum⟩
    · obtain ⟨j, rfl⟩ : ∃ j, k = j + 1 := ⟨k - 1, by omega⟩
      obtain rfl := hsz (by omega)
      obtain rfl := hsx (by omega)
      have he : ((j + 1 : Nat) : Int) - 1 = (j : Int) := by omega
      rw [he]
      have hzk := arr_cell har (i := j) (by omega)
      have exk : wr.cell? ⟨bx, ox + j, none⟩ = w.cell? ⟨bx, ox + j, none⟩ := hch.cellAt (hx.lt (by omega)) (by have := hap (by omega); omega)
      have hxk : wr.cell? ⟨bx, ox + j, none⟩ = some (.int .u64 ((word w bx (ox + j) : Nat) : Int)) := exk.trans (arr_cell hx (by omega))
      have hfk : wr.frozen? ⟨bz, oz + j, none⟩ = false := (hch.free hf hz.lt) j (by omega)
      have hlt2 := arr_lt hx (i := j) (by omega)
      have hs0 : (0 : Int) ≤ 64 - (s : Int) := by omega
      have hs1 : (64 - (s : Int)).toNat = 64 - s := by omega
      have e1 := shr_nat (word w bx (ox + j)) s
      have e2 := shl_nat (word w bx (ox + j)) (64 - s)
      have e3 : bits .or .u64 ((word w bx (ox + j) / 2 ^ s : Nat) : Int) ((lo (x * 2 ^ (64 - s)) : Nat) : Int) = ((word w bx (ox + j) / 2 ^ s + 2 ^ (64 - s) * (num B w bx (ox + (j + 1)) d % 2 ^ s) : Nat) : Int) := by
        rw [shl_out (by omega), hmod]; exact shr_or (by omega) hlt2
      have l1 := down_lt (x := num B w bx (ox + (j + 1)) d) (s := s) (by omega) hlt2
      have hv := down_step (d := word w bx (ox + j)) (x := num B w bx (ox + (j + 1)) d) (s := s) (by omega)
      have hh : num B w bx (ox + j) (d + 1) = word w bx (ox + j) + B * num B w bx (ox + (j + 1)) d := num_head _ _ _ _
      rw [← hh, ← hnum] at hv
      have hm2 : word w bx (ox + j) % 2 ^ s = num B w bx (ox + j) (d + 1) % 2 ^ s := by
        rw [hh, show B = 2 ^ s * 2 ^ (64 - s) by rw [Nat.mul_comm, two_pow_split (by omega)]; rfl, Nat.mul_assoc, Nat.add_mul_mod_self_left]
      have HV : Hid _ := hv
      have HM : Hid _ := hm2
      have E1 : Hid _ := e1
      have E2 : Hid _ := e2
      have E3 : Hid _ := e3
      have L1 : Hid _ := l1
      clear hv hm2 e1 e2 e3 l1 hh hmod hnum exk he
      go_wp2
      rw [E1.out, E2.out, E3.out]
      go_roundw
      case rel =>
        refine ⟨j, d + 1, _, by omega, hlt2, by go_num, rfl, (hch.mono (by omega) (Nat.le_refl _)).set (by omega) (by omega) _, har.set L1.out, HM.out, ?_⟩
        rw [HV.out, num_head, word_set_same (by rw [hzk]; rfl), num_set_other (by omega)]
        rfl
      case measure => simp [intOf]
end Go.Proofs.YtjlkplidpdhgbaaGreatDoor
