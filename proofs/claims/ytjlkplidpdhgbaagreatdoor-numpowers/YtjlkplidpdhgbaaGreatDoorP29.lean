/- A part of the proof: R5, R6, R7. -/
import Derived.Test.YtjlkplidpdhgbaaGreatDoorP28
set_option linter.all false

namespace Go.Proofs.YtjlkplidpdhgbaaGreatDoor
open Go Go.Proofs Go.RowKit Go.Rad

/-- What a value of type Z is made of. -/
theorem IsZ.parts {w : World} {v : Value} {z : Int} (h : IsZ w v z) : ∃ ao b o n c, v = .agg #[.bool (decide (z < 0)), .slice ao n c] ∧ Sl ao b o n ∧ n ≤ c ∧ c ≤ maxLen ∧ Arr .i64 10000 w b o n ∧ num 10000 w b o n = z.natAbs ∧ (n = 0 ↔ z = 0) := by
  obtain ⟨dv, n, hv, hd⟩ := h
  have hz := hd.zero_iff
  obtain ⟨ao, b, o, c, rfl, hs, hc, hcm, ha, hx, hn⟩ := hd
  exact ⟨ao, b, o, n, c, hv, hs, hc, hcm, ha, hx, by rw [← hz]; omega⟩

set_option maxRecDepth 10000 in
theorem zsign_any (w : World) (v : Value) (z : Int) (hv : IsZ w v z) :
    Calls Tryz.prog 75 #[v] w fun e w' => e = .returned (.int .i64 (cmpI z 0)) ∧ Below w.heap.size w w' := by
  obtain ⟨ao, b, o, n, c, rfl, hs, hc, hcm, ha, hx, hn⟩ := hv.parts
  clear hv hs ha hx hc hcm
  by_cases h0 : n = 0
  · have hz : z = 0 := hn.1 h0
    subst h0 hz
    clear hn
    go_enter Tryz.func75, Tryz.ntmps75
    go_wp2
    go_ret
    exact ⟨rfl, bel1 _ _⟩
  · have hz : ¬ z = 0 := fun h => h0 (hn.2 h)
    have h1 : ¬ (n : Int) = 0 := by omega
    by_cases hneg : z < 0
    · have e : cmpI z 0 = -1 := by unfold cmpI; rw [if_pos hneg]
      have d : decide (z < 0) = true := by simpa using hneg
      rw [e, d]
      clear e hn
      go_enter Tryz.func75, Tryz.ntmps75
      go_wp2
      go_ret
      exact ⟨rfl, bel1 _ _⟩
    · have e : cmpI z 0 = 1 := by unfold cmpI; rw [if_neg hneg, if_neg hz]
      have d : decide (z < 0) = false := by simpa using hneg
      rw [e, d]
      clear e hn
      go_enter Tryz.func75, Tryz.ntmps75
      go_wp2
      go_ret
      exact ⟨rfl, bel1 _ _⟩

set_option maxRecDepth 10000 in
theorem zSign_any (w : World) (v : Value) (z : Int) (hv : IsZ w v z) :
    Calls Tryz.prog 19 #[v] w fun e w' => e = .returned (.int .i64 (cmpI z 0)) ∧ Below w.heap.size w w' := by
  obtain ⟨b, a, n, c, rfl⟩ := hv.form
  have C := zsign_any _ _ _ (hv.below (bel1 w (Obj.cells #[Value.bool b, Value.slice a n c] 31)))
  clear hv
  go_enter Tryz.func19, Tryz.ntmps19
  go_wp2_with (go_at_call 75; fail)
  refine C.mono ?_
  rintro e w2 ⟨rfl, hb⟩
  have hB := (bel1 w (Obj.cells #[Value.bool b, Value.slice a n c] 31)).trans (hb.mono (by simp))
  clear C hb
  go_wp2
  go_ret
  exact ⟨rfl, hB⟩

theorem sgn_not_neg (z : Int) : sgn (!decide (z < 0)) z.natAbs = -z := by
  unfold sgn
  by_cases h : z < 0
  · rw [decide_eq_true h]; simp; omega
  · rw [decide_eq_false h]; simp; omega
theorem sgn_self (z : Int) : sgn (decide (z < 0)) z.natAbs = z := by
  unfold sgn
  by_cases h : z < 0
  · rw [decide_eq_true h]; simp; omega
  · rw [decide_eq_false h]; simp; omega

set_option maxRecDepth 10000 in
set_option maxHeartbeats 1000000 in
theorem zNeg_any (w : World) (v : Value) (z : Int) (hv : IsZ w v z) :
    Calls Tryz.prog 21 #[v] w fun e w' => ∃ v, e = .returned v ∧ Below w.heap.size w w' ∧ IsZ w' v (-z) := by
  obtain ⟨ao, b, o, n, c, rfl, hs, hc, hcm, ha, hx, hn⟩ := hv.parts
  obtain ⟨sg, hsg⟩ : ∃ sg, decide (z < 0) = sg := ⟨_, rfl⟩
  have e0 := sgn_not_neg z
  rw [hsg] at e0 ⊢
  have R : Rez w ((w.alloc (Obj.cells #[Value.bool sg, Value.slice ao n c] 31)).alloc (Obj.cells #[Value.bool false, Value.slice none 0 0] 31)) (w.heap.size + 1) :=
    ⟨bel2 _ _ _, by omega, by simp, by simp [go_sem], by simp [go_sem], by simp [go_sem], by simp [go_sem]⟩
  have b2 := bel2 w (Obj.cells #[Value.bool sg, Value.slice ao n c] 31) (Obj.cells #[Value.bool false, Value.slice none 0 0] 31)
  have C := zmade_any _ (!sg) ao b o n c _ hs hc hcm (arr_below ha b2) ((num_below ha b2).trans hx)
  rw [e0] at C
  have HR : Hid _ := R
  clear hv hsg e0 hs ha hx hn hc hcm b2 R
  go_enter Tryz.func21, Tryz.ntmps21
  go_wp2_with (go_at_call 73; fail)
  refine C.mono ?_
  rintro e w4 ⟨v4, rfl, hb4, hI⟩
  have R5 := HR.out.step hb4 HR.out.lt
  clear C HR
  obtain ⟨s5, a5, n5, c5, rfl⟩ := hI.form
  obtain ⟨HE, HI⟩ := R5.done hI
  have HE' : Hid _ := HE
  have HI' : Hid _ := HI
  obtain ⟨-, -, lt, k0, k1, f0, f1⟩ := R5
  clear HE HI hI hb4
  go_wp2
  refine bodyPost_ret (v := .agg #[.bool s5, .slice a5 n5 c5]) (by simp [results, go_sem, loadVar, World.cell?_setCell_same, *]) rfl ?_
  exact ⟨_, rfl, HE'.out, HI'.out⟩
end Go.Proofs.YtjlkplidpdhgbaaGreatDoor

namespace Go.Proofs.YtjlkplidpdhgbaaGreatDoor
open Go Go.Proofs Go.RowKit Go.Rad

set_option maxRecDepth 10000 in
set_option maxHeartbeats 4000000 in
theorem zOf_neg (w : World) (z : Int) (h1 : -9223372036854775808 ≤ z) (h2 : z ≤ 9223372036854775807) (hn : z < 0) :
    Calls Tryz.prog 17 #[.int .i64 z] w fun e w' => ∃ v, e = .returned v ∧ Below w.heap.size w w' ∧ IsZ w' v z := by
  have HR : Hid (Rez w (w.alloc (Obj.cells #[Value.bool false, Value.slice none 0 0] 31)) w.heap.size) := Rez.mk0 w
  go_enter Tryz.func17, Tryz.ntmps17
  go_wp2
  refine wp_world (fun w1 => Rez w w1 w.heap.size) HR.out ?_
  clear HR
  rintro w1 R1
  have HR1 : Hid _ := R1
  clear R1
  go_loopw [3, 4] (fun s3 s4 wr => ∃ (u : Nat) (xs : List Nat), s3 = .int .u64 (u : Int) ∧ RowN .i64 3 wr (w.heap.size + 1) s4 xs ∧ (∀ x ∈ xs, x < 10000) ∧ lv 10000 xs + 10000 ^ xs.length * u = z.natAbs ∧ Rez w wr w.heap.size)
    (fun s3 _ _ => (intOf s3).toNat)
  case atStart => exact ⟨z.natAbs, [], by rw [IntKind.wrap_u64, IntKind.wrap_u64]; congr 1; omega, RowN.nil _ _ _ _, by simp, by simp [lv], HR1.out⟩
  case round =>
    obtain ⟨u, xs, rfl, hrow, hxs, hlv, hR⟩ := hrel
    clear HR1
    have hRl := hR.lt
    have huz : u ≤ z.natAbs := by
      have h1 := Nat.mul_le_mul_right u (show 1 ≤ 10000 ^ xs.length from Nat.pow_pos (by decide))
      omega
    by_cases hu : u = 0
    · have c1 : ¬ (0 : Int) < (u : Int) := by omega
      rw [hu, Nat.mul_zero, Nat.add_zero] at hlv
      obtain ⟨ao, bb, cc, rfl, hsl, hc, hcm, harr, hnum, hfree, _, _⟩ := hrow.arr hxs
      have CZ := zmade_any wr (decide (z < 0)) ao bb 0 xs.length cc _ hsl hc hcm harr (hnum.trans hlv)
      rw [sgn_self, decide_eq_true (show z < 0 by omega)] at CZ
      have HRR : Hid _ := hR
      clear hrow hnum hsl harr hfree hlv hxs hR hc huz hu
      go_wp2_with (go_at_call 73; fail)
      refine CZ.mono ?_
      rintro e w4 ⟨v4, rfl, hb4, hI⟩
      have R5 := HRR.out.step hb4 HRR.out.lt
      clear CZ HRR
      obtain ⟨s5, a5, n5, c5, rfl⟩ := hI.form
      obtain ⟨HE, HI⟩ := R5.done hI
      have HE' : Hid _ := HE
      have HI' : Hid _ := HI
      obtain ⟨-, -, lt, k0, k1, f0, f1⟩ := R5
      clear HE HI hI hb4
      go_wp2
      refine bodyPost_ret (v := .agg #[.bool s5, .slice a5 n5 c5]) (by simp [results, go_sem, loadVar, World.cell?_setCell_same, *]) rfl ?_
      exact ⟨_, rfl, HE'.out, HI'.out⟩
    · have c1 : (0 : Int) < (u : Int) := by omega
      have hlen : xs.length < 8 := by
        refine (Nat.pow_lt_pow_iff_right (a := 10000) (by decide)).1 ?_
        have h1 := Nat.mul_le_mul_left (10000 ^ xs.length) (show 1 ≤ u by omega)
        have h2 : z.natAbs < 10000 ^ 8 := by
          have : (10000 : Nat) ^ 8 = 100000000000000000000000000000000 := by decide
          omega
        omega
      obtain ⟨d, hd⟩ : ∃ d, d = u % 10000 := ⟨_, rfl⟩
      obtain ⟨q, hq⟩ : ∃ q, q = u / 10000 := ⟨_, rfl⟩
      have hdu : (u : Int) % 10000 = (d : Int) := by omega
      have hqu : (u : Int) / 10000 = (q : Int) := by omega
      have hwd : IntKind.i64.wrap (d : Int) = (d : Int) := by rw [IntKind.wrap_i64]; omega
      have hd4 : d < 10000 := by omega
      have hqlt : q < u := by omega
      have hnext : lv 10000 (xs ++ [d]) + 10000 ^ (xs ++ [d]).length * q = z.natAbs := by
        rw [lv_snoc, List.length_append, List.length_singleton, Nat.pow_succ, Nat.mul_assoc, Nat.add_assoc, ← Nat.mul_add, hd, hq, Nat.mod_add_div]
        exact hlv
      have HN : Hid _ := hnext
      have HROW2 := (hrow.below (bel1 wr (Obj.cells #[Value.int IntKind.i64 (d : Int)] 3))).hid
      have HC2 : Hid ((wr.alloc (Obj.cells #[Value.int IntKind.i64 (d : Int)] 3)).cell? ⟨wr.heap.size, 0, none⟩ = some (.int .i64 (d : Int))) := by show _ = _; simp [go_sem]
      have HB2 := bel1 wr (Obj.cells #[Value.int IntKind.i64 (d : Int)] 3)
      have HS2 : Hid (w.heap.size + 1 ≤ (wr.alloc (Obj.cells #[Value.int IntKind.i64 (d : Int)] 3)).heap.size) := by show _ ≤ _; simp; omega
      have HXS : Hid _ := hxs
      have HRR : Hid _ := hR
      clear hd hq hnext hrow hxs hR hlv
      go_wp2_with (at_builtin; refine wpList_appendN .i64 3 rfl _ _ 29 rfl Tryz.underlying29 8 info3 (by decide) (w.heap.size + 1) _ xs rfl HROW2.out wr.heap.size 1 d rfl HC2.out (by omega) HS2.out ?_; intro v6 w6 row6 hb6 hor6 hg6)
      have R6 := (HRR.out.step HB2 hRl).step hb6 (by omega)
      refine ⟨⟨q, xs ++ [d], rfl, row6, ?_, HN.out, R6⟩, ?_⟩
      · intro x hx
        rcases List.mem_append.1 hx with h | h
        · exact HXS.out x h
        · rw [List.mem_singleton.1 h]; exact hd4
      · simp [intOf]; omega
set_option maxRecDepth 10000 in
set_option maxHeartbeats 4000000 in
theorem zOf_pos (w : World) (z : Int) (h1 : -9223372036854775808 ≤ z) (h2 : z ≤ 9223372036854775807) (hn : ¬ z < 0) :
    Calls Tryz.prog 17 #[.int .i64 z] w fun e w' => ∃ v, e = .returned v ∧ Below w.heap.size w w' ∧ IsZ w' v z := by
  have HR : Hid (Rez w (w.alloc (Obj.cells #[Value.bool false, Value.slice none 0 0] 31)) w.heap.size) := Rez.mk0 w
  go_enter Tryz.func17, Tryz.ntmps17
  go_wp2
  refine wp_world (fun w1 => Rez w w1 w.heap.size) HR.out ?_
  clear HR
  rintro w1 R1
  have HR1 : Hid _ := R1
  clear R1
  go_loopw [3, 4] (fun s3 s4 wr => ∃ (u : Nat) (xs : List Nat), s3 = .int .u64 (u : Int) ∧ RowN .i64 3 wr (w.heap.size + 1) s4 xs ∧ (∀ x ∈ xs, x < 10000) ∧ lv 10000 xs + 10000 ^ xs.length * u = z.natAbs ∧ Rez w wr w.heap.size)
    (fun s3 _ _ => (intOf s3).toNat)
  case atStart => exact ⟨z.natAbs, [], by congr 1; omega, RowN.nil _ _ _ _, by simp, by simp [lv], HR1.out⟩
  case round =>
    obtain ⟨u, xs, rfl, hrow, hxs, hlv, hR⟩ := hrel
    clear HR1
    have hRl := hR.lt
    have huz : u ≤ z.natAbs := by
      have h1 := Nat.mul_le_mul_right u (show 1 ≤ 10000 ^ xs.length from Nat.pow_pos (by decide))
      omega
    by_cases hu : u = 0
    · have c1 : ¬ (0 : Int) < (u : Int) := by omega
      rw [hu, Nat.mul_zero, Nat.add_zero] at hlv
      obtain ⟨ao, bb, cc, rfl, hsl, hc, hcm, harr, hnum, hfree, _, _⟩ := hrow.arr hxs
      have CZ := zmade_any wr (decide (z < 0)) ao bb 0 xs.length cc _ hsl hc hcm harr (hnum.trans hlv)
      rw [sgn_self] at CZ
      have HRR : Hid _ := hR
      clear hrow hnum hsl harr hfree hlv hxs hR hc huz hu
      go_wp2_with (go_at_call 73; fail)
      refine CZ.mono ?_
      rintro e w4 ⟨v4, rfl, hb4, hI⟩
      have R5 := HRR.out.step hb4 HRR.out.lt
      clear CZ HRR
      obtain ⟨s5, a5, n5, c5, rfl⟩ := hI.form
      obtain ⟨HE, HI⟩ := R5.done hI
      have HE' : Hid _ := HE
      have HI' : Hid _ := HI
      obtain ⟨-, -, lt, k0, k1, f0, f1⟩ := R5
      clear HE HI hI hb4
      go_wp2
      refine bodyPost_ret (v := .agg #[.bool s5, .slice a5 n5 c5]) (by simp [results, go_sem, loadVar, World.cell?_setCell_same, *]) rfl ?_
      exact ⟨_, rfl, HE'.out, HI'.out⟩
    · have c1 : (0 : Int) < (u : Int) := by omega
      have hlen : xs.length < 8 := by
        refine (Nat.pow_lt_pow_iff_right (a := 10000) (by decide)).1 ?_
        have h1 := Nat.mul_le_mul_left (10000 ^ xs.length) (show 1 ≤ u by omega)
        have h2 : z.natAbs < 10000 ^ 8 := by
          have : (10000 : Nat) ^ 8 = 100000000000000000000000000000000 := by decide
          omega
        omega
      obtain ⟨d, hd⟩ : ∃ d, d = u % 10000 := ⟨_, rfl⟩
      obtain ⟨q, hq⟩ : ∃ q, q = u / 10000 := ⟨_, rfl⟩
      have hdu : (u : Int) % 10000 = (d : Int) := by omega
      have hqu : (u : Int) / 10000 = (q : Int) := by omega
      have hwd : IntKind.i64.wrap (d : Int) = (d : Int) := by rw [IntKind.wrap_i64]; omega
      have hd4 : d < 10000 := by omega
      have hqlt : q < u := by omega
      have hnext : lv 10000 (xs ++ [d]) + 10000 ^ (xs ++ [d]).length * q = z.natAbs := by
        rw [lv_snoc, List.length_append, List.length_singleton, Nat.pow_succ, Nat.mul_assoc, Nat.add_assoc, ← Nat.mul_add, hd, hq, Nat.mod_add_div]
        exact hlv
      have HN : Hid _ := hnext
      have HROW2 := (hrow.below (bel1 wr (Obj.cells #[Value.int IntKind.i64 (d : Int)] 3))).hid
      have HC2 : Hid ((wr.alloc (Obj.cells #[Value.int IntKind.i64 (d : Int)] 3)).cell? ⟨wr.heap.size, 0, none⟩ = some (.int .i64 (d : Int))) := by show _ = _; simp [go_sem]
      have HB2 := bel1 wr (Obj.cells #[Value.int IntKind.i64 (d : Int)] 3)
      have HS2 : Hid (w.heap.size + 1 ≤ (wr.alloc (Obj.cells #[Value.int IntKind.i64 (d : Int)] 3)).heap.size) := by show _ ≤ _; simp; omega
      have HXS : Hid _ := hxs
      have HRR : Hid _ := hR
      clear hd hq hnext hrow hxs hR hlv
      go_wp2_with (at_builtin; refine wpList_appendN .i64 3 rfl _ _ 29 rfl Tryz.underlying29 8 info3 (by decide) (w.heap.size + 1) _ xs rfl HROW2.out wr.heap.size 1 d rfl HC2.out (by omega) HS2.out ?_; intro v6 w6 row6 hb6 hor6 hg6)
      have R6 := (HRR.out.step HB2 hRl).step hb6 (by omega)
      refine ⟨⟨q, xs ++ [d], rfl, row6, ?_, HN.out, R6⟩, ?_⟩
      · intro x hx
        rcases List.mem_append.1 hx with h | h
        · exact HXS.out x h
        · rw [List.mem_singleton.1 h]; exact hd4
      · simp [intOf]; omega
theorem zOf_any (w : World) (z : Int) (h1 : -9223372036854775808 ≤ z) (h2 : z ≤ 9223372036854775807) :
    Calls Tryz.prog 17 #[.int .i64 z] w fun e w' => ∃ v, e = .returned v ∧ Below w.heap.size w w' ∧ IsZ w' v z := by
  by_cases hn : z < 0
  · exact zOf_neg w z h1 h2 hn
  · exact zOf_pos w z h1 h2 hn
end Go.Proofs.YtjlkplidpdhgbaaGreatDoor

namespace Go.Proofs.YtjlkplidpdhgbaaGreatDoor
open Go Go.Proofs Go.RowKit Go.Rad

theorem Dg.lt_len {w w' : World} {u v : Value} {x y n m : Nat} (hx : Dg w u x n) (hy : Dg w' v y m) (h : n < m) : x < y := by
  have h1 := hx.lt
  have h2 := hy.ge (by omega)
  have h3 : 10000 ^ n ≤ 10000 ^ (m - 1) := Nat.pow_le_pow_right (by decide) (by omega)
  omega

set_option maxRecDepth 10000 in
set_option maxHeartbeats 1000000 in
theorem dcmp_any (w : World) (va vb : Value) (x y n m : Nat) (hx : Dg w va x n) (hy : Dg w vb y m) :
    Calls Tryz.prog 80 #[va, vb] w fun e w' => e = .returned (.int .i64 (cmpI (x : Int) (y : Int))) ∧ ∃ n, w' = w.drewN n := by
  by_cases hn : n = m
  · subst hn
    obtain ⟨ax, bx, ox, cx, rfl, hsx, hcx, hmx, hax, hnx, -⟩ := hx
    obtain ⟨ay, byy, oy, cy, rfl, hsy, hcy, hmy, hay, hny, -⟩ := hy
    unfold maxLen at hmx hmy
    go_enter Tryz.func80, Tryz.ntmps80
    go_wp2
    go_loopw [5] (fun s wr => ∃ k d : Nat, k ≤ n ∧ s = .int .i64 ((k : Int) - 1) ∧ wr = w.drewN d ∧ ∀ i, k ≤ i → i < n → word w bx (ox + i) = word w byy (oy + i)) (fun s _ => (intOf s + 1).toNat)
    case atStart => exact ⟨n, 0, by omega, by go_num, rfl, fun i h1 h2 => by omega⟩
    case round =>
      obtain ⟨k, d, hk, rfl, rfl, hz⟩ := hrel
      by_cases h0 : k = 0
      · subst h0
        have e : cmpI (x : Int) (y : Int) = 0 := cmpI_nat_eq (by rw [← hnx, ← hny]; exact (num_congr fun i hi => (hz i (by omega) hi).symm).symm)
        go_wp2
        go_ret
        exact ⟨ret_int e.symm, _, rfl⟩
      · obtain ⟨j, rfl⟩ : ∃ j, k = j + 1 := ⟨k - 1, by omega⟩
        obtain rfl := hsx (by omega)
        obtain rfl := hsy (by omega)
        have hcelx := arr_cell hax (i := j) (by omega)
        have hcely := arr_cell hay (i := j) (by omega)
        have he : ((j + 1 : Nat) : Int) - 1 = (j : Int) := by omega
        rw [he]
        have hb : (j : Int) < (n : Int) := by omega
        have hb0 : (0 : Int) ≤ (j : Int) := by omega
        rcases Nat.lt_trichotomy (word w bx (ox + j)) (word w byy (oy + j)) with h | h | h
        · have hres : cmpI (x : Int) (y : Int) = -1 := by
            rw [← hnx, ← hny]
            exact cmpI_nat_lt (_root_.Rad.vs_lt_of_place (i := j) (fun i hi => arr_lt hax hi) (by omega) h (fun i h1 h2 => hz i (by omega) h2))
          have h' : ((word w bx (ox + j) : Nat) : Int) < ((word w byy (oy + j) : Nat) : Int) := by omega
          have HRES : Hid _ := hres
          clear hz hres h he hax hay hnx hny hsx hsy
          go_wp2
          go_quiet (fail)
          go_wp2
          go_ret
          exact ⟨ret_int HRES.out.symm, by simp only [World.drewN_drewN]; exact ⟨_, rfl⟩⟩
        · have h' : ((word w bx (ox + j) : Nat) : Int) = ((word w byy (oy + j) : Nat) : Int) := by omega
          have hz' : ∀ i, j ≤ i → i < n → word w bx (ox + i) = word w byy (oy + i) := fun i h1 h2 => by
            by_cases hij : i = j
            · subst hij; exact h
            · exact hz i (by omega) h2
          have HZ : Hid _ := hz'
          rw [h'] at hcelx
          have h1 : ¬ ((word w byy (oy + j) : Nat) : Int) < ((word w byy (oy + j) : Nat) : Int) := by omega
          clear hz h he hz' h'
          go_wp2
          go_quiet (fail)
          go_wp2
          go_quiet (fail)
          go_wp2
          refine ⟨⟨j, _, by omega, by go_num, rfl, HZ.out⟩, by simp [intOf]⟩
        · have hres : cmpI (x : Int) (y : Int) = 1 := by
            rw [← hnx, ← hny]
            exact cmpI_nat_gt (_root_.Rad.vs_lt_of_place (i := j) (fun i hi => arr_lt hay hi) (by omega) h (fun i h1 h2 => (hz i (by omega) h2).symm))
          have h' : ((word w byy (oy + j) : Nat) : Int) < ((word w bx (ox + j) : Nat) : Int) := by omega
          have h'' : ¬ ((word w bx (ox + j) : Nat) : Int) < ((word w byy (oy + j) : Nat) : Int) := by omega
          have HRES : Hid _ := hres
          clear hz hres h he hax hay hnx hny hsx hsy
          go_wp2
          go_quiet (fail)
          go_wp2
          go_quiet (fail)
          go_wp2
          go_ret
          exact ⟨ret_int HRES.out.symm, by simp only [World.drewN_drewN]; exact ⟨_, rfl⟩⟩
  · have h1 : ¬ (n : Int) = (m : Int) := by omega
    rcases Nat.lt_or_ge n m with h | h
    · have hres : cmpI (x : Int) (y : Int) = -1 := cmpI_nat_lt (hx.lt_len hy h)
      have h2 : (n : Int) < (m : Int) := by omega
      obtain ⟨ax, bx, ox, cx, rfl, hsx, hcx, hmx, -⟩ := hx
      obtain ⟨ay, byy, oy, cy, rfl, hsy, hcy, hmy, -⟩ := hy
      rw [hres]
      clear hres hsx hsy hcx hcy hmx hmy
      go_enter Tryz.func80, Tryz.ntmps80
      go_wp2
      go_ret
      exact ⟨rfl, 0, rfl⟩
    · have hres : cmpI (x : Int) (y : Int) = 1 := cmpI_nat_gt (hy.lt_len hx (by omega))
      have h2 : ¬ (n : Int) < (m : Int) := by omega
      obtain ⟨ax, bx, ox, cx, rfl, hsx, hcx, hmx, -⟩ := hx
      obtain ⟨ay, byy, oy, cy, rfl, hsy, hcy, hmy, -⟩ := hy
      rw [hres]
      clear hres hsx hsy hcx hcy hmx hmy
      go_enter Tryz.func80, Tryz.ntmps80
      go_wp2
      go_ret
      exact ⟨rfl, 0, rfl⟩
end Go.Proofs.YtjlkplidpdhgbaaGreatDoor
