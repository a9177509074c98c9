/- A part of the proof: R8, R9, R10. -/
import Derived.Test.YtjlkplidpdhgbaaGreatDoorP29
set_option linter.all false

namespace Go.Proofs.YtjlkplidpdhgbaaGreatDoor
open Go Go.Proofs Go.RowKit Go.Rad

theorem num_min_succ {w : World} {b o i n : Nat} (h : i < n) : num 10000 w b o (min (i + 1) n) = num 10000 w b o (min i n) + 10000 ^ i * word w b (o + i) := by
  rw [Nat.min_eq_left (by omega), Nat.min_eq_left (by omega), num_succ]
theorem num_min_stay {w : World} {b o i n : Nat} (h : n ≤ i) : num 10000 w b o (min (i + 1) n) = num 10000 w b o (min i n) := by
  rw [Nat.min_eq_right (by omega), Nat.min_eq_right (by omega)]
/-- One place of a sum. -/
theorem add_place {p L c a b X Y X' Y' d q : Nat} (h : L + p * c = X + Y) (hx : X' = X + p * a) (hy : Y' = Y + p * b) (hd : d = (c + a + b) % 10000) (hq : q = (c + a + b) / 10000) : L + p * d + p * 10000 * q = X' + Y' := by
  have h1 := Nat.mod_add_div (c + a + b) 10000
  have h2 : p * d + p * 10000 * q = p * (c + a + b) := by rw [Nat.mul_assoc, ← Nat.mul_add, hd, hq, h1]
  rw [Nat.mul_add, Nat.mul_add] at h2
  omega
set_option maxRecDepth 10000 in
set_option maxHeartbeats 4000000 in
theorem dadd_any (w : World) (va vb : Value) (x y n m : Nat) (hx : Dg w va x n) (hy : Dg w vb y m) (hn : n ≤ 1073741824) (hm : m ≤ 1073741824) :
    Calls Tryz.prog 79 #[va, vb] w fun e w' => ∃ v ys, e = .returned v ∧ RowN .i64 3 w' w.heap.size v ys ∧ (∀ y ∈ ys, y < 10000) ∧ lv 10000 ys = x + y ∧ Below w.heap.size w w' := by
  obtain ⟨ax, bx, ox, cx, rfl, hsx, hcx, hmx, hax, hnx, -⟩ := hx
  obtain ⟨ay, byy, oy, cy, rfl, hsy, hcy, hmy, hay, hny, -⟩ := hy
  have numX : ∀ {w'}, Below w.heap.size w w' → ∀ {k}, num 10000 w' bx ox (min k n) = num 10000 w bx ox (min k n) := fun hb k => num_below (fun i hi => hax i (by omega)) hb
  have numY : ∀ {w'}, Below w.heap.size w w' → ∀ {k}, num 10000 w' byy oy (min k m) = num 10000 w byy oy (min k m) := fun hb k => num_below (fun i hi => hay i (by omega)) hb
  have HAX0 : Hid (Arr .i64 10000 w bx ox n) := hax
  have HAY0 : Hid (Arr .i64 10000 w byy oy m) := hay
  have HNX : Hid _ := hnx
  have HNY : Hid _ := hny
  have HnumX : Hid _ := @numX
  have HnumY : Hid _ := @numY
  clear hax hay hnx hny numX numY
  go_enter Tryz.func79, Tryz.ntmps79
  go_wp2
  go_loopw [5, 6, 7] (fun s5 s6 s7 wr => ∃ (i c : Nat) (ys : List Nat), s7 = .int .i64 (i : Int) ∧ s6 = .int .i64 (c : Int) ∧ RowN .i64 3 wr w.heap.size s5 ys ∧ ys.length = i ∧ c ≤ 1 ∧ (∀ y ∈ ys, y < 10000) ∧ i ≤ max n m + 1 ∧ (0 < c → i ≤ max n m) ∧ lv 10000 ys + 10000 ^ i * c = num 10000 wr bx ox (min i n) + num 10000 wr byy oy (min i m) ∧ Below w.heap.size w wr)
    (fun _ _ s7 _ => max n m + 1 - (intOf s7).toNat)
  case atStart => exact ⟨0, 0, [], rfl, rfl, RowN.nil _ _ _ _, rfl, by omega, by simp, by omega, by omega, by simp [lv, num_zero], Below.refl _ _⟩
  case round =>
    obtain ⟨i, c, ys, rfl, rfl, hrow, hyl, hc1, hys, hi, hci, hlv, hBw⟩ := hrel
    have HAX : Hid (Arr .i64 10000 wr bx ox n) := arr_below HAX0.out hBw
    have HAY : Hid (Arr .i64 10000 wr byy oy m) := arr_below HAY0.out hBw
    have numX : ∀ {w'}, Below w.heap.size w w' → ∀ {k}, num 10000 w' bx ox (min k n) = num 10000 w bx ox (min k n) := HnumX.out
    have numY : ∀ {w'}, Below w.heap.size w w' → ∀ {k}, num 10000 w' byy oy (min k m) = num 10000 w byy oy (min k m) := HnumY.out
    by_cases hA : i < n
    · by_cases hB : i < m
      · have c1 : (i : Int) < (n : Int) := by omega
        obtain rfl := hsx (by omega)
        have hcelx := arr_cell HAX.out (i := i) (by omega)
        have hltx := arr_lt HAX.out (i := i) (by omega)
        obtain ⟨a, ha⟩ : ∃ a, word wr bx (ox + i) = a := ⟨_, rfl⟩
        rw [ha] at hcelx hltx
        have hX := num_min_succ (w := wr) (b := bx) (o := ox) hA
        rw [ha] at hX
        have hcax : i < cx := by omega
        have c2 : (i : Int) < (m : Int) := by omega
        obtain rfl := hsy (by omega)
        have hcely := arr_cell HAY.out (i := i) (by omega)
        have hlty := arr_lt HAY.out (i := i) (by omega)
        obtain ⟨b, hb⟩ : ∃ b, word wr byy (oy + i) = b := ⟨_, rfl⟩
        rw [hb] at hcely hlty
        have hY := num_min_succ (w := wr) (b := byy) (o := oy) hB
        rw [hb] at hY
        have hcay : i < cy := by omega
        obtain ⟨d, hd⟩ : ∃ d, d = (c + a + b) % 10000 := ⟨_, rfl⟩
        obtain ⟨q, hq⟩ : ∃ q, q = (c + a + b) / 10000 := ⟨_, rfl⟩
        have hdu : ((c : Int) + (a : Int) + (b : Int)) % 10000 = (d : Int) := by omega
        have hqu : ((c : Int) + (a : Int) + (b : Int)) / 10000 = (q : Int) := by omega
        have hd4 : d < 10000 := by omega
        have hq1 : q ≤ 1 := by omega
        have hN := add_place hlv hX hY hd hq
        have HN : Hid _ := hN
        have HQ : Hid _ := hqu
        have HROW2 := (hrow.below (bel1 wr (Obj.cells #[Value.int IntKind.i64 (d : Int)] 3))).hid
        have HC2 : Hid ((wr.alloc (Obj.cells #[Value.int IntKind.i64 (d : Int)] 3)).cell? ⟨wr.heap.size, 0, none⟩ = some (.int .i64 (d : Int))) := by show _ = _; simp [go_sem]
        have HB2 : Below w.heap.size wr (wr.alloc (Obj.cells #[Value.int IntKind.i64 (d : Int)] 3)) := (bel1 wr _).mono hBw.size
        have HS2 : Hid (w.heap.size ≤ (wr.alloc (Obj.cells #[Value.int IntKind.i64 (d : Int)] 3)).heap.size) := Nat.le_trans hBw.size HB2.size
        have HXS : Hid _ := hys
        have HBW : Hid _ := hBw
        have HYL : Hid _ := hyl
        clear hd hq hX hY hN hrow hys hlv hBw hyl ha hb
        clear numX numY
        go_wp2_with (at_builtin; refine wpList_appendN .i64 3 rfl _ _ 29 rfl Tryz.underlying29 8 info3 (by decide) w.heap.size _ ys rfl HROW2.out wr.heap.size 1 d rfl HC2.out (by rw [HYL.out]; omega) HS2.out ?_; intro v6 w6 row6 hb6 hor6 hg6)
        have B6 := HBW.out.trans (HB2.trans hb6)
        refine ⟨⟨i + 1, q, ys ++ [d], rfl, congrArg (Value.int .i64) HQ.out, row6, by rw [List.length_append, HYL.out]; rfl, hq1, ?_, by omega, by omega, ?_, B6⟩, by simp [intOf]; omega⟩
        · intro x hx
          rcases List.mem_append.1 hx with h | h
          · exact HXS.out x h
          · rw [List.mem_singleton.1 h]; exact hd4
        · rw [lv_snoc, HYL.out, Nat.pow_succ, HnumX.out B6, HnumY.out B6, ← HnumX.out HBW.out, ← HnumY.out HBW.out]; exact HN.out
      · have c1 : (i : Int) < (n : Int) := by omega
        obtain rfl := hsx (by omega)
        have hcelx := arr_cell HAX.out (i := i) (by omega)
        have hltx := arr_lt HAX.out (i := i) (by omega)
        obtain ⟨a, ha⟩ : ∃ a, word wr bx (ox + i) = a := ⟨_, rfl⟩
        rw [ha] at hcelx hltx
        have hX := num_min_succ (w := wr) (b := bx) (o := ox) hA
        rw [ha] at hX
        have hcax : i < cx := by omega
        have c2 : ¬ (i : Int) < (m : Int) := by omega
        have hY : num 10000 wr byy oy (min (i + 1) m) = num 10000 wr byy oy (min i m) + 10000 ^ i * 0 := by rw [num_min_stay (by omega), Nat.mul_zero, Nat.add_zero]
        obtain ⟨d, hd⟩ : ∃ d, d = (c + a + 0) % 10000 := ⟨_, rfl⟩
        obtain ⟨q, hq⟩ : ∃ q, q = (c + a + 0) / 10000 := ⟨_, rfl⟩
        have hdu : ((c : Int) + (a : Int)) % 10000 = (d : Int) := by omega
        have hqu : ((c : Int) + (a : Int)) / 10000 = (q : Int) := by omega
        have hd4 : d < 10000 := by omega
        have hq1 : q ≤ 1 := by omega
        have hN := add_place hlv hX hY hd hq
        have HN : Hid _ := hN
        have HQ : Hid _ := hqu
        have HROW2 := (hrow.below (bel1 wr (Obj.cells #[Value.int IntKind.i64 (d : Int)] 3))).hid
        have HC2 : Hid ((wr.alloc (Obj.cells #[Value.int IntKind.i64 (d : Int)] 3)).cell? ⟨wr.heap.size, 0, none⟩ = some (.int .i64 (d : Int))) := by show _ = _; simp [go_sem]
        have HB2 : Below w.heap.size wr (wr.alloc (Obj.cells #[Value.int IntKind.i64 (d : Int)] 3)) := (bel1 wr _).mono hBw.size
        have HS2 : Hid (w.heap.size ≤ (wr.alloc (Obj.cells #[Value.int IntKind.i64 (d : Int)] 3)).heap.size) := Nat.le_trans hBw.size HB2.size
        have HXS : Hid _ := hys
        have HBW : Hid _ := hBw
        have HYL : Hid _ := hyl
        clear hd hq hX hY hN hrow hys hlv hBw hyl ha
        clear numX numY
        go_wp2_with (at_builtin; refine wpList_appendN .i64 3 rfl _ _ 29 rfl Tryz.underlying29 8 info3 (by decide) w.heap.size _ ys rfl HROW2.out wr.heap.size 1 d rfl HC2.out (by rw [HYL.out]; omega) HS2.out ?_; intro v6 w6 row6 hb6 hor6 hg6)
        have B6 := HBW.out.trans (HB2.trans hb6)
        refine ⟨⟨i + 1, q, ys ++ [d], rfl, congrArg (Value.int .i64) HQ.out, row6, by rw [List.length_append, HYL.out]; rfl, hq1, ?_, by omega, by omega, ?_, B6⟩, by simp [intOf]; omega⟩
        · intro x hx
          rcases List.mem_append.1 hx with h | h
          · exact HXS.out x h
          · rw [List.mem_singleton.1 h]; exact hd4
        · rw [lv_snoc, HYL.out, Nat.pow_succ, HnumX.out B6, HnumY.out B6, ← HnumX.out HBW.out, ← HnumY.out HBW.out]; exact HN.out
    · by_cases hB : i < m
      · have c1 : ¬ (i : Int) < (n : Int) := by omega
        have hX : num 10000 wr bx ox (min (i + 1) n) = num 10000 wr bx ox (min i n) + 10000 ^ i * 0 := by rw [num_min_stay (by omega), Nat.mul_zero, Nat.add_zero]
        have c2 : (i : Int) < (m : Int) := by omega
        obtain rfl := hsy (by omega)
        have hcely := arr_cell HAY.out (i := i) (by omega)
        have hlty := arr_lt HAY.out (i := i) (by omega)
        obtain ⟨b, hb⟩ : ∃ b, word wr byy (oy + i) = b := ⟨_, rfl⟩
        rw [hb] at hcely hlty
        have hY := num_min_succ (w := wr) (b := byy) (o := oy) hB
        rw [hb] at hY
        have hcay : i < cy := by omega
        obtain ⟨d, hd⟩ : ∃ d, d = (c + 0 + b) % 10000 := ⟨_, rfl⟩
        obtain ⟨q, hq⟩ : ∃ q, q = (c + 0 + b) / 10000 := ⟨_, rfl⟩
        have hdu : ((c : Int) + (b : Int)) % 10000 = (d : Int) := by omega
        have hqu : ((c : Int) + (b : Int)) / 10000 = (q : Int) := by omega
        have hd4 : d < 10000 := by omega
        have hq1 : q ≤ 1 := by omega
        have hN := add_place hlv hX hY hd hq
        have HN : Hid _ := hN
        have HQ : Hid _ := hqu
        have HROW2 := (hrow.below (bel1 wr (Obj.cells #[Value.int IntKind.i64 (d : Int)] 3))).hid
        have HC2 : Hid ((wr.alloc (Obj.cells #[Value.int IntKind.i64 (d : Int)] 3)).cell? ⟨wr.heap.size, 0, none⟩ = some (.int .i64 (d : Int))) := by show _ = _; simp [go_sem]
        have HB2 : Below w.heap.size wr (wr.alloc (Obj.cells #[Value.int IntKind.i64 (d : Int)] 3)) := (bel1 wr _).mono hBw.size
        have HS2 : Hid (w.heap.size ≤ (wr.alloc (Obj.cells #[Value.int IntKind.i64 (d : Int)] 3)).heap.size) := Nat.le_trans hBw.size HB2.size
        have HXS : Hid _ := hys
        have HBW : Hid _ := hBw
        have HYL : Hid _ := hyl
        clear hd hq hX hY hN hrow hys hlv hBw hyl hb
        clear numX numY
        go_wp2_with (at_builtin; refine wpList_appendN .i64 3 rfl _ _ 29 rfl Tryz.underlying29 8 info3 (by decide) w.heap.size _ ys rfl HROW2.out wr.heap.size 1 d rfl HC2.out (by rw [HYL.out]; omega) HS2.out ?_; intro v6 w6 row6 hb6 hor6 hg6)
        have B6 := HBW.out.trans (HB2.trans hb6)
        refine ⟨⟨i + 1, q, ys ++ [d], rfl, congrArg (Value.int .i64) HQ.out, row6, by rw [List.length_append, HYL.out]; rfl, hq1, ?_, by omega, by omega, ?_, B6⟩, by simp [intOf]; omega⟩
        · intro x hx
          rcases List.mem_append.1 hx with h | h
          · exact HXS.out x h
          · rw [List.mem_singleton.1 h]; exact hd4
        · rw [lv_snoc, HYL.out, Nat.pow_succ, HnumX.out B6, HnumY.out B6, ← HnumX.out HBW.out, ← HnumY.out HBW.out]; exact HN.out
      · by_cases h0 : c = 0
        · have c1 : ¬ (i : Int) < (n : Int) := by omega
          have c2 : ¬ (i : Int) < (m : Int) := by omega
          have c3 : ¬ (0 : Int) < (c : Int) := by omega
          have hL : lv 10000 ys = x + y := by
            rw [h0, Nat.mul_zero, Nat.add_zero, numX hBw, numY hBw, Nat.min_eq_right (by omega), Nat.min_eq_right (by omega), HNX.out, HNY.out] at hlv
            exact hlv
          have HLL : Hid _ := hL
          have HROW := hrow.hid
          have HYS : Hid _ := hys
          have HBW : Hid _ := hBw
          clear hrow hys hlv hL hBw numX numY
          go_wp2
          go_ret
          exact ⟨_, rfl, ys, HROW.out, HYS.out, HLL.out, HBW.out⟩
        · have c1 : ¬ (i : Int) < (n : Int) := by omega
          have hX : num 10000 wr bx ox (min (i + 1) n) = num 10000 wr bx ox (min i n) + 10000 ^ i * 0 := by rw [num_min_stay (by omega), Nat.mul_zero, Nat.add_zero]
          have c2 : ¬ (i : Int) < (m : Int) := by omega
          have hY : num 10000 wr byy oy (min (i + 1) m) = num 10000 wr byy oy (min i m) + 10000 ^ i * 0 := by rw [num_min_stay (by omega), Nat.mul_zero, Nat.add_zero]
          obtain ⟨d, hd⟩ : ∃ d, d = (c + 0 + 0) % 10000 := ⟨_, rfl⟩
          obtain ⟨q, hq⟩ : ∃ q, q = (c + 0 + 0) / 10000 := ⟨_, rfl⟩
          have hdu : ((c : Int)) % 10000 = (d : Int) := by omega
          have hqu : ((c : Int)) / 10000 = (q : Int) := by omega
          have hd4 : d < 10000 := by omega
          have hq1 : q ≤ 1 := by omega
          have hN := add_place hlv hX hY hd hq
          have c3 : (0 : Int) < (c : Int) := by omega
          have hq0 : q = 0 := by omega
          have HN : Hid _ := hN
          have HQ : Hid ((0 : Int) = (q : Int)) := by show (0 : Int) = (q : Int); omega
          have HROW2 := (hrow.below (bel1 wr (Obj.cells #[Value.int IntKind.i64 (d : Int)] 3))).hid
          have HC2 : Hid ((wr.alloc (Obj.cells #[Value.int IntKind.i64 (d : Int)] 3)).cell? ⟨wr.heap.size, 0, none⟩ = some (.int .i64 (d : Int))) := by show _ = _; simp [go_sem]
          have HB2 : Below w.heap.size wr (wr.alloc (Obj.cells #[Value.int IntKind.i64 (d : Int)] 3)) := (bel1 wr _).mono hBw.size
          have HS2 : Hid (w.heap.size ≤ (wr.alloc (Obj.cells #[Value.int IntKind.i64 (d : Int)] 3)).heap.size) := Nat.le_trans hBw.size HB2.size
          have HXS : Hid _ := hys
          have HBW : Hid _ := hBw
          have HYL : Hid _ := hyl
          clear hd hq hX hY hN hrow hys hlv hBw hyl
          clear numX numY
          go_wp2_with (at_builtin; refine wpList_appendN .i64 3 rfl _ _ 29 rfl Tryz.underlying29 8 info3 (by decide) w.heap.size _ ys rfl HROW2.out wr.heap.size 1 d rfl HC2.out (by rw [HYL.out]; omega) HS2.out ?_; intro v6 w6 row6 hb6 hor6 hg6)
          have B6 := HBW.out.trans (HB2.trans hb6)
          refine ⟨⟨i + 1, q, ys ++ [d], rfl, congrArg (Value.int .i64) HQ.out, row6, by rw [List.length_append, HYL.out]; rfl, hq1, ?_, by omega, by omega, ?_, B6⟩, by simp [intOf]; omega⟩
          · intro x hx
            rcases List.mem_append.1 hx with h | h
            · exact HXS.out x h
            · rw [List.mem_singleton.1 h]; exact hd4
          · rw [lv_snoc, HYL.out, Nat.pow_succ, HnumX.out B6, HnumY.out B6, ← HnumX.out HBW.out, ← HnumY.out HBW.out]; exact HN.out
end Go.Proofs.YtjlkplidpdhgbaaGreatDoor

namespace Go.Proofs.YtjlkplidpdhgbaaGreatDoor
open Go Go.Proofs Go.RowKit Go.Rad

/-- One place of a difference. -/
theorem sub_place {p L c a b X Y X' Y' d q : Nat} (h : X + p * c = L + Y) (hx : X' = X + p * a) (hy : Y' = Y + p * b) (hd : d + b + c = a + 10000 * q) : X' + p * 10000 * q = L + p * d + Y' := by
  have h1 : p * (d + b + c) = p * (a + 10000 * q) := by rw [hd]
  rw [Nat.mul_add, Nat.mul_add, Nat.mul_add, ← Nat.mul_assoc] at h1
  omega
set_option maxRecDepth 10000 in
set_option maxHeartbeats 4000000 in
theorem dsub_any (w : World) (va vb : Value) (x y n m : Nat) (hx : Dg w va x n) (hy : Dg w vb y m) (hn : n ≤ 1073741824) (hxy : y ≤ x) :
    Calls Tryz.prog 81 #[va, vb] w fun e w' => ∃ v ys, e = .returned v ∧ RowN .i64 3 w' w.heap.size v ys ∧ (∀ y ∈ ys, y < 10000) ∧ lv 10000 ys = x - y ∧ Below w.heap.size w w' := by
  have hmn : m ≤ n := hy.len_le (Nat.lt_of_le_of_lt hxy hx.lt)
  obtain ⟨ax, bx, ox, cx, rfl, hsx, hcx, hmx, hax, hnx, -⟩ := hx
  obtain ⟨ay, byy, oy, cy, rfl, hsy, hcy, hmy, hay, hny, -⟩ := hy
  have numX : ∀ {w'}, Below w.heap.size w w' → ∀ {k}, num 10000 w' bx ox (min k n) = num 10000 w bx ox (min k n) := fun hb k => num_below (fun i hi => hax i (by omega)) hb
  have numY : ∀ {w'}, Below w.heap.size w w' → ∀ {k}, num 10000 w' byy oy (min k m) = num 10000 w byy oy (min k m) := fun hb k => num_below (fun i hi => hay i (by omega)) hb
  have HAX0 : Hid (Arr .i64 10000 w bx ox n) := hax
  have HAY0 : Hid (Arr .i64 10000 w byy oy m) := hay
  have HNX : Hid _ := hnx
  have HNY : Hid _ := hny
  have HnumX : Hid _ := @numX
  have HnumY : Hid _ := @numY
  clear hax hay hnx hny numX numY
  go_enter Tryz.func81, Tryz.ntmps81
  go_wp2
  go_loopw [5, 6, 7] (fun s5 s6 s7 wr => ∃ (i c : Nat) (ys : List Nat), s7 = .int .i64 (i : Int) ∧ s6 = .int .i64 (c : Int) ∧ RowN .i64 3 wr w.heap.size s5 ys ∧ ys.length = i ∧ c ≤ 1 ∧ (∀ y ∈ ys, y < 10000) ∧ i ≤ n ∧ num 10000 wr bx ox (min i n) + 10000 ^ i * c = lv 10000 ys + num 10000 wr byy oy (min i m) ∧ Below w.heap.size w wr)
    (fun _ _ s7 _ => n - (intOf s7).toNat)
  case atStart => exact ⟨0, 0, [], rfl, rfl, RowN.nil _ _ _ _, rfl, by omega, by simp, by omega, by simp [lv, num_zero], Below.refl _ _⟩
  case round =>
    obtain ⟨i, c, ys, rfl, rfl, hrow, hyl, hc1, hys, hi, hlv, hBw⟩ := hrel
    have HAX : Hid (Arr .i64 10000 wr bx ox n) := arr_below HAX0.out hBw
    have HAY : Hid (Arr .i64 10000 wr byy oy m) := arr_below HAY0.out hBw
    by_cases hA : i < n
    · have c1 : (i : Int) < (n : Int) := by omega
      obtain rfl := hsx (by omega)
      by_cases hB : i < m
      · obtain rfl := hsy (by omega)
        have hcelx := arr_cell HAX.out (i := i) (by omega)
        have hltx := arr_lt HAX.out (i := i) (by omega)
        obtain ⟨a, ha⟩ : ∃ a, word wr bx (ox + i) = a := ⟨_, rfl⟩
        rw [ha] at hcelx hltx
        have hX := num_min_succ (w := wr) (b := bx) (o := ox) hA
        rw [ha] at hX
        have hcax : i < cx := by omega
        have c2 : (i : Int) < (m : Int) := by omega
        have hcely := arr_cell HAY.out (i := i) (by omega)
        have hlty := arr_lt HAY.out (i := i) (by omega)
        obtain ⟨b, hb⟩ : ∃ b, word wr byy (oy + i) = b := ⟨_, rfl⟩
        rw [hb] at hcely hlty
        have hY := num_min_succ (w := wr) (b := byy) (o := oy) hB
        rw [hb] at hY
        have hcay : i < cy := by omega
        by_cases hneg : a < c + b
        · obtain ⟨d, hd⟩ : ∃ d, d + b + c = a + 10000 * 1 := ⟨a + 10000 - b - c, by omega⟩
          have c4 : (a : Int) - (c : Int) - (b : Int) < 0 := by omega
          have hdu : (a : Int) - (c : Int) - (b : Int) + 10000 = (d : Int) := by omega
          have hd4 : d < 10000 := by omega
          have hN := sub_place hlv hX hY hd
          have HN : Hid _ := hN
          have HROW2 := (hrow.below (bel1 wr (Obj.cells #[Value.int IntKind.i64 (d : Int)] 3))).hid
          have HC2 : Hid ((wr.alloc (Obj.cells #[Value.int IntKind.i64 (d : Int)] 3)).cell? ⟨wr.heap.size, 0, none⟩ = some (.int .i64 (d : Int))) := by show _ = _; simp [go_sem]
          have HB2 : Below w.heap.size wr (wr.alloc (Obj.cells #[Value.int IntKind.i64 (d : Int)] 3)) := (bel1 wr _).mono hBw.size
          have HS2 : Hid (w.heap.size ≤ (wr.alloc (Obj.cells #[Value.int IntKind.i64 (d : Int)] 3)).heap.size) := Nat.le_trans hBw.size HB2.size
          have HXS : Hid _ := hys
          have HBW : Hid _ := hBw
          have HYL : Hid _ := hyl
          clear hd hX hY hN hrow hys hlv hBw hyl ha hb
          go_wp2_with (at_builtin; refine wpList_appendN .i64 3 rfl _ _ 29 rfl Tryz.underlying29 8 info3 (by decide) w.heap.size _ ys rfl HROW2.out wr.heap.size 1 d rfl HC2.out (by rw [HYL.out]; omega) HS2.out ?_; intro v6 w6 row6 hb6 hor6 hg6)
          have B6 := HBW.out.trans (HB2.trans hb6)
          refine ⟨⟨i + 1, 1, ys ++ [d], rfl, rfl, row6, by rw [List.length_append, HYL.out]; rfl, by omega, ?_, by omega, ?_, B6⟩, by simp [intOf]; omega⟩
          · intro x hx
            rcases List.mem_append.1 hx with h | h
            · exact HXS.out x h
            · rw [List.mem_singleton.1 h]; exact hd4
          · rw [lv_snoc, HYL.out, Nat.pow_succ, HnumX.out B6, HnumY.out B6, ← HnumX.out HBW.out, ← HnumY.out HBW.out]; exact HN.out
        · obtain ⟨d, hd⟩ : ∃ d, d + b + c = a + 10000 * 0 := ⟨a - b - c, by omega⟩
          have hdu : (a : Int) - (c : Int) - (b : Int) = (d : Int) := by omega
          have c4 : ¬ (d : Int) < 0 := by omega
          have hd4 : d < 10000 := by omega
          have hN := sub_place hlv hX hY hd
          have HN : Hid _ := hN
          have HROW2 := (hrow.below (bel1 wr (Obj.cells #[Value.int IntKind.i64 (d : Int)] 3))).hid
          have HC2 : Hid ((wr.alloc (Obj.cells #[Value.int IntKind.i64 (d : Int)] 3)).cell? ⟨wr.heap.size, 0, none⟩ = some (.int .i64 (d : Int))) := by show _ = _; simp [go_sem]
          have HB2 : Below w.heap.size wr (wr.alloc (Obj.cells #[Value.int IntKind.i64 (d : Int)] 3)) := (bel1 wr _).mono hBw.size
          have HS2 : Hid (w.heap.size ≤ (wr.alloc (Obj.cells #[Value.int IntKind.i64 (d : Int)] 3)).heap.size) := Nat.le_trans hBw.size HB2.size
          have HXS : Hid _ := hys
          have HBW : Hid _ := hBw
          have HYL : Hid _ := hyl
          clear hd hX hY hN hrow hys hlv hBw hyl ha hb
          go_wp2_with (at_builtin; refine wpList_appendN .i64 3 rfl _ _ 29 rfl Tryz.underlying29 8 info3 (by decide) w.heap.size _ ys rfl HROW2.out wr.heap.size 1 d rfl HC2.out (by rw [HYL.out]; omega) HS2.out ?_; intro v6 w6 row6 hb6 hor6 hg6)
          have B6 := HBW.out.trans (HB2.trans hb6)
          refine ⟨⟨i + 1, 0, ys ++ [d], rfl, rfl, row6, by rw [List.length_append, HYL.out]; rfl, by omega, ?_, by omega, ?_, B6⟩, by simp [intOf]; omega⟩
          · intro x hx
            rcases List.mem_append.1 hx with h | h
            · exact HXS.out x h
            · rw [List.mem_singleton.1 h]; exact hd4
          · rw [lv_snoc, HYL.out, Nat.pow_succ, HnumX.out B6, HnumY.out B6, ← HnumX.out HBW.out, ← HnumY.out HBW.out]; exact HN.out
      · have hcelx := arr_cell HAX.out (i := i) (by omega)
        have hltx := arr_lt HAX.out (i := i) (by omega)
        obtain ⟨a, ha⟩ : ∃ a, word wr bx (ox + i) = a := ⟨_, rfl⟩
        rw [ha] at hcelx hltx
        have hX := num_min_succ (w := wr) (b := bx) (o := ox) hA
        rw [ha] at hX
        have hcax : i < cx := by omega
        have c2 : ¬ (i : Int) < (m : Int) := by omega
        have hY : num 10000 wr byy oy (min (i + 1) m) = num 10000 wr byy oy (min i m) + 10000 ^ i * 0 := by rw [num_min_stay (by omega), Nat.mul_zero, Nat.add_zero]
        by_cases hneg : a < c + 0
        · obtain ⟨d, hd⟩ : ∃ d, d + 0 + c = a + 10000 * 1 := ⟨a + 10000 - 0 - c, by omega⟩
          have c4 : (a : Int) - (c : Int) < 0 := by omega
          have hdu : (a : Int) - (c : Int) + 10000 = (d : Int) := by omega
          have hd4 : d < 10000 := by omega
          have hN := sub_place hlv hX hY hd
          have HN : Hid _ := hN
          have HROW2 := (hrow.below (bel1 wr (Obj.cells #[Value.int IntKind.i64 (d : Int)] 3))).hid
          have HC2 : Hid ((wr.alloc (Obj.cells #[Value.int IntKind.i64 (d : Int)] 3)).cell? ⟨wr.heap.size, 0, none⟩ = some (.int .i64 (d : Int))) := by show _ = _; simp [go_sem]
          have HB2 : Below w.heap.size wr (wr.alloc (Obj.cells #[Value.int IntKind.i64 (d : Int)] 3)) := (bel1 wr _).mono hBw.size
          have HS2 : Hid (w.heap.size ≤ (wr.alloc (Obj.cells #[Value.int IntKind.i64 (d : Int)] 3)).heap.size) := Nat.le_trans hBw.size HB2.size
          have HXS : Hid _ := hys
          have HBW : Hid _ := hBw
          have HYL : Hid _ := hyl
          clear hd hX hY hN hrow hys hlv hBw hyl ha
          go_wp2_with (at_builtin; refine wpList_appendN .i64 3 rfl _ _ 29 rfl Tryz.underlying29 8 info3 (by decide) w.heap.size _ ys rfl HROW2.out wr.heap.size 1 d rfl HC2.out (by rw [HYL.out]; omega) HS2.out ?_; intro v6 w6 row6 hb6 hor6 hg6)
          have B6 := HBW.out.trans (HB2.trans hb6)
          refine ⟨⟨i + 1, 1, ys ++ [d], rfl, rfl, row6, by rw [List.length_append, HYL.out]; rfl, by omega, ?_, by omega, ?_, B6⟩, by simp [intOf]; omega⟩
          · intro x hx
            rcases List.mem_append.1 hx with h | h
            · exact HXS.out x h
            · rw [List.mem_singleton.1 h]; exact hd4
          · rw [lv_snoc, HYL.out, Nat.pow_succ, HnumX.out B6, HnumY.out B6, ← HnumX.out HBW.out, ← HnumY.out HBW.out]; exact HN.out
        · obtain ⟨d, hd⟩ : ∃ d, d + 0 + c = a + 10000 * 0 := ⟨a - 0 - c, by omega⟩
          have hdu : (a : Int) - (c : Int) = (d : Int) := by omega
          have c4 : ¬ (d : Int) < 0 := by omega
          have hd4 : d < 10000 := by omega
          have hN := sub_place hlv hX hY hd
          have HN : Hid _ := hN
          have HROW2 := (hrow.below (bel1 wr (Obj.cells #[Value.int IntKind.i64 (d : Int)] 3))).hid
          have HC2 : Hid ((wr.alloc (Obj.cells #[Value.int IntKind.i64 (d : Int)] 3)).cell? ⟨wr.heap.size, 0, none⟩ = some (.int .i64 (d : Int))) := by show _ = _; simp [go_sem]
          have HB2 : Below w.heap.size wr (wr.alloc (Obj.cells #[Value.int IntKind.i64 (d : Int)] 3)) := (bel1 wr _).mono hBw.size
          have HS2 : Hid (w.heap.size ≤ (wr.alloc (Obj.cells #[Value.int IntKind.i64 (d : Int)] 3)).heap.size) := Nat.le_trans hBw.size HB2.size
          have HXS : Hid _ := hys
          have HBW : Hid _ := hBw
          have HYL : Hid _ := hyl
          clear hd hX hY hN hrow hys hlv hBw hyl ha
          go_wp2_with (at_builtin; refine wpList_appendN .i64 3 rfl _ _ 29 rfl Tryz.underlying29 8 info3 (by decide) w.heap.size _ ys rfl HROW2.out wr.heap.size 1 d rfl HC2.out (by rw [HYL.out]; omega) HS2.out ?_; intro v6 w6 row6 hb6 hor6 hg6)
          have B6 := HBW.out.trans (HB2.trans hb6)
          refine ⟨⟨i + 1, 0, ys ++ [d], rfl, rfl, row6, by rw [List.length_append, HYL.out]; rfl, by omega, ?_, by omega, ?_, B6⟩, by simp [intOf]; omega⟩
          · intro x hx
            rcases List.mem_append.1 hx with h | h
            · exact HXS.out x h
            · rw [List.mem_singleton.1 h]; exact hd4
          · rw [lv_snoc, HYL.out, Nat.pow_succ, HnumX.out B6, HnumY.out B6, ← HnumX.out HBW.out, ← HnumY.out HBW.out]; exact HN.out
    · have hin : i = n := by omega
      have c1 : ¬ (i : Int) < (n : Int) := by omega
      have hL : lv 10000 ys = x - y := by
        rw [HnumX.out hBw, HnumY.out hBw, Nat.min_eq_right (by omega), Nat.min_eq_right (by omega), HNX.out, HNY.out] at hlv
        have hlt := lv_lt (by decide) hys
        rw [hyl] at hlt
        rcases Nat.eq_zero_or_pos c with h | h
        · rw [h] at hlv; omega
        · obtain rfl : c = 1 := by omega
          omega
      have HLL : Hid _ := hL
      have HROW := hrow.hid
      have HYS : Hid _ := hys
      have HBW : Hid _ := hBw
      clear hrow hys hlv hL hBw hyl
      go_wp2
      go_ret
      exact ⟨_, rfl, ys, HROW.out, HYS.out, HLL.out, HBW.out⟩
end Go.Proofs.YtjlkplidpdhgbaaGreatDoor

namespace Go.Proofs.YtjlkplidpdhgbaaGreatDoor
open Go Go.Proofs Go.RowKit Go.Rad

/-- Places of four digits that make x, zeros at the end or not. -/
def Pl (w : World) (v : Value) (x : Nat) : Prop :=
  ∃ (ao : Option Addr) (b o n c : Nat), v = .slice ao n c ∧ Sl ao b o n ∧ n ≤ c ∧ c ≤ maxLen ∧ Arr .i64 10000 w b o n ∧ num 10000 w b o n = x
theorem Pl.below {w w' : World} {v : Value} {x : Nat} (h : Pl w v x) (hb : Below w.heap.size w w') : Pl w' v x := by
  obtain ⟨ao, b, o, n, c, hv, hs, hc, hcm, ha, hx⟩ := h
  exact ⟨ao, b, o, n, c, hv, hs, hc, hcm, arr_below ha hb, by rw [num_below ha hb, hx]⟩
theorem row_pl {w : World} {base : Nat} {v : Value} {xs : List Nat} {x : Nat} (h : RowN .i64 3 w base v xs) (hx : ∀ x ∈ xs, x < 10000) (he : lv 10000 xs = x) : Pl w v x := by
  obtain ⟨ao, bb, cc, hv, hsl, hc, hcm, harr, hnum, _⟩ := h.arr hx
  exact ⟨ao, bb, 0, _, cc, hv, hsl, hc, hcm, harr, hnum.trans he⟩
theorem zmade_pl (w : World) (neg : Bool) (v : Value) (x : Nat) (h : Pl w v x) :
    Calls Tryz.prog 73 #[.bool neg, v] w fun e w' => ∃ v, e = .returned v ∧ Below w.heap.size w w' ∧ IsZ w' v (sgn neg x) := by
  obtain ⟨ao, b, o, n, c, rfl, hs, hc, hcm, ha, hx⟩ := h
  exact zmade_any w neg ao b o n c x hs hc hcm ha hx
theorem dadd_pl (w : World) (va vb : Value) (x y n m : Nat) (hx : Dg w va x n) (hy : Dg w vb y m) (hn : n ≤ 1073741824) (hm : m ≤ 1073741824) :
    Calls Tryz.prog 79 #[va, vb] w fun e w' => ∃ v, e = .returned v ∧ Below w.heap.size w w' ∧ Pl w' v (x + y) := by
  refine (dadd_any w va vb x y n m hx hy hn hm).mono ?_
  rintro e w' ⟨v, ys, rfl, hr, hys, hl, hb⟩
  exact ⟨v, rfl, hb, row_pl hr hys hl⟩
theorem dsub_pl (w : World) (va vb : Value) (x y n m : Nat) (hx : Dg w va x n) (hy : Dg w vb y m) (hn : n ≤ 1073741824) (hxy : y ≤ x) :
    Calls Tryz.prog 81 #[va, vb] w fun e w' => ∃ v, e = .returned v ∧ Below w.heap.size w w' ∧ Pl w' v (x - y) := by
  refine (dsub_any w va vb x y n m hx hy hn hxy).mono ?_
  rintro e w' ⟨v, ys, rfl, hr, hys, hl, hb⟩
  exact ⟨v, rfl, hb, row_pl hr hys hl⟩
/-- A number's places. -/
theorem IsZ.dg {w : World} {z : Int} {sg : Bool} {a : Option Addr} {n c : Nat} (h : IsZ w (.agg #[.bool sg, .slice a n c]) z) : sg = decide (z < 0) ∧ Dg w (.slice a n c) z.natAbs n := by
  obtain ⟨dv, k, hv, hd⟩ := h
  simp only [Value.agg.injEq, Array.mk.injEq, List.cons.injEq, Value.bool.injEq, and_true] at hv
  obtain ⟨h1, rfl⟩ := hv
  obtain ⟨ao, b, o, cc, he, hr⟩ := id hd
  simp only [Value.slice.injEq] at he
  obtain ⟨rfl, rfl, rfl⟩ := he
  exact ⟨h1, hd⟩
end Go.Proofs.YtjlkplidpdhgbaaGreatDoor
