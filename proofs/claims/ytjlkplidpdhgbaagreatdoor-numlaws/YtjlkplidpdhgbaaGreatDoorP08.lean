/- A part of the proof: Kar6. -/
import Derived.Test.YtjlkplidpdhgbaaGreatDoorP07
set_option linter.all false

namespace Go.Proofs.YtjlkplidpdhgbaaGreatDoor
open Go Go.Proofs Go.RowKit Go.Rad

theorem chg_below {w w' : World} {b lo hi : Nat} (h : Below w.heap.size w w') (hb : b < w.heap.size) : Chg w w' b lo hi :=
  ⟨h.os, h.tape, h.output, h.size, fun k hk _ => h.block k hk, fun i _ => h.cell (p := ⟨b, i, none⟩) hb, fun i => h.frozen (p := ⟨b, i, none⟩) hb⟩
theorem free_below {w w' : World} {b o n : Nat} (h : Free w b o n) (hb : Below w.heap.size w w') (hl : b < w.heap.size) : Free w' b o n := fun i hi =>
  (hb.frozen (p := ⟨b, o + i, none⟩) hl).trans (h i hi)
theorem chg_S {a w w' : World} {b lo hi : Nat} {S : Nat → Nat → Prop} (h : Chg a w b lo hi) (k : ChgS w w' S) (hS : ∀ c i, c < a.heap.size → ¬ S c i) (hb : b < a.heap.size) : Chg a w' b lo hi :=
  ⟨k.os.trans h.os, k.tape.trans h.tape, k.output.trans h.output, Nat.le_trans h.size k.size,
    fun c hc hne => (k.block c (Nat.lt_of_lt_of_le hc h.size) (fun i => hS c i hc)).trans (h.block c hc hne),
    fun i hi => (k.cell b i (Nat.lt_of_lt_of_le hb h.size) (hS b i hb)).trans (h.cell i hi),
    fun i => (k.froz b i (Nat.lt_of_lt_of_le hb h.size)).trans (h.froz i)⟩
theorem enough_pos {f n r : Nat} (h48 : 48 ≤ n) (h : enough f n r) : 0 < r := by
  cases f with
  | zero => unfold enough at h; omega
  | succ f => rcases h with h | ⟨h, _⟩ <;> omega
/-- A part's product goes to its place: the row's low part stays, its high part grows, and nothing goes out. -/
theorem part_step {β k q zl zh zh' xl p y c X : Nat} (hz : zl + β ^ k * zh = xl * y) (hz' : zh' + β ^ q * c = zh + p * y) (hx : xl + β ^ k * p ≤ X) (hX : X * y < β ^ (k + q)) :
    zl + β ^ k * zh' = (xl + β ^ k * p) * y := by
  have e1 : β ^ k * (zh' + β ^ q * c) = β ^ k * (zh + p * y) := by rw [hz']
  rw [Nat.mul_add, Nat.mul_add, ← Nat.mul_assoc, ← Nat.pow_add, ← Nat.mul_assoc] at e1
  have h1 : (xl + β ^ k * p) * y ≤ X * y := Nat.mul_le_mul_right _ hx
  rw [Nat.add_mul] at h1 ⊢
  have hc : c = 0 := by
    refine Classical.byContradiction fun hc => ?_
    have := Nat.le_mul_of_pos_right (β ^ (k + q)) (show 0 < c by omega)
    omega
  subst hc
  rw [Nat.mul_zero] at e1
  omega

set_option maxRecDepth 10000 in
set_option maxHeartbeats 1500000 in
theorem mulBlocks_step (m : Nat) (hW : MulW m) : MulB (m + 1) := by
  intro w bz nz cz bx ox nx cx ax vy y ny hm h48 hl hnz hy hsx hcx hax haz hfz hcz hcm hz0 hzx hzy
  subst hnz
  have MY := hy
  obtain ⟨ay, byy, oy, cy, rfl, hsy, hcy, hay, hny, hry⟩ := hy
  obtain rfl := hsy (by omega)
  have hzy' := hzy byy oy cy rfl
  clear hzy
  obtain ⟨i0, hi0, hz0', hz1, hz2⟩ := info_parts info98
  have HY : Hid (num B w byy oy ny = y) := hny
  have HX : Hid _ := hz0
  clear hny hz0
  have bz0 : bz < w.heap.size := haz.lt (by omega)
  have byl : byy < w.heap.size := hay.lt (by omega)
  have e2 : IntKind.i64.wrap (2 * (ny : Int)) = 2 * (ny : Int) := by rw [IntKind.wrap_i64]; omega
  go_enter Tryz.func114, Tryz.ntmps114
  go_wp2_with (first
    | (go_at_call 144; refine (roomFor_any ny ny (Nat.le_refl _) (by omega) _).mono ?_; rintro e w0 ⟨r, rfl, rfl, hen, hr⟩)
    | (at_make; refine wpList_makeRow .u64 B B_pos rfl _ _ 22 rfl 98 i0 Tryz.underlying22 hi0 hz0' hz1 .i64 .i64 _ _ r rfl rfl (by omega) (by omega) (by rw [hz2]; omega) (by unfold maxLen; omega) ?_; intro w1 hm1)
    | (at_make; refine wpList_makeRow .u64 B B_pos rfl _ _ 22 rfl 98 i0 Tryz.underlying22 hi0 hz0' hz1 .i64 .i64 _ _ (2 * ny) rfl rfl (by omega) (by omega) (by rw [hz2]; omega) (by unfold maxLen; omega) ?_; intro w2 hm2))
  have r0 := enough_pos h48 hen
  have l1 := hm1.lt
  have l2 := hm2.lt
  have B2 : Below w0.heap.size w0 w2 := hm1.below.trans (hm2.below.mono (by omega))
  have N2 : num B w2 bz 0 (nx + ny) = 0 := (num_below haz B2).trans HX.out
  have A2z := arr_below haz B2
  have A2r := arr_below hm1.arr hm2.below
  have F2r := free_below hm1.free hm2.below l1
  have A2p := hm2.arr
  have F2p := hm2.free
  have C2 : Chg w0 w2 bz 0 (nx + ny) := chg_below B2 bz0
  obtain ⟨b1, hb1⟩ : ∃ b1, b1 = w0.heap.size := ⟨_, rfl⟩
  obtain ⟨b2, hb2⟩ : ∃ b2, b2 = w1.heap.size := ⟨_, rfl⟩
  rw [← hb1] at A2r F2r l1 bz0 byl ⊢
  rw [← hb2] at A2p F2p l1 ⊢
  have axl : 0 < nx → bx < b1 := fun h => by rw [hb1]; exact hax.lt h
  have HB1 : Hid _ := hb1
  clear hm1 hm2 B2 l2 HX hb1 hb2
  go_loopw [9] (fun i wr => ∃ k : Nat, k ≤ nx + ny ∧ i = .int .i64 k ∧ Chg w0 wr bz 0 (nx + ny) ∧ Arr .u64 B wr bz 0 (nx + ny) ∧ Arr .u64 B wr b1 0 r ∧ Free wr b1 0 r ∧ Arr .u64 B wr b2 0 (2 * ny) ∧ Free wr b2 0 (2 * ny) ∧
      num B wr bz 0 (nx + ny) = num B w0 bx ox (min k nx) * y)
    (fun i _ => nx - (intOf i).toNat)
  case atStart => exact ⟨0, by omega, rfl, C2, A2z, A2r, F2r, A2p, F2p, by rw [Nat.zero_min, num_zero, Nat.zero_mul]; exact N2⟩
  case round =>
    obtain ⟨k, hk, rfl, hch, har, ar1, fr1, ar2, fr2, hnum⟩ := hrel
    clear C2 A2z A2r F2r A2p F2p N2
    by_cases hlt : k < nx
    · rw [Nat.min_eq_left (by omega)] at hnum
      obtain rfl := hsx (by omega)
      have axl' := axl (by omega)
      have axr : Arr .u64 B wr bx ox nx := hch.arr hax hax.lt (fun _ => .inl (by omega))
      have ayr : Arr .u64 B wr byy oy ny := hch.arr hay hay.lt (fun _ => .inl (by omega))
      have MYr : Mag wr (.slice (some ⟨byy, oy, none⟩) ny cy) y ny := by
        refine ⟨_, byy, oy, cy, rfl, hsy, hcy, ayr, (hch.num (fun _ => by have := HB1.out; omega) (fun _ => .inl (by omega))).trans HY.out, ?_⟩
        rcases hry with h1 | h1
        · exact .inl h1
        · refine .inr ?_
          rw [word_of_cell (hch.cellAt (by have := HB1.out; omega) (.inl (by omega)))]
          exact h1
      have px : num B wr bx (ox + k) (min ny (nx - k)) = num B w0 bx (ox + k) (min ny (nx - k)) := hch.num (fun _ => by have := HB1.out; omega) (fun _ => .inl (by omega))
      have HN : Hid _ := hnum
      have c1 : ¬ cx = k := by omega
      have c2 : ¬ cz = k := by omega
      have CF := front_at wr (some ⟨bx, ox + k, none⟩) bx (ox + k) (nx - k) (cx - k) ny (Sl.mk _ _ _) (by omega) (by unfold maxLen; omega) (by unfold maxLen; omega) (axr.sub (by omega))
      rw [px] at CF
      have HP : Hid _ := px
      clear hnum px
      go_wp2_with (go_at_call 86; fail)
      refine CF.mono ?_
      rintro e wq ⟨p, rfl, hw, hp1, hp2, hmg⟩
      subst hw
      clear CF
      have hy1 : num B wq byy oy ny = y := (hch.num (fun _ => by have := HB1.out; omega) (fun _ => .inl (by omega))).trans HY.out
      by_cases hpn : p = ny
      · have hpn' := hpn.symm
        subst hpn'
        have e3 : min ny (nx - k) = ny := by omega
        have CH := mulHalves_any ny ny wq b2 0 (2 * ny) bx (ox + k) ny byy oy cy b1 0 r r (by omega) (by omega) hen (Nat.le_refl _) (Nat.le_refl _) hcy (Nat.le_refl _) (by unfold maxLen; omega) (by unfold maxLen; omega) ar2 fr2
          (axr.sub (by omega)) ayr ar1 fr1 (fun _ _ => .inl (by omega)) (fun _ _ => .inl (by omega)) (fun _ _ => .inl (by omega)) (fun _ _ => .inl (by omega)) (fun _ _ => .inl (by omega)) _ (Sl.mk b1 0 r)
        go_wp2_with (go_at_call 145; fail)
        refine CH.mono ?_
        rintro e w4 ⟨rfl, g1, g2, g3, g4⟩
        clear CH
        have hR : ∀ c i, c < b1 → ¬ R2 b2 0 (0 + 2 * ny) b1 0 (0 + r) c i := fun c i hc => not_R2 (by omega) (by omega)
        have K4 : Chg w0 w4 bz 0 (nx + ny) := chg_S hch g1 (fun c i hc => hR c i (by have := HB1.out; omega)) (by have := HB1.out; omega)
        have A4z : Arr .u64 B w4 bz 0 (nx + ny) := g1.arr har (fun i hi => hR _ _ (by omega))
        have A4r : Arr .u64 B w4 b1 0 r := g3
        have F4r : Free w4 b1 0 r := g1.free fr1 ar1.lt
        have A4p : Arr .u64 B w4 b2 0 (2 * ny) := g2
        have F4p : Free w4 b2 0 (2 * ny) := g1.free fr2 ar2.lt
        have N4a : num B w4 bz 0 k = num B wq bz 0 k := g1.num (row_sub0 har (by omega)) (fun i hi => hR _ _ (by omega))
        have N4b : num B w4 bz k (nx + ny - k) = num B wq bz k (nx + ny - k) := by
          have h0 := har.sub (d := k) (m := nx + ny - k) (by omega)
          rw [Nat.zero_add] at h0
          exact g1.num h0 (fun i hi => hR _ _ (by omega))
        have F4z : Free w4 bz 0 (nx + ny) := K4.free hfz (fun _ => by have := HB1.out; omega)
        have A4k : Arr .u64 B w4 bz k (nx + ny - k) := by have := A4z.sub (d := k) (m := nx + ny - k) (by omega); rwa [Nat.zero_add] at this
        have F4k : Free w4 bz k (nx + ny - k) := by have := F4z.sub (d := k) (m := nx + ny - k) (by omega); rwa [Nat.zero_add] at this
        have g5 : num B w4 b2 0 (2 * ny) = num B w0 bx (ox + k) (min ny (nx - k)) * y := by
          rw [g4, hy1, ← HP.out, e3]
        have CA := addTo_any w4 (some ⟨bz, k, none⟩) (some ⟨b2, 0, none⟩) bz k (nx + ny - k) (cz - k) b2 0 (2 * ny) (2 * ny) (Sl.mk _ _ _) (Sl.mk _ _ _) A4k F4k A4p (by omega) (fun _ => .inl (by omega)) (by unfold maxLen; omega)
        rw [g5] at CA
        clear g4 g5 e3 hch har ar1 fr1 ar2 fr2 hmg g1 g2 g3
        go_wp2_with (go_at_call 142; fail)
        refine CA.mono ?_
        rintro e w5 ⟨rfl, q1, q2, c, hc, q3⟩
        clear CA
        have q5 : num B w4 bz 0 k + B ^ k * num B w4 bz k (nx + ny - k) = num B w0 bx ox k * y := by
          have h0 := HN.out
          rw [show nx + ny = k + (nx + ny - k) by omega, num_add, Nat.zero_add] at h0
          rw [N4a, N4b]; exact h0
        have K5 : Chg w0 w5 bz 0 (nx + ny) := K4.trans (q1.mono (by omega) (by omega))
        have l4 : bz < w4.heap.size := A4z.lt (by omega)
        have A5z : Arr .u64 B w5 bz 0 (nx + ny) := fun i hi => by
          by_cases hik : i < k
          · have e := q1.cell (0 + i) (by omega)
            rw [word_of_cell e, e]; exact A4z i hi
          · obtain ⟨j, rfl⟩ := Nat.exists_eq_add_of_le (Nat.le_of_not_lt hik)
            have := q2 j (by omega)
            rwa [Nat.zero_add]
        have A5r := q1.arr A4r A4r.lt (fun _ => .inl (by omega))
        have F5r := q1.free F4r A4r.lt
        have A5p := q1.arr A4p A4p.lt (fun _ => .inl (by omega))
        have F5p := q1.free F4p A4p.lt
        have X1 : num B w0 bx ox k + B ^ k * num B w0 bx (ox + k) (min ny (nx - k)) = num B w0 bx ox (min (k + ny) nx) := by
          rw [show min (k + ny) nx = k + min ny (nx - k) by omega, num_add]
        have X2 : num B w0 bx ox (min (k + ny) nx) ≤ num B w0 bx ox nx := by
          have e : num B w0 bx ox (min (k + ny) nx + (nx - min (k + ny) nx)) = num B w0 bx ox nx := by congr 1; omega
          rw [num_add] at e
          exact Nat.le.intro e
        have X3 : num B w0 bx ox nx * y < B ^ (k + (nx + ny - k)) := by
          rw [show k + (nx + ny - k) = nx + ny by omega]
          exact _root_.Rad.mul_lt_pow (num_lt hax) MY.lt
        have N5 : num B w5 bz 0 (nx + ny) = num B w0 bx ox (min (k + ny) nx) * y := by
          rw [← X1] at X2 ⊢
          have h1 := part_step q5 q3 X2 X3
          rw [← h1]
          have e : num B w5 bz 0 (nx + ny) = num B w5 bz 0 (k + (nx + ny - k)) := by congr 1; omega
          rw [e, num_add, Nat.zero_add, q1.num (fun _ => l4) (fun _ => by omega)]
        have HN5 : Hid _ := N5
        clear N5 X1 X2 X3 q5 q3 HN hy1 N4a N4b HP A4z F4z A4k F4k q1 q2
        go_wp2
        go_roundw
        case rel => exact ⟨k + ny, by omega, by go_num, K5, A5z, A5r, F5r, A5p, F5p, HN5.out⟩
        case measure => simp [intOf]; omega
      · have CW := hW wq (.slice (some ⟨bx, ox + k, none⟩) p p) _ _ p y ny hmg MYr (.inl (by omega)) (by omega)
        go_wp2_with (go_at_call 82; fail)
        refine CW.mono ?_
        rintro e w4 ⟨v, n', rfl, hB4, hM4, hn4, hF4⟩
        clear CW
        obtain ⟨av, bv, ov, cv, rfl, hsv, hcv, hav, hnv, _⟩ := hM4
        have lz : bz < wq.heap.size := har.lt (by omega)
        have K4 : Chg w0 w4 bz 0 (nx + ny) := hch.trans (chg_below hB4 lz)
        have A4z : Arr .u64 B w4 bz 0 (nx + ny) := arr_below har hB4
        have A4r : Arr .u64 B w4 b1 0 r := arr_below ar1 hB4
        have F4r : Free w4 b1 0 r := free_below fr1 hB4 (ar1.lt r0)
        have A4p : Arr .u64 B w4 b2 0 (2 * ny) := arr_below ar2 hB4
        have F4p : Free w4 b2 0 (2 * ny) := free_below fr2 hB4 (ar2.lt (by omega))
        have N4a : num B w4 bz 0 k = num B wq bz 0 k := num_below (row_sub0 har (by omega)) hB4
        have N4b : num B w4 bz k (nx + ny - k) = num B wq bz k (nx + ny - k) := by
          have h0 := har.sub (d := k) (m := nx + ny - k) (by omega)
          rw [Nat.zero_add] at h0
          exact num_below h0 hB4
        have F4z : Free w4 bz 0 (nx + ny) := K4.free hfz (fun _ => by have := HB1.out; omega)
        have A4k : Arr .u64 B w4 bz k (nx + ny - k) := by have := A4z.sub (d := k) (m := nx + ny - k) (by omega); rwa [Nat.zero_add] at this
        have F4k : Free w4 bz k (nx + ny - k) := by have := F4z.sub (d := k) (m := nx + ny - k) (by omega); rwa [Nat.zero_add] at this
        have CA := addTo_any w4 (some ⟨bz, k, none⟩) av bz k (nx + ny - k) (cz - k) bv ov n' cv (Sl.mk _ _ _) hsv A4k F4k hav (by omega) (fun h => .inl (by
          have e := hF4 bv ov n' cv (by rw [hsv h])
          omega)) (by unfold maxLen; omega)
        rw [hnv] at CA
        clear hnv hch har ar1 fr1 ar2 fr2 hmg hB4 hF4
        go_wp2_with (go_at_call 142; fail)
        refine CA.mono ?_
        rintro e w5 ⟨rfl, q1, q2, c, hc, q3⟩
        clear CA
        have q5 : num B w4 bz 0 k + B ^ k * num B w4 bz k (nx + ny - k) = num B w0 bx ox k * y := by
          have h0 := HN.out
          rw [show nx + ny = k + (nx + ny - k) by omega, num_add, Nat.zero_add] at h0
          rw [N4a, N4b]; exact h0
        have K5 : Chg w0 w5 bz 0 (nx + ny) := K4.trans (q1.mono (by omega) (by omega))
        have l4 : bz < w4.heap.size := A4z.lt (by omega)
        have A5z : Arr .u64 B w5 bz 0 (nx + ny) := fun i hi => by
          by_cases hik : i < k
          · have e := q1.cell (0 + i) (by omega)
            rw [word_of_cell e, e]; exact A4z i hi
          · obtain ⟨j, rfl⟩ := Nat.exists_eq_add_of_le (Nat.le_of_not_lt hik)
            have := q2 j (by omega)
            rwa [Nat.zero_add]
        have A5r := q1.arr A4r A4r.lt (fun _ => .inl (by omega))
        have F5r := q1.free F4r A4r.lt
        have A5p := q1.arr A4p A4p.lt (fun _ => .inl (by omega))
        have F5p := q1.free F4p A4p.lt
        have X1 : num B w0 bx ox k + B ^ k * num B w0 bx (ox + k) (min ny (nx - k)) = num B w0 bx ox (min (k + ny) nx) := by
          rw [show min (k + ny) nx = k + min ny (nx - k) by omega, num_add]
        have X2 : num B w0 bx ox (min (k + ny) nx) ≤ num B w0 bx ox nx := by
          have e : num B w0 bx ox (min (k + ny) nx + (nx - min (k + ny) nx)) = num B w0 bx ox nx := by congr 1; omega
          rw [num_add] at e
          exact Nat.le.intro e
        have X3 : num B w0 bx ox nx * y < B ^ (k + (nx + ny - k)) := by
          rw [show k + (nx + ny - k) = nx + ny by omega]
          exact _root_.Rad.mul_lt_pow (num_lt hax) MY.lt
        have N5 : num B w5 bz 0 (nx + ny) = num B w0 bx ox (min (k + ny) nx) * y := by
          rw [← X1] at X2 ⊢
          have h1 := part_step q5 q3 X2 X3
          rw [← h1]
          have e : num B w5 bz 0 (nx + ny) = num B w5 bz 0 (k + (nx + ny - k)) := by congr 1; omega
          rw [e, num_add, Nat.zero_add, q1.num (fun _ => l4) (fun _ => by omega)]
        have HN5 : Hid _ := N5
        clear N5 X1 X2 X3 q5 q3 HN hy1 N4a N4b HP A4z F4z A4k F4k q1 q2
        go_wp2
        go_roundw
        case rel => exact ⟨k + ny, by omega, by go_num, K5, A5z, A5r, F5r, A5p, F5p, HN5.out⟩
        case measure => simp [intOf]; omega
    · rw [Nat.min_eq_right (by omega)] at hnum
      have HN : Hid _ := hnum
      clear hnum
      go_wp2
      go_end0
      exact ⟨rfl, hch, har, HN.out⟩

theorem mulB_any : ∀ m, MulB m
  | 0 => by
    intro w bz nz cz bx ox nx cx ax vy y ny h0 h48
    omega
  | m + 1 => mulBlocks_step m (mulWords_of m (mulB_any m))
/-- Words by words. -/
theorem mulWords_any (w : World) (vx vy : Value) (x nx y ny : Nat) (hx : Mag w vx x nx) (hy : Mag w vy y ny) (hl : nx + ny ≤ 1099511627776) :
    Calls Tryz.prog 82 #[vx, vy] w fun e w' => ∃ v n, e = .returned v ∧ Below w.heap.size w w' ∧ Mag w' v (x * y) n ∧ n ≤ nx + ny ∧ Fr w.heap.size v :=
  mulWords_of nx (mulB_any nx) w vx vy x nx y ny hx hy (.inl (Nat.le_refl _)) hl
end Go.Proofs.YtjlkplidpdhgbaaGreatDoor
