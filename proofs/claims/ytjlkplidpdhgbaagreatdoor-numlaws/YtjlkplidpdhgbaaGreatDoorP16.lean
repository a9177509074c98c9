/- A part of the proof: G3. -/
import Derived.Test.YtjlkplidpdhgbaaGreatDoorP10
import Derived.Test.YtjlkplidpdhgbaaGreatDoorP11
import Derived.Test.YtjlkplidpdhgbaaGreatDoorP14
import Derived.Test.YtjlkplidpdhgbaaGreatDoorP15
set_option linter.all false

namespace Go.Proofs.YtjlkplidpdhgbaaGreatDoor
open Go Go.Proofs Go.RowKit Go.Rad
open _root_.Rad (TN TurnOk)

theorem TB.set0 {w : World} {b p q r s : Nat} {odd : Bool} (h : TB w b p q r s odd) (p' : Nat) : TB (w.setCell ⟨b, 0, none⟩ (.int .u64 (p' : Int))) b p' q r s odd :=
  ⟨by simp; exact h.lt, (cell_same h.c0), (cell_other (.inr (by omega))).trans h.c1, (cell_other (.inr (by omega))).trans h.c2, (cell_other (.inr (by omega))).trans h.c3, (cell_other (.inr (by omega))).trans h.c4, (World.frozen?_setCell _ _ _ _).trans h.f0, (World.frozen?_setCell _ _ _ _).trans h.f1, (World.frozen?_setCell _ _ _ _).trans h.f2, (World.frozen?_setCell _ _ _ _).trans h.f3, (World.frozen?_setCell _ _ _ _).trans h.f4⟩
theorem TB.set1 {w : World} {b p q r s : Nat} {odd : Bool} (h : TB w b p q r s odd) (q' : Nat) : TB (w.setCell ⟨b, 1, none⟩ (.int .u64 (q' : Int))) b p q' r s odd :=
  ⟨by simp; exact h.lt, (cell_other (.inr (by omega))).trans h.c0, (cell_same h.c1), (cell_other (.inr (by omega))).trans h.c2, (cell_other (.inr (by omega))).trans h.c3, (cell_other (.inr (by omega))).trans h.c4, (World.frozen?_setCell _ _ _ _).trans h.f0, (World.frozen?_setCell _ _ _ _).trans h.f1, (World.frozen?_setCell _ _ _ _).trans h.f2, (World.frozen?_setCell _ _ _ _).trans h.f3, (World.frozen?_setCell _ _ _ _).trans h.f4⟩
theorem TB.set2 {w : World} {b p q r s : Nat} {odd : Bool} (h : TB w b p q r s odd) (r' : Nat) : TB (w.setCell ⟨b, 2, none⟩ (.int .u64 (r' : Int))) b p q r' s odd :=
  ⟨by simp; exact h.lt, (cell_other (.inr (by omega))).trans h.c0, (cell_other (.inr (by omega))).trans h.c1, (cell_same h.c2), (cell_other (.inr (by omega))).trans h.c3, (cell_other (.inr (by omega))).trans h.c4, (World.frozen?_setCell _ _ _ _).trans h.f0, (World.frozen?_setCell _ _ _ _).trans h.f1, (World.frozen?_setCell _ _ _ _).trans h.f2, (World.frozen?_setCell _ _ _ _).trans h.f3, (World.frozen?_setCell _ _ _ _).trans h.f4⟩
theorem TB.set3 {w : World} {b p q r s : Nat} {odd : Bool} (h : TB w b p q r s odd) (s' : Nat) : TB (w.setCell ⟨b, 3, none⟩ (.int .u64 (s' : Int))) b p q r s' odd :=
  ⟨by simp; exact h.lt, (cell_other (.inr (by omega))).trans h.c0, (cell_other (.inr (by omega))).trans h.c1, (cell_other (.inr (by omega))).trans h.c2, (cell_same h.c3), (cell_other (.inr (by omega))).trans h.c4, (World.frozen?_setCell _ _ _ _).trans h.f0, (World.frozen?_setCell _ _ _ _).trans h.f1, (World.frozen?_setCell _ _ _ _).trans h.f2, (World.frozen?_setCell _ _ _ _).trans h.f3, (World.frozen?_setCell _ _ _ _).trans h.f4⟩
theorem TB.set4 {w : World} {b p q r s : Nat} {odd : Bool} (h : TB w b p q r s odd) (odd' : Bool) : TB (w.setCell ⟨b, 4, none⟩ (.bool odd')) b p q r s odd' :=
  ⟨by simp; exact h.lt, (cell_other (.inr (by omega))).trans h.c0, (cell_other (.inr (by omega))).trans h.c1, (cell_other (.inr (by omega))).trans h.c2, (cell_other (.inr (by omega))).trans h.c3, (cell_same h.c4), (World.frozen?_setCell _ _ _ _).trans h.f0, (World.frozen?_setCell _ _ _ _).trans h.f1, (World.frozen?_setCell _ _ _ _).trans h.f2, (World.frozen?_setCell _ _ _ _).trans h.f3, (World.frozen?_setCell _ _ _ _).trans h.f4⟩
theorem TB.other {w : World} {b p q r s : Nat} {odd : Bool} (h : TB w b p q r s odd) {c i : Nat} (hc : b ≠ c) (v : Value) : TB (w.setCell ⟨c, i, none⟩ v) b p q r s odd :=
  ⟨by simp; exact h.lt, (cell_other (.inl hc)).trans h.c0, (cell_other (.inl hc)).trans h.c1, (cell_other (.inl hc)).trans h.c2, (cell_other (.inl hc)).trans h.c3, (cell_other (.inl hc)).trans h.c4,
    (World.frozen?_setCell _ _ _ _).trans h.f0, (World.frozen?_setCell _ _ _ _).trans h.f1, (World.frozen?_setCell _ _ _ _).trans h.f2, (World.frozen?_setCell _ _ _ _).trans h.f3, (World.frozen?_setCell _ _ _ _).trans h.f4⟩
/-- What turnOf leaves. -/
inductive TurnPost (w : World) (X Y : Nat) (e : Ending) (w' : World) : Prop
  | mk (p q r s : Nat) (odd : Bool) (he : e = .returned (.agg #[.int .u64 p, .int .u64 q, .int .u64 r, .int .u64 s, .bool odd])) (hb : Below w.heap.size w w') (ht : TurnOk X Y p q r s odd)
theorem belN (w : World) (n b : Nat) : Below b w (w.drewN n) := ⟨rfl, rfl, rfl, Nat.le_refl _, fun _ _ => rfl⟩
set_option maxRecDepth 10000 in
set_option maxHeartbeats 2000000 in
theorem turnOf_any (w : World) (bx ox cx by' oy cy m X Y : Nat) (hx : Arr .u64 B w bx ox (m + 2)) (hy : Arr .u64 B w by' oy (m + 2)) (hX : num B w bx ox (m + 2) = X) (hY : num B w by' oy (m + 2) = Y)
    (htop : word w bx (ox + (m + 1)) ≠ 0) (hle : Y ≤ X) (hm : m + 2 ≤ 35184372088832) (hcx : m + 2 ≤ cx) (hcy : m + 2 ≤ cy) :
    Calls Tryz.prog 150 #[.slice (some ⟨bx, ox, none⟩) (m + 2 : Nat) cx, .slice (some ⟨by', oy, none⟩) (m + 2 : Nat) cy] w fun e w' => TurnPost w X Y e w' := by
  have cx0 := arr_cell hx (i := m) (by omega)
  have cx1 := arr_cell hx (i := m + 1) (by omega)
  have cy0 := arr_cell hy (i := m) (by omega)
  have cy1 := arr_cell hy (i := m + 1) (by omega)
  have lx0 := arr_lt hx (i := m) (by omega)
  have lx1 := arr_lt hx (i := m + 1) (by omega)
  have ly0 := arr_lt hy (i := m) (by omega)
  have ly1 := arr_lt hy (i := m + 1) (by omega)
  have lXl : num B w bx ox m < B ^ m := num_lt (fun i hi => hx i (by omega))
  have lYl : num B w by' oy m < B ^ m := num_lt (fun i hi => hy i (by omega))
  have hbx := hx.lt (by omega)
  have hby := hy.lt (by omega)
  rw [num_two] at hX hY
  generalize num B w bx ox m = Xl at *
  generalize num B w by' oy m = Yl at *
  generalize B ^ m = P at *
  generalize word w bx (ox + m) = x2 at *
  generalize word w bx (ox + (m + 1)) = x1 at *
  generalize word w by' (oy + m) = y2 at *
  generalize word w by' (oy + (m + 1)) = y1 at *
  clear hx hy
  have CL := fun wx => leadingZeros_any x1 lx1 wx
  have e1 : ((m : Int) + 2 - 1) = (m : Int) + 1 := by omega
  have e2 : ((m : Int) + 2 - 2) = (m : Int) := by omega
  go_enter Tryz.func150, Tryz.ntmps150
  go_upto_region 1 with fail
  refine wp_world (fun w1 => Below w.heap.size w w1 ∧ TB w1 w.heap.size 0 0 0 0 false) ⟨bel1 _ _, TB.mk0 _ _ _ _ _ _ _⟩ ?_
  rintro w1 ⟨hB1, T4⟩
  have hc : ∀ b i v, w.cell? ⟨b, i, none⟩ = some v → b < w.heap.size → w1.cell? ⟨b, i, none⟩ = some v := fun b i v e hb => (World.cell?_of_block (hB1.block b hb)).trans e
  have kx0 := hc _ _ _ cx0 hbx
  have kx1 := hc _ _ _ cx1 hbx
  have ky0 := hc _ _ _ cy0 hby
  have ky1 := hc _ _ _ cy1 hby
  have HT4 : Hid (TB w1 w.heap.size 0 0 0 0 false) := T4
  have HB1 : Hid (Below w.heap.size w w1) := hB1
  clear hc cx0 cx1 cy0 cy1 hB1 T4
  go_wp2_with (go_at_call 135; fail)
  refine (CL _).mono ?_
  rintro e w2 ⟨L, rfl, hw, hl, h64⟩
  subst w2
  clear CL
  have hL : 0 < L ∧ 2 ^ (L - 1) ≤ x1 ∧ x1 < 2 ^ L := by
    rcases hl with ⟨h0, _⟩ | h0
    · exact absurd h0 htop
    · exact h0
  obtain ⟨h, hh⟩ : ∃ h, 64 - L = h := ⟨_, rfl⟩
  have hL64 : 64 - h = L := by omega
  have hHG : 2 ^ h * 2 ^ L = B := by rw [← Nat.pow_add, show h + L = 64 by omega]; rfl
  rw [hh]
  obtain ⟨sx, sx'⟩ := _root_.Rad.top_split (G := 2 ^ L) (H := 2 ^ h) hX.symm lXl hHG (Nat.pow_pos (by decide))
  obtain ⟨sy, sy'⟩ := _root_.Rad.top_split (G := 2 ^ L) (H := 2 ^ h) hY.symm lYl hHG (Nat.pow_pos (by decide))
  have hh64 : h < 64 := by omega
  have qx : x2 / 2 ^ L < 2 ^ h := by rw [← hL64]; exact hi_shl_lt (by omega) lx0
  have qy : y2 / 2 ^ L < 2 ^ h := by rw [← hL64]; exact hi_shl_lt (by omega) ly0
  have dx : x1 * 2 ^ h < B := by
    rw [← hHG, Nat.mul_comm]; exact Nat.mul_lt_mul_of_pos_left hL.2.2 (Nat.pow_pos (by decide))
  have hyx : y1 ≤ x1 := by
    refine _root_.Rad.lead_lf (X := X) (Y := Y) (lx := Xl + P * x2) (ly := Yl + P * y2) (W := P * B) ?_ ?_ ?_ hle
    · rw [← hX, Nat.mul_add, Nat.mul_assoc]; omega
    · rw [← hY, Nat.mul_add, Nat.mul_assoc]; omega
    · have := Nat.mul_le_mul_left P (show x2 + 1 ≤ B from lx0)
      rw [Nat.mul_add] at this; omega
  have dy : y1 * 2 ^ h < B := Nat.lt_of_le_of_lt (Nat.mul_le_mul_right _ hyx) dx
  have ex := shl_or (d := x1) (s := h) (c := x2 / 2 ^ L) (by omega) qx
  have ey := shl_or (d := y1) (s := h) (c := y2 / 2 ^ L) (by omega) qy
  have kx := shl_or_lt (d := x1) (s := h) (c := x2 / 2 ^ L) (by omega) qx
  have rx : lo (x1 * 2 ^ h) = x1 * 2 ^ h := Nat.mod_eq_of_lt dx
  have ry : lo (y1 * 2 ^ h) = y1 * 2 ^ h := Nat.mod_eq_of_lt dy
  rw [rx] at ex kx
  rw [ry] at ey
  obtain ⟨A0, hA⟩ : ∃ A0, x1 * 2 ^ h + x2 / 2 ^ L = A0 := ⟨_, rfl⟩
  obtain ⟨B0, hB⟩ : ∃ B0, y1 * 2 ^ h + y2 / 2 ^ L = B0 := ⟨_, rfl⟩
  rw [hA] at ex kx sx
  rw [hB] at ey sy
  have hA0 : 0 < A0 := by
    rw [← hA]
    exact Nat.lt_of_lt_of_le (Nat.mul_pos (Nat.pos_of_ne_zero htop) (Nat.pow_pos (by decide))) (Nat.le_add_right _ _)
  have HS : Hid (TN X Y A0 B0 A0 B0 0 0 1 0 0 1 true) := TN.start sx sy sx' sy' hle kx hA0
  have nx := shr_nat x2 L
  have ny := shr_nat y2 L
  rw [← nx] at ex
  rw [← ny] at ey
  have EX : Hid _ := ex
  have EY : Hid _ := ey
  have w0 : IntKind.u64.wrap (h : Int) = (h : Int) := by rw [IntKind.wrap_u64]; omega
  have w1' : IntKind.u64.wrap (64 - (h : Int)) = (L : Int) := by rw [IntKind.wrap_u64]; omega
  clear sx sy sx' sy' hX hY lXl lYl hl hL hHG qx qy dx dy hyx ex ey kx rx ry hA hB hA0 nx ny htop hle lx0 lx1 ly0 ly1
  go_wp2
  go_quiet (fail)
  rw [EX.out]
  go_wp2
  go_quiet (fail)
  rw [EY.out]
  clear EX EY kx0 kx1 ky0 ky1
  go_upto_region 5 with fail
  rw [World.drewN_drewN]
  refine wp_world (fun w2 => Below w.heap.size w w2 ∧ TB w2 w.heap.size 0 0 0 0 false) ⟨HB1.out.trans (belN _ _ _), HT4.out.below (belN w1 _ w1.heap.size) HT4.out.lt⟩ ?_
  rintro w2 ⟨hB2, T4⟩
  clear HB1 HT4 w1
  have HT4 : Hid (TB w2 w.heap.size 0 0 0 0 false) := T4
  have HB2 : Hid (Below w.heap.size w w2) := hB2
  clear T4 hB2
  go_upto_region 6 with fail
  refine wp_world (fun w3 => Below w.heap.size w w3 ∧ TB w3 w.heap.size 0 0 0 0 false ∧ TB w3 w2.heap.size 0 0 1 0 true ∧ w.heap.size ≠ w2.heap.size) ⟨?_, ?_, ?_, ?_⟩ ?_
  · exact HB2.out.alloc HB2.out.size _
  · exact HT4.out.below (bel1 w2 _) HT4.out.lt
  · exact TB.mk0 w2 0 0 1 0 true 152
  · have hlt := HT4.out.lt
    omega
  rintro w3 ⟨hB3, T4, T9, hne⟩
  obtain ⟨b9, hb9⟩ : ∃ b9, w2.heap.size = b9 := ⟨_, rfl⟩
  rw [hb9] at T9 hne ⊢
  have hl9 : w.heap.size < b9 := by have := HT4.out.lt; omega
  clear HT4 HB2 hb9 w2
  have HT4 : Hid (TB w3 w.heap.size 0 0 0 0 false) := T4
  have HT9 : Hid (TB w3 b9 0 0 1 0 true) := T9
  have HB3 : Hid (Below w.heap.size w w3) := hB3
  clear T4 T9 hB3
  go_wp2
  clear e1 e2 w0 w1' hm hcx hcy hbx hby hL64 hh64 h64 hh
  go_loopw [7, 8, 10, 11] (fun a7 a8 a10 a11 wr => ∃ (a b p q r s u v : Nat) (odd : Bool), a7 = .int .u64 a ∧ a8 = .int .u64 b ∧ a10 = .int .u64 u ∧ a11 = .int .u64 v ∧
      Hid (Below w.heap.size w wr ∧ TB wr w.heap.size 0 0 0 0 false ∧ TB wr b9 p q r s odd ∧ TN X Y A0 B0 a b p q r s u v odd))
    (fun _ a8 _ _ _ => (intOf a8).toNat)
  case atStart => exact ⟨_, _, _, _, _, _, _, _, _, rfl, rfl, rfl, rfl, ⟨HB3.out, HT4.out, HT9.out, HS.out⟩⟩
  case round =>
    clear HS HT4 HT9 HB3
    obtain ⟨a, b, p, q, r, s, u, v, odd, rfl, rfl, rfl, rfl, HI⟩ := hrel
    obtain ⟨hB, T4, T9, hN⟩ := HI.out
    obtain ⟨f1, f2, f3, f4, f5, f6, f7, f8⟩ := hN.facts
    by_cases hg : v ≤ b ∧ s + v ≤ a - b
    · obtain ⟨hN', g1, g2, g3, g4, g5, g6, g7, g8⟩ := hN.step hg.1 hg.2
      obtain ⟨k, hk⟩ : ∃ k, a / b = k := ⟨_, rfl⟩
      have hkI : (a : Int) / (b : Int) = (k : Int) := by rw [← hk]; exact (Int.natCast_ediv a b).symm
      rw [hk] at hN' g1 g2 g4 g5 g6 g7 g8
      obtain ⟨c, hc⟩ : ∃ c, a % b = c := ⟨_, rfl⟩
      rw [hc] at hN' g2 g3
      have HN : Hid _ := hN'
      have hg1 := hg.1
      have hg2 := hg.2
      have h6 := f6 hg1
      obtain ⟨kb, hkb⟩ : ∃ kb, k * b = kb := ⟨_, rfl⟩
      obtain ⟨ku, hku⟩ : ∃ ku, k * u = ku := ⟨_, rfl⟩
      obtain ⟨kv, hkv⟩ : ∃ kv, k * v = kv := ⟨_, rfl⟩
      have cb : (k : Int) * (b : Int) = (kb : Int) := by rw [← hkb]; exact (Int.natCast_mul k b).symm
      have cu : (k : Int) * (u : Int) = (ku : Int) := by rw [← hku]; exact (Int.natCast_mul k u).symm
      have cv : (k : Int) * (v : Int) = (kv : Int) := by rw [← hkv]; exact (Int.natCast_mul k v).symm
      rw [hkb] at g1 g2
      rw [hku] at g4 g6 HN
      rw [hkv] at g5 g7 HN
      have x0 : IntKind.u64.wrap (k : Int) = (k : Int) := by rw [IntKind.wrap_u64]; omega
      have x1 : IntKind.u64.wrap (kb : Int) = (kb : Int) := by rw [IntKind.wrap_u64]; omega
      have x2 : IntKind.u64.wrap (ku : Int) = (ku : Int) := by rw [IntKind.wrap_u64]; omega
      have x3 : IntKind.u64.wrap (kv : Int) = (kv : Int) := by rw [IntKind.wrap_u64]; omega
      have x4 : IntKind.u64.wrap ((a : Int) - (kb : Int)) = (c : Int) := by rw [IntKind.wrap_u64]; omega
      have x5 : IntKind.u64.wrap ((r : Int) + (ku : Int)) = ((r + ku : Nat) : Int) := by rw [IntKind.wrap_u64]; omega
      have x6 : IntKind.u64.wrap ((s : Int) + (kv : Int)) = ((s + kv : Nat) : Int) := by rw [IntKind.wrap_u64]; omega
      have x7 : IntKind.u64.wrap ((a : Int) - (b : Int)) = (a : Int) - (b : Int) := by rw [IntKind.wrap_u64]; omega
      have x8 : IntKind.u64.wrap ((s : Int) + (v : Int)) = (s : Int) + (v : Int) := by rw [IntKind.wrap_u64]; omega
      have y1 : (v : Int) ≤ (b : Int) := by omega
      have y2 : (s : Int) + (v : Int) ≤ (a : Int) - (b : Int) := by omega
      have y3 : ¬ (b : Int) = 0 := by omega
      obtain ⟨l9, c0, c1, c2, c3, c4, z0, z1, z2, z3, z4⟩ := id T9
      have HT4 : Hid _ := T4
      have HT9 : Hid _ := T9
      have HB : Hid _ := hB
      have hcb : c < b := g3
      clear HI hB T4 T9 hN hN' f1 f2 f3 f4 f5 f6 f7 f8 g1 g2 g3 g4 g5 g6 g7 g8 hk hkb hku hkv hc hg hg1 hg2 h6
      go_wp2
      refine ⟨⟨b, c, r, s, u, v, r + ku, s + kv, !odd, rfl, rfl, (by go_num), (by go_num), ⟨?_, ?_, ?_, HN.out⟩⟩, ?_⟩
      · have hl : w.heap.size ≤ b9 := by omega
        exact ((((HB.out.setCell hl _).setCell hl _).setCell hl _).setCell hl _).setCell hl _
      · exact ((((HT4.out.other hne _).other hne _).other hne _).other hne _).other hne _
      · exact ((((HT9.out.set0 r).set2 u).set1 s).set3 v).set4 (!odd)
      · simp only [intOf]; omega
    · have HT4 : Hid (TB wr w.heap.size 0 0 0 0 false) := T4
      have HB : Hid (Below w.heap.size w wr) := hB
      have HD : Hid (TurnOk X Y p q r s odd) := hN.done
      obtain ⟨l9, c0, c1, c2, c3, c4, z0, z1, z2, z3, z4⟩ := id T9
      obtain ⟨l4, d0, d1, d2, d3, d4, n0, n1, n2, n3, n4⟩ := id T4
      by_cases hg1 : v ≤ b
      · have h6 := f6 hg1
        have x7 : IntKind.u64.wrap ((a : Int) - (b : Int)) = (a : Int) - (b : Int) := by rw [IntKind.wrap_u64]; omega
        have x8 : IntKind.u64.wrap ((s : Int) + (v : Int)) = (s : Int) + (v : Int) := by rw [IntKind.wrap_u64]; omega
        have y1 : (v : Int) ≤ (b : Int) := by omega
        have y2 : ¬ (s : Int) + (v : Int) ≤ (a : Int) - (b : Int) := by omega
        clear HI hB T4 T9 hN f1 f2 f3 f4 f5 f6 f7 f8 hg hg1 h6
        go_wp2
        refine bodyPost_ret (v := .agg #[.int .u64 p, .int .u64 q, .int .u64 r, .int .u64 s, .bool odd]) (by simp [results, go_sem, loadVar, World.cell?_setCell_same, World.cell?_setCell_other, *]; try rfl) rfl ?_
        have hl : w.heap.size ≤ w.heap.size := Nat.le_refl _
        exact .mk p q r s odd rfl (((((HB.out.setCell hl _).setCell hl _).setCell hl _).setCell hl _).setCell hl _) HD.out
      · have y1 : ¬ (v : Int) ≤ (b : Int) := by omega
        clear HI hB T4 T9 hN f1 f2 f3 f4 f5 f6 f7 f8 hg hg1
        go_wp2
        refine bodyPost_ret (v := .agg #[.int .u64 p, .int .u64 q, .int .u64 r, .int .u64 s, .bool odd]) (by simp [results, go_sem, loadVar, World.cell?_setCell_same, World.cell?_setCell_other, *]; try rfl) rfl ?_
        have hl : w.heap.size ≤ w.heap.size := Nat.le_refl _
        exact .mk p q r s odd rfl (((((HB.out.setCell hl _).setCell hl _).setCell hl _).setCell hl _).setCell hl _) HD.out
end Go.Proofs.YtjlkplidpdhgbaaGreatDoor
