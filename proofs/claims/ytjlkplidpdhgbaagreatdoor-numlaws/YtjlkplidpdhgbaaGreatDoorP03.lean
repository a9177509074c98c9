/- A part of the proof: W6, W7, W8, Kar1, Chs. -/
import Derived.Test.YtjlkplidpdhgbaaGreatDoorP02
import Derived.Test.YtjlkplidpdhgbaaGreatDoorP01
import Derived.Test.YtjlkplidpdhgbaaGreatDoorP00
import Derived.Deep.Quiet
set_option linter.all false

namespace Go.Proofs.YtjlkplidpdhgbaaGreatDoor
open Go Go.Proofs Go.RowKit Go.Rad

set_option maxRecDepth 10000 in
set_option maxHeartbeats 1000000 in
theorem subWords_any (w : World) (vx vy : Value) (x y nx ny : Nat) (hx : Mag w vx x nx) (hy : Mag w vy y ny) (hle : y ≤ x) (hl : nx ≤ 35184372088832) :
    Calls Tryz.prog 112 #[vx, vy] w fun e w' => ∃ v n, e = .returned v ∧ Below w.heap.size w w' ∧ Mag w' v (x - y) n ∧ n ≤ nx := by
  have hny : ny ≤ nx := by
    rcases Nat.eq_zero_or_pos ny with h | h
    · omega
    · have h1 := hy.ge h
      have h2 := hx.lt
      rcases Nat.lt_or_ge nx ny with h3 | h3
      · have : B ^ nx ≤ B ^ (ny - 1) := Nat.pow_le_pow_right B_pos (by omega)
        omega
      · exact h3
  obtain ⟨ax, bx, ox, cx, rfl, hsx, hcx, hax, hnx, hrx⟩ := hx
  obtain ⟨ay, byy, oy, cy, rfl, hsy, hcy, hay, hny', hry⟩ := hy
  obtain ⟨i0, hi0, hz0, hz1, hz2⟩ := info_parts info98
  have hml : nx ≤ maxLen := by unfold maxLen; omega
  have HX : Hid (num B w bx ox nx = x) := hnx
  have HY : Hid (num B w byy oy ny = y) := hny'
  clear hnx hny' hrx hry
  go_enter Tryz.func112, Tryz.ntmps112
  go_wp2_with (first
    | (at_make; refine wpList_makeRow .u64 B B_pos rfl _ _ 22 rfl 98 i0 Tryz.underlying22 hi0 hz0 hz1 .i64 .i64 _ _ nx rfl rfl rfl rfl (by rw [hz2]; omega) hml ?_; intro w1 hm)
    | (refine wpList_copyRow .u64 B rfl _ _ 22 22 rfl 98 Tryz.underlying22 size98 _ _ _ _ _ _ rfl rfl w.heap.size 0 bx ox (Sl.mk _ _ _) hsx hm.arr hm.free (arr_below hax hm.below) ?_; intro w2 hcp))
  rw [Nat.min_self] at hcp
  obtain ⟨hb2, ha2, hf2, hn2, hs2⟩ := row_copied hm hax (Nat.le_refl _) hcp
  refine (subFrom_any w2 _ _ _ _ _ _ byy oy _ _ (Sl.mk _ _ _) hsy ha2 hf2 (arr_below hay hb2) hny (fun h => .inl (by have := hay.lt h; omega)) hml).mono ?_
  rintro e w3 ⟨c, rfl, hch, ha3, hc1, hn3⟩
  have hb3 : Below w.heap.size w w3 := hb2.trans (hch.below (Nat.le_refl _) (by omega))
  have hval : num B w3 w.heap.size 0 nx = x - y := by
    rw [hn2, num_below hay hb2, HX.out, HY.out] at hn3
    exact _root_.Rad.diff_fits hn3 (num_lt ha3) hle
  have HV : Hid (num B w3 w.heap.size 0 nx = x - y) := hval
  clear hval hn3 hn2 hcp hm
  go_wp2_with (go_at_call 86; refine (front_mag w3 _ _ _ _ _ nx (Sl.mk _ _ _) (Nat.le_refl _) hml hml ha3).mono ?_; rintro e w' ⟨v, k, rfl, hw, hk1, hk2, hmg⟩; subst hw)
  go_ret
  rw [Nat.min_self, HV.out] at hmg
  exact ⟨_, k, rfl, hb3, hmg, hk1⟩

theorem two_le_B : 2 ≤ B := by decide

set_option maxRecDepth 10000 in
set_option maxHeartbeats 1000000 in
/-- addWords, the longer one first. -/
theorem addWords_core (w : World) (vx vy : Value) (x y nx ny : Nat) (hx : Mag w vx x nx) (hy : Mag w vy y ny) (hl : nx < 35184372088832) (hl' : ny < 35184372088832) :
    Calls Tryz.prog 111 #[vx, vy] w fun e w' => ∃ v n, e = .returned v ∧ Below w.heap.size w w' ∧ Mag w' v (x + y) n ∧ n ≤ max nx ny + 1 := by
  obtain ⟨ax, bx, ox, cx, rfl, hsx, hcx, hax, hnx, hrx⟩ := hx
  obtain ⟨ay, byy, oy, cy, rfl, hsy, hcy, hay, hny', hry⟩ := hy
  obtain ⟨i0, hi0, hz0, hz1, hz2⟩ := info_parts info98
  have HX : Hid (num B w bx ox nx = x) := hnx
  have HY : Hid (num B w byy oy ny = y) := hny'
  clear hnx hny' hrx hry
  rcases Nat.lt_or_ge nx ny with hlt | hge
  · have hml : ny + 1 ≤ maxLen := by unfold maxLen; omega
    go_enter Tryz.func111, Tryz.ntmps111
    go_wp2_with (first
      | (at_make; refine wpList_makeRow .u64 B B_pos rfl _ _ 22 rfl 98 i0 Tryz.underlying22 hi0 hz0 hz1 .i64 .i64 _ _ (ny + 1) rfl rfl (by omega) (by omega) (by rw [hz2]; omega) hml ?_; intro w1 hm)
      | (refine wpList_copyRow .u64 B rfl _ _ 22 22 rfl 98 Tryz.underlying22 size98 _ _ _ _ _ _ rfl rfl w.heap.size 0 byy oy (Sl.mk _ _ _) hsy hm.arr hm.free (arr_below hay hm.below) ?_; intro w2 hcp))
    rw [Nat.min_eq_left (Nat.le_succ ny)] at hcp
    obtain ⟨hb2, ha2, hf2, hn2, hs2⟩ := row_copied hm hay (Nat.le_succ _) hcp
    refine (addTo_any w2 _ _ _ _ _ _ bx ox _ _ (Sl.mk _ _ _) hsx ha2 hf2 (arr_below hax hb2) (by omega) (fun h => .inl (by have := hax.lt h; omega)) hml).mono ?_
    rintro e w3 ⟨rfl, hch, ha3, c, hc1, hn3⟩
    have hb3 : Below w.heap.size w w3 := hb2.trans (hch.below (Nat.le_refl _) (by omega))
    have hval : num B w3 w.heap.size 0 (ny + 1) = x + y := by
      rw [hn2, num_below hax hb2, HX.out, HY.out] at hn3
      have h1 : y < B ^ ny := by rw [← HY.out]; exact num_lt hay
      have h2 : x < B ^ nx := by rw [← HX.out]; exact num_lt hax
      rw [Nat.add_comm x y]
      exact _root_.Rad.sum_fits two_le_B hn3 h1 (Nat.lt_of_lt_of_le h2 (Nat.pow_le_pow_right B_pos (by omega)))
    have HV : Hid (num B w3 w.heap.size 0 (ny + 1) = x + y) := hval
    clear hval hn3 hn2 hcp hm
    go_wp2_with (go_at_call 86; refine (front_mag w3 _ _ _ _ _ (ny + 1) (Sl.mk _ _ _) (Nat.le_refl _) hml hml ha3).mono ?_; rintro e w' ⟨v, k, rfl, hw, hk1, hk2, hmg⟩; subst hw)
    go_ret
    rw [Nat.min_self, HV.out] at hmg
    exact ⟨_, k, rfl, hb3, hmg, by omega⟩
  · have hml : nx + 1 ≤ maxLen := by unfold maxLen; omega
    go_enter Tryz.func111, Tryz.ntmps111
    go_wp2_with (first
      | (at_make; refine wpList_makeRow .u64 B B_pos rfl _ _ 22 rfl 98 i0 Tryz.underlying22 hi0 hz0 hz1 .i64 .i64 _ _ (nx + 1) rfl rfl (by omega) (by omega) (by rw [hz2]; omega) hml ?_; intro w1 hm)
      | (refine wpList_copyRow .u64 B rfl _ _ 22 22 rfl 98 Tryz.underlying22 size98 _ _ _ _ _ _ rfl rfl w.heap.size 0 bx ox (Sl.mk _ _ _) hsx hm.arr hm.free (arr_below hax hm.below) ?_; intro w2 hcp))
    rw [Nat.min_eq_left (Nat.le_succ nx)] at hcp
    obtain ⟨hb2, ha2, hf2, hn2, hs2⟩ := row_copied hm hax (Nat.le_succ _) hcp
    refine (addTo_any w2 _ _ _ _ _ _ byy oy _ _ (Sl.mk _ _ _) hsy ha2 hf2 (arr_below hay hb2) (by omega) (fun h => .inl (by have := hay.lt h; omega)) hml).mono ?_
    rintro e w3 ⟨rfl, hch, ha3, c, hc1, hn3⟩
    have hb3 : Below w.heap.size w w3 := hb2.trans (hch.below (Nat.le_refl _) (by omega))
    have hval : num B w3 w.heap.size 0 (nx + 1) = x + y := by
      rw [hn2, num_below hay hb2, HX.out, HY.out] at hn3
      have h1 : y < B ^ ny := by rw [← HY.out]; exact num_lt hay
      have h2 : x < B ^ nx := by rw [← HX.out]; exact num_lt hax
      exact _root_.Rad.sum_fits two_le_B hn3 h2 (Nat.lt_of_lt_of_le h1 (Nat.pow_le_pow_right B_pos (by omega)))
    have HV : Hid (num B w3 w.heap.size 0 (nx + 1) = x + y) := hval
    clear hval hn3 hn2 hcp hm
    go_wp2_with (go_at_call 86; refine (front_mag w3 _ _ _ _ _ (nx + 1) (Sl.mk _ _ _) (Nat.le_refl _) hml hml ha3).mono ?_; rintro e w' ⟨v, k, rfl, hw, hk1, hk2, hmg⟩; subst hw)
    go_ret
    rw [Nat.min_self, HV.out] at hmg
    exact ⟨_, k, rfl, hb3, hmg, by omega⟩
end Go.Proofs.YtjlkplidpdhgbaaGreatDoor

namespace Go.Proofs.YtjlkplidpdhgbaaGreatDoor
open Go Go.Proofs Go.RowKit Go.Rad

/-- What is chosen for a slice from i on: its own address, or i further. -/
theorem sl_drop {ao : Option Addr} {b o n i : Nat} (h : Sl ao b o n) (hi : i ≤ n) (x : Option Addr) (hx : i < n → x = ao.map (·.add i)) : Sl x b (o + i) (n - i) := by
  intro hn
  rw [hx (by omega), h (by omega)]
  simp only [Option.map_some, Addr.add]
  split
  · rename_i h0; subst h0; rfl
  · rfl

set_option maxRecDepth 10000 in
set_option maxHeartbeats 1000000 in
theorem back_any (w : World) (ao : Option Addr) (b o n c m : Nat) (hs : Sl ao b o n) (hc : n ≤ c) (hcm : n ≤ maxLen) (hm : m ≤ n) (ha : Arr .u64 B w b o n) :
    Calls Tryz.prog 168 #[.slice ao n c, .int .i64 m] w fun e w' => ∃ v k, e = .returned v ∧ w' = w ∧ k ≤ n - m ∧ Mag w v (num B w b (o + m) (n - m)) k := by
  unfold maxLen at hcm
  by_cases hcm2 : c = m
  · obtain rfl : n = c := by omega
    subst hcm2
    go_enter Tryz.func168, Tryz.ntmps168
    go_wp2_with (go_at_call 86; refine (front_mag w ao b (o + n) 0 0 n (fun h => by omega) (Nat.le_refl _) (by unfold maxLen; omega) (by unfold maxLen; omega) (fun i hi => by omega)).mono ?_; rintro e w' ⟨v, k, rfl, hw, hk1, hk2, hmg⟩; subst hw)
    go_ret
    exact ⟨_, k, rfl, rfl, by omega, by rw [Nat.sub_self]; rwa [Nat.min_eq_right (by omega)] at hmg⟩
  · go_enter Tryz.func168, Tryz.ntmps168
    go_wp2_with (go_at_call 86; refine (front_mag w (ao.map fun x => x.add m) b (o + m) (n - m) (c - m) n (sl_drop hs hm _ (fun h => rfl)) (by omega) (by unfold maxLen; omega) (by unfold maxLen; omega) (ha.sub (by omega))).mono ?_; rintro e w' ⟨v, k, rfl, hw, hk1, hk2, hmg⟩; subst hw)
    go_ret
    rw [Nat.min_eq_right (by omega)] at hmg
    exact ⟨_, k, rfl, rfl, hk2, hmg⟩

set_option maxRecDepth 10000 in
set_option maxHeartbeats 1000000 in
theorem mulWord_any (w : World) (vx : Value) (x nx d : Nat) (hx : Mag w vx x nx) (hd : d < B) (hl : nx < 35184372088832) :
    Calls Tryz.prog 83 #[vx, .int .u64 d] w fun e w' => ∃ v n, e = .returned v ∧ Below w.heap.size w w' ∧ Mag w' v (x * d) n ∧ n ≤ nx + 1 := by
  obtain ⟨ax, bx, ox, cx, rfl, hsx, hcx, hax, hnx, hrx⟩ := hx
  obtain ⟨i0, hi0, hz0, hz1, hz2⟩ := info_parts info98
  have HX : Hid (num B w bx ox nx = x) := hnx
  clear hnx hrx
  have hml : nx + 1 ≤ maxLen := by unfold maxLen; omega
  by_cases hd0 : d = 0
  · subst hd0
    go_enter Tryz.func83, Tryz.ntmps83
    go_wp2
    go_ret
    exact ⟨_, 0, rfl, Below.refl _ _, by rw [Nat.mul_zero]; exact mag_nil _, by omega⟩
  · have hd1 : ¬ ((d : Nat) : Int) = 0 := by omega
    go_enter Tryz.func83, Tryz.ntmps83
    go_wp2_with (first
      | (at_make; refine wpList_makeRow .u64 B B_pos rfl _ _ 22 rfl 98 i0 Tryz.underlying22 hi0 hz0 hz1 .i64 .i64 _ _ (nx + 1) rfl rfl (by omega) (by omega) (by rw [hz2]; omega) hml ?_; intro w1 hm)
      | (go_at_call 115; fail))
    have ha1 : Arr .u64 B w1 w.heap.size 0 nx := by have := hm.arr.sub (d := 0) (m := nx) (by omega); simpa using this
    have hf1 : Free w1 w.heap.size 0 nx := by have := hm.free.sub (d := 0) (m := nx) (by omega); simpa using this
    refine (addProduct_any w1 _ _ _ _ nx _ bx ox nx cx d (Sl.mk _ _ _) hsx ha1 hf1 (arr_below hax hm.below) (Nat.le_refl _) (by omega) (fun h => .inl (by have := hax.lt h; omega)) (by omega) hd).mono ?_
    rintro e w2 ⟨c, rfl, hch, ha2, hc, hn2⟩
    rw [num_made hm nx (by omega), num_below hax hm.below, HX.out] at hn2
    have h0 := hm.arr nx (by omega)
    rw [Nat.zero_add] at h0
    have hcell : w2.cell? ⟨w.heap.size, nx, none⟩ = some (.int .u64 ((word w1 w.heap.size nx : Nat) : Int)) := (hch.cell nx (by omega)).trans h0.1
    have hfz : w2.frozen? ⟨w.heap.size, nx, none⟩ = false := (hch.froz nx).trans (by have := hm.free nx (by omega); simpa using this)
    have hb3 : Below w.heap.size w (w2.setCell ⟨w.heap.size, nx, none⟩ (.int .u64 (c : Int))) :=
      (hm.below.trans (hch.below (Nat.le_refl _) (by have := hm.lt; omega))).setCell (Nat.le_refl _) _
    have ha2' : Arr .u64 B w2 w.heap.size 0 (nx + 1) := fun i hi => by
      by_cases hin : i < nx
      · exact ha2 i hin
      · obtain rfl : i = nx := by omega
        rw [Nat.zero_add, word_eq hcell]
        exact ⟨hcell, h0.2⟩
    have ha3 : Arr .u64 B (w2.setCell ⟨w.heap.size, nx, none⟩ (.int .u64 (c : Int))) w.heap.size 0 (nx + 1) := by
      have := ha2'.set (i := nx) hc
      simpa using this
    have hv : num B (w2.setCell ⟨w.heap.size, nx, none⟩ (.int .u64 (c : Int))) w.heap.size 0 (nx + 1) = x * d := by
      have h1 := num_store (x := c) ha2' (Nat.lt_succ_self nx)
      rw [Nat.zero_add] at h1
      rw [h1, hn2, Nat.zero_add]
    have HV : Hid _ := hv
    clear hv hn2 hm ha1 hf1 ha2 ha2' h0 hch
    go_wp2_with (go_at_call 86; refine (front_mag _ _ _ _ _ _ (nx + 1) (Sl.mk _ _ _) (Nat.le_refl _) hml hml ha3).mono ?_; rintro e w' ⟨v, k, rfl, hw, hk1, hk2, hmg⟩; subst hw)
    go_ret
    rw [Nat.min_self, HV.out] at hmg
    exact ⟨_, k, rfl, hb3, hmg, hk1⟩
end Go.Proofs.YtjlkplidpdhgbaaGreatDoor

namespace Go.Proofs.YtjlkplidpdhgbaaGreatDoor
open Go Go.Proofs Go.RowKit Go.Rad

/-- One row of a product. -/
theorem row_step {β i nx zl zm zm' c x d yv : Nat} (h1 : zm' + β ^ nx * c = zm + x * d) (h2 : zl + β ^ i * zm = x * yv) :
    zl + β ^ i * zm' + β ^ (i + nx) * c = x * (yv + β ^ i * d) := by
  have e1 : β ^ (i + nx) * c = β ^ i * (β ^ nx * c) := by rw [Nat.pow_add, Nat.mul_assoc]
  have e2 : β ^ i * (zm' + β ^ nx * c) = β ^ i * (zm + x * d) := by rw [h1]
  have e3 : x * (yv + β ^ i * d) = x * yv + β ^ i * (x * d) := by rw [Nat.mul_add, Nat.mul_left_comm]
  rw [Nat.mul_add, Nat.mul_add] at e2
  rw [e1, e3, ← h2]
  omega

set_option maxRecDepth 10000 in
set_option maxHeartbeats 1000000 in
theorem mulRows_any (w : World) (az ax ay : Option Addr) (bz oz nz cz bx ox nx cx byy oy ny cy : Nat) (hsz : Sl az bz oz nz) (hsx : Sl ax bx ox nx) (hsy : Sl ay byy oy ny)
    (hz : Arr .u64 B w bz oz nz) (hf : Free w bz oz nz) (hx : Arr .u64 B w bx ox nx) (hy : Arr .u64 B w byy oy ny) (hn : nz = nx + ny) (hcz : nz ≤ cz) (hcc : cz ≤ maxLen)
    (hz0 : num B w bz oz nx = 0) (hapx : 0 < nx → bz ≠ bx ∨ ox + nx ≤ oz ∨ oz + nz ≤ ox) (hapy : 0 < ny → bz ≠ byy ∨ oy + ny ≤ oz ∨ oz + nz ≤ oy) :
    Calls Tryz.prog 113 #[.slice az nz cz, .slice ax nx cx, .slice ay ny cy] w fun e w' => e = .returned (.tuple #[]) ∧ Chg w w' bz oz (oz + nz) ∧ Arr .u64 B w' bz oz nz ∧
      num B w' bz oz nz = num B w bx ox nx * num B w byy oy ny := by
  subst hn
  have hmz : cz ≤ 9223372036854775807 := hcc
  clear hcc
  go_enter Tryz.func113, Tryz.ntmps113
  go_wp2
  go_loopw [10] (fun i wr => ∃ k : Nat, k ≤ ny ∧ i = .int .i64 k ∧ Chg w wr bz oz (oz + (nx + k)) ∧ Arr .u64 B wr bz oz (nx + ny) ∧ num B wr bz oz (nx + k) = num B w bx ox nx * num B w byy oy k)
    (fun i _ => ny - (intOf i).toNat)
  case atStart => exact ⟨0, by omega, rfl, Chg.refl _ _ _ _, hz, by rw [Nat.add_zero, num_zero, Nat.mul_zero]; exact hz0⟩
  case round =>
    obtain ⟨k, hk, rfl, hch, har, hnum⟩ := hrel
    by_cases hlt : k < ny
    · obtain rfl := hsz (by omega)
      obtain rfl := hsy (by omega)
      have exk : wr.cell? ⟨byy, oy + k, none⟩ = w.cell? ⟨byy, oy + k, none⟩ := hch.cellAt (hy.lt (by omega)) (by have := hapy (by omega); omega)
      have hyk : wr.cell? ⟨byy, oy + k, none⟩ = some (.int .u64 ((word w byy (oy + k) : Nat) : Int)) := exk.trans (arr_cell hy hlt)
      have hdk := arr_lt hy hlt
      have hxr : Arr .u64 B wr bx ox nx := hch.arr hx hx.lt (fun h => by have := hapx h; omega)
      have hnx : num B wr bx ox nx = num B w bx ox nx := hch.num hx.lt (fun h => by have := hapx h; omega)
      have hfr : Free wr bz oz (nx + ny) := hch.free hf hz.lt
      have hcap : ¬ cz = k := by omega
      have hcell := arr_cell har (i := k + nx) (by omega)
      have hfz := hfr (k + nx) (by omega)
      have hap' : 0 < nx → bz ≠ bx ∨ ox + nx ≤ oz + k ∨ oz + k + nx ≤ ox := fun h => by have := hapx h; omega
      have H0 : Hid (num B wr bz oz (nx + k) = num B w bx ox nx * num B w byy oy k) := hnum
      have H1 : Hid (num B wr bx ox nx = num B w bx ox nx) := hnx
      have CR := fun (ax : Option Addr) (h : Sl ax bx ox nx) => addProduct_any wr (some ⟨bz, oz + k, none⟩) ax bz (oz + k) nx (cz - k) bx ox nx cx _ (Sl.mk _ _ _) h (har.sub (by omega)) (hfr.sub (by omega)) hxr (Nat.le_refl _) (by omega) hap' (by unfold maxLen; omega) hdk
      clear hnum hnx exk
      go_wp2_with (go_at_call 115; fail)
      refine (CR ax hsx).mono ?_
      rintro e w2 ⟨c, rfl, hc2, ha2, hc, hn2⟩
      have hbl : bz < wr.heap.size := har.lt (by omega)
      have hcell2 : w2.cell? ⟨bz, oz + (k + nx), none⟩ = some (.int .u64 ((word wr bz (oz + (k + nx)) : Nat) : Int)) := (hc2.cell _ (by omega)).trans hcell
      have hfz2 : w2.frozen? ⟨bz, oz + (k + nx), none⟩ = false := (hc2.froz _).trans hfz
      have hch2 : Chg w w2 bz oz (oz + (nx + (k + 1))) := (hch.mono (Nat.le_refl _) (by omega)).trans (hc2.mono (by omega) (by omega))
      have har2 : Arr .u64 B w2 bz oz (nx + ny) := fun i hi => by
        by_cases hin : k ≤ i ∧ i < k + nx
        · obtain ⟨j, rfl⟩ := Nat.exists_eq_add_of_le hin.1
          have := ha2 j (by omega)
          rwa [Nat.add_assoc] at this
        · have e := hc2.cell (oz + i) (by omega)
          rw [word_of_cell e, e]
          exact har i hi
      have hlow : num B w2 bz oz k = num B wr bz oz k := hc2.num (fun _ => hbl) (fun _ => by omega)
      have hv : num B w2 bz oz (k + nx) + B ^ (k + nx) * c = num B w bx ox nx * num B w byy oy (k + 1) := by
        have h0 := H0.out
        rw [Nat.add_comm nx k, num_add] at h0
        rw [H1.out] at hn2
        rw [num_add, hlow, num_succ]
        exact row_step hn2 h0
      have HV : Hid _ := hv
      clear hv hn2 hlow hcell hfz CR hyk hch har hfr hc2 ha2 hapx hapy hap' hxr hcap
      go_wp2
      go_roundw
      case rel =>
        refine ⟨k + 1, by omega, by go_num, hch2.set (by omega) (by omega) _, har2.set hc, ?_⟩
        rw [show nx + (k + 1) = (k + nx) + 1 by omega, num_store har2 (by omega)]
        exact HV.out
      case measure => simp [intOf]; omega
    · obtain rfl : k = ny := by omega
      go_wp2
      go_end0
      exact ⟨rfl, hch, har, hnum⟩
end Go.Proofs.YtjlkplidpdhgbaaGreatDoor

namespace Go.Proofs.YtjlkplidpdhgbaaGreatDoor
open Go Go.Proofs Go.RowKit Go.Rad

/-- So many words are room enough for the halves of n words (f: how deep at most). -/
def enough : Nat → Nat → Nat → Prop
  | 0, n, _ => n < 48
  | f + 1, n, r => n < 48 ∨ (6 * ((n + 1) / 2) + 1 ≤ r ∧ enough f ((n + 1) / 2) (r - 4 * ((n + 1) / 2)))

theorem enough_mono : ∀ (f n r r' : Nat), r ≤ r' → enough f n r → enough f n r'
  | 0, _, _, _, _, h => h
  | f + 1, n, r, r', hr, h => by
    rcases h with h | ⟨h1, h2⟩
    · exact .inl h
    · exact .inr ⟨by omega, enough_mono f _ _ _ (by omega) h2⟩

set_option maxRecDepth 10000 in
set_option maxHeartbeats 1000000 in
theorem roomFor_any : ∀ (f n : Nat), n ≤ f → n ≤ 35184372088832 → ∀ w : World,
    Calls Tryz.prog 144 #[.int .i64 n] w fun e w' => ∃ r : Nat, e = .returned (.int .i64 r) ∧ w' = w ∧ enough f n r ∧ r ≤ 6 * n := by
  intro f
  induction f with
  | zero =>
    intro n hn _ w
    obtain rfl : n = 0 := by omega
    go_enter Tryz.func144, Tryz.ntmps144
    go_wp2
    go_ret
    exact ⟨0, rfl, rfl, by simp [enough], by omega⟩
  | succ f ih =>
    intro n hn hb w
    by_cases h48 : n < 48
    · go_enter Tryz.func144, Tryz.ntmps144
      go_wp2
      go_ret
      exact ⟨0, rfl, rfl, .inl h48, by omega⟩
    · have IH := ih ((n + 1) / 2) (by omega) (by omega) w
      clear ih
      have e1 : ((n : Int) + 1) / 2 = (((n + 1) / 2 : Nat) : Int) := by omega
      have e2 : ((n : Int) + 1).tdiv 2 = (((n + 1) / 2 : Nat) : Int) := by rw [Int.tdiv_eq_ediv_of_nonneg (by omega)]; omega
      have hle : (n + 1) / 2 ≤ n := by omega
      have h3 : 2 * ((n + 1) / 2) ≤ n + 1 := by omega
      obtain ⟨q, hh⟩ : ∃ q, q = (n + 1) / 2 := ⟨_, rfl⟩
      rw [← hh] at IH e1 e2 hle h3
      have HH : Hid (q = (n + 1) / 2) := hh
      clear hh
      go_enter Tryz.func144, Tryz.ntmps144
      go_wp2_with (go_at_call 144; refine IH.mono ?_; rintro e w' ⟨r, rfl, hw, hr1, hr2⟩; subst hw)
      all_goals
        go_ret
        first
          | exact ⟨6 * q + 1, by simp, rfl, .inr (by rw [← HH.out]; exact ⟨by omega, enough_mono _ _ _ _ (by omega) hr1⟩), by omega⟩
          | exact ⟨4 * q + r, by simp, rfl, .inr (by rw [← HH.out]; exact ⟨by omega, enough_mono _ _ _ _ (by omega) hr1⟩), by omega⟩

def ltB (x y : Nat) : Bool := decide (x < y)
/-- How far two numbers are apart. -/
def adiff (x y : Nat) : Nat := if x < y then y - x else x - y
theorem ltB_lt {x y : Nat} (h : x < y) : ltB x y = true := by unfold ltB; simpa using h
theorem ltB_ge {x y : Nat} (h : y ≤ x) : ltB x y = false := by unfold ltB; simpa using h
theorem adiff_lt {x y : Nat} (h : x < y) : adiff x y = y - x := if_pos h
theorem adiff_ge {x y : Nat} (h : y ≤ x) : adiff x y = x - y := if_neg (by omega)
theorem ret_bool {a b : Bool} (h : a = b) : Ending.returned (.bool a) = .returned (.bool b) := by rw [h]

set_option maxRecDepth 10000 in
set_option maxHeartbeats 1000000 in
theorem distance_any (w : World) (ad ax ay : Option Addr) (bd od nd cd bx ox nx cx byy oy ny cy : Nat) (hsd : Sl ad bd od nd) (hsx : Sl ax bx ox nx) (hsy : Sl ay byy oy ny)
    (hd : Arr .u64 B w bd od nd) (hf : Free w bd od nd) (hx : Arr .u64 B w bx ox nx) (hy : Arr .u64 B w byy oy ny) (hn : nx = nd) (hny : ny ≤ nd) (hml : nd ≤ maxLen)
    (hap : 0 < ny → bd ≠ byy ∨ oy + ny ≤ od ∨ od + nd ≤ oy) :
    Calls Tryz.prog 171 #[.slice ad nd cd, .slice ax nx cx, .slice ay ny cy] w fun e w' => e = .returned (.bool (ltB (num B w bx ox nx) (num B w byy oy ny))) ∧ Chg w w' bd od (od + nd) ∧ Arr .u64 B w' bd od nd ∧
      num B w' bd od nd = adiff (num B w bx ox nx) (num B w byy oy ny) := by
  subst hn
  have hml' : nx ≤ 9223372036854775807 := hml
  go_enter Tryz.func171, Tryz.ntmps171
  go_wp2_with (first
    | (refine wpList_copyRow .u64 B rfl _ _ 22 22 rfl 98 Tryz.underlying22 size98 _ _ _ _ _ _ rfl rfl bd od bx ox hsd hsx hd hf hx ?_; intro w1 hcp)
    | (go_at_call 143; fail))
  rw [Nat.min_self] at hcp
  have hf1 := hcp.chg.free hf hd.lt
  have hy1 : Arr .u64 B w1 byy oy ny := hcp.chg.arr hy hy.lt (fun h => by have := hap h; omega)
  have hny1 : num B w1 byy oy ny = num B w byy oy ny := hcp.chg.num hy.lt (fun h => by have := hap h; omega)
  have hnx1 : num B w1 bd od nx = num B w bx ox nx := num_congr hcp.same
  refine (subFrom_any w1 ad ay bd od nx cd byy oy ny cy hsd hsy hcp.arr hf1 hy1 hny (fun h => by have := hap h; omega) hml).mono ?_
  rintro e w2 ⟨c, rfl, hch, ha2, hc1, hn2⟩
  rw [hnx1, hny1] at hn2
  have hlx := num_lt hx
  have hly : num B w byy oy ny < B ^ nx := Nat.lt_of_lt_of_le (num_lt hy) (Nat.pow_le_pow_right B_pos hny)
  have hl2 := num_lt ha2
  have hch2 : Chg w w2 bd od (od + nx) := hcp.chg.trans hch
  have hf2 := hch.free hf1 hcp.arr.lt
  have HM : Hid (num B w2 bd od nx + num B w byy oy ny = num B w bx ox nx + B ^ nx * c ∧ num B w bx ox nx < B ^ nx ∧ num B w byy oy ny < B ^ nx ∧ num B w2 bd od nx < B ^ nx) := ⟨hn2, hlx, hly, hl2⟩
  clear hn2 hlx hly hl2 hnx1 hny1 hcp hch hf1 hy1
  by_cases hc : c = 0
  · subst hc
    go_wp2
    go_ret
    have hM := HM.out
    rw [Nat.mul_zero] at hM
    exact ⟨ret_bool (ltB_ge (by omega)).symm, hch2, ha2, by rw [adiff_ge (by omega)]; omega⟩
  · have hc0 : ¬ ((c : Nat) : Int) = 0 := by omega
    go_wp2
    go_loopw [7, 18] (fun c i wr => ∃ k cc : Nat, k ≤ nx ∧ cc ≤ 1 ∧ i = .int .i64 k ∧ c = .int .u64 cc ∧ Chg w2 wr bd od (od + k) ∧ Arr .u64 B wr bd od nx ∧
        num B wr bd od k + num B w2 bd od k = 0 + B ^ k * cc)
      (fun _ i _ => nx - (intOf i).toNat)
    case atStart => exact ⟨0, 0, by omega, by omega, rfl, rfl, Chg.refl _ _ _ _, ha2, by simp [num_zero]⟩
    case round =>
      obtain ⟨k, cc, hk, hcc, rfl, rfl, hch, har, hnum⟩ := hrel
      by_cases hlt : k < nx
      · obtain rfl := hsd (by omega)
        have hzk := arr_cell har (i := k) (by omega)
        have hfk : wr.frozen? ⟨bd, od + k, none⟩ = false := (hch.free hf2 ha2.lt) k (by omega)
        have ezk : word wr bd (od + k) = word w2 bd (od + k) := word_of_cell (hch.cell _ (by omega))
        have h1 := sub64_x (word wr bd (od + k)) cc wr hcc
        have hlt1 := arr_lt har (i := k) (by omega)
        have hstep := sub_step (d := 0) B_pos (ezk ▸ hlt1) hcc hnum
        have H0 : num B wr bd od k + B ^ k * sb 0 (word wr bd (od + k)) cc + num B w2 bd od (k + 1) = 0 + B ^ (k + 1) * bw 0 (word wr bd (od + k)) cc := by
          rw [num_succ, ezk]; simpa using hstep
        have H : Hid _ := H0
        clear hnum hstep ezk H0
        go_wp2
        go_roundw
        case rel =>
          exact ⟨k + 1, _, by omega, bw_le _ _ _, by go_num, rfl, (hch.mono (Nat.le_refl _) (by omega)).set (by omega) (by omega) _, har.set (sb_lt _ _ _), by rw [num_store har (by omega)]; exact H.out⟩
        case measure => simp [intOf]; omega
      · obtain rfl : k = nx := by omega
        have hfin : num B wr bd od k = num B w byy oy ny - num B w bx ox k ∧ num B w bx ox k < num B w byy oy ny := by
          obtain ⟨m1, m2, m3, m4⟩ := HM.out
          obtain rfl : c = 1 := by omega
          have hl := num_lt har
          have hcc' : cc = 0 ∨ cc = 1 := by omega
          rcases hcc' with rfl | rfl <;> omega
        have hpost : Chg w wr bd od (od + k) := hch2.trans hch
        have Hf : Hid _ := hfin
        clear hfin hnum HM
        go_wp2
        go_ret
        exact ⟨ret_bool (ltB_lt Hf.out.2).symm, hpost, har, by rw [adiff_lt Hf.out.2]; exact Hf.out.1⟩
end Go.Proofs.YtjlkplidpdhgbaaGreatDoor

namespace Go.Rad
open Go Go.RowKit
/-- Only the cells in S have turned (and there may be new blocks). -/
structure ChgS (w w' : World) (S : Nat → Nat → Prop) : Prop where
  os : w'.os = w.os
  tape : w'.tape = w.tape
  output : w'.output = w.output
  size : w.heap.size ≤ w'.heap.size
  block : ∀ k, k < w.heap.size → (∀ i, ¬ S k i) → w'.heap[k]? = w.heap[k]?
  cell : ∀ k i, k < w.heap.size → ¬ S k i → w'.cell? ⟨k, i, none⟩ = w.cell? ⟨k, i, none⟩
  froz : ∀ k i, k < w.heap.size → w'.frozen? ⟨k, i, none⟩ = w.frozen? ⟨k, i, none⟩
theorem ChgS.refl (w : World) (S : Nat → Nat → Prop) : ChgS w w S := ⟨rfl, rfl, rfl, Nat.le_refl _, fun _ _ _ => rfl, fun _ _ _ _ => rfl, fun _ _ _ => rfl⟩
theorem ChgS.trans {a b c : World} {S : Nat → Nat → Prop} (h : ChgS a b S) (k : ChgS b c S) : ChgS a c S :=
  ⟨k.os.trans h.os, k.tape.trans h.tape, k.output.trans h.output, Nat.le_trans h.size k.size, fun i hi hs => (k.block i (Nat.lt_of_lt_of_le hi h.size) hs).trans (h.block i hi hs),
    fun i j hi hs => (k.cell i j (Nat.lt_of_lt_of_le hi h.size) hs).trans (h.cell i j hi hs), fun i j hi => (k.froz i j (Nat.lt_of_lt_of_le hi h.size)).trans (h.froz i j hi)⟩
theorem ChgS.mono {a b : World} {S T : Nat → Nat → Prop} (h : ChgS a b S) (hst : ∀ k i, k < a.heap.size → S k i → T k i) : ChgS a b T :=
  ⟨h.os, h.tape, h.output, h.size, fun k hk ht => h.block k hk (fun i hs => ht i (hst k i hk hs)), fun k i hk ht => h.cell k i hk (fun hs => ht (hst k i hk hs)), h.froz⟩
theorem ChgS.drewN {a b : World} {S : Nat → Nat → Prop} (h : ChgS a b S) (n : Nat) : ChgS a (b.drewN n) S := ⟨h.os, h.tape, h.output, h.size, h.block, h.cell, h.froz⟩
theorem ChgS.drew {a b : World} {S : Nat → Nat → Prop} (h : ChgS a b S) : ChgS a b.drew S := ⟨h.os, h.tape, h.output, h.size, h.block, h.cell, h.froz⟩
theorem Chg.toS {w w' : World} {b lo hi : Nat} (h : Chg w w' b lo hi) (hlh : lo < hi) : ChgS w w' (fun k i => k = b ∧ lo ≤ i ∧ i < hi) :=
  ⟨h.os, h.tape, h.output, h.size, fun k hk hs => by
      by_cases hkb : k = b
      · subst hkb
        exact absurd ⟨rfl, Nat.le_refl _, hlh⟩ (hs lo)
      · exact h.block k hk hkb,
    fun k i hk hs => h.cellAt hk (by omega), fun k i hk => h.frozAt hk⟩
theorem ChgS.arr {w w' : World} {S : Nat → Nat → Prop} (h : ChgS w w' S) {k : IntKind} {β c o n : Nat} (ha : Arr k β w c o n) (hap : ∀ i, i < n → ¬ S c (o + i)) : Arr k β w' c o n := by
  intro i hi
  have e := h.cell c (o + i) (ha.lt (by omega)) (hap i hi)
  rw [word_of_cell e, e]
  exact ha i hi
theorem ChgS.num {w w' : World} {S : Nat → Nat → Prop} (h : ChgS w w' S) {k : IntKind} {β c o n : Nat} (ha : Arr k β w c o n) (hap : ∀ i, i < n → ¬ S c (o + i)) : num β w' c o n = num β w c o n :=
  num_congr fun i hi => word_of_cell (h.cell c (o + i) (ha.lt (by omega)) (hap i hi))
theorem ChgS.free {w w' : World} {S : Nat → Nat → Prop} (h : ChgS w w' S) {c o n : Nat} (hf : Free w c o n) (hc : 0 < n → c < w.heap.size) : Free w' c o n :=
  fun i hi => (h.froz c (o + i) (hc (by omega))).trans (hf i hi)
theorem ChgS.below {w w' : World} {S : Nat → Nat → Prop} {base : Nat} (h : ChgS w w' S) (h1 : ∀ k i, k < base → ¬ S k i) (h2 : base ≤ w.heap.size) : Below base w w' :=
  ⟨h.os, h.tape, h.output, h.size, fun k hk => h.block k (by omega) (fun i => h1 k i hk)⟩
end Go.Rad
