/- A part of the proof: W34. -/
import Derived.Test.YtjlkplidpdhgbaaGreatDoorP33
import Derived.Test.YtjlkplidpdhgbaaGreatDoorP06
set_option linter.all false

namespace Go.Proofs.YtjlkplidpdhgbaaGreatDoor
open Go Go.Proofs Go.RowKit Go.Rad


structure LadW (w wr : World) (D : Nat) (pv : Value) (xs : List Value) : Prop where
  below : Below w.heap.size w wr
  lt : w.heap.size + 1 < wr.heap.size
  r0 : wr.cell? ⟨w.heap.size, 0, none⟩ = some (.int .i64 0)
  r1 : wr.cell? ⟨w.heap.size, 1, none⟩ = some (.slice none 0 0)
  f0 : wr.frozen? ⟨w.heap.size, 0, none⟩ = false
  f1 : wr.frozen? ⟨w.heap.size, 1, none⟩ = false
  l0 : wr.cell? ⟨w.heap.size + 1, 0, none⟩ = some (.int .i64 (D : Int))
  l1 : wr.cell? ⟨w.heap.size + 1, 1, none⟩ = some pv
  g1 : wr.frozen? ⟨w.heap.size + 1, 1, none⟩ = false
  pows : Pows wr (w.heap.size + 2) D pv xs
  nil : xs = [] → pv = .slice none 0 0
theorem LadW.below' {w wr w' : World} {D : Nat} {pv : Value} {xs : List Value} (h : LadW w wr D pv xs) (hb : Below wr.heap.size wr w') : LadW w w' D pv xs := by
  have l0 : w.heap.size < wr.heap.size := by have := h.lt; omega
  exact ⟨h.below.trans (hb.mono h.below.size), Nat.lt_of_lt_of_le h.lt hb.size, (hb.cell (p := ⟨_, 0, none⟩) l0).trans h.r0, (hb.cell (p := ⟨_, 1, none⟩) l0).trans h.r1,
    (hb.frozen (p := ⟨_, 0, none⟩) l0).trans h.f0, (hb.frozen (p := ⟨_, 1, none⟩) l0).trans h.f1, (hb.cell (p := ⟨_, 0, none⟩) h.lt).trans h.l0, (hb.cell (p := ⟨_, 1, none⟩) h.lt).trans h.l1,
    (hb.frozen (p := ⟨_, 1, none⟩) h.lt).trans h.g1, h.pows.below hb, h.nil⟩
theorem mag_new {w : World} {b o n c x : Nat} (h : Mag w (.slice (some ⟨b, o, none⟩) n c) x n) (hx : 0 < x) : b < w.heap.size := by
  have hn : 0 < n := by
    rcases Nat.eq_zero_or_pos n with h0 | h0
    · have := h.zero_iff.2 h0; omega
    · exact h0
  obtain ⟨b', o', c', hv, _, ha, _⟩ := h.row hn
  simp only [Value.slice.injEq, Option.some.injEq, Addr.mk.injEq, and_true, true_and] at hv
  obtain ⟨⟨rfl, rfl⟩, rfl⟩ := hv
  exact ha.lt hn
theorem mag_new' {w : World} {v : Value} {b o n c x m : Nat} (h : Mag w v x m) (he : v = .slice (some ⟨b, o, none⟩) n c) (hx : 0 < x) : b < w.heap.size := by
  subst he
  have : m = n := by
    obtain ⟨ao, b', o', c', hv, _⟩ := h
    simp only [Value.slice.injEq] at hv
    exact hv.2.1.symm
  subst this
  exact mag_new h hx
theorem pow10_lt {D j : Nat} (hD : D ≤ 608) : 10 ^ (D * 2 ^ j) < B ^ (128 * 2 ^ j) := by
  have hp : 0 < 2 ^ j := Nat.pow_pos (by decide)
  have h1 : 10 ^ (D * 2 ^ j) ≤ 10 ^ (19 * (32 * 2 ^ j)) := Nat.pow_le_pow_right (by decide) (by
    rw [← Nat.mul_assoc]; exact Nat.mul_le_mul_right _ hD)
  have h2 : 10 ^ (19 * (32 * 2 ^ j)) ≤ B ^ (32 * 2 ^ j) := by rw [Nat.pow_mul]; exact Nat.pow_le_pow_left (by decide) _
  have h3 : B ^ (32 * 2 ^ j) < B ^ (128 * 2 ^ j) := Nat.pow_lt_pow_right (by decide) (Nat.mul_lt_mul_of_pos_right (by decide) hp)
  exact Nat.lt_of_le_of_lt (Nat.le_trans h1 h2) h3
theorem LadW.append {w wn w' : World} {D g cap n : Nat} {pv u : Value} {xs : List Value} (h : LadW w wn D pv xs) (hrow : w'.ownsRow (w.heap.size + 2) 22 1 (.slice (some ⟨g, 0, none⟩) (xs.length + 1) cap) (xs.length + 1) (xs ++ [u]))
    (hg : wn.grownBy w' pv.ownBlock) (hgg : pv.ownBlock = some g ∨ g = wn.heap.size) (hlt : g < w'.heap.size) (hu : Mag wn u (10 ^ (D * 2 ^ xs.length)) n) (hn : n ≤ 128 * 2 ^ xs.length)
    (hnew : ∀ b o n c : Nat, u = .slice (some ⟨b, o, none⟩) n c → some b ≠ pv.ownBlock ∧ b < wn.heap.size) :
    LadW w (w'.setCell ⟨w.heap.size + 1, 1, none⟩ (.slice (some ⟨g, 0, none⟩) (xs.length + 1) cap)) D (.slice (some ⟨g, 0, none⟩) (xs.length + 1) cap) (xs ++ [u]) ∧
    w'.cell? ⟨w.heap.size + 1, 1, none⟩ = some pv ∧ w'.frozen? ⟨w.heap.size + 1, 1, none⟩ = false := by
  have hbase := h.pows.row.lt
  have ho0 : some (w.heap.size) ≠ pv.ownBlock := fun e => by have := (hbase _ e.symm).1; omega
  have ho1 : some (w.heap.size + 1) ≠ pv.ownBlock := fun e => by have := (hbase _ e.symm).1; omega
  have hlt1 := h.lt
  have hgb : w.heap.size + 2 ≤ g := by
    rcases hgg with h1 | h1
    · exact (hbase _ h1).1
    · omega
  have hP := h.pows.appended hu hn hnew (fun t ht b o n c he => by
    obtain ⟨n', h1, _⟩ := h.pows.mag t ht
    rw [he] at h1
    have hnn : n' = n := by
      obtain ⟨ao, b', o', c', hv, _⟩ := h1
      simp only [Value.slice.injEq] at hv
      exact hv.2.1.symm
    subst hnn
    exact mag_new h1 (Nat.pow_pos (by decide))) hrow hg hgg
  have hB : Below w.heap.size w w' := ⟨hg.os.trans h.below.os, hg.tape.trans h.below.tape, hg.output.trans h.below.output, Nat.le_trans h.below.size hg.size, fun k hk => by
    rw [hg.block k (Nat.lt_of_lt_of_le hk h.below.size) (fun e => by have := (hbase _ e.symm).1; omega)]
    exact h.below.block k hk⟩
  have c1 := hg.cell h.l1 ho1
  have z1 : w'.frozen? ⟨w.heap.size + 1, 1, none⟩ = false := (World.frozen?_of_block (hg.block (w.heap.size + 1) hlt1 ho1)).trans h.g1
  refine ⟨⟨hB.setCell (by show w.heap.size ≤ w.heap.size + 1; omega) _, by simp; have := hg.size; omega, ?_, ?_, ?_, ?_, ?_, ?_, ?_, ?_, fun e => by simp at e⟩, c1, z1⟩
  · rw [cell_other (.inl (by omega))]; exact hg.cell h.r0 ho0
  · rw [cell_other (.inl (by omega))]; exact hg.cell h.r1 ho0
  · rw [World.frozen?_setCell]; exact (World.frozen?_of_block (hg.block w.heap.size (by omega) ho0)).trans h.f0
  · rw [World.frozen?_setCell]; exact (World.frozen?_of_block (hg.block w.heap.size (by omega) ho0)).trans h.f1
  · rw [cell_other (.inr (by omega))]; exact hg.cell h.l0 ho1
  · exact cell_same c1
  · rw [World.frozen?_setCell]; exact z1
  · refine ⟨?_, fun t ht => ?_, hP.off⟩
    · have hk := hP.row.kept (w' := w'.setCell ⟨w.heap.size + 1, 1, none⟩ (.slice (some ⟨g, 0, none⟩) (xs.length + 1) cap)) (row := some (w.heap.size + 1))
        ⟨rfl, rfl, rfl, by simp, fun k hk hne => Below.heap_setCell _ _ _ _ (by intro e; exact hne (by rw [e]))⟩ (.inr (by show some g ≠ _; simp; omega))
      exact hk
    · obtain ⟨n', h1, h2⟩ := hP.mag t ht
      refine ⟨n', h1.set ?_ rfl, h2⟩
      rw [c1]
      intro y hy
      have := Option.some.inj hy
      rcases h.pows.row.2 with ⟨h3, _⟩ | ⟨_, _, _, h3, _⟩ <;> rw [h3] at this <;> exact Value.noConfusion this

set_option maxRecDepth 10000 in
set_option maxHeartbeats 4000000 in
theorem ladderFor_any (w : World) (n : Nat) (hn : n < 160) :
    Calls Tryz.prog 71 #[.int .i64 n] w fun e w' => ∃ (ap : Option Addr) (bp op kp cp D : Nat), e = .returned (.agg #[.int .i64 D, .slice ap kp cp]) ∧ Sl ap bp op kp ∧ kp ≤ 3 ∧ kp ≤ cp ∧ 0 < D ∧ D ≤ 608 ∧ Below w.heap.size w w' ∧ Lad w' bp op D kp := by
  obtain ⟨i0, hi0, hz0, hz1, hz2⟩ := info_parts' info22
  go_enter Tryz.func71, Tryz.ntmps71
  go_wp2
  go_loop [3, 4] (fun c k => ∃ c' k' : Nat, c = .int .i64 (c' : Int) ∧ k = .int .i64 (k' : Int) ∧ 1 ≤ c' ∧ ((k' = 0 ∧ c' ≤ 169) ∨ (k' = 1 ∧ c' ≤ 85) ∨ (k' = 2 ∧ c' ≤ 43) ∨ (k' = 3 ∧ c' ≤ 22))) (fun c _ => (intOf c).toNat)
  case atStart => exact ⟨n * 20 / 19 + 1, 0, by go_num, rfl, by omega, by omega⟩
  case round =>
    obtain ⟨c, k, rfl, rfl, hc1, hck⟩ := hrel
    by_cases h32 : 32 < c
    · have h1 : (32 : Int) < (c : Int) := by omega
      go_wp2
      go_round
      case rel => exact ⟨(c + 1) / 2, k + 1, by go_num, by go_num, by omega, by omega⟩
      case measure => simp [intOf]; omega
    · have h1 : ¬ (32 : Int) < (c : Int) := by omega
      obtain ⟨D, hD⟩ : ∃ D, D = c * 19 := ⟨_, rfl⟩
      have hD1 : (c : Int) * 19 = (D : Int) := by omega
      have hD2 : D ≤ 608 := by omega
      have hD3 : 0 < D := by omega
      have hk3 : k ≤ 3 := by omega
      clear hck hD
      go_wp2
      have L0 : LadW w ((w.alloc (Obj.cells #[Value.int IntKind.i64 0, Value.slice none 0 0] 95)).alloc (Obj.cells #[Value.int IntKind.i64 (D : Int), Value.slice none 0 0] 95)) D (.slice none 0 0) [] :=
        ⟨bel2 w _ _, by simp, by simp [go_sem], by simp [go_sem], by simp [go_sem], by simp [go_sem], by simp [go_sem], by simp [go_sem], by simp [go_sem], ⟨World.ownsRow_nil _ _ _ _, fun t h => by simp at h, fun t h => by simp at h⟩, fun _ => rfl⟩
      go_loopw [22] (fun i wr => ∃ (j : Nat) (pv : Value) (xs : List Value), i = .int .i64 (j : Int) ∧ j ≤ k ∧ xs.length = j ∧ LadW w wr D pv xs) (fun i _ => k - (intOf i).toNat)
      case atStart => exact ⟨0, _, [], rfl, by omega, rfl, L0⟩
      case round =>
        clear L0
        obtain ⟨j, pv, xs, rfl, hjk, hxl, LW⟩ := hrel
        by_cases hj : j = k
        · subst hj
          have m0 := LW.l0
          have m1 := LW.l1
          have llt := LW.lt
          have r0 := LW.r0
          have r1 := LW.r1
          have f0 := LW.f0
          have f1 := LW.f1
          have hjj : ¬ (j : Int) < (j : Int) := by omega
          have HL : Hid _ := LW
          rcases Nat.eq_zero_or_pos j with h0 | h0
          · obtain rfl : xs = [] := List.length_eq_zero_iff.1 (by omega)
            obtain rfl := LW.nil rfl
            clear LW
            go_wp2
            refine bodyPost_ret (v := .agg #[.int .i64 (D : Int), .slice none 0 0]) (by simp [results, go_sem, loadVar, World.cell?_setCell_same, *]) rfl ?_
            exact ⟨none, 0, 0, 0, 0, D, rfl, fun h => by omega, by omega, by omega, hD3, hD2, (HL.out.below.setCell (by simp) _).setCell (by simp) _, fun i hi => by omega⟩
          · obtain ⟨g, cap, rfl, hgb, hgl, hcap1, hcap2, hcells⟩ := LW.pows.cell (by omega)
            clear LW
            have HC : Hid _ := hcells
            clear hcells
            go_wp2
            refine bodyPost_ret (v := .agg #[.int .i64 (D : Int), .slice (some ⟨g, 0, none⟩) xs.length cap]) (by simp [results, go_sem, loadVar, World.cell?_setCell_same, *]) rfl ?_
            refine ⟨some ⟨g, 0, none⟩, g, 0, xs.length, cap, D, rfl, Sl.mk _ _ _, by omega, hcap1, hD3, hD2, (HL.out.below.setCell (by simp) _).setCell (by simp) _, fun i hi => ?_⟩
            obtain ⟨n', hm, hn'⟩ := HL.out.pows.mag i hi
            have hc := HC.out i hi
            refine ⟨_, n', ?_, (hm.set (by rw [r0]; intro q; simp) rfl).set (by rw [cell_other (by omega), r1]; intro q; simp) rfl, ?_⟩
            · rw [Nat.zero_add, cell_other (.inl (by omega)), cell_other (.inl (by omega))]; exact hc
            · have h2 : 2 ^ i ≤ 2 ^ 3 := Nat.pow_le_pow_right (by decide) (by omega)
              omega
        · have hj1 : (j : Int) < (k : Int) := by omega
          have m0 := LW.l0
          have m1 := LW.l1
          have llt := LW.lt
          by_cases hj0 : j = 0
          · subst hj0
            obtain rfl : xs = [] := List.length_eq_zero_iff.1 hxl
            obtain rfl := LW.nil rfl
            go_wp2
            refine wp_world (fun w1 => w1 = wr) rfl ?_
            rintro w1 rfl
            refine wp_drawn mixed [⟨27, [], [], [5]⟩, ⟨28, [0], [0], []⟩, ⟨29, [], [], []⟩, ⟨30, [], [], [5]⟩, ⟨31, [3], [3], []⟩, ⟨32, [2, 4], [2, 3, 4], []⟩, ⟨33, [5], [2, 3, 4, 5], []⟩, ⟨34, [6], [2, 3, 4, 5, 6], []⟩] [] (by kernel_rfl) 57 rfl (by kernel_rfl) (fun (i : Nat) (v : Value) (wq : World) => match i with | 0 => v = .pointer (some ⟨w.heap.size + 1, 1, none⟩) | 1 => v = .slice none 0 0 | 2 => IsInt wq v 10 | 3 => v = .pointer (some ⟨w.heap.size + 1, 0, none⟩) | 4 => v = .int .i64 ((D : Int)) | 5 => IsInt wq v ((10 : Int) ^ D) | 6 => ∃ n, Mag wq v (10 ^ D) n | 7 => ∃ g, v = .slice (some ⟨g, 0, none⟩) 1 1 ∧ ∃ u n, wq.cell? ⟨g, 0, none⟩ = some u ∧ Mag wq u (10 ^ D) n | _ => True) (fun _ wq => Below w1.heap.size w1 wq) (fun wx wy => Below wx.heap.size wx wy) (Below.refl _ _).drew (fun i v wx wy h hx => match i, h with | 0, h => h | 1, h => h | 3, h => h | 4, h => h | 2, h => h.below hx | 5, h => h.below hx | 6, h => by obtain ⟨n, h⟩ := h; exact ⟨n, h.below hx⟩ | 7, h => by obtain ⟨g, h1, u, n, h2, h3⟩ := h; exact ⟨g, h1, u, n, (hx.cell (p := ⟨g, 0, none⟩) (block_lt h2)).trans h2, h3.below hx⟩ | n + 8, _ => trivial) ?_ ?_
            · intro i o r ho hr L fr wx hW hL hpr hds hdef hpre hfree
              clear hL hpr hds hdef
              match i, ho, hr with
              | 0, ho, hr =>
                obtain rfl := Option.some.inj ho; obtain rfl := Option.some.inj hr
                have t5 := ev_tmp (show fr.eval (.tmp 5) = .pointer (some ⟨w.heap.size + 1, 0, none⟩) from hfree 5 (by decide))
                clear hpre hfree
                refine stpK rfl rfl fun K hK => ?_
                go_simp
                exact hK _ _ ⟨rfl, hW, Below.refl _ _, fun h => (List.not_mem_nil h).elim⟩
              | 1, ho, hr =>
                obtain rfl := Option.some.inj ho; obtain rfl := Option.some.inj hr
                have e0 := ev_tmp (show fr.eval (.tmp 27) = .pointer (some ⟨w.heap.size + 1, 1, none⟩) from hpre 0 (by decide) _ rfl)
                clear hpre hfree
                have c0 := (hW.cell (p := ⟨w.heap.size + 1, 1, none⟩) llt).trans m1
                refine stpK rfl rfl fun K hK => ?_
                go_simp
                exact hK _ _ ⟨rfl, hW, Below.refl _ _, fun h => (List.not_mem_nil h).elim⟩
              | 2, ho, hr =>
                obtain rfl := Option.some.inj ho; obtain rfl := Option.some.inj hr
                clear hpre hfree
                refine stpK rfl rfl fun K hK => ?_
                go_simp
                refine (of_any wx 10 (by omega) (by omega)).mono ?_
                rintro e wy ⟨v4, rfl, hb, hm4⟩
                exact hK _ _ ⟨hm4, hW.trans (hb.mono hW.size), hb, fun h => (List.not_mem_nil h).elim⟩
              | 3, ho, hr =>
                obtain rfl := Option.some.inj ho; obtain rfl := Option.some.inj hr
                have t5 := ev_tmp (show fr.eval (.tmp 5) = .pointer (some ⟨w.heap.size + 1, 0, none⟩) from hfree 5 (by decide))
                clear hpre hfree
                refine stpK rfl rfl fun K hK => ?_
                go_simp
                exact hK _ _ ⟨rfl, hW, Below.refl _ _, fun h => (List.not_mem_nil h).elim⟩
              | 4, ho, hr =>
                obtain rfl := Option.some.inj ho; obtain rfl := Option.some.inj hr
                have e3 := ev_tmp (show fr.eval (.tmp 30) = .pointer (some ⟨w.heap.size + 1, 0, none⟩) from hpre 3 (by decide) _ rfl)
                clear hpre hfree
                have c0 := (hW.cell (p := ⟨w.heap.size + 1, 0, none⟩) llt).trans m0
                refine stpK rfl rfl fun K hK => ?_
                go_simp
                exact hK _ _ ⟨rfl, hW, Below.refl _ _, fun h => (List.not_mem_nil h).elim⟩
              | 5, ho, hr =>
                obtain rfl := Option.some.inj ho; obtain rfl := Option.some.inj hr
                obtain ⟨u2, q2⟩ : ∃ u, fr.eval (.tmp 29) = u := ⟨_, rfl⟩
                have p2 : IsInt wx u2 10 := by rw [← q2]; exact hpre 2 (by decide) _ rfl
                have e2 := ev_tmp q2; clear q2
                have e4 := ev_tmp (show fr.eval (.tmp 31) = .int .i64 ((D : Int)) from hpre 4 (by decide) _ rfl)
                clear hpre hfree
                refine stpK rfl rfl fun K hK => ?_
                go_simp
                refine (power_any wx _ 10 1 D p2 (by decide) (by omega) (by omega) (by omega)).mono ?_
                rintro e wy ⟨v4, rfl, hb, hm4⟩
                exact hK _ _ ⟨hm4, hW.trans (hb.mono hW.size), hb, fun h => (List.not_mem_nil h).elim⟩
              | 6, ho, hr =>
                obtain rfl := Option.some.inj ho; obtain rfl := Option.some.inj hr
                obtain ⟨u5, q5⟩ : ∃ u, fr.eval (.tmp 32) = u := ⟨_, rfl⟩
                have p5 : IsInt wx u5 ((10 : Int) ^ D) := by rw [← q5]; exact hpre 5 (by decide) _ rfl
                have e5 := ev_tmp q5; clear q5
                clear hpre hfree
                refine stpK rfl rfl fun K hK => ?_
                go_simp
                refine (magnitude_any wx _ _ p5).mono ?_
                rintro e wy ⟨v4, n4, rfl, hb, hm4⟩
                exact hK _ _ ⟨⟨n4, by rw [Int.natAbs_pow] at hm4; exact hm4⟩, hW.trans (hb.mono hW.size), hb, fun h => (List.not_mem_nil h).elim⟩
              | 7, ho, hr =>
                obtain rfl := Option.some.inj ho; obtain rfl := Option.some.inj hr
                obtain ⟨u6, q6⟩ : ∃ u, fr.eval (.tmp 33) = u := ⟨_, rfl⟩
                have p6 : ∃ n, Mag wx u6 (10 ^ D) n := by rw [← q6]; exact hpre 6 (by decide) _ rfl
                have e6 := ev_tmp q6; clear q6
                clear hpre hfree
                refine stpK rfl rfl fun K hK => ?_
                obtain ⟨n4, hm4⟩ := p6
                obtain ⟨ua, ub, uo, uc, rfl, _⟩ := id hm4
                go_simp
                exact hK _ _ ⟨⟨wx.heap.size, rfl, _, n4, (show (wx.alloc (.cells #[.slice ua n4 uc] 22)).cell? ⟨wx.heap.size, 0, none⟩ = some (.slice ua n4 uc) by rw [World.cell?_alloc_at (w := wx) _ _ wx.heap.size 0 rfl]; rfl), hm4.below (bel1 wx _)⟩, hW.trans ((bel1 wx _).mono hW.size), bel1 wx _, fun h => (List.not_mem_nil h).elim⟩
              | n + 8, ho, hr => exact absurd hr (by simp)
            · intro vs wn hvs hW1 hap0
              clear hap0
              have e0 : vs 0 = .pointer (some ⟨w.heap.size + 1, 1, none⟩) := hvs 0 (by decide)
              have e1 : vs 1 = .slice none 0 0 := hvs 1 (by decide)
              obtain ⟨u2, e2⟩ : ∃ u, vs 2 = u := ⟨_, rfl⟩
              have p2 : IsInt wn u2 10 := by rw [← e2]; exact hvs 2 (by decide)
              have e3 : vs 3 = .pointer (some ⟨w.heap.size + 1, 0, none⟩) := hvs 3 (by decide)
              have e4 : vs 4 = .int .i64 ((D : Int)) := hvs 4 (by decide)
              obtain ⟨u5, e5⟩ : ∃ u, vs 5 = u := ⟨_, rfl⟩
              have p5 : IsInt wn u5 ((10 : Int) ^ D) := by rw [← e5]; exact hvs 5 (by decide)
              obtain ⟨u6, e6⟩ : ∃ u, vs 6 = u := ⟨_, rfl⟩
              have p6 : ∃ n, Mag wn u6 (10 ^ D) n := by rw [← e6]; exact hvs 6 (by decide)
              obtain ⟨u7, e7⟩ : ∃ u, vs 7 = u := ⟨_, rfl⟩
              have p7 : ∃ g, u7 = .slice (some ⟨g, 0, none⟩) 1 1 ∧ ∃ u n, wn.cell? ⟨g, 0, none⟩ = some u ∧ Mag wn u (10 ^ D) n := by rw [← e7]; exact hvs 7 (by decide)
              simp only [puts, Nat.reduceAdd, e0, e1, e2, e3, e4, e5, e6, e7, Act.put, List.setIfInBounds_toArray, List.set_cons_zero, List.set_cons_succ, List.drop_succ_cons, List.drop_zero, List.length_cons, List.length_nil]
              clear hvs e0 e1 e2 e3 e4 e5 e6 e7
              have L1 := LW.below' hW1
              obtain ⟨g7, rfl, u7, n7, hc7, hm7⟩ := p7
              clear p2 p5 p6 hW1 LW
              have hown := L1.pows.row
              have hbase : w.heap.size + 2 ≤ wn.heap.size := L1.lt
              have hl1 := L1.l1
              have hf1 := L1.g1
              clear m0 m1 llt
              refine wpList_append_lies _ rfl _ _ 93 rfl (w.heap.size + 2) 22 i0 (.slice none 0 0) 1 24 underlying93 hi0 hz0 hz1 hz2 rfl (by omega) (.slice none 0 0) 0 [] rfl hown ⟨g7, 0, none⟩ 1 1 [u7] rfl rfl ?_ ?_ (by omega) (by unfold maxLen; omega) (by omega) hbase wn.heap.size rfl ?_
              · intro i v hv
                cases i with
                | zero => simp at hv; subst hv; exact hc7
                | succ i => simp at hv
              · intro v hv
                simp at hv; subst hv
                obtain ⟨ao, b, o, c, rfl, _⟩ := hm7
                rfl
              intro g' cap' w' hrow hgrow hgg hglt
              have hE := L1.append hrow hgrow hgg hglt (by simpa using hm7) (hm7.len_le (by have := pow10_lt (j := 0) hD2; simpa using this)) (fun b o n c he => ⟨by simp [Value.ownBlock], mag_new' hm7 he (Nat.pow_pos (by decide))⟩)
              obtain ⟨hP, hc1, hfz1⟩ := hE
              clear hrow hgrow hgg hown hm7 hc7 hl1 hf1 L1
              have HP : Hid _ := hP
              clear hP
              go_wp2
              go_roundw
              case rel => exact ⟨0 + 1, _, _, by go_num, by omega, by first | (simp; done) | (simp; omega), HP.out⟩
              case measure => simp [intOf]; omega
          · obtain ⟨t, rfl⟩ : ∃ t, j = t + 1 := ⟨j - 1, by omega⟩
            have hj0' : ¬ ((t + 1 : Nat) : Int) = 0 := by omega
            have e1 : ((t + 1 : Nat) : Int) - 1 = (t : Int) := by omega
            obtain ⟨g, cap, rfl, hgb, hgl, hcap1, hcap2, hcells⟩ := LW.pows.cell (by omega)
            have mg := hcells t (by omega)
            obtain ⟨pn, hpw, hpn⟩ := LW.pows.mag t (by omega)
            obtain ⟨pw, hpwv⟩ : ∃ u, xs[t] = u := ⟨_, rfl⟩
            rw [hpwv] at mg hpw
            have hpn2 : pn ≤ 512 := by
              have h2 : 2 ^ t ≤ 2 ^ 2 := Nat.pow_le_pow_right (by decide) (by omega)
              omega
            have hpe : 10 ^ (D * 2 ^ t) * 10 ^ (D * 2 ^ t) = 10 ^ (D * 2 ^ (t + 1)) := by
              rw [← Nat.pow_add, Nat.pow_succ]; congr 1; rw [Nat.mul_two, Nat.mul_add]
            have hxl' := hxl
            rw [hxl] at m1 hcap1
            unfold maxLen at hcap2
            have glt := hgl
            have hpos10 : 0 < 10 ^ (D * 2 ^ (t + 1)) := Nat.pow_pos (by decide)
            obtain ⟨an, ab, ao, ac, rfl, _⟩ := id hpw
            have wt : IntKind.i64.wrap (t : Int) = (t : Int) := by rw [IntKind.wrap_i64]; omega
            have i1 : (t : Int) < (t : Int) + 1 := by omega
            obtain ⟨V, hV⟩ : ∃ V, 10 ^ (D * 2 ^ (t + 1)) = V := ⟨_, rfl⟩
            obtain ⟨Y, hY⟩ : ∃ V, 10 ^ (D * 2 ^ t) = V := ⟨_, rfl⟩
            rw [hV] at hpe hpos10
            rw [hY] at hpw hpe
            have hVB : V < B ^ (128 * 2 ^ (t + 1)) := by rw [← hV]; exact pow10_lt hD2
            have HPE : Hid (Y * Y = V) := hpe
            have HPOS : Hid (0 < V) := hpos10
            have HV : Hid (10 ^ (D * 2 ^ (t + 1)) = V) := hV
            have HVB : Hid _ := hVB
            clear hcells hpwv hpn hgl hgb hpe hpos10 hV hY hVB
            go_wp2
            refine wp_world (fun w1 => w1 = wr) rfl ?_
            rintro w1 rfl
            refine wp_drawn mixed [⟨37, [], [], [5]⟩, ⟨38, [0], [0], []⟩, ⟨39, [], [], [5]⟩, ⟨40, [2], [2], []⟩, ⟨41, [], [], [6]⟩, ⟨42, [4], [4], []⟩, ⟨43, [3, 5], [2, 3, 4, 5], []⟩, ⟨44, [6], [2, 3, 4, 5, 6], []⟩, ⟨45, [], [], [5]⟩, ⟨46, [8], [8], []⟩, ⟨47, [], [], [6]⟩, ⟨48, [10], [10], []⟩, ⟨49, [9, 11], [8, 9, 10, 11], []⟩, ⟨50, [12], [8, 9, 10, 11, 12], []⟩, ⟨51, [7, 13], [2, 3, 4, 5, 6, 7, 8, 9, 10, 11, 12, 13], []⟩, ⟨52, [14], [2, 3, 4, 5, 6, 7, 8, 9, 10, 11, 12, 13, 14], []⟩] [] (by kernel_rfl) 57 rfl (by kernel_rfl) (fun (i : Nat) (v : Value) (wq : World) => match i with | 0 => v = .pointer (some ⟨w.heap.size + 1, 1, none⟩) | 1 => v = .slice (some ⟨g, 0, none⟩) (t + 1) (cap) | 2 => v = .pointer (some ⟨w.heap.size + 1, 1, none⟩) | 3 => v = .slice (some ⟨g, 0, none⟩) (t + 1) (cap) | 4 => v = .int .i64 (((t + 1 : Nat) : Int)) | 5 => v = .int .i64 ((t : Int)) | 6 => v = .pointer (some ⟨g, t, none⟩) | 7 => v = .slice an pn ac | 8 => v = .pointer (some ⟨w.heap.size + 1, 1, none⟩) | 9 => v = .slice (some ⟨g, 0, none⟩) (t + 1) (cap) | 10 => v = .int .i64 (((t + 1 : Nat) : Int)) | 11 => v = .int .i64 ((t : Int)) | 12 => v = .pointer (some ⟨g, t, none⟩) | 13 => v = .slice an pn ac | 14 => ∃ n, Mag wq v V n ∧ ∀ b o n c : Nat, v = .slice (some ⟨b, o, none⟩) n c → w1.heap.size ≤ b | 15 => ∃ g, v = .slice (some ⟨g, 0, none⟩) 1 1 ∧ ∃ u n, wq.cell? ⟨g, 0, none⟩ = some u ∧ Mag wq u V n ∧ ∀ b o n c : Nat, u = .slice (some ⟨b, o, none⟩) n c → w1.heap.size ≤ b | _ => True) (fun _ wq => Below w1.heap.size w1 wq) (fun wx wy => Below wx.heap.size wx wy) (Below.refl _ _).drew (fun i v wx wy h hx => match i, h with | 0, h => h | 1, h => h | 2, h => h | 3, h => h | 4, h => h | 5, h => h | 6, h => h | 7, h => h | 8, h => h | 9, h => h | 10, h => h | 11, h => h | 12, h => h | 13, h => h | 14, h => by obtain ⟨n, h, h' ⟩ := h; exact ⟨n, h.below hx, h'⟩ | 15, h => by obtain ⟨g, h1, u, n, h2, h3, h4⟩ := h; exact ⟨g, h1, u, n, (hx.cell (p := ⟨g, 0, none⟩) (block_lt h2)).trans h2, h3.below hx, h4⟩ | n + 16, _ => trivial) ?_ ?_
            · intro i o r ho hr L fr wx hW hL hpr hds hdef hpre hfree
              clear hL hpr hds hdef
              match i, ho, hr with
              | 0, ho, hr =>
                obtain rfl := Option.some.inj ho; obtain rfl := Option.some.inj hr
                have t5 := ev_tmp (show fr.eval (.tmp 5) = .pointer (some ⟨w.heap.size + 1, 0, none⟩) from hfree 5 (by decide))
                clear hpre hfree
                refine stpK rfl rfl fun K hK => ?_
                go_simp
                exact hK _ _ ⟨rfl, hW, Below.refl _ _, fun h => (List.not_mem_nil h).elim⟩
              | 1, ho, hr =>
                obtain rfl := Option.some.inj ho; obtain rfl := Option.some.inj hr
                have e0 := ev_tmp (show fr.eval (.tmp 37) = .pointer (some ⟨w.heap.size + 1, 1, none⟩) from hpre 0 (by decide) _ rfl)
                clear hpre hfree
                have c0 := (hW.cell (p := ⟨w.heap.size + 1, 1, none⟩) llt).trans m1
                refine stpK rfl rfl fun K hK => ?_
                go_simp
                exact hK _ _ ⟨rfl, hW, Below.refl _ _, fun h => (List.not_mem_nil h).elim⟩
              | 2, ho, hr =>
                obtain rfl := Option.some.inj ho; obtain rfl := Option.some.inj hr
                have t5 := ev_tmp (show fr.eval (.tmp 5) = .pointer (some ⟨w.heap.size + 1, 0, none⟩) from hfree 5 (by decide))
                clear hpre hfree
                refine stpK rfl rfl fun K hK => ?_
                go_simp
                exact hK _ _ ⟨rfl, hW, Below.refl _ _, fun h => (List.not_mem_nil h).elim⟩
              | 3, ho, hr =>
                obtain rfl := Option.some.inj ho; obtain rfl := Option.some.inj hr
                have e2 := ev_tmp (show fr.eval (.tmp 39) = .pointer (some ⟨w.heap.size + 1, 1, none⟩) from hpre 2 (by decide) _ rfl)
                clear hpre hfree
                have c0 := (hW.cell (p := ⟨w.heap.size + 1, 1, none⟩) llt).trans m1
                refine stpK rfl rfl fun K hK => ?_
                go_simp
                exact hK _ _ ⟨rfl, hW, Below.refl _ _, fun h => (List.not_mem_nil h).elim⟩
              | 4, ho, hr =>
                obtain rfl := Option.some.inj ho; obtain rfl := Option.some.inj hr
                have t6 := ev_tmp (show fr.eval (.tmp 6) = .int .i64 (((t + 1 : Nat) : Int)) from hfree 6 (by decide))
                clear hpre hfree
                refine stpK rfl rfl fun K hK => ?_
                go_simp
                exact hK _ _ ⟨rfl, hW, Below.refl _ _, fun h => (List.not_mem_nil h).elim⟩
              | 5, ho, hr =>
                obtain rfl := Option.some.inj ho; obtain rfl := Option.some.inj hr
                have e4 := ev_tmp (show fr.eval (.tmp 41) = .int .i64 (((t + 1 : Nat) : Int)) from hpre 4 (by decide) _ rfl)
                clear hpre hfree
                refine stpK rfl rfl fun K hK => ?_
                go_simp
                exact hK _ _ ⟨rfl, hW, Below.refl _ _, fun h => (List.not_mem_nil h).elim⟩
              | 6, ho, hr =>
                obtain rfl := Option.some.inj ho; obtain rfl := Option.some.inj hr
                have e3 := ev_tmp (show fr.eval (.tmp 40) = .slice (some ⟨g, 0, none⟩) (t + 1) (cap) from hpre 3 (by decide) _ rfl)
                have e5 := ev_tmp (show fr.eval (.tmp 42) = .int .i64 ((t : Int)) from hpre 5 (by decide) _ rfl)
                clear hpre hfree
                refine stpK rfl rfl fun K hK => ?_
                go_simp
                exact hK _ _ ⟨rfl, hW, Below.refl _ _, fun h => (List.not_mem_nil h).elim⟩
              | 7, ho, hr =>
                obtain rfl := Option.some.inj ho; obtain rfl := Option.some.inj hr
                have e6 := ev_tmp (show fr.eval (.tmp 43) = .pointer (some ⟨g, t, none⟩) from hpre 6 (by decide) _ rfl)
                clear hpre hfree
                have c0 := (hW.cell (p := ⟨g, t, none⟩) glt).trans mg
                refine stpK rfl rfl fun K hK => ?_
                go_simp
                exact hK _ _ ⟨rfl, hW, Below.refl _ _, fun h => (List.not_mem_nil h).elim⟩
              | 8, ho, hr =>
                obtain rfl := Option.some.inj ho; obtain rfl := Option.some.inj hr
                have t5 := ev_tmp (show fr.eval (.tmp 5) = .pointer (some ⟨w.heap.size + 1, 0, none⟩) from hfree 5 (by decide))
                clear hpre hfree
                refine stpK rfl rfl fun K hK => ?_
                go_simp
                exact hK _ _ ⟨rfl, hW, Below.refl _ _, fun h => (List.not_mem_nil h).elim⟩
              | 9, ho, hr =>
                obtain rfl := Option.some.inj ho; obtain rfl := Option.some.inj hr
                have e8 := ev_tmp (show fr.eval (.tmp 45) = .pointer (some ⟨w.heap.size + 1, 1, none⟩) from hpre 8 (by decide) _ rfl)
                clear hpre hfree
                have c0 := (hW.cell (p := ⟨w.heap.size + 1, 1, none⟩) llt).trans m1
                refine stpK rfl rfl fun K hK => ?_
                go_simp
                exact hK _ _ ⟨rfl, hW, Below.refl _ _, fun h => (List.not_mem_nil h).elim⟩
              | 10, ho, hr =>
                obtain rfl := Option.some.inj ho; obtain rfl := Option.some.inj hr
                have t6 := ev_tmp (show fr.eval (.tmp 6) = .int .i64 (((t + 1 : Nat) : Int)) from hfree 6 (by decide))
                clear hpre hfree
                refine stpK rfl rfl fun K hK => ?_
                go_simp
                exact hK _ _ ⟨rfl, hW, Below.refl _ _, fun h => (List.not_mem_nil h).elim⟩
              | 11, ho, hr =>
                obtain rfl := Option.some.inj ho; obtain rfl := Option.some.inj hr
                have e10 := ev_tmp (show fr.eval (.tmp 47) = .int .i64 (((t + 1 : Nat) : Int)) from hpre 10 (by decide) _ rfl)
                clear hpre hfree
                refine stpK rfl rfl fun K hK => ?_
                go_simp
                exact hK _ _ ⟨rfl, hW, Below.refl _ _, fun h => (List.not_mem_nil h).elim⟩
              | 12, ho, hr =>
                obtain rfl := Option.some.inj ho; obtain rfl := Option.some.inj hr
                have e9 := ev_tmp (show fr.eval (.tmp 46) = .slice (some ⟨g, 0, none⟩) (t + 1) (cap) from hpre 9 (by decide) _ rfl)
                have e11 := ev_tmp (show fr.eval (.tmp 48) = .int .i64 ((t : Int)) from hpre 11 (by decide) _ rfl)
                clear hpre hfree
                refine stpK rfl rfl fun K hK => ?_
                go_simp
                exact hK _ _ ⟨rfl, hW, Below.refl _ _, fun h => (List.not_mem_nil h).elim⟩
              | 13, ho, hr =>
                obtain rfl := Option.some.inj ho; obtain rfl := Option.some.inj hr
                have e12 := ev_tmp (show fr.eval (.tmp 49) = .pointer (some ⟨g, t, none⟩) from hpre 12 (by decide) _ rfl)
                clear hpre hfree
                have c0 := (hW.cell (p := ⟨g, t, none⟩) glt).trans mg
                refine stpK rfl rfl fun K hK => ?_
                go_simp
                exact hK _ _ ⟨rfl, hW, Below.refl _ _, fun h => (List.not_mem_nil h).elim⟩
              | 14, ho, hr =>
                obtain rfl := Option.some.inj ho; obtain rfl := Option.some.inj hr
                have e7 := ev_tmp (show fr.eval (.tmp 44) = .slice an pn ac from hpre 7 (by decide) _ rfl)
                have e13 := ev_tmp (show fr.eval (.tmp 50) = .slice an pn ac from hpre 13 (by decide) _ rfl)
                clear hpre hfree
                refine stpK rfl rfl fun K hK => ?_
                go_simp
                refine (mulWords_any wx _ _ _ _ _ _ (hpw.below hW) (hpw.below hW) (by omega)).mono ?_
                rintro e wy ⟨v4, n4, rfl, hb, hm4, _, hfr⟩
                exact hK _ _ ⟨⟨n4, by rw [HPE.out] at hm4; exact hm4, fun b o n c he => Nat.le_trans hW.size (hfr b o n c he)⟩, hW.trans (hb.mono hW.size), hb, fun h => (List.not_mem_nil h).elim⟩
              | 15, ho, hr =>
                obtain rfl := Option.some.inj ho; obtain rfl := Option.some.inj hr
                obtain ⟨u14, q14⟩ : ∃ u, fr.eval (.tmp 51) = u := ⟨_, rfl⟩
                have p14 : ∃ n, Mag wx u14 V n ∧ ∀ b o n c : Nat, u14 = .slice (some ⟨b, o, none⟩) n c → w1.heap.size ≤ b := by rw [← q14]; exact hpre 14 (by decide) _ rfl
                have e14 := ev_tmp q14; clear q14
                clear hpre hfree
                refine stpK rfl rfl fun K hK => ?_
                obtain ⟨n4, hm4, hfr⟩ := p14
                obtain ⟨ua, ub, uo, uc, rfl, _⟩ := id hm4
                go_simp
                exact hK _ _ ⟨⟨wx.heap.size, rfl, _, n4, (show (wx.alloc (.cells #[.slice ua n4 uc] 22)).cell? ⟨wx.heap.size, 0, none⟩ = some (.slice ua n4 uc) by rw [World.cell?_alloc_at (w := wx) _ _ wx.heap.size 0 rfl]; rfl), hm4.below (bel1 wx _), hfr⟩, hW.trans ((bel1 wx _).mono hW.size), bel1 wx _, fun h => (List.not_mem_nil h).elim⟩
              | n + 16, ho, hr => exact absurd hr (by simp)
            · intro vs wn hvs hW1 hap0
              clear hap0
              have e0 : vs 0 = .pointer (some ⟨w.heap.size + 1, 1, none⟩) := hvs 0 (by decide)
              have e1 : vs 1 = .slice (some ⟨g, 0, none⟩) (t + 1) (cap) := hvs 1 (by decide)
              have e2 : vs 2 = .pointer (some ⟨w.heap.size + 1, 1, none⟩) := hvs 2 (by decide)
              have e3 : vs 3 = .slice (some ⟨g, 0, none⟩) (t + 1) (cap) := hvs 3 (by decide)
              have e4 : vs 4 = .int .i64 (((t + 1 : Nat) : Int)) := hvs 4 (by decide)
              have e5 : vs 5 = .int .i64 ((t : Int)) := hvs 5 (by decide)
              have e6 : vs 6 = .pointer (some ⟨g, t, none⟩) := hvs 6 (by decide)
              have e7 : vs 7 = .slice an pn ac := hvs 7 (by decide)
              have e8 : vs 8 = .pointer (some ⟨w.heap.size + 1, 1, none⟩) := hvs 8 (by decide)
              have e9 : vs 9 = .slice (some ⟨g, 0, none⟩) (t + 1) (cap) := hvs 9 (by decide)
              have e10 : vs 10 = .int .i64 (((t + 1 : Nat) : Int)) := hvs 10 (by decide)
              have e11 : vs 11 = .int .i64 ((t : Int)) := hvs 11 (by decide)
              have e12 : vs 12 = .pointer (some ⟨g, t, none⟩) := hvs 12 (by decide)
              have e13 : vs 13 = .slice an pn ac := hvs 13 (by decide)
              obtain ⟨u14, e14⟩ : ∃ u, vs 14 = u := ⟨_, rfl⟩
              have p14 : ∃ n, Mag wn u14 V n ∧ ∀ b o n c : Nat, u14 = .slice (some ⟨b, o, none⟩) n c → w1.heap.size ≤ b := by rw [← e14]; exact hvs 14 (by decide)
              obtain ⟨u15, e15⟩ : ∃ u, vs 15 = u := ⟨_, rfl⟩
              have p15 : ∃ g, u15 = .slice (some ⟨g, 0, none⟩) 1 1 ∧ ∃ u n, wn.cell? ⟨g, 0, none⟩ = some u ∧ Mag wn u V n ∧ ∀ b o n c : Nat, u = .slice (some ⟨b, o, none⟩) n c → w1.heap.size ≤ b := by rw [← e15]; exact hvs 15 (by decide)
              simp only [puts, Nat.reduceAdd, e0, e1, e2, e3, e4, e5, e6, e7, e8, e9, e10, e11, e12, e13, e14, e15, Act.put, List.setIfInBounds_toArray, List.set_cons_zero, List.set_cons_succ, List.drop_succ_cons, List.drop_zero, List.length_cons, List.length_nil]
              clear hvs e0 e1 e2 e3 e4 e5 e6 e7 e8 e9 e10 e11 e12 e13 e14 e15
              have L1 := LW.below' hW1
              obtain ⟨g7, rfl, u7, n7, hc7, hm7, hfr7⟩ := p15
              clear p14 hW1 LW
              have hown := L1.pows.row
              rw [hxl] at hown
              have hbase : w.heap.size + 2 ≤ wn.heap.size := L1.lt
              have hl1 := L1.l1
              have hf1 := L1.g1
              clear m0 m1 llt
              refine wpList_append_lies _ rfl _ _ 93 rfl (w.heap.size + 2) 22 i0 (.slice none 0 0) 1 24 underlying93 hi0 hz0 hz1 hz2 rfl (by omega) (.slice (some ⟨g, 0, none⟩) (t + 1) cap) (t + 1) xs rfl hown ⟨g7, 0, none⟩ 1 1 [u7] rfl rfl ?_ ?_ (by omega) (by unfold maxLen; omega) (by omega) hbase wn.heap.size rfl ?_
              · intro i v hv
                cases i with
                | zero => simp at hv; subst hv; exact hc7
                | succ i => simp at hv
              · intro v hv
                simp at hv; subst hv
                obtain ⟨ao, b, o, c, rfl, _⟩ := hm7
                rfl
              intro g' cap' w' hrow hgrow hgg hglt
              rw [← hxl] at hrow
              have hE := L1.append hrow hgrow hgg hglt (by rw [hxl, HV.out]; exact hm7) (by rw [hxl]; exact hm7.len_le HVB.out) (fun b o n c he => ⟨by simp only [Value.ownBlock, ne_eq, Option.some.injEq]; have := hfr7 b o n c he; omega, mag_new' hm7 he HPOS.out⟩)
              rw [hxl] at hE
              obtain ⟨hP, hc1, hfz1⟩ := hE
              clear hrow hgrow hgg hown hm7 hc7 hl1 hf1 L1
              have HP : Hid _ := hP
              clear hP
              go_wp2
              go_roundw
              case rel => exact ⟨(t + 1) + 1, _, _, by go_num, by omega, by first | (simp; done) | (simp; omega), HP.out⟩
              case measure => simp [intOf]; omega
end Go.Proofs.YtjlkplidpdhgbaaGreatDoor
