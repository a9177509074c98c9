/- A part of the proof: G7, W15, Pm9. -/
import Derived.Test.YtjlkplidpdhgbaaGreatDoorP22
import Derived.Test.YtjlkplidpdhgbaaGreatDoorP02
import Derived.Laws.Bits64b
set_option linter.all false

namespace Go.Proofs.YtjlkplidpdhgbaaGreatDoor
open Go Go.Proofs Go.RowKit Go.Rad

theorem made_rows (n : Nat) (hn : n < 160) : ∃ Z : Array Value, (∀ w : World, Made .u64 B w (w.alloc (.cells Z 98)) n) ∧
    ∀ w : World, (Instr.makeSlice 22 (.int .i64 (n : Int)) (.int .i64 (n : Int))).run Tryz.prog w = .ok (.slice (some ⟨w.heap.size, 0, none⟩) n n) (w.alloc (.cells Z 98)) := by
  obtain ⟨i0, hi0, hz0, hz1, hz2⟩ := info_parts info98
  refine ⟨madeCells (Value.int .u64 0).cells (n * i0.size), fun w => made_alloc B_pos w _ 98 n (by simp [madeCells, hz1]) (fun j hj => by simp [madeCells, Value.cells, Nat.mod_one]), fun w => ?_⟩
  have h := run_make (P := Tryz.prog) w 22 98 i0 (.int .u64 0) Tryz.underlying22 hi0 hz0 .i64 .i64 (n : Int) (n : Int) (by omega) (by omega) (by rw [hz2]; omega) (by omega)
  simpa using h
/-- A row of zeros. -/
structure ZR (w : World) (b n : Nat) : Prop where
  lt : b < w.heap.size
  arr : Arr .u64 B w b 0 n
  free : Free w b 0 n
  zero : ∀ i, i < n → word w b (0 + i) = 0
theorem ZR.of_made {w w' : World} {n : Nat} (h : Made .u64 B w w' n) : ZR w' w.heap.size n := ⟨h.lt, h.arr, h.free, fun i hi => by rw [Nat.zero_add]; exact h.zero i hi⟩
theorem ZR.below {w w' : World} {b n : Nat} (h : ZR w b n) (hb : Below w.heap.size w w') : ZR w' b n :=
  ⟨Nat.lt_of_lt_of_le h.lt hb.size, arr_below h.arr hb, freeB h.free h.lt hb, fun i hi => by rw [word_below h.arr hb hi]; exact h.zero i hi⟩
theorem ZR.chg {w w' : World} {b n c l r : Nat} (h : ZR w b n) (hc : Chg w w' c l r) (hb : b ≠ c) : ZR w' b n := by
  have e := hc.block b h.lt hb
  exact ⟨Nat.lt_of_lt_of_le h.lt hc.size, hc.arr h.arr (fun _ => h.lt) (fun _ => .inl hb), hc.free h.free (fun _ => h.lt), fun i hi => by rw [word_of_cell (World.cell?_of_block e)]; exact h.zero i hi⟩
theorem ZR.copied {w1 w2 : World} {b n m c p : Nat} (h : ZR w1 b n) (hp : Copied .u64 B w1 w2 b 0 m c p) (hm : m ≤ n) :
    Arr .u64 B w2 b 0 n ∧ Free w2 b 0 n ∧ num B w2 b 0 n = num B w1 c p m := by
  have hhigh : ∀ i, m ≤ i → w2.cell? ⟨b, 0 + i, none⟩ = w1.cell? ⟨b, 0 + i, none⟩ := fun i hi => hp.chg.cell (0 + i) (by omega)
  refine ⟨fun i hi => ?_, hp.chg.free h.free (fun _ => h.lt), ?_⟩
  · by_cases him : i < m
    · exact hp.arr i him
    · have e := hhigh i (by omega)
      rw [word_of_cell e, e]
      exact h.arr i hi
  · have h1 : num B w2 b 0 n = num B w2 b 0 m := _root_.Rad.vs_top hm fun i h1 h2 => by
      rw [word_of_cell (hhigh i h1)]
      exact h.zero i h2
    rw [h1]
    exact num_congr hp.same
/-- Two rows made, and told to the chase. -/
theorem chase_made {base : Nat} {w : World} {pc bx by' n : Nat} {Z : Array Value} {xv yv uv vv : Value} {mi : Bool} (C : ChC w pc xv yv false uv vv mi) (hp : base ≤ pc) (hbase : base ≤ w.heap.size)
    (HZ : ∀ w : World, Made .u64 B w (w.alloc (.cells Z 98)) n) (hb : bx = w.heap.size ∧ by' = w.heap.size + 1 ∨ bx = w.heap.size + 1 ∧ by' = w.heap.size) {W : World}
    (hW : W = ((((w.setCell ⟨pc, 0, none⟩ (.slice (some ⟨bx, 0, none⟩) n n)).setCell ⟨pc, 1, none⟩ (.slice (some ⟨by', 0, none⟩) n n)).alloc (.cells Z 98)).alloc (.cells Z 98)).drew) :
    Below base w W ∧ ChC W pc (.slice (some ⟨bx, 0, none⟩) n n) (.slice (some ⟨by', 0, none⟩) n n) false uv vv mi ∧ ZR W bx n ∧ ZR W by' n := by
  obtain ⟨w1, hw1⟩ : ∃ w1, w1 = (w.setCell ⟨pc, 0, none⟩ (.slice (some ⟨bx, 0, none⟩) n n)).setCell ⟨pc, 1, none⟩ (.slice (some ⟨by', 0, none⟩) n n) := ⟨_, rfl⟩
  have C1 := (C.set0 (.slice (some ⟨bx, 0, none⟩) n n)).set1 (.slice (some ⟨by', 0, none⟩) n n)
  have B1 := ((Below.refl base w).setCell (p := ⟨pc, 0, none⟩) hp (.slice (some ⟨bx, 0, none⟩) n n)).setCell (p := ⟨pc, 1, none⟩) hp (.slice (some ⟨by', 0, none⟩) n n)
  have hs : w1.heap.size = w.heap.size := by rw [hw1]; simp
  rw [← hw1] at hW C1 B1
  rw [← hs] at hb hbase
  clear hw1 hs
  subst hW
  have M1 := HZ w1
  have M2 := HZ (w1.alloc (.cells Z 98))
  have Z1 := ((ZR.of_made M1).below M2.below).below (bel_drew _)
  have Z2 := (ZR.of_made M2).below (bel_drew _)
  have hs2 : (w1.alloc (.cells Z 98)).heap.size = w1.heap.size + 1 := by simp
  rw [hs2] at Z2
  refine ⟨(B1.trans ((M1.below.mono hbase).trans (M2.below.mono (by rw [hs2]; omega)))).drew, ((C1.below M1.below).below M2.below).below (bel_drew _), ?_, ?_⟩
  · rcases hb with ⟨rfl, _⟩ | ⟨rfl, _⟩ <;> assumption
  · rcases hb with ⟨_, rfl⟩ | ⟨_, rfl⟩ <;> assumption
theorem ChC.mk0 (w : World) (xv yv : Value) (full : Bool) (uv vv : Value) (mi : Bool) (T : TypeId) : ChC (w.alloc (Obj.cells #[xv, yv, .bool full, uv, vv, .bool mi] T)) w.heap.size xv yv full uv vv mi :=
  ⟨by simp, by simp [go_sem], by simp [go_sem], by simp [go_sem], by simp [go_sem], by simp [go_sem], by simp [go_sem], by simp [go_sem], by simp [go_sem], by simp [go_sem], by simp [go_sem], by simp [go_sem], by simp [go_sem]⟩
set_option maxRecDepth 10000 in
set_option maxHeartbeats 4000000 in
theorem chaseOf_any (w : World) (va vb : Value) (a b na nb : Nat) (ha : Mag w va a na) (hb : Mag w vb b nb) (ha0 : 0 < na) (hb0 : 0 < nb) (hna : na < 160) (hnb : nb < 160) :
    Calls Tryz.prog 123 #[va, vb, .bool false] w fun e w' => ∃ pc n, e = .returned (.pointer (some ⟨pc, 0, none⟩)) ∧ Below w.heap.size w w' ∧ Ch w.heap.size w' pc n (max a b) (min a b) := by
  obtain ⟨i0, hi0, hz0, hz1, hz2⟩ := info_parts info98
  obtain ⟨ba, oa, ca, rfl, hca, haa, hxa, hta⟩ := ha.row ha0
  obtain ⟨bb, ob, cb, rfl, hcb, hbb, hxb, htb⟩ := hb.row hb0
  have CC := fun wx (h : Below w.heap.size w wx) => cmp_mag wx _ _ a b na nb (ha.below h) (hb.below h) (by omega) (by omega)
  have HA : Hid (Mag w (.slice (some ⟨ba, oa, none⟩) na ca) a na) := ha
  have HB : Hid (Mag w (.slice (some ⟨bb, ob, none⟩) nb cb) b nb) := hb
  have a0' := ha0
  have b0' := hb0
  go_enter Tryz.func123, Tryz.ntmps123
  go_upto_region 4 with fail
  refine wp_world (fun w1 => Below w.heap.size w w1 ∧ ChC w1 w.heap.size (.slice none 0 0) (.slice none 0 0) false (.slice none 0 0) (.slice none 0 0) false) ⟨bel1 _ _, ChC.mk0 _ _ _ _ _ _ _ _⟩ ?_
  rintro w1 ⟨hB1, C1⟩
  replace CC := CC w1 hB1
  have HB1 : Hid (Below w.heap.size w w1) := hB1
  obtain ⟨pc, hpc⟩ : ∃ pc, w.heap.size = pc := ⟨_, rfl⟩
  have HPC : Hid (w.heap.size = pc) := hpc
  rw [hpc] at C1 ⊢
  have HC1 : Hid (ChC w1 pc (.slice none 0 0) (.slice none 0 0) false (.slice none 0 0) (.slice none 0 0) false) := C1
  obtain ⟨lp, c0, c1, c2, c3, c4, c5, z0, z1, z2, z3, z4, z5⟩ := id C1
  clear hB1 C1 hpc ha hb
  rcases Nat.lt_or_ge a b with hlt | hge
  · rw [cmpI_nat_lt hlt] at CC
    go_wp2_with (go_at_call 87; fail)
    refine CC.mono ?_
    rintro e w2 ⟨rfl, hb2⟩
    have C2 := HC1.out.below hb2
    obtain ⟨lp, c0, c1, c2, c3, c4, c5, z0, z1, z2, z3, z4, z5⟩ := id C2
    clear CC
    go_wp2
    go_region
    go_upto_region 7 with fail
    have HF : Hid _ := (((C2.set3 (.slice none 0 0)).set4 (.slice none 0 0)).set5 true).below (bel_drew _)
    have HBF : Hid _ := ((((bel_drew w1).mono (Nat.le_refl _)))) 
    refine wp_world (fun w3 => Below w.heap.size w1 w3 ∧ ChC w3 pc (.slice none 0 0) (.slice none 0 0) false (.slice none 0 0) (.slice none 0 0) true) ⟨((((hb2.mono HB1.out.size).setCell (p := ⟨pc, 3, none⟩) (Nat.le_of_eq HPC.out) _).setCell (p := ⟨pc, 4, none⟩) (Nat.le_of_eq HPC.out) _).setCell (p := ⟨pc, 5, none⟩) (Nat.le_of_eq HPC.out) _).drew, HF.out⟩ ?_
    clear HF hb2 C2 lp c0 c1 c2 c3 c4 c5 z0 z1 z2 z3 z4 z5
    rintro w3 ⟨hb3, C3⟩
    have HB3 : Hid (Below w.heap.size w1 w3) := hb3
    clear hb3 w2 HBF
    obtain ⟨lp, c0, c1, c2, c3, c4, c5, z0, z1, z2, z3, z4, z5⟩ := id C3
    obtain ⟨Z, HZ, HM⟩ := made_rows nb hnb
    have HZH : Hid (∀ w : World, Made .u64 B w (w.alloc (.cells Z 98)) nb) := HZ
    have HC3 : Hid (ChC w3 pc (.slice none 0 0) (.slice none 0 0) false (.slice none 0 0) (.slice none 0 0) true) := C3
    have hpc : w.heap.size ≤ pc := Nat.le_of_eq HPC.out
    have h31 : w.heap.size ≤ w3.heap.size := by have := HB1.out.size; have := HB3.out.size; omega
    have hnn : na ≤ nb := by
      have h1 : a < B ^ nb := by have h2 := Mag.lt HB.out; omega
      exact Mag.len_le HA.out h1
    clear HZ C3
    go_region
    all_goals
      go_upto_region 8 with fail
      first
        | refine wp_world (fun w5 => Below w.heap.size w3 w5 ∧ ChC w5 pc (.slice (some ⟨w3.heap.size + 1, 0, none⟩) nb nb) (.slice (some ⟨w3.heap.size, 0, none⟩) nb nb) false (.slice none 0 0) (.slice none 0 0) true ∧ ZR w5 (w3.heap.size + 1) nb ∧ ZR w5 w3.heap.size nb) (chase_made HC3.out hpc h31 HZH.out (.inr ⟨rfl, rfl⟩) rfl) ?_
        | refine wp_world (fun w5 => Below w.heap.size w3 w5 ∧ ChC w5 pc (.slice (some ⟨w3.heap.size, 0, none⟩) nb nb) (.slice (some ⟨w3.heap.size + 1, 0, none⟩) nb nb) false (.slice none 0 0) (.slice none 0 0) true ∧ ZR w5 w3.heap.size nb ∧ ZR w5 (w3.heap.size + 1) nb) (chase_made HC3.out hpc h31 HZH.out (.inl ⟨rfl, rfl⟩) rfl) ?_
      clear lp c0 c1 c2 c3 c4 c5 z0 z1 z2 z3 z4 z5 HM HC3
      rintro w5 ⟨B5, C5, ZX, ZY⟩
      have hB3 : Below w.heap.size w w3 := HB1.out.trans HB3.out
      have hl3 : pc < w3.heap.size := by have := HB1.out; have := HB3.out.size; have := HC1.out.lt; omega
      have hB5 : Below w.heap.size w w5 := hB3.trans B5
      obtain ⟨bx, hbx⟩ : ∃ bx, bx = w3.heap.size := ⟨_, rfl⟩
      obtain ⟨by', hby⟩ : ∃ by', by' = w3.heap.size + 1 := ⟨_, rfl⟩
      have hwb : w.heap.size ≤ bx ∧ pc < bx ∧ bx < by' := by omega
      rw [← hby] at C5 ⊢
      try rw [← hby] at ZX
      try rw [← hby] at ZY
      rw [← hbx] at C5 ⊢
      try rw [← hbx] at ZX
      try rw [← hbx] at ZY
      clear hbx hby hB3 B5 h31 hl3
      obtain ⟨lp, c0, c1, c2, c3, c4, c5, z0, z1, z2, z3, z4, z5⟩ := id C5
      have haa5 := arr_below haa hB5
      have hbb5 := arr_below hbb hB5
      have hxa5 := (num_below haa hB5).trans hxa
      have hxb5 := (num_below hbb hB5).trans hxb
      have hla := haa.lt ha0
      have hlb := hbb.lt hb0
      have HXA : Hid _ := hxa5
      have HXB : Hid _ := hxb5
      have HC5 : Hid (ChC w5 pc _ _ false _ _ _) := C5
      have HB5 : Hid (Below w.heap.size w w5) := hB5
      clear hxa5 hxb5 hxa hxb C5 hB5 haa hbb
      go_wp2_with (first
        | (refine wpList_copyRow .u64 B rfl _ _ 22 22 rfl 98 Tryz.underlying22 size98 _ _ _ _ _ _ rfl rfl _ 0 bb ob (Sl.mk _ _ _) (Sl.mk _ _ _) ZX.arr ZX.free hbb5 ?_; intro w6 hcp6; rw [Nat.min_self] at hcp6; have c1' := (hcp6.chg.cellAt (c := pc) (i := 1) lp (.inl (by omega))).trans c1; have har6 := hcp6.chg.arr haa5 haa5.lt (fun _ => .inl (by omega)); have ZY6 := ZY.chg hcp6.chg (by omega))
        | (refine wpList_copyRow .u64 B rfl _ _ 22 22 rfl 98 Tryz.underlying22 size98 _ _ _ _ _ _ rfl rfl _ 0 ba oa (Sl.mk _ _ _) (Sl.mk _ _ _) ZY6.arr ZY6.free har6 ?_; intro w7 hcp7; rw [Nat.min_eq_left hnn] at hcp7))
      obtain ⟨A6, F6, N6⟩ := ZX.copied hcp6 (Nat.le_refl _)
      obtain ⟨A7, F7, N7⟩ := ZY6.copied hcp7 hnn
      have N6' : num B w6 _ 0 nb = b := N6.trans HXB.out
      have e6 : num B w6 ba oa na = num B w5 ba oa na := hcp6.chg.num (fun _ => by have := HB5.out.size; omega) (fun _ => .inl (by omega))
      have N7' : num B w7 _ 0 nb = a := (N7.trans e6).trans HXA.out
      have CF := (HC5.out.chg hcp6.chg (by omega)).chg hcp7.chg (by omega)
      have BF : Below w.heap.size w w7 := (HB5.out.trans (hcp6.chg.below (by omega) HB5.out.size)).trans (hcp7.chg.below (by omega) (Nat.le_trans HB5.out.size hcp6.chg.size))
      have RF : XY w.heap.size w7 pc nb b a _ nb _ nb := ⟨Nat.le_of_eq HPC.out, by omega, by omega, by omega, by omega, by omega,
        hcp7.chg.arr A6 A6.lt (fun _ => .inl (by omega)), A7, hcp7.chg.free F6 (fun _ => A6.lt b0'), F7, (hcp7.chg.num (fun _ => A6.lt b0') (fun _ => .inl (by omega))).trans N6', N7', b0', hnb, Nat.le_refl _, Nat.le_refl _, hnb, hnb, Nat.le_of_lt hlt⟩
      have HE : Hid _ := (⟨BF, .mk _ _ _ _ _ _ _ CF RF⟩ : Below w.heap.size w w7 ∧ Ch w.heap.size w7 pc nb b a)
      clear BF CF RF N6' N7' e6 A6 F6 N6 A7 F7 N7 hcp6 hcp7 har6 ZY6 ZX ZY HC5 HB5
      refine bodyPost_ret (v := .pointer (some ⟨pc, 0, none⟩)) (by simp [results, go_sem, loadVar, *]; try rfl) rfl ?_
      rw [Nat.max_eq_right (Nat.le_of_lt hlt), Nat.min_eq_left (Nat.le_of_lt hlt)]
      exact ⟨pc, nb, rfl, HE.out.1, HE.out.2⟩
  · have hci : ¬ cmpI ((a : Nat) : Int) ((b : Nat) : Int) < 0 := by
      unfold cmpI; rw [if_neg (by omega)]; split <;> omega
    obtain ⟨cc, hcc⟩ : ∃ cc, cmpI ((a : Nat) : Int) ((b : Nat) : Int) = cc := ⟨_, rfl⟩
    rw [hcc] at CC hci
    clear hcc
    go_wp2_with (go_at_call 87; fail)
    refine CC.mono ?_
    rintro e w3 ⟨rfl, hb2⟩
    have C3 := HC1.out.below hb2
    have HB3 : Hid (Below w.heap.size w1 w3) := hb2.mono HB1.out.size
    clear CC hb2 lp c0 c1 c2 c3 c4 c5 z0 z1 z2 z3 z4 z5
    obtain ⟨lp, c0, c1, c2, c3, c4, c5, z0, z1, z2, z3, z4, z5⟩ := id C3
    go_wp2
    obtain ⟨Z, HZ, HM⟩ := made_rows na hna
    have HZH : Hid (∀ w : World, Made .u64 B w (w.alloc (.cells Z 98)) na) := HZ
    have HC3 : Hid (ChC w3 pc (.slice none 0 0) (.slice none 0 0) false (.slice none 0 0) (.slice none 0 0) false) := C3
    have hpc : w.heap.size ≤ pc := Nat.le_of_eq HPC.out
    have h31 : w.heap.size ≤ w3.heap.size := by have := HB1.out.size; have := HB3.out.size; omega
    have hnn : nb ≤ na := by
      have h1 : b < B ^ na := by have h2 := Mag.lt HA.out; omega
      exact Mag.len_le HB.out h1
    clear HZ C3
    go_region
    all_goals
      go_upto_region 8 with fail
      first
        | refine wp_world (fun w5 => Below w.heap.size w3 w5 ∧ ChC w5 pc (.slice (some ⟨w3.heap.size + 1, 0, none⟩) na na) (.slice (some ⟨w3.heap.size, 0, none⟩) na na) false (.slice none 0 0) (.slice none 0 0) false ∧ ZR w5 (w3.heap.size + 1) na ∧ ZR w5 w3.heap.size na) (chase_made HC3.out hpc h31 HZH.out (.inr ⟨rfl, rfl⟩) rfl) ?_
        | refine wp_world (fun w5 => Below w.heap.size w3 w5 ∧ ChC w5 pc (.slice (some ⟨w3.heap.size, 0, none⟩) na na) (.slice (some ⟨w3.heap.size + 1, 0, none⟩) na na) false (.slice none 0 0) (.slice none 0 0) false ∧ ZR w5 w3.heap.size na ∧ ZR w5 (w3.heap.size + 1) na) (chase_made HC3.out hpc h31 HZH.out (.inl ⟨rfl, rfl⟩) rfl) ?_
      clear lp c0 c1 c2 c3 c4 c5 z0 z1 z2 z3 z4 z5 HM HC3
      rintro w5 ⟨B5, C5, ZX, ZY⟩
      have hB3 : Below w.heap.size w w3 := HB1.out.trans HB3.out
      have hl3 : pc < w3.heap.size := by have := HB1.out; have := HB3.out.size; have := HC1.out.lt; omega
      have hB5 : Below w.heap.size w w5 := hB3.trans B5
      obtain ⟨bx, hbx⟩ : ∃ bx, bx = w3.heap.size := ⟨_, rfl⟩
      obtain ⟨by', hby⟩ : ∃ by', by' = w3.heap.size + 1 := ⟨_, rfl⟩
      have hwb : w.heap.size ≤ bx ∧ pc < bx ∧ bx < by' := by omega
      rw [← hby] at C5 ⊢
      try rw [← hby] at ZX
      try rw [← hby] at ZY
      rw [← hbx] at C5 ⊢
      try rw [← hbx] at ZX
      try rw [← hbx] at ZY
      clear hbx hby hB3 B5 h31 hl3
      obtain ⟨lp, c0, c1, c2, c3, c4, c5, z0, z1, z2, z3, z4, z5⟩ := id C5
      have haa5 := arr_below haa hB5
      have hbb5 := arr_below hbb hB5
      have hxa5 := (num_below haa hB5).trans hxa
      have hxb5 := (num_below hbb hB5).trans hxb
      have hla := haa.lt ha0
      have hlb := hbb.lt hb0
      have HXA : Hid _ := hxa5
      have HXB : Hid _ := hxb5
      have HC5 : Hid (ChC w5 pc _ _ false _ _ _) := C5
      have HB5 : Hid (Below w.heap.size w w5) := hB5
      clear hxa5 hxb5 hxa hxb C5 hB5 haa hbb
      go_wp2_with (first
        | (refine wpList_copyRow .u64 B rfl _ _ 22 22 rfl 98 Tryz.underlying22 size98 _ _ _ _ _ _ rfl rfl _ 0 ba oa (Sl.mk _ _ _) (Sl.mk _ _ _) ZX.arr ZX.free haa5 ?_; intro w6 hcp6; rw [Nat.min_self] at hcp6; have c1' := (hcp6.chg.cellAt (c := pc) (i := 1) lp (.inl (by omega))).trans c1; have har6 := hcp6.chg.arr hbb5 hbb5.lt (fun _ => .inl (by omega)); have ZY6 := ZY.chg hcp6.chg (by omega))
        | (refine wpList_copyRow .u64 B rfl _ _ 22 22 rfl 98 Tryz.underlying22 size98 _ _ _ _ _ _ rfl rfl _ 0 bb ob (Sl.mk _ _ _) (Sl.mk _ _ _) ZY6.arr ZY6.free har6 ?_; intro w7 hcp7; rw [Nat.min_eq_left hnn] at hcp7))
      obtain ⟨A6, F6, N6⟩ := ZX.copied hcp6 (Nat.le_refl _)
      obtain ⟨A7, F7, N7⟩ := ZY6.copied hcp7 hnn
      have N6' : num B w6 _ 0 na = a := N6.trans HXA.out
      have e6 : num B w6 bb ob nb = num B w5 bb ob nb := hcp6.chg.num (fun _ => by have := HB5.out.size; omega) (fun _ => .inl (by omega))
      have N7' : num B w7 _ 0 na = b := (N7.trans e6).trans HXB.out
      have CF := (HC5.out.chg hcp6.chg (by omega)).chg hcp7.chg (by omega)
      have BF : Below w.heap.size w w7 := (HB5.out.trans (hcp6.chg.below (by omega) HB5.out.size)).trans (hcp7.chg.below (by omega) (Nat.le_trans HB5.out.size hcp6.chg.size))
      have RF : XY w.heap.size w7 pc na a b _ na _ na := ⟨Nat.le_of_eq HPC.out, by omega, by omega, by omega, by omega, by omega,
        hcp7.chg.arr A6 A6.lt (fun _ => .inl (by omega)), A7, hcp7.chg.free F6 (fun _ => A6.lt a0'), F7, (hcp7.chg.num (fun _ => A6.lt a0') (fun _ => .inl (by omega))).trans N6', N7', a0', hna, Nat.le_refl _, Nat.le_refl _, hna, hna, hge⟩
      have HE : Hid _ := (⟨BF, .mk _ _ _ _ _ _ _ CF RF⟩ : Below w.heap.size w w7 ∧ Ch w.heap.size w7 pc na a b)
      clear BF CF RF N6' N7' e6 A6 F6 N6 A7 F7 N7 hcp6 hcp7 har6 ZY6 ZX ZY HC5 HB5
      refine bodyPost_ret (v := .pointer (some ⟨pc, 0, none⟩)) (by simp [results, go_sem, loadVar, *]; try rfl) rfl ?_
      rw [Nat.max_eq_left hge, Nat.min_eq_right hge]
      exact ⟨pc, na, rfl, HE.out.1, HE.out.2⟩
end Go.Proofs.YtjlkplidpdhgbaaGreatDoor

namespace Go.Proofs.YtjlkplidpdhgbaaGreatDoor
open Go Go.Proofs Go.RowKit Go.Rad

/-- math/bits' table for 64 bits. -/
def dB (j : Nat) : Nat := [0, 1, 56, 2, 57, 49, 28, 3, 61, 58, 42, 50, 38, 29, 17, 4, 62, 47, 59, 36, 45, 43, 51, 22, 53, 39, 33, 30, 24, 18, 12, 5, 63, 55, 48, 27, 60, 41, 37, 16, 46, 35, 44, 21, 52, 32, 23, 11, 54, 26, 40, 15, 34, 20, 31, 10, 25, 14, 19, 9, 13, 8, 7, 6].getD j 0
def TabB (w : World) : Prop := ∀ j : Nat, j < 64 → w.cell? ⟨1, j, none⟩ = some (.int .u8 ((dB j : Nat) : Int))
theorem dB_is : ∀ k, k < 64 → dB (2 ^ k * 285870213051353865 % 18446744073709551616 / 288230376151711744) = k := by
  intro k hk
  have : (List.range 64).all (fun k => dB (2 ^ k * 285870213051353865 % 18446744073709551616 / 288230376151711744) == k) = true := by kernel_rfl
  exact eq_of_beq (List.all_eq_true.1 this k (List.mem_range.2 hk))
theorem odd_and (m p : Nat) : (2 * m + 1) &&& (2 * p + 1) = 2 * (m &&& p) + 1 := by
  apply Nat.eq_of_testBit_eq
  intro i
  cases i with
  | zero => simp [Nat.testBit_zero, Nat.and_mod_two_eq_one] <;> omega
  | succ i =>
    rw [Nat.testBit_and, Nat.testBit_succ, Nat.testBit_succ, Nat.testBit_succ, show (2 * m + 1) / 2 = m by omega, show (2 * p + 1) / 2 = p by omega, show (2 * (m &&& p) + 1) / 2 = m &&& p by omega, Nat.testBit_and]
theorem and_compl {m j : Nat} (h : m < 2 ^ j) : m &&& (2 ^ j - (m + 1)) = 0 := by
  apply Nat.eq_of_testBit_eq
  intro i
  rw [Nat.testBit_and, Nat.testBit_two_pow_sub_succ h, Nat.zero_testBit]
  cases m.testBit i <;> simp
theorem low_bit {k m : Nat} (hk : k < 64) (hm : 2 ^ k * (2 * m + 1) < 2 ^ 64) : (2 ^ k * (2 * m + 1)) &&& (2 ^ 64 - 2 ^ k * (2 * m + 1)) = 2 ^ k := by
  obtain ⟨j, hj⟩ : ∃ j, 64 = k + (j + 1) := ⟨63 - k, by omega⟩
  have e : (2 : Nat) ^ 64 = 2 ^ k * (2 * 2 ^ j) := by rw [hj, Nat.pow_add, Nat.pow_succ, Nat.mul_comm (2 ^ j) 2]
  rw [e] at hm ⊢
  have hk0 : 0 < 2 ^ k := Nat.pow_pos (by decide)
  have hm2 : 2 * m + 1 < 2 * 2 ^ j := Nat.lt_of_mul_lt_mul_left hm
  have e2 : 2 ^ k * (2 * 2 ^ j) - 2 ^ k * (2 * m + 1) = 2 ^ k * (2 * (2 ^ j - (m + 1)) + 1) := by
    rw [← Nat.mul_sub]; congr 1; omega
  rw [e2, Nat.mul_comm _ (2 * m + 1), Nat.mul_comm _ (2 * (2 ^ j - (m + 1)) + 1), ← Nat.shiftLeft_eq, ← Nat.shiftLeft_eq, ← Nat.shiftLeft_and_distrib, odd_and, and_compl (by omega), Nat.shiftLeft_eq]
  simp
theorem odd_part : ∀ (x : Nat), 0 < x → ∃ k m, x = 2 ^ k * (2 * m + 1) := by
  intro x
  induction x using Nat.strongRecOn with
  | _ x ih =>
    intro h
    rcases Nat.mod_two_eq_zero_or_one x with h2 | h2
    · obtain ⟨k, m, e⟩ := ih (x / 2) (by omega) (by omega)
      refine ⟨k + 1, m, ?_⟩
      rw [Nat.pow_succ, Nat.mul_assoc, Nat.mul_comm 2, ← Nat.mul_assoc, ← e]; omega
    · exact ⟨0, x / 2, by simp; omega⟩

set_option maxRecDepth 10000 in
theorem trailingZeros_any (k m : Nat) (hm : 2 ^ k * (2 * m + 1) < B) (w : World) (ht : TabB w) : Calls Tryz.prog 121 #[.int .u64 ((2 ^ k * (2 * m + 1) : Nat) : Int)] w fun e w' => e = .returned (.int .i64 k) ∧ w' = w := by
  have hk : k < 64 := by
    refine Classical.byContradiction fun hk => ?_
    have h1 : 2 ^ 64 ≤ 2 ^ k := Nat.pow_le_pow_right (by decide) (by omega)
    have h2 := Nat.le_mul_of_pos_right (2 ^ k) (show 0 < 2 * m + 1 by omega)
    unfold B at hm
    omega
  have hand := low_bit hk hm
  have htab := dB_is k hk
  have hkk := ht k hk
  have hp : 2 ^ k < B := Nat.lt_of_le_of_lt (Nat.le_mul_of_pos_right (2 ^ k) (show 0 < 2 * m + 1 by omega)) hm
  have hk0 : 0 < 2 ^ k := Nat.pow_pos (by decide)
  have hx0 : 0 < 2 ^ k * (2 * m + 1) := Nat.mul_pos hk0 (by omega)
  generalize 2 ^ k * (2 * m + 1) = x at *
  generalize 2 ^ k = p at *
  obtain ⟨q, hq⟩ : ∃ q, q = p * 285870213051353865 % 18446744073709551616 := ⟨_, rfl⟩
  obtain ⟨r, hr⟩ : ∃ r, r = q / 288230376151711744 := ⟨_, rfl⟩
  rw [← hq, ← hr] at htab
  have t1 : IntKind.u64.wrap (-(x : Int)) = ((2 ^ 64 - x : Nat) : Int) := by
    rw [IntKind.wrap_u64]; unfold B at hm; omega
  have t2 : bits .and .u64 (x : Int) ((2 ^ 64 - x : Nat) : Int) = (p : Int) := by
    rw [bits_and_u64_nat _ _ hm (by omega), hand]
  have t3 : IntKind.u64.wrap ((p : Int) * 285870213051353865) = (q : Int) := by
    rw [IntKind.wrap_u64]; omega
  have t4 : (q : Int) / 288230376151711744 = (r : Int) := by omega
  have hr64 : r < 64 := by omega
  have hcell := ht r hr64
  rw [htab] at hcell
  clear hq hr hand hp htab ht hkk
  have h0 : ¬ (x : Int) = 0 := by omega
  have r1 : (0 : Int) ≤ (r : Int) ∧ (r : Int) < 64 := by omega
  have t5 : IntKind.i64.wrap (k : Int) = (k : Int) := by rw [IntKind.wrap_i64]; omega
  go_enter Tryz.func121, Tryz.ntmps121
  go_wp2
  go_ret
  exact ⟨rfl, rfl⟩
end Go.Proofs.YtjlkplidpdhgbaaGreatDoor

/- Greatest common divisors of one word: plain arithmetic, nothing of the program. -/
namespace Rad
theorem odd_coprime_pow {a : Nat} (ha : a % 2 = 1) (i : Nat) : (2 ^ i).Coprime a := by
  apply Nat.Coprime.pow_left
  unfold Nat.Coprime
  have h : Nat.gcd 2 a ∣ 2 := Nat.gcd_dvd_left 2 a
  have h1 : Nat.gcd 2 a ∣ a := Nat.gcd_dvd_right 2 a
  have h2 := Nat.le_of_dvd (by omega) h
  have h3 : Nat.gcd 2 a ≠ 2 := fun e => by rw [e] at h1; omega
  have h4 : 0 < Nat.gcd 2 a := Nat.gcd_pos_of_pos_left a (by omega)
  omega
theorem gcd_odd_pow {a : Nat} (ha : a % 2 = 1) (i x : Nat) : Nat.gcd a (2 ^ i * x) = Nat.gcd a x :=
  Nat.Coprime.gcd_mul_left_cancel_right x (odd_coprime_pow ha i)
theorem gcd_min_max (a b : Nat) : Nat.gcd (min a b) (max a b - min a b) = Nat.gcd a b := by
  rcases Nat.le_total a b with h | h
  · rw [Nat.min_eq_left h, Nat.max_eq_right h, Nat.gcd_sub_self_right h]
  · rw [Nat.min_eq_right h, Nat.max_eq_left h, Nat.gcd_sub_self_right h, Nat.gcd_comm]
theorem gcd_parts {x y : Nat} (hx : x % 2 = 1) (hy : y % 2 = 1) (i j : Nat) : Nat.gcd (2 ^ i * x) (2 ^ j * y) = Nat.gcd x (2 ^ j * y) * 2 ^ min i j := by
  rw [gcd_odd_pow hx]
  rcases Nat.le_total i j with h | h
  · obtain ⟨k, rfl⟩ := Nat.exists_eq_add_of_le h
    rw [Nat.min_eq_left h, Nat.pow_add, Nat.mul_assoc, Nat.gcd_mul_left, gcd_odd_pow hx, Nat.mul_comm]
  · obtain ⟨k, rfl⟩ := Nat.exists_eq_add_of_le h
    rw [Nat.min_eq_right h, Nat.pow_add, Nat.mul_assoc, Nat.gcd_mul_left, Nat.gcd_comm, gcd_odd_pow hy, Nat.gcd_comm, Nat.mul_comm]
theorem odd_or_left (m y : Nat) : ∃ k, (2 * m + 1) ||| y = 2 * k + 1 := by
  refine ⟨((2 * m + 1) ||| y) / 2, ?_⟩
  have h : ((2 * m + 1) ||| y) % 2 = 1 := by
    rw [Nat.or_mod_two_eq_one]; left; omega
  omega
theorem or_parts {x y : Nat} (hx : x % 2 = 1) (hy : y % 2 = 1) (i j : Nat) : ∃ m, (2 ^ i * x) ||| (2 ^ j * y) = 2 ^ min i j * (2 * m + 1) := by
  have e : ∀ (p q : Nat) (u v : Nat), u % 2 = 1 → ∃ m, (2 ^ p * u) ||| (2 ^ (p + q) * v) = 2 ^ p * (2 * m + 1) := by
    intro p q u v hu
    obtain ⟨k, hk⟩ := odd_or_left (u / 2) (2 ^ q * v)
    refine ⟨k, ?_⟩
    rw [Nat.pow_add, Nat.mul_assoc, Nat.mul_comm (2 ^ p) u, Nat.mul_comm (2 ^ p) (2 ^ q * v), ← Nat.shiftLeft_eq, ← Nat.shiftLeft_eq, ← Nat.shiftLeft_or_distrib, Nat.shiftLeft_eq, Nat.mul_comm, ← hk, show 2 * (u / 2) + 1 = u by omega]
  rcases Nat.le_total i j with h | h
  · obtain ⟨k, rfl⟩ := Nat.exists_eq_add_of_le h
    rw [Nat.min_eq_left h]; exact e i k x y hx
  · obtain ⟨k, rfl⟩ := Nat.exists_eq_add_of_le h
    rw [Nat.min_eq_right h, Nat.or_comm]; exact e j k y x hy
end Rad
