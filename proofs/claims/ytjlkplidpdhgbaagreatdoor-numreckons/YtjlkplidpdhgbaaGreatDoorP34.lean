/- A part of the proof: R16. -/
import Derived.Test.YtjlkplidpdhgbaaGreatDoorP33
import Derived.Test.YtjlkplidpdhgbaaGreatDoorP09
set_option linter.all false

namespace Go.Proofs.YtjlkplidpdhgbaaGreatDoor
open Go Go.Proofs Go.RowKit Go.Rad


/-- The world behind the first statements of NumReads. -/
structure RW (w wr : World) (pc pa z : Int) (b5 b6 b7 b8 : Nat) (s5 : Int) (a5 : Option Addr) (n5 c5 : Nat) (s7 : Bool) (a7 : Option Addr) (n7 c7 : Nat) : Prop where
  below : Below w.heap.size w wr
  x5 : Box2 wr b5 (.int .i64 s5) (.slice a5 n5 c5)
  x6 : Box2 wr b6 (.int .i64 pc) (.int .i64 pa)
  x7 : Box2 wr b7 (.bool s7) (.slice a7 n7 c7)
  x8 : Box2 wr b8 (.int .i64 pc) (.int .i64 pa)
  i5 : IsInt wr (.agg #[.int .i64 s5, .slice a5 n5 c5]) z
  i7 : IsZ wr (.agg #[.bool s7, .slice a7 n7 c7]) z
theorem RW.step {w wr w' : World} {pc pa z : Int} {b5 b6 b7 b8 : Nat} {s5 : Int} {a5 : Option Addr} {n5 c5 : Nat} {s7 : Bool} {a7 : Option Addr} {n7 c7 : Nat}
    (h : RW w wr pc pa z b5 b6 b7 b8 s5 a5 n5 c5 s7 a7 n7 c7) (hb : Below wr.heap.size wr w') : RW w w' pc pa z b5 b6 b7 b8 s5 a5 n5 c5 s7 a7 n7 c7 :=
  ⟨h.below.trans (hb.mono h.below.size), h.x5.below hb, h.x6.below hb, h.x7.below hb, h.x8.below hb, h.i5.below hb, h.i7.below hb⟩

set_option maxRecDepth 10000 in
set_option maxHeartbeats 4000000 in
theorem numReads_a (w : World) (s : ByteArray) (n : Int) (hs : s.size ≤ 9223372036854775806) (hn1 : -9223372036854775808 ≤ n) (hn2 : n ≤ 9223372036854775807) (ht : TabP w) (h00 : pcode s.data.toList = 0) :
    Calls Tryz.prog 3 #[.string s, .int .i64 n] w fun e w' => e = .returned (.bool true) ∧ Below w.heap.size w w' := by
  have CP := parse_any w s hs
  have CZ := fun w => zparse_any w s hs
  have hz1 := pval_lt s.data.toList
  have hz2 := pval_B s.data.toList
  have hback : pcode s.data.toList = 0 → (⟨(txt (pval s.data.toList)).toArray⟩ : ByteArray) = s := fun h => by
    by_cases hV : _root_.Rad.Valid s.data.toList
    · by_cases hl : 1000 < (_root_.Rad.digs s.data.toList).length
      · exact absurd h (by unfold pcode; rw [if_pos hV, if_pos hl]; decide)
      · have e : pval s.data.toList = _root_.Rad.val s.data.toList := by unfold pval; rw [if_pos ⟨hV, by omega⟩]
        rw [e]
        unfold txt
        rw [hV.back]
    · exact absurd h (by unfold pcode; rw [if_neg hV]; decide)
  obtain ⟨pc, hpc⟩ : ∃ pc, pcode s.data.toList = pc := ⟨_, rfl⟩
  obtain ⟨pa, hpa⟩ : ∃ pa, pat s.data.toList = pa := ⟨_, rfl⟩
  obtain ⟨z, hz⟩ : ∃ z, pval s.data.toList = z := ⟨_, rfl⟩
  rw [hpc, hpa, hz] at CP
  simp only [hpc, hpa, hz] at CZ
  rw [hz] at hz1 hz2
  rw [hpc, hz] at hback
  rw [hpc] at h00
  have H00 : Hid _ := h00
  clear h00
  obtain ⟨tz, htz⟩ : ∃ tz : ByteArray, tz = ⟨(txt z).toArray⟩ := ⟨_, rfl⟩
  obtain ⟨tn, htn⟩ : ∃ tn : ByteArray, tn = ⟨(txt n).toArray⟩ := ⟨_, rfl⟩
  obtain ⟨tm, htm⟩ : ∃ tm : ByteArray, tm = ⟨(txt (-z)).toArray⟩ := ⟨_, rfl⟩
  rw [← htz] at hback
  have HBACK : Hid _ := hback
  have HT : Hid (TabP w) := ht
  have HZ1 : Hid _ := hz1
  have HZ2 : Hid _ := hz2
  have HTZE : Hid _ := htz
  have HTNE : Hid _ := htn
  have HTME : Hid _ := htm
  clear ht hpc hpa hz hz1 hz2 hback htz htn htm
  go_enter Tryz.func3, Tryz.ntmps3
  go_wp2_with (go_at_call 9; fail)
  refine CP.mono ?_
  rintro e w1 ⟨v1, rfl, hb1, hI1⟩
  clear CP
  obtain ⟨s5, a5, n5, c5, rfl⟩ := hI1.form
  unfold flt
  have x5 := Box2.mk2 w1 (.int .i64 s5) (.slice a5 n5 c5) 24 (Obj.cells #[Value.int .i64 pc, Value.int .i64 pa] 26)
  have x6 := Box2.mk1 w1 (Obj.cells #[Value.int .i64 s5, Value.slice a5 n5 c5] 24) (.int .i64 pc) (.int .i64 pa) 26
  have b2 := bel2 w1 (Obj.cells #[Value.int .i64 s5, Value.slice a5 n5 c5] 24) (Obj.cells #[Value.int .i64 pc, Value.int .i64 pa] 26)
  have HX5 : Hid _ := x5
  have HX6 : Hid _ := x6
  have HB2 : Hid _ := hb1.trans (b2.mono hb1.size)
  have HI1 : Hid _ := hI1.below b2
  clear x5 x6 b2 hI1 hb1
  go_wp2_with (go_at_call 10; fail)
  refine (CZ _).mono ?_
  rintro e w2 ⟨v2, rfl, hb2, hI2⟩
  clear CZ
  have hB2 := HB2.out.trans (hb2.mono HB2.out.size)
  have x5 := HX5.out.below hb2
  have x6 := HX6.out.below hb2
  have hI5 := IsInt.below HI1.out hb2
  obtain ⟨b5, hb5⟩ : ∃ b5, w1.heap.size = b5 := ⟨_, rfl⟩
  rw [hb5] at x5 x6 ⊢
  clear HX5 HX6 HB2 HI1 hb2 hb5
  obtain ⟨s7, a7, n7, c7, rfl⟩ := hI2.form
  unfold flt
  have RW0 : RW w ((w2.alloc (Obj.cells #[Value.bool s7, Value.slice a7 n7 c7] 31)).alloc (Obj.cells #[Value.int .i64 pc, Value.int .i64 pa] 26)) pc pa z b5 (b5 + 1) w2.heap.size (w2.heap.size + 1) s5 a5 n5 c5 s7 a7 n7 c7 := by
    have b2 := bel2 w2 (Obj.cells #[Value.bool s7, Value.slice a7 n7 c7] 31) (Obj.cells #[Value.int .i64 pc, Value.int .i64 pa] 26)
    exact ⟨hB2.trans (b2.mono hB2.size), x5.below b2, x6.below b2, Box2.mk2 _ _ _ _ _, Box2.mk1 _ _ _ _ _, hI5.below b2, hI2.below b2⟩
  have HRW0 : Hid _ := RW0
  clear x5 x6 hI5 hB2 hI2 RW0
  go_wp2_with (go_at_call 11; fail)
  refine (numBegun_any _ (HT.out.below HRW0.out.below)).mono ?_
  rintro e w3 ⟨rfl, hb3⟩
  have R3 := HRW0.out.step hb3
  obtain ⟨b7, hb7⟩ : ∃ b7, w2.heap.size = b7 := ⟨_, rfl⟩
  obtain ⟨b6, hb6⟩ : ∃ b6, b5 + 1 = b6 := ⟨_, rfl⟩
  rw [hb7, hb6] at R3
  rw [hb7, hb6]
  obtain ⟨b8, hb8⟩ : ∃ b8, b7 + 1 = b8 := ⟨_, rfl⟩
  rw [hb8] at R3 ⊢
  have HR3 : Hid _ := R3
  obtain ⟨hB1, ⟨l5, k50, k51⟩, ⟨l6, k60, k61⟩, ⟨l7, k70, k71⟩, ⟨l8, k80, k81⟩, -, -⟩ := id R3
  clear HRW0 hb3 hb7 hb6 hb8 R3 hB1
  go_wp2_with (go_at_call 12; fail)
  refine (small_v w3 _ z HR3.out.i5).mono ?_
  rintro e w4 ⟨rfl, hb4⟩
  have HR4' := HR3.out.step hb4
  clear l5 l6 l7 l8 k50 k51 k60 k61 k70 k71 k80 k81 hb4 HR3
  have HR4 : Hid _ := HR4'
  obtain ⟨-, ⟨l5, k50, k51⟩, ⟨l6, k60, k61⟩, ⟨l7, k70, k71⟩, ⟨l8, k80, k81⟩, -, -⟩ := id HR4'
  clear HR4'
  obtain ⟨sv, hsv⟩ : ∃ sv, smV z = sv := ⟨_, rfl⟩
  obtain ⟨sb, hsb⟩ : ∃ sb, smB z = sb := ⟨_, rfl⟩
  rw [hsv, hsb]
  have CS := zSmall_v w4 _ z 250 HR4.out.i7 HZ1.out (by decide) (by decide)
  rw [hsv, hsb] at CS
  clear hsv hsb
  go_wp2_with (go_at_call 13; fail)
  refine CS.mono ?_
  rintro e w5 ⟨rfl, hb5⟩
  clear CS
  have HR5' := HR4.out.step hb5
  clear l5 l6 l7 l8 k50 k51 k60 k61 k70 k71 k80 k81 hb5 HR4
  have HR5 : Hid _ := HR5'
  obtain ⟨-, ⟨l5, k50, k51⟩, ⟨l6, k60, k61⟩, ⟨l7, k70, k71⟩, ⟨l8, k80, k81⟩, -, -⟩ := id HR5'
  clear HR5'
  have HB5 : Hid _ := HR5.out.below
  have CT : ∀ wx, Below w.heap.size w wx → Below w5.heap.size w5 wx → Calls Tryz.prog 14 #[.agg #[.int .i64 s5, .slice a5 n5 c5]] wx fun e w' => e = .returned (.string tz) ∧ Below wx.heap.size wx w' := fun wx h1 h2 => by
    rw [HTZE.out]
    exact text_any wx _ z (HR5.out.i5.below h2) (Nat.lt_of_lt_of_le HZ2.out (Nat.pow_le_pow_right B_pos (by decide))) (HT.out.below h1)
  have CZT : ∀ wx, Below w.heap.size w wx → Below w5.heap.size w5 wx → Calls Tryz.prog 15 #[.agg #[.bool s7, .slice a7 n7 c7]] wx fun e w' => e = .returned (.string tz) ∧ Below wx.heap.size wx w' := fun wx h1 h2 => by
    rw [HTZE.out]
    exact zText_any wx _ z 250 (HR5.out.i7.below h2) HZ1.out (by decide)
  have CTN : ∀ wx, Below w.heap.size w wx → ∀ v, IsInt wx v n → Calls Tryz.prog 14 #[v] wx fun e w' => e = .returned (.string tn) ∧ Below wx.heap.size wx w' := fun wx h1 v hv => by
    rw [HTNE.out]
    exact text_any wx _ n hv (Nat.lt_of_lt_of_le (show n.natAbs < B ^ 1 by unfold B; omega) (Nat.pow_le_pow_right B_pos (by decide))) (HT.out.below h1)
  have CZTN : ∀ wx v, IsZ wx v n → Calls Tryz.prog 15 #[v] wx fun e w' => e = .returned (.string tn) ∧ Below wx.heap.size wx w' := fun wx v hv => by
    rw [HTNE.out]
    exact zText_any wx _ n 5 hv (by omega) (by decide)
  have CTM : ∀ wx, Below w.heap.size w wx → ∀ v, IsInt wx v (-z) → Calls Tryz.prog 14 #[v] wx fun e w' => e = .returned (.string tm) ∧ Below wx.heap.size wx w' := fun wx h1 v hv => by
    rw [HTME.out]
    exact text_any wx _ _ hv (by rw [Int.natAbs_neg]; exact Nat.lt_of_lt_of_le HZ2.out (Nat.pow_le_pow_right B_pos (by decide))) (HT.out.below h1)
  have CZTM : ∀ wx v, IsZ wx v (-z) → Calls Tryz.prog 15 #[v] wx fun e w' => e = .returned (.string tm) ∧ Below wx.heap.size wx w' := fun wx v hv => by
    rw [HTME.out]
    exact zText_any wx _ _ 250 hv (by rw [Int.natAbs_neg]; exact HZ1.out) (by decide)
  obtain ⟨sg, hsg⟩ : ∃ sg, cmpI z 0 = sg := ⟨_, rfl⟩
  have HSG : Hid _ := hsg
  clear hsg
  have hB1 : Below w.heap.size w w5 := HB5.out
  have ets := HBACK.out H00.out
  subst ets
  have h0 := H00.out
  clear H00
  subst h0
  go_wp2
  refine wp_world (fun w1 => w1 = w5) rfl ?_
  rintro w1 rfl
  refine wp_drawn mixed [⟨40, [], [], [8]⟩, ⟨41, [0], [0], []⟩, ⟨42, [1], [0, 1], []⟩, ⟨43, [2], [0, 1, 2], []⟩, ⟨44, [3], [0, 1, 2, 3], [5]⟩, ⟨45, [3, 4], [0, 1, 2, 3, 4], []⟩, ⟨46, [3], [0, 1, 2, 3], [0]⟩, ⟨47, [3, 5, 6], [0, 1, 2, 3, 4, 5, 6], []⟩, ⟨48, [3, 7], [0, 1, 2, 3, 4, 5, 6, 7], []⟩, ⟨49, [5, 8], [0, 1, 2, 3, 4, 5, 6, 7, 8], []⟩, ⟨50, [9], [0, 1, 2, 3, 4, 5, 6, 7, 8, 9], [5]⟩, ⟨51, [9, 10], [0, 1, 2, 3, 4, 5, 6, 7, 8, 9, 10], []⟩, ⟨52, [9], [0, 1, 2, 3, 4, 5, 6, 7, 8, 9], [7]⟩, ⟨53, [9, 11, 12], [0, 1, 2, 3, 4, 5, 6, 7, 8, 9, 10, 11, 12], []⟩, ⟨54, [9, 11, 13], [0, 1, 2, 3, 4, 5, 6, 7, 8, 9, 10, 11, 12, 13], []⟩, ⟨55, [9, 14], [0, 1, 2, 3, 4, 5, 6, 7, 8, 9, 10, 11, 12, 13, 14], []⟩, ⟨56, [13, 15], [0, 1, 2, 3, 4, 5, 6, 7, 8, 9, 10, 11, 12, 13, 14, 15], []⟩, ⟨57, [16], [0, 1, 2, 3, 4, 5, 6, 7, 8, 9, 10, 11, 12, 13, 14, 15, 16], [1]⟩, ⟨58, [16, 17], [0, 1, 2, 3, 4, 5, 6, 7, 8, 9, 10, 11, 12, 13, 14, 15, 16, 17], []⟩, ⟨59, [16, 18], [0, 1, 2, 3, 4, 5, 6, 7, 8, 9, 10, 11, 12, 13, 14, 15, 16, 17, 18], []⟩, ⟨60, [16], [0, 1, 2, 3, 4, 5, 6, 7, 8, 9, 10, 11, 12, 13, 14, 15, 16], [1]⟩, ⟨61, [16, 19, 20], [0, 1, 2, 3, 4, 5, 6, 7, 8, 9, 10, 11, 12, 13, 14, 15, 16, 17, 18, 19, 20], []⟩, ⟨62, [16, 21], [0, 1, 2, 3, 4, 5, 6, 7, 8, 9, 10, 11, 12, 13, 14, 15, 16, 17, 18, 19, 20, 21], []⟩, ⟨63, [16, 19, 22], [0, 1, 2, 3, 4, 5, 6, 7, 8, 9, 10, 11, 12, 13, 14, 15, 16, 17, 18, 19, 20, 21, 22], []⟩, ⟨64, [16, 23], [0, 1, 2, 3, 4, 5, 6, 7, 8, 9, 10, 11, 12, 13, 14, 15, 16, 17, 18, 19, 20, 21, 22, 23], []⟩] [] (by kernel_rfl) 89 rfl (by kernel_rfl) (fun (i : Nat) (v : Value) (wq : World) => match i with | 0 => v = .pointer (some ⟨b8, 0, none⟩) | 1 => v = .int .i64 (0) | 2 => v = .bool (true) | 3 => v = .bool (true) | 4 => v = .agg #[.int .i64 (s5), .slice a5 (n5) (c5)] | 5 => v = .string (tz) | 6 => v = .string (tz) | 7 => v = .bool (false) | 8 => v = .bool (false) | 9 => v = .bool (false) | 10 => v = .agg #[.int .i64 (s5), .slice a5 (n5) (c5)] | 11 => v = .string (tz) | 12 => v = .agg #[.bool (s7), .slice a7 (n7) (c7)] | 13 => v = .string (tz) | 14 => v = .bool (false) | 15 => v = .bool (false) | 16 => v = .bool (false) | 17 => v = .int .i64 (n) | 18 => IsInt wq v n | 19 => v = .string (tn) | 20 => v = .int .i64 (n) | 21 => IsZ wq v n | 22 => v = .string (tn) | 23 => v = .bool (false) | 24 => v = .bool (false) | _ => True) (fun _ wq => Below w1.heap.size w1 wq) (fun wx wy => Below wx.heap.size wx wy) (Below.refl _ _).drew (fun i v wx wy h hx => match i, h with | 0, h => h | 1, h => h | 2, h => h | 3, h => h | 4, h => h | 5, h => h | 6, h => h | 7, h => h | 8, h => h | 9, h => h | 10, h => h | 11, h => h | 12, h => h | 13, h => h | 14, h => h | 15, h => h | 16, h => h | 17, h => h | 19, h => h | 20, h => h | 22, h => h | 23, h => h | 24, h => h | 18, h => (h : IsInt wx v n).below hx | 21, h => (h : IsZ wx v n).below hx | n + 25, _ => trivial) ?_ ?_
  · intro i o r ho hr L fr wx hW hL hpr hds hdef hpre hfree
    clear hL hpr hds hdef
    match i, ho, hr with
    | 0, ho, hr =>
      obtain rfl := Option.some.inj ho; obtain rfl := Option.some.inj hr
      have t8 := ev_tmp (show fr.eval (.tmp 8) = .pointer (some ⟨b8, 0, none⟩) from hfree 8 (by decide))
      clear hpre hfree
      refine stpK rfl rfl fun K hK => ?_
      go_simp
      exact hK _ _ ⟨rfl, hW, Below.refl _ _, fun h => (List.not_mem_nil h).elim⟩
    | 1, ho, hr =>
      obtain rfl := Option.some.inj ho; obtain rfl := Option.some.inj hr
      have e0 := ev_tmp (show fr.eval (.tmp 40) = .pointer (some ⟨b8, 0, none⟩) from hpre 0 (by decide) _ rfl)
      clear hpre hfree
      have c0 := (hW.cell (p := ⟨b8, 0, none⟩) l8).trans k80
      refine stpK rfl rfl fun K hK => ?_
      go_simp
      exact hK _ _ ⟨rfl, hW, Below.refl _ _, fun h => (List.not_mem_nil h).elim⟩
    | 2, ho, hr =>
      obtain rfl := Option.some.inj ho; obtain rfl := Option.some.inj hr
      have e1 := ev_tmp (show fr.eval (.tmp 41) = .int .i64 (0) from hpre 1 (by decide) _ rfl)
      clear hpre hfree
      refine stpK rfl rfl fun K hK => ?_
      go_simp
      exact hK _ _ ⟨rfl, hW, Below.refl _ _, fun h => (List.not_mem_nil h).elim⟩
    | 3, ho, hr =>
      obtain rfl := Option.some.inj ho; obtain rfl := Option.some.inj hr
      have e2 := ev_tmp (show fr.eval (.tmp 42) = .bool (true) from hpre 2 (by decide) _ rfl)
      clear hpre hfree
      refine stpK rfl rfl fun K hK => ?_
      go_simp
      exact hK _ _ ⟨rfl, hW, Below.refl _ _, fun h => (List.not_mem_nil h).elim⟩
    | 4, ho, hr =>
      obtain rfl := Option.some.inj ho; obtain rfl := Option.some.inj hr
      have e3 := ev_tmp (show fr.eval (.tmp 43) = .bool (true) from hpre 3 (by decide) _ rfl)
      have t5 := ev_tmp (show fr.eval (.tmp 5) = .pointer (some ⟨b5, 0, none⟩) from hfree 5 (by decide))
      clear hpre hfree
      have c0 := (hW.cell (p := ⟨b5, 0, none⟩) l5).trans k50
      have c1 := (hW.cell (p := ⟨b5, 1, none⟩) l5).trans k51
      refine stpK_g rfl rfl e3 rfl fun K hK => ?_
      go_simp
      exact hK _ _ ⟨rfl, hW, Below.refl _ _, fun h => (List.not_mem_nil h).elim⟩
    | 5, ho, hr =>
      obtain rfl := Option.some.inj ho; obtain rfl := Option.some.inj hr
      have e3 := ev_tmp (show fr.eval (.tmp 43) = .bool (true) from hpre 3 (by decide) _ rfl)
      have e4 := ev_tmp (show fr.eval (.tmp 44) = .agg #[.int .i64 (s5), .slice a5 (n5) (c5)] from hpre 4 (by decide) _ rfl)
      clear hpre hfree
      refine stpK_g rfl rfl e3 rfl fun K hK => ?_
      go_simp
      refine (CT wx (hB1.trans (hW.mono hB1.size)) hW).mono ?_
      rintro e wy ⟨rfl, hb⟩
      exact hK _ _ ⟨rfl, hW.trans (hb.mono hW.size), hb, fun h => (List.not_mem_nil h).elim⟩
    | 6, ho, hr =>
      obtain rfl := Option.some.inj ho; obtain rfl := Option.some.inj hr
      have e3 := ev_tmp (show fr.eval (.tmp 43) = .bool (true) from hpre 3 (by decide) _ rfl)
      have t0 := ev_tmp (show fr.eval (.tmp 0) = .string (tz) from hfree 0 (by decide))
      clear hpre hfree
      refine stpK_g rfl rfl e3 rfl fun K hK => ?_
      go_simp
      exact hK _ _ ⟨rfl, hW, Below.refl _ _, fun h => (List.not_mem_nil h).elim⟩
    | 7, ho, hr =>
      obtain rfl := Option.some.inj ho; obtain rfl := Option.some.inj hr
      have e3 := ev_tmp (show fr.eval (.tmp 43) = .bool (true) from hpre 3 (by decide) _ rfl)
      have e5 := ev_tmp (show fr.eval (.tmp 45) = .string (tz) from hpre 5 (by decide) _ rfl)
      have e6 := ev_tmp (show fr.eval (.tmp 46) = .string (tz) from hpre 6 (by decide) _ rfl)
      clear hpre hfree
      refine stpK_g rfl rfl e3 rfl fun K hK => ?_
      go_simp
      exact hK _ _ ⟨(by first | rfl | (simp; done)), hW, Below.refl _ _, fun h => (List.not_mem_nil h).elim⟩
    | 8, ho, hr =>
      obtain rfl := Option.some.inj ho; obtain rfl := Option.some.inj hr
      have e3 := ev_tmp (show fr.eval (.tmp 43) = .bool (true) from hpre 3 (by decide) _ rfl)
      have e7 := ev_tmp (show fr.eval (.tmp 47) = .bool (false) from hpre 7 (by decide) _ rfl)
      clear hpre hfree
      refine stpK rfl rfl fun K hK => ?_
      go_simp
      exact hK _ _ ⟨rfl, hW, Below.refl _ _, fun h => (List.not_mem_nil h).elim⟩
    | 9, ho, hr =>
      obtain rfl := Option.some.inj ho; obtain rfl := Option.some.inj hr
      have e8 := ev_tmp (show fr.eval (.tmp 48) = .bool (false) from hpre 8 (by decide) _ rfl)
      clear hpre hfree
      refine stpK rfl rfl fun K hK => ?_
      go_simp
      exact hK _ _ ⟨rfl, hW, Below.refl _ _, fun h => (List.not_mem_nil h).elim⟩
    | 10, ho, hr =>
      obtain rfl := Option.some.inj ho; obtain rfl := Option.some.inj hr
      have e9 := ev_tmp (show fr.eval (.tmp 49) = .bool (false) from hpre 9 (by decide) _ rfl)
      have t5 := ev_tmp (show fr.eval (.tmp 5) = .pointer (some ⟨b5, 0, none⟩) from hfree 5 (by decide))
      clear hpre hfree
      have c0 := (hW.cell (p := ⟨b5, 0, none⟩) l5).trans k50
      have c1 := (hW.cell (p := ⟨b5, 1, none⟩) l5).trans k51
      refine stpK_g rfl rfl e9 rfl fun K hK => ?_
      go_simp
      exact hK _ _ ⟨rfl, hW, Below.refl _ _, fun h => (List.not_mem_nil h).elim⟩
    | 11, ho, hr =>
      obtain rfl := Option.some.inj ho; obtain rfl := Option.some.inj hr
      have e9 := ev_tmp (show fr.eval (.tmp 49) = .bool (false) from hpre 9 (by decide) _ rfl)
      have e10 := ev_tmp (show fr.eval (.tmp 50) = .agg #[.int .i64 (s5), .slice a5 (n5) (c5)] from hpre 10 (by decide) _ rfl)
      clear hpre hfree
      refine stpK_g rfl rfl e9 rfl fun K hK => ?_
      go_simp
      refine (CT wx (hB1.trans (hW.mono hB1.size)) hW).mono ?_
      rintro e wy ⟨rfl, hb⟩
      exact hK _ _ ⟨rfl, hW.trans (hb.mono hW.size), hb, fun h => (List.not_mem_nil h).elim⟩
    | 12, ho, hr =>
      obtain rfl := Option.some.inj ho; obtain rfl := Option.some.inj hr
      have e9 := ev_tmp (show fr.eval (.tmp 49) = .bool (false) from hpre 9 (by decide) _ rfl)
      have t7 := ev_tmp (show fr.eval (.tmp 7) = .pointer (some ⟨b7, 0, none⟩) from hfree 7 (by decide))
      clear hpre hfree
      have c0 := (hW.cell (p := ⟨b7, 0, none⟩) l7).trans k70
      have c1 := (hW.cell (p := ⟨b7, 1, none⟩) l7).trans k71
      refine stpK_g rfl rfl e9 rfl fun K hK => ?_
      go_simp
      exact hK _ _ ⟨rfl, hW, Below.refl _ _, fun h => (List.not_mem_nil h).elim⟩
    | 13, ho, hr =>
      obtain rfl := Option.some.inj ho; obtain rfl := Option.some.inj hr
      have e9 := ev_tmp (show fr.eval (.tmp 49) = .bool (false) from hpre 9 (by decide) _ rfl)
      have e12 := ev_tmp (show fr.eval (.tmp 52) = .agg #[.bool (s7), .slice a7 (n7) (c7)] from hpre 12 (by decide) _ rfl)
      clear hpre hfree
      refine stpK_g rfl rfl e9 rfl fun K hK => ?_
      go_simp
      refine (CZT wx (hB1.trans (hW.mono hB1.size)) hW).mono ?_
      rintro e wy ⟨rfl, hb⟩
      exact hK _ _ ⟨rfl, hW.trans (hb.mono hW.size), hb, fun h => (List.not_mem_nil h).elim⟩
    | 14, ho, hr =>
      obtain rfl := Option.some.inj ho; obtain rfl := Option.some.inj hr
      have e9 := ev_tmp (show fr.eval (.tmp 49) = .bool (false) from hpre 9 (by decide) _ rfl)
      have e11 := ev_tmp (show fr.eval (.tmp 51) = .string (tz) from hpre 11 (by decide) _ rfl)
      have e13 := ev_tmp (show fr.eval (.tmp 53) = .string (tz) from hpre 13 (by decide) _ rfl)
      clear hpre hfree
      refine stpK_g rfl rfl e9 rfl fun K hK => ?_
      go_simp
      exact hK _ _ ⟨(by first | rfl | (simp; done)), hW, Below.refl _ _, fun h => (List.not_mem_nil h).elim⟩
    | 15, ho, hr =>
      obtain rfl := Option.some.inj ho; obtain rfl := Option.some.inj hr
      have e9 := ev_tmp (show fr.eval (.tmp 49) = .bool (false) from hpre 9 (by decide) _ rfl)
      have e14 := ev_tmp (show fr.eval (.tmp 54) = .bool (false) from hpre 14 (by decide) _ rfl)
      clear hpre hfree
      refine stpK rfl rfl fun K hK => ?_
      go_simp
      exact hK _ _ ⟨rfl, hW, Below.refl _ _, fun h => (List.not_mem_nil h).elim⟩
    | 16, ho, hr =>
      obtain rfl := Option.some.inj ho; obtain rfl := Option.some.inj hr
      have e15 := ev_tmp (show fr.eval (.tmp 55) = .bool (false) from hpre 15 (by decide) _ rfl)
      clear hpre hfree
      refine stpK rfl rfl fun K hK => ?_
      go_simp
      exact hK _ _ ⟨rfl, hW, Below.refl _ _, fun h => (List.not_mem_nil h).elim⟩
    | 17, ho, hr =>
      obtain rfl := Option.some.inj ho; obtain rfl := Option.some.inj hr
      have e16 := ev_tmp (show fr.eval (.tmp 56) = .bool (false) from hpre 16 (by decide) _ rfl)
      have t1 := ev_tmp (show fr.eval (.tmp 1) = .int .i64 (n) from hfree 1 (by decide))
      clear hpre hfree
      refine stpK_g rfl rfl e16 rfl fun K hK => ?_
      go_simp
      exact hK _ _ ⟨rfl, hW, Below.refl _ _, fun h => (List.not_mem_nil h).elim⟩
    | 18, ho, hr =>
      obtain rfl := Option.some.inj ho; obtain rfl := Option.some.inj hr
      have e16 := ev_tmp (show fr.eval (.tmp 56) = .bool (false) from hpre 16 (by decide) _ rfl)
      have e17 := ev_tmp (show fr.eval (.tmp 57) = .int .i64 (n) from hpre 17 (by decide) _ rfl)
      clear hpre hfree
      refine stpK_g rfl rfl e16 rfl fun K hK => ?_
      go_simp
      refine (of_any wx n hn1 hn2).mono ?_
      rintro e wy ⟨v4, rfl, hb, hm4⟩
      exact hK _ _ ⟨hm4, hW.trans (hb.mono hW.size), hb, fun h => (List.not_mem_nil h).elim⟩
    | 19, ho, hr =>
      obtain rfl := Option.some.inj ho; obtain rfl := Option.some.inj hr
      have e16 := ev_tmp (show fr.eval (.tmp 56) = .bool (false) from hpre 16 (by decide) _ rfl)
      obtain ⟨u18, q18⟩ : ∃ u, fr.eval (.tmp 58) = u := ⟨_, rfl⟩
      have p18 : IsInt wx u18 n := by rw [← q18]; exact hpre 18 (by decide) _ rfl
      have e18 := ev_tmp q18; clear q18
      clear hpre hfree
      refine stpK_g rfl rfl e16 rfl fun K hK => ?_
      go_simp
      refine (CTN wx (hB1.trans (hW.mono hB1.size)) _ p18).mono ?_
      rintro e wy ⟨rfl, hb⟩
      exact hK _ _ ⟨rfl, hW.trans (hb.mono hW.size), hb, fun h => (List.not_mem_nil h).elim⟩
    | 20, ho, hr =>
      obtain rfl := Option.some.inj ho; obtain rfl := Option.some.inj hr
      have e16 := ev_tmp (show fr.eval (.tmp 56) = .bool (false) from hpre 16 (by decide) _ rfl)
      have t1 := ev_tmp (show fr.eval (.tmp 1) = .int .i64 (n) from hfree 1 (by decide))
      clear hpre hfree
      refine stpK_g rfl rfl e16 rfl fun K hK => ?_
      go_simp
      exact hK _ _ ⟨rfl, hW, Below.refl _ _, fun h => (List.not_mem_nil h).elim⟩
    | 21, ho, hr =>
      obtain rfl := Option.some.inj ho; obtain rfl := Option.some.inj hr
      have e16 := ev_tmp (show fr.eval (.tmp 56) = .bool (false) from hpre 16 (by decide) _ rfl)
      have e20 := ev_tmp (show fr.eval (.tmp 60) = .int .i64 (n) from hpre 20 (by decide) _ rfl)
      clear hpre hfree
      refine stpK_g rfl rfl e16 rfl fun K hK => ?_
      go_simp
      refine (zOf_any wx n hn1 hn2).mono ?_
      rintro e wy ⟨v4, rfl, hb, hm4⟩
      exact hK _ _ ⟨hm4, hW.trans (hb.mono hW.size), hb, fun h => (List.not_mem_nil h).elim⟩
    | 22, ho, hr =>
      obtain rfl := Option.some.inj ho; obtain rfl := Option.some.inj hr
      have e16 := ev_tmp (show fr.eval (.tmp 56) = .bool (false) from hpre 16 (by decide) _ rfl)
      obtain ⟨u21, q21⟩ : ∃ u, fr.eval (.tmp 61) = u := ⟨_, rfl⟩
      have p21 : IsZ wx u21 n := by rw [← q21]; exact hpre 21 (by decide) _ rfl
      have e21 := ev_tmp q21; clear q21
      clear hpre hfree
      refine stpK_g rfl rfl e16 rfl fun K hK => ?_
      go_simp
      refine (CZTN wx _ p21).mono ?_
      rintro e wy ⟨rfl, hb⟩
      exact hK _ _ ⟨rfl, hW.trans (hb.mono hW.size), hb, fun h => (List.not_mem_nil h).elim⟩
    | 23, ho, hr =>
      obtain rfl := Option.some.inj ho; obtain rfl := Option.some.inj hr
      have e16 := ev_tmp (show fr.eval (.tmp 56) = .bool (false) from hpre 16 (by decide) _ rfl)
      have e19 := ev_tmp (show fr.eval (.tmp 59) = .string (tn) from hpre 19 (by decide) _ rfl)
      have e22 := ev_tmp (show fr.eval (.tmp 62) = .string (tn) from hpre 22 (by decide) _ rfl)
      clear hpre hfree
      refine stpK_g rfl rfl e16 rfl fun K hK => ?_
      go_simp
      exact hK _ _ ⟨(by first | rfl | (simp; done)), hW, Below.refl _ _, fun h => (List.not_mem_nil h).elim⟩
    | 24, ho, hr =>
      obtain rfl := Option.some.inj ho; obtain rfl := Option.some.inj hr
      have e16 := ev_tmp (show fr.eval (.tmp 56) = .bool (false) from hpre 16 (by decide) _ rfl)
      have e23 := ev_tmp (show fr.eval (.tmp 63) = .bool (false) from hpre 23 (by decide) _ rfl)
      clear hpre hfree
      refine stpK rfl rfl fun K hK => ?_
      go_simp
      exact hK _ _ ⟨rfl, hW, Below.refl _ _, fun h => (List.not_mem_nil h).elim⟩
    | n + 25, ho, hr => exact absurd hr (by simp)
  · intro vs wn hvs hW1 hap0
    clear hap0
    have e0 : vs 0 = .pointer (some ⟨b8, 0, none⟩) := hvs 0 (by decide)
    have e1 : vs 1 = .int .i64 (0) := hvs 1 (by decide)
    have e2 : vs 2 = .bool (true) := hvs 2 (by decide)
    have e3 : vs 3 = .bool (true) := hvs 3 (by decide)
    have e4 : vs 4 = .agg #[.int .i64 (s5), .slice a5 (n5) (c5)] := hvs 4 (by decide)
    have e5 : vs 5 = .string (tz) := hvs 5 (by decide)
    have e6 : vs 6 = .string (tz) := hvs 6 (by decide)
    have e7 : vs 7 = .bool (false) := hvs 7 (by decide)
    have e8 : vs 8 = .bool (false) := hvs 8 (by decide)
    have e9 : vs 9 = .bool (false) := hvs 9 (by decide)
    have e10 : vs 10 = .agg #[.int .i64 (s5), .slice a5 (n5) (c5)] := hvs 10 (by decide)
    have e11 : vs 11 = .string (tz) := hvs 11 (by decide)
    have e12 : vs 12 = .agg #[.bool (s7), .slice a7 (n7) (c7)] := hvs 12 (by decide)
    have e13 : vs 13 = .string (tz) := hvs 13 (by decide)
    have e14 : vs 14 = .bool (false) := hvs 14 (by decide)
    have e15 : vs 15 = .bool (false) := hvs 15 (by decide)
    have e16 : vs 16 = .bool (false) := hvs 16 (by decide)
    have e17 : vs 17 = .int .i64 (n) := hvs 17 (by decide)
    obtain ⟨u18, e18⟩ : ∃ u, vs 18 = u := ⟨_, rfl⟩
    have p18 : IsInt wn u18 n := by rw [← e18]; exact hvs 18 (by decide)
    have e19 : vs 19 = .string (tn) := hvs 19 (by decide)
    have e20 : vs 20 = .int .i64 (n) := hvs 20 (by decide)
    obtain ⟨u21, e21⟩ : ∃ u, vs 21 = u := ⟨_, rfl⟩
    have p21 : IsZ wn u21 n := by rw [← e21]; exact hvs 21 (by decide)
    have e22 : vs 22 = .string (tn) := hvs 22 (by decide)
    have e23 : vs 23 = .bool (false) := hvs 23 (by decide)
    have e24 : vs 24 = .bool (false) := hvs 24 (by decide)
    simp only [puts, Nat.reduceAdd, e0, e1, e2, e3, e4, e5, e6, e7, e8, e9, e10, e11, e12, e13, e14, e15, e16, e17, e18, e19, e20, e21, e22, e23, e24, Act.put, List.setIfInBounds_toArray, List.set_cons_zero, List.set_cons_succ, List.drop_succ_cons, List.drop_zero, List.length_cons, List.length_nil]
    clear hvs e0 e1 e2 e3 e4 e5 e6 e7 e8 e9 e10 e11 e12 e13 e14 e15 e16 e17 e18 e19 e20 e21 e22 e23 e24
    have HR6 : Hid _ := HR5.out.step hW1
    have HB6 : Hid _ := HR6.out.below
    replace hB1 := HR6.out.below
    clear l5 l6 l7 l8 k50 k51 k60 k61 k70 k71 k80 k81 hW1 HR5 HB5 CT CZT CTN CZTN p18 p21
    obtain ⟨-, ⟨l5, k50, k51⟩, ⟨l6, k60, k61⟩, ⟨l7, k70, k71⟩, ⟨l8, k80, k81⟩, -, -⟩ := HR6.out
    have CSG : ∀ wx, Below w.heap.size w wx → Below wn.heap.size wn wx → Calls Tryz.prog 18 #[.agg #[.int .i64 s5, .slice a5 n5 c5]] wx fun e w' => e = .returned (.int .i64 sg) ∧ Below wx.heap.size wx w' := fun wx h1 h2 => by
      rw [← HSG.out]
      exact sign_any wx _ z (HR6.out.i5.below h2)
    have CZSG : ∀ wx, Below w.heap.size w wx → Below wn.heap.size wn wx → Calls Tryz.prog 19 #[.agg #[.bool s7, .slice a7 n7 c7]] wx fun e w' => e = .returned (.int .i64 sg) ∧ Below wx.heap.size wx w' := fun wx h1 h2 => by
      rw [← HSG.out]
      exact zSign_any wx _ z (HR6.out.i7.below h2)
    go_wp2
    refine wp_world (fun w1 => w1 = wn) rfl ?_
    rintro w1 rfl
    refine wp_drawn mixed [⟨65, [], [], [5]⟩, ⟨66, [0], [0], []⟩, ⟨67, [], [], [7]⟩, ⟨68, [1, 2], [0, 1, 2], []⟩, ⟨69, [1, 3], [0, 1, 2, 3], []⟩, ⟨70, [3, 4], [0, 1, 2, 3, 4], []⟩, ⟨71, [5], [0, 1, 2, 3, 4, 5], [5]⟩, ⟨72, [5, 6], [0, 1, 2, 3, 4, 5, 6], []⟩, ⟨73, [5, 7], [0, 1, 2, 3, 4, 5, 6, 7], []⟩, ⟨74, [5], [0, 1, 2, 3, 4, 5], [7]⟩, ⟨75, [5, 8, 9], [0, 1, 2, 3, 4, 5, 6, 7, 8, 9], []⟩, ⟨76, [5, 10], [0, 1, 2, 3, 4, 5, 6, 7, 8, 9, 10], []⟩, ⟨77, [5, 8, 11], [0, 1, 2, 3, 4, 5, 6, 7, 8, 9, 10, 11], []⟩, ⟨78, [5, 12], [0, 1, 2, 3, 4, 5, 6, 7, 8, 9, 10, 11, 12], []⟩, ⟨79, [11, 13], [0, 1, 2, 3, 4, 5, 6, 7, 8, 9, 10, 11, 12, 13], []⟩, ⟨80, [14], [0, 1, 2, 3, 4, 5, 6, 7, 8, 9, 10, 11, 12, 13, 14], [9]⟩, ⟨81, [14], [0, 1, 2, 3, 4, 5, 6, 7, 8, 9, 10, 11, 12, 13, 14], [11]⟩, ⟨82, [14, 15, 16], [0, 1, 2, 3, 4, 5, 6, 7, 8, 9, 10, 11, 12, 13, 14, 15, 16], []⟩, ⟨83, [14, 17], [0, 1, 2, 3, 4, 5, 6, 7, 8, 9, 10, 11, 12, 13, 14, 15, 16, 17], []⟩, ⟨84, [14, 18], [0, 1, 2, 3, 4, 5, 6, 7, 8, 9, 10, 11, 12, 13, 14, 15, 16, 17, 18], []⟩, ⟨85, [19], [0, 1, 2, 3, 4, 5, 6, 7, 8, 9, 10, 11, 12, 13, 14, 15, 16, 17, 18, 19], [10]⟩, ⟨86, [19], [0, 1, 2, 3, 4, 5, 6, 7, 8, 9, 10, 11, 12, 13, 14, 15, 16, 17, 18, 19], [12]⟩, ⟨87, [19, 20, 21], [0, 1, 2, 3, 4, 5, 6, 7, 8, 9, 10, 11, 12, 13, 14, 15, 16, 17, 18, 19, 20, 21], []⟩, ⟨88, [19, 22], [0, 1, 2, 3, 4, 5, 6, 7, 8, 9, 10, 11, 12, 13, 14, 15, 16, 17, 18, 19, 20, 21, 22], []⟩, ⟨4, [0, 1, 2, 3, 4, 5, 6, 7, 8, 9, 10, 11, 12, 13, 14, 15, 16, 17, 18, 19, 20, 21, 22, 23], [0, 1, 2, 3, 4, 5, 6, 7, 8, 9, 10, 11, 12, 13, 14, 15, 16, 17, 18, 19, 20, 21, 22, 23], []⟩] [] (by kernel_rfl) 89 rfl (by kernel_rfl) (fun (i : Nat) (v : Value) (wq : World) => match i with | 0 => v = .agg #[.int .i64 (s5), .slice a5 (n5) (c5)] | 1 => v = .int .i64 (sg) | 2 => v = .agg #[.bool (s7), .slice a7 (n7) (c7)] | 3 => v = .int .i64 (sg) | 4 => v = .bool (true) | 5 => v = .bool (true) | 6 => v = .agg #[.int .i64 (s5), .slice a5 (n5) (c5)] | 7 => IsInt wq v (-z) | 8 => v = .string (tm) | 9 => v = .agg #[.bool (s7), .slice a7 (n7) (c7)] | 10 => IsZ wq v (-z) | 11 => v = .string (tm) | 12 => v = .bool (true) | 13 => v = .bool (true) | 14 => v = .bool (true) | 15 => v = .int .i64 (sv) | 16 => v = .int .i64 (sv) | 17 => v = .bool (true) | 18 => v = .bool (true) | 19 => v = .bool (true) | 20 => v = .bool (sb) | 21 => v = .bool (sb) | 22 => v = .bool (true) | 23 => v = .bool (true) | 24 => v = .bool (true) | _ => True) (fun _ wq => Below w1.heap.size w1 wq) (fun wx wy => Below wx.heap.size wx wy) (Below.refl _ _).drew (fun i v wx wy h hx => match i, h with | 0, h => h | 1, h => h | 2, h => h | 3, h => h | 4, h => h | 5, h => h | 6, h => h | 8, h => h | 9, h => h | 11, h => h | 12, h => h | 13, h => h | 14, h => h | 15, h => h | 16, h => h | 17, h => h | 18, h => h | 19, h => h | 20, h => h | 21, h => h | 22, h => h | 23, h => h | 24, h => h | 7, h => (h : IsInt wx v (-z)).below hx | 10, h => (h : IsZ wx v (-z)).below hx | n + 25, _ => trivial) ?_ ?_
    · intro i o r ho hr L fr wx hW hL hpr hds hdef hpre hfree
      clear hL hpr hds hdef
      match i, ho, hr with
      | 0, ho, hr =>
        obtain rfl := Option.some.inj ho; obtain rfl := Option.some.inj hr
        have t5 := ev_tmp (show fr.eval (.tmp 5) = .pointer (some ⟨b5, 0, none⟩) from hfree 5 (by decide))
        clear hpre hfree
        have c0 := (hW.cell (p := ⟨b5, 0, none⟩) l5).trans k50
        have c1 := (hW.cell (p := ⟨b5, 1, none⟩) l5).trans k51
        refine stpK rfl rfl fun K hK => ?_
        go_simp
        exact hK _ _ ⟨rfl, hW, Below.refl _ _, fun h => (List.not_mem_nil h).elim⟩
      | 1, ho, hr =>
        obtain rfl := Option.some.inj ho; obtain rfl := Option.some.inj hr
        have e0 := ev_tmp (show fr.eval (.tmp 65) = .agg #[.int .i64 (s5), .slice a5 (n5) (c5)] from hpre 0 (by decide) _ rfl)
        clear hpre hfree
        refine stpK rfl rfl fun K hK => ?_
        go_simp
        refine (CSG wx (hB1.trans (hW.mono hB1.size)) hW).mono ?_
        rintro e wy ⟨rfl, hb⟩
        exact hK _ _ ⟨rfl, hW.trans (hb.mono hW.size), hb, fun h => (List.not_mem_nil h).elim⟩
      | 2, ho, hr =>
        obtain rfl := Option.some.inj ho; obtain rfl := Option.some.inj hr
        have t7 := ev_tmp (show fr.eval (.tmp 7) = .pointer (some ⟨b7, 0, none⟩) from hfree 7 (by decide))
        clear hpre hfree
        have c0 := (hW.cell (p := ⟨b7, 0, none⟩) l7).trans k70
        have c1 := (hW.cell (p := ⟨b7, 1, none⟩) l7).trans k71
        refine stpK rfl rfl fun K hK => ?_
        go_simp
        exact hK _ _ ⟨rfl, hW, Below.refl _ _, fun h => (List.not_mem_nil h).elim⟩
      | 3, ho, hr =>
        obtain rfl := Option.some.inj ho; obtain rfl := Option.some.inj hr
        have e2 := ev_tmp (show fr.eval (.tmp 67) = .agg #[.bool (s7), .slice a7 (n7) (c7)] from hpre 2 (by decide) _ rfl)
        clear hpre hfree
        refine stpK rfl rfl fun K hK => ?_
        go_simp
        refine (CZSG wx (hB1.trans (hW.mono hB1.size)) hW).mono ?_
        rintro e wy ⟨rfl, hb⟩
        exact hK _ _ ⟨rfl, hW.trans (hb.mono hW.size), hb, fun h => (List.not_mem_nil h).elim⟩
      | 4, ho, hr =>
        obtain rfl := Option.some.inj ho; obtain rfl := Option.some.inj hr
        have e1 := ev_tmp (show fr.eval (.tmp 66) = .int .i64 (sg) from hpre 1 (by decide) _ rfl)
        have e3 := ev_tmp (show fr.eval (.tmp 68) = .int .i64 (sg) from hpre 3 (by decide) _ rfl)
        clear hpre hfree
        refine stpK rfl rfl fun K hK => ?_
        go_simp
        exact hK _ _ ⟨(by first | rfl | (simp; done)), hW, Below.refl _ _, fun h => (List.not_mem_nil h).elim⟩
      | 5, ho, hr =>
        obtain rfl := Option.some.inj ho; obtain rfl := Option.some.inj hr
        have e4 := ev_tmp (show fr.eval (.tmp 69) = .bool (true) from hpre 4 (by decide) _ rfl)
        clear hpre hfree
        refine stpK rfl rfl fun K hK => ?_
        go_simp
        exact hK _ _ ⟨rfl, hW, Below.refl _ _, fun h => (List.not_mem_nil h).elim⟩
      | 6, ho, hr =>
        obtain rfl := Option.some.inj ho; obtain rfl := Option.some.inj hr
        have e5 := ev_tmp (show fr.eval (.tmp 70) = .bool (true) from hpre 5 (by decide) _ rfl)
        have t5 := ev_tmp (show fr.eval (.tmp 5) = .pointer (some ⟨b5, 0, none⟩) from hfree 5 (by decide))
        clear hpre hfree
        have c0 := (hW.cell (p := ⟨b5, 0, none⟩) l5).trans k50
        have c1 := (hW.cell (p := ⟨b5, 1, none⟩) l5).trans k51
        refine stpK_g rfl rfl e5 rfl fun K hK => ?_
        go_simp
        exact hK _ _ ⟨rfl, hW, Below.refl _ _, fun h => (List.not_mem_nil h).elim⟩
      | 7, ho, hr =>
        obtain rfl := Option.some.inj ho; obtain rfl := Option.some.inj hr
        have e5 := ev_tmp (show fr.eval (.tmp 70) = .bool (true) from hpre 5 (by decide) _ rfl)
        have e6 := ev_tmp (show fr.eval (.tmp 71) = .agg #[.int .i64 (s5), .slice a5 (n5) (c5)] from hpre 6 (by decide) _ rfl)
        clear hpre hfree
        refine stpK_g rfl rfl e5 rfl fun K hK => ?_
        go_simp
        refine (neg_any wx _ z (HR6.out.i5.below hW)).mono ?_
        rintro e wy ⟨v4, rfl, hb, hm4⟩
        exact hK _ _ ⟨hm4, hW.trans (hb.mono hW.size), hb, fun h => (List.not_mem_nil h).elim⟩
      | 8, ho, hr =>
        obtain rfl := Option.some.inj ho; obtain rfl := Option.some.inj hr
        have e5 := ev_tmp (show fr.eval (.tmp 70) = .bool (true) from hpre 5 (by decide) _ rfl)
        obtain ⟨u7, q7⟩ : ∃ u, fr.eval (.tmp 72) = u := ⟨_, rfl⟩
        have p7 : IsInt wx u7 (-z) := by rw [← q7]; exact hpre 7 (by decide) _ rfl
        have e7 := ev_tmp q7; clear q7
        clear hpre hfree
        refine stpK_g rfl rfl e5 rfl fun K hK => ?_
        go_simp
        refine (CTM wx (hB1.trans (hW.mono hB1.size)) _ p7).mono ?_
        rintro e wy ⟨rfl, hb⟩
        exact hK _ _ ⟨rfl, hW.trans (hb.mono hW.size), hb, fun h => (List.not_mem_nil h).elim⟩
      | 9, ho, hr =>
        obtain rfl := Option.some.inj ho; obtain rfl := Option.some.inj hr
        have e5 := ev_tmp (show fr.eval (.tmp 70) = .bool (true) from hpre 5 (by decide) _ rfl)
        have t7 := ev_tmp (show fr.eval (.tmp 7) = .pointer (some ⟨b7, 0, none⟩) from hfree 7 (by decide))
        clear hpre hfree
        have c0 := (hW.cell (p := ⟨b7, 0, none⟩) l7).trans k70
        have c1 := (hW.cell (p := ⟨b7, 1, none⟩) l7).trans k71
        refine stpK_g rfl rfl e5 rfl fun K hK => ?_
        go_simp
        exact hK _ _ ⟨rfl, hW, Below.refl _ _, fun h => (List.not_mem_nil h).elim⟩
      | 10, ho, hr =>
        obtain rfl := Option.some.inj ho; obtain rfl := Option.some.inj hr
        have e5 := ev_tmp (show fr.eval (.tmp 70) = .bool (true) from hpre 5 (by decide) _ rfl)
        have e9 := ev_tmp (show fr.eval (.tmp 74) = .agg #[.bool (s7), .slice a7 (n7) (c7)] from hpre 9 (by decide) _ rfl)
        clear hpre hfree
        refine stpK_g rfl rfl e5 rfl fun K hK => ?_
        go_simp
        refine (zNeg_any wx _ z (HR6.out.i7.below hW)).mono ?_
        rintro e wy ⟨v4, rfl, hb, hm4⟩
        exact hK _ _ ⟨hm4, hW.trans (hb.mono hW.size), hb, fun h => (List.not_mem_nil h).elim⟩
      | 11, ho, hr =>
        obtain rfl := Option.some.inj ho; obtain rfl := Option.some.inj hr
        have e5 := ev_tmp (show fr.eval (.tmp 70) = .bool (true) from hpre 5 (by decide) _ rfl)
        obtain ⟨u10, q10⟩ : ∃ u, fr.eval (.tmp 75) = u := ⟨_, rfl⟩
        have p10 : IsZ wx u10 (-z) := by rw [← q10]; exact hpre 10 (by decide) _ rfl
        have e10 := ev_tmp q10; clear q10
        clear hpre hfree
        refine stpK_g rfl rfl e5 rfl fun K hK => ?_
        go_simp
        refine (CZTM wx _ p10).mono ?_
        rintro e wy ⟨rfl, hb⟩
        exact hK _ _ ⟨rfl, hW.trans (hb.mono hW.size), hb, fun h => (List.not_mem_nil h).elim⟩
      | 12, ho, hr =>
        obtain rfl := Option.some.inj ho; obtain rfl := Option.some.inj hr
        have e5 := ev_tmp (show fr.eval (.tmp 70) = .bool (true) from hpre 5 (by decide) _ rfl)
        have e8 := ev_tmp (show fr.eval (.tmp 73) = .string (tm) from hpre 8 (by decide) _ rfl)
        have e11 := ev_tmp (show fr.eval (.tmp 76) = .string (tm) from hpre 11 (by decide) _ rfl)
        clear hpre hfree
        refine stpK_g rfl rfl e5 rfl fun K hK => ?_
        go_simp
        exact hK _ _ ⟨(by first | rfl | (simp; done)), hW, Below.refl _ _, fun h => (List.not_mem_nil h).elim⟩
      | 13, ho, hr =>
        obtain rfl := Option.some.inj ho; obtain rfl := Option.some.inj hr
        have e5 := ev_tmp (show fr.eval (.tmp 70) = .bool (true) from hpre 5 (by decide) _ rfl)
        have e12 := ev_tmp (show fr.eval (.tmp 77) = .bool (true) from hpre 12 (by decide) _ rfl)
        clear hpre hfree
        refine stpK rfl rfl fun K hK => ?_
        go_simp
        exact hK _ _ ⟨rfl, hW, Below.refl _ _, fun h => (List.not_mem_nil h).elim⟩
      | 14, ho, hr =>
        obtain rfl := Option.some.inj ho; obtain rfl := Option.some.inj hr
        have e13 := ev_tmp (show fr.eval (.tmp 78) = .bool (true) from hpre 13 (by decide) _ rfl)
        clear hpre hfree
        refine stpK rfl rfl fun K hK => ?_
        go_simp
        exact hK _ _ ⟨rfl, hW, Below.refl _ _, fun h => (List.not_mem_nil h).elim⟩
      | 15, ho, hr =>
        obtain rfl := Option.some.inj ho; obtain rfl := Option.some.inj hr
        have e14 := ev_tmp (show fr.eval (.tmp 79) = .bool (true) from hpre 14 (by decide) _ rfl)
        have t9 := ev_tmp (show fr.eval (.tmp 9) = .int .i64 (sv) from hfree 9 (by decide))
        clear hpre hfree
        refine stpK_g rfl rfl e14 rfl fun K hK => ?_
        go_simp
        exact hK _ _ ⟨rfl, hW, Below.refl _ _, fun h => (List.not_mem_nil h).elim⟩
      | 16, ho, hr =>
        obtain rfl := Option.some.inj ho; obtain rfl := Option.some.inj hr
        have e14 := ev_tmp (show fr.eval (.tmp 79) = .bool (true) from hpre 14 (by decide) _ rfl)
        have t11 := ev_tmp (show fr.eval (.tmp 11) = .int .i64 (sv) from hfree 11 (by decide))
        clear hpre hfree
        refine stpK_g rfl rfl e14 rfl fun K hK => ?_
        go_simp
        exact hK _ _ ⟨rfl, hW, Below.refl _ _, fun h => (List.not_mem_nil h).elim⟩
      | 17, ho, hr =>
        obtain rfl := Option.some.inj ho; obtain rfl := Option.some.inj hr
        have e14 := ev_tmp (show fr.eval (.tmp 79) = .bool (true) from hpre 14 (by decide) _ rfl)
        have e15 := ev_tmp (show fr.eval (.tmp 80) = .int .i64 (sv) from hpre 15 (by decide) _ rfl)
        have e16 := ev_tmp (show fr.eval (.tmp 81) = .int .i64 (sv) from hpre 16 (by decide) _ rfl)
        clear hpre hfree
        refine stpK_g rfl rfl e14 rfl fun K hK => ?_
        go_simp
        exact hK _ _ ⟨(by first | rfl | (simp; done)), hW, Below.refl _ _, fun h => (List.not_mem_nil h).elim⟩
      | 18, ho, hr =>
        obtain rfl := Option.some.inj ho; obtain rfl := Option.some.inj hr
        have e14 := ev_tmp (show fr.eval (.tmp 79) = .bool (true) from hpre 14 (by decide) _ rfl)
        have e17 := ev_tmp (show fr.eval (.tmp 82) = .bool (true) from hpre 17 (by decide) _ rfl)
        clear hpre hfree
        refine stpK rfl rfl fun K hK => ?_
        go_simp
        exact hK _ _ ⟨rfl, hW, Below.refl _ _, fun h => (List.not_mem_nil h).elim⟩
      | 19, ho, hr =>
        obtain rfl := Option.some.inj ho; obtain rfl := Option.some.inj hr
        have e18 := ev_tmp (show fr.eval (.tmp 83) = .bool (true) from hpre 18 (by decide) _ rfl)
        clear hpre hfree
        refine stpK rfl rfl fun K hK => ?_
        go_simp
        exact hK _ _ ⟨rfl, hW, Below.refl _ _, fun h => (List.not_mem_nil h).elim⟩
      | 20, ho, hr =>
        obtain rfl := Option.some.inj ho; obtain rfl := Option.some.inj hr
        have e19 := ev_tmp (show fr.eval (.tmp 84) = .bool (true) from hpre 19 (by decide) _ rfl)
        have t10 := ev_tmp (show fr.eval (.tmp 10) = .bool (sb) from hfree 10 (by decide))
        clear hpre hfree
        refine stpK_g rfl rfl e19 rfl fun K hK => ?_
        go_simp
        exact hK _ _ ⟨rfl, hW, Below.refl _ _, fun h => (List.not_mem_nil h).elim⟩
      | 21, ho, hr =>
        obtain rfl := Option.some.inj ho; obtain rfl := Option.some.inj hr
        have e19 := ev_tmp (show fr.eval (.tmp 84) = .bool (true) from hpre 19 (by decide) _ rfl)
        have t12 := ev_tmp (show fr.eval (.tmp 12) = .bool (sb) from hfree 12 (by decide))
        clear hpre hfree
        refine stpK_g rfl rfl e19 rfl fun K hK => ?_
        go_simp
        exact hK _ _ ⟨rfl, hW, Below.refl _ _, fun h => (List.not_mem_nil h).elim⟩
      | 22, ho, hr =>
        obtain rfl := Option.some.inj ho; obtain rfl := Option.some.inj hr
        have e19 := ev_tmp (show fr.eval (.tmp 84) = .bool (true) from hpre 19 (by decide) _ rfl)
        have e20 := ev_tmp (show fr.eval (.tmp 85) = .bool (sb) from hpre 20 (by decide) _ rfl)
        have e21 := ev_tmp (show fr.eval (.tmp 86) = .bool (sb) from hpre 21 (by decide) _ rfl)
        clear hpre hfree
        refine stpK_g rfl rfl e19 rfl fun K hK => ?_
        go_simp
        exact hK _ _ ⟨(by first | rfl | (simp; done)), hW, Below.refl _ _, fun h => (List.not_mem_nil h).elim⟩
      | 23, ho, hr =>
        obtain rfl := Option.some.inj ho; obtain rfl := Option.some.inj hr
        have e19 := ev_tmp (show fr.eval (.tmp 84) = .bool (true) from hpre 19 (by decide) _ rfl)
        have e22 := ev_tmp (show fr.eval (.tmp 87) = .bool (true) from hpre 22 (by decide) _ rfl)
        clear hpre hfree
        refine stpK rfl rfl fun K hK => ?_
        go_simp
        exact hK _ _ ⟨rfl, hW, Below.refl _ _, fun h => (List.not_mem_nil h).elim⟩
      | 24, ho, hr =>
        obtain rfl := Option.some.inj ho; obtain rfl := Option.some.inj hr
        have e23 := ev_tmp (show fr.eval (.tmp 88) = .bool (true) from hpre 23 (by decide) _ rfl)
        clear hpre hfree
        refine stpK rfl rfl fun K hK => ?_
        go_simp
        exact hK _ _ ⟨rfl, hW, Below.refl _ _, fun h => (List.not_mem_nil h).elim⟩
      | n + 25, ho, hr => exact absurd hr (by simp)
    · intro vs wn hvs hW1 hap0
      clear hap0
      have e0 : vs 0 = .agg #[.int .i64 (s5), .slice a5 (n5) (c5)] := hvs 0 (by decide)
      have e1 : vs 1 = .int .i64 (sg) := hvs 1 (by decide)
      have e2 : vs 2 = .agg #[.bool (s7), .slice a7 (n7) (c7)] := hvs 2 (by decide)
      have e3 : vs 3 = .int .i64 (sg) := hvs 3 (by decide)
      have e4 : vs 4 = .bool (true) := hvs 4 (by decide)
      have e5 : vs 5 = .bool (true) := hvs 5 (by decide)
      have e6 : vs 6 = .agg #[.int .i64 (s5), .slice a5 (n5) (c5)] := hvs 6 (by decide)
      obtain ⟨u7, e7⟩ : ∃ u, vs 7 = u := ⟨_, rfl⟩
      have p7 : IsInt wn u7 (-z) := by rw [← e7]; exact hvs 7 (by decide)
      have e8 : vs 8 = .string (tm) := hvs 8 (by decide)
      have e9 : vs 9 = .agg #[.bool (s7), .slice a7 (n7) (c7)] := hvs 9 (by decide)
      obtain ⟨u10, e10⟩ : ∃ u, vs 10 = u := ⟨_, rfl⟩
      have p10 : IsZ wn u10 (-z) := by rw [← e10]; exact hvs 10 (by decide)
      have e11 : vs 11 = .string (tm) := hvs 11 (by decide)
      have e12 : vs 12 = .bool (true) := hvs 12 (by decide)
      have e13 : vs 13 = .bool (true) := hvs 13 (by decide)
      have e14 : vs 14 = .bool (true) := hvs 14 (by decide)
      have e15 : vs 15 = .int .i64 (sv) := hvs 15 (by decide)
      have e16 : vs 16 = .int .i64 (sv) := hvs 16 (by decide)
      have e17 : vs 17 = .bool (true) := hvs 17 (by decide)
      have e18 : vs 18 = .bool (true) := hvs 18 (by decide)
      have e19 : vs 19 = .bool (true) := hvs 19 (by decide)
      have e20 : vs 20 = .bool (sb) := hvs 20 (by decide)
      have e21 : vs 21 = .bool (sb) := hvs 21 (by decide)
      have e22 : vs 22 = .bool (true) := hvs 22 (by decide)
      have e23 : vs 23 = .bool (true) := hvs 23 (by decide)
      have e24 : vs 24 = .bool (true) := hvs 24 (by decide)
      simp only [puts, Nat.reduceAdd, e0, e1, e2, e3, e4, e5, e6, e7, e8, e9, e10, e11, e12, e13, e14, e15, e16, e17, e18, e19, e20, e21, e22, e23, e24, Act.put, List.setIfInBounds_toArray, List.set_cons_zero, List.set_cons_succ, List.drop_succ_cons, List.drop_zero, List.length_cons, List.length_nil]
      clear hvs e0 e1 e2 e3 e4 e5 e6 e7 e8 e9 e10 e11 e12 e13 e14 e15 e16 e17 e18 e19 e20 e21 e22 e23 e24
      have hB2 := HB6.out.trans (hW1.mono HB6.out.size)
      have HB2 : Hid _ := hB2
      clear l5 l6 l7 l8 k50 k51 k60 k61 k70 k71 k80 k81 hW1 HR6 HB6 CSG CZSG CTM CZTM p7 p10 hB1 hB2
      go_wp2
      go_ret
      exact ⟨rfl, HB2.out⟩

set_option maxRecDepth 10000 in
set_option maxHeartbeats 4000000 in
theorem numReads_b (w : World) (s : ByteArray) (n : Int) (hs : s.size ≤ 9223372036854775806) (hn1 : -9223372036854775808 ≤ n) (hn2 : n ≤ 9223372036854775807) (ht : TabP w) (h00 : ¬ pcode s.data.toList = 0) :
    Calls Tryz.prog 3 #[.string s, .int .i64 n] w fun e w' => e = .returned (.bool true) ∧ Below w.heap.size w w' := by
  have CP := parse_any w s hs
  have CZ := fun w => zparse_any w s hs
  have hz1 := pval_lt s.data.toList
  have hz2 := pval_B s.data.toList
  have hback : pcode s.data.toList = 0 → (⟨(txt (pval s.data.toList)).toArray⟩ : ByteArray) = s := fun h => by
    by_cases hV : _root_.Rad.Valid s.data.toList
    · by_cases hl : 1000 < (_root_.Rad.digs s.data.toList).length
      · exact absurd h (by unfold pcode; rw [if_pos hV, if_pos hl]; decide)
      · have e : pval s.data.toList = _root_.Rad.val s.data.toList := by unfold pval; rw [if_pos ⟨hV, by omega⟩]
        rw [e]
        unfold txt
        rw [hV.back]
    · exact absurd h (by unfold pcode; rw [if_neg hV]; decide)
  obtain ⟨pc, hpc⟩ : ∃ pc, pcode s.data.toList = pc := ⟨_, rfl⟩
  obtain ⟨pa, hpa⟩ : ∃ pa, pat s.data.toList = pa := ⟨_, rfl⟩
  obtain ⟨z, hz⟩ : ∃ z, pval s.data.toList = z := ⟨_, rfl⟩
  rw [hpc, hpa, hz] at CP
  simp only [hpc, hpa, hz] at CZ
  rw [hz] at hz1 hz2
  rw [hpc, hz] at hback
  rw [hpc] at h00
  have H00 : Hid _ := h00
  clear h00
  obtain ⟨tz, htz⟩ : ∃ tz : ByteArray, tz = ⟨(txt z).toArray⟩ := ⟨_, rfl⟩
  obtain ⟨tn, htn⟩ : ∃ tn : ByteArray, tn = ⟨(txt n).toArray⟩ := ⟨_, rfl⟩
  obtain ⟨tm, htm⟩ : ∃ tm : ByteArray, tm = ⟨(txt (-z)).toArray⟩ := ⟨_, rfl⟩
  rw [← htz] at hback
  have HBACK : Hid _ := hback
  have HT : Hid (TabP w) := ht
  have HZ1 : Hid _ := hz1
  have HZ2 : Hid _ := hz2
  have HTZE : Hid _ := htz
  have HTNE : Hid _ := htn
  have HTME : Hid _ := htm
  clear ht hpc hpa hz hz1 hz2 hback htz htn htm
  go_enter Tryz.func3, Tryz.ntmps3
  go_wp2_with (go_at_call 9; fail)
  refine CP.mono ?_
  rintro e w1 ⟨v1, rfl, hb1, hI1⟩
  clear CP
  obtain ⟨s5, a5, n5, c5, rfl⟩ := hI1.form
  unfold flt
  have x5 := Box2.mk2 w1 (.int .i64 s5) (.slice a5 n5 c5) 24 (Obj.cells #[Value.int .i64 pc, Value.int .i64 pa] 26)
  have x6 := Box2.mk1 w1 (Obj.cells #[Value.int .i64 s5, Value.slice a5 n5 c5] 24) (.int .i64 pc) (.int .i64 pa) 26
  have b2 := bel2 w1 (Obj.cells #[Value.int .i64 s5, Value.slice a5 n5 c5] 24) (Obj.cells #[Value.int .i64 pc, Value.int .i64 pa] 26)
  have HX5 : Hid _ := x5
  have HX6 : Hid _ := x6
  have HB2 : Hid _ := hb1.trans (b2.mono hb1.size)
  have HI1 : Hid _ := hI1.below b2
  clear x5 x6 b2 hI1 hb1
  go_wp2_with (go_at_call 10; fail)
  refine (CZ _).mono ?_
  rintro e w2 ⟨v2, rfl, hb2, hI2⟩
  clear CZ
  have hB2 := HB2.out.trans (hb2.mono HB2.out.size)
  have x5 := HX5.out.below hb2
  have x6 := HX6.out.below hb2
  have hI5 := IsInt.below HI1.out hb2
  obtain ⟨b5, hb5⟩ : ∃ b5, w1.heap.size = b5 := ⟨_, rfl⟩
  rw [hb5] at x5 x6 ⊢
  clear HX5 HX6 HB2 HI1 hb2 hb5
  obtain ⟨s7, a7, n7, c7, rfl⟩ := hI2.form
  unfold flt
  have RW0 : RW w ((w2.alloc (Obj.cells #[Value.bool s7, Value.slice a7 n7 c7] 31)).alloc (Obj.cells #[Value.int .i64 pc, Value.int .i64 pa] 26)) pc pa z b5 (b5 + 1) w2.heap.size (w2.heap.size + 1) s5 a5 n5 c5 s7 a7 n7 c7 := by
    have b2 := bel2 w2 (Obj.cells #[Value.bool s7, Value.slice a7 n7 c7] 31) (Obj.cells #[Value.int .i64 pc, Value.int .i64 pa] 26)
    exact ⟨hB2.trans (b2.mono hB2.size), x5.below b2, x6.below b2, Box2.mk2 _ _ _ _ _, Box2.mk1 _ _ _ _ _, hI5.below b2, hI2.below b2⟩
  have HRW0 : Hid _ := RW0
  clear x5 x6 hI5 hB2 hI2 RW0
  go_wp2_with (go_at_call 11; fail)
  refine (numBegun_any _ (HT.out.below HRW0.out.below)).mono ?_
  rintro e w3 ⟨rfl, hb3⟩
  have R3 := HRW0.out.step hb3
  obtain ⟨b7, hb7⟩ : ∃ b7, w2.heap.size = b7 := ⟨_, rfl⟩
  obtain ⟨b6, hb6⟩ : ∃ b6, b5 + 1 = b6 := ⟨_, rfl⟩
  rw [hb7, hb6] at R3
  rw [hb7, hb6]
  obtain ⟨b8, hb8⟩ : ∃ b8, b7 + 1 = b8 := ⟨_, rfl⟩
  rw [hb8] at R3 ⊢
  have HR3 : Hid _ := R3
  obtain ⟨hB1, ⟨l5, k50, k51⟩, ⟨l6, k60, k61⟩, ⟨l7, k70, k71⟩, ⟨l8, k80, k81⟩, -, -⟩ := id R3
  clear HRW0 hb3 hb7 hb6 hb8 R3 hB1
  go_wp2_with (go_at_call 12; fail)
  refine (small_v w3 _ z HR3.out.i5).mono ?_
  rintro e w4 ⟨rfl, hb4⟩
  have HR4' := HR3.out.step hb4
  clear l5 l6 l7 l8 k50 k51 k60 k61 k70 k71 k80 k81 hb4 HR3
  have HR4 : Hid _ := HR4'
  obtain ⟨-, ⟨l5, k50, k51⟩, ⟨l6, k60, k61⟩, ⟨l7, k70, k71⟩, ⟨l8, k80, k81⟩, -, -⟩ := id HR4'
  clear HR4'
  obtain ⟨sv, hsv⟩ : ∃ sv, smV z = sv := ⟨_, rfl⟩
  obtain ⟨sb, hsb⟩ : ∃ sb, smB z = sb := ⟨_, rfl⟩
  rw [hsv, hsb]
  have CS := zSmall_v w4 _ z 250 HR4.out.i7 HZ1.out (by decide) (by decide)
  rw [hsv, hsb] at CS
  clear hsv hsb
  go_wp2_with (go_at_call 13; fail)
  refine CS.mono ?_
  rintro e w5 ⟨rfl, hb5⟩
  clear CS
  have HR5' := HR4.out.step hb5
  clear l5 l6 l7 l8 k50 k51 k60 k61 k70 k71 k80 k81 hb5 HR4
  have HR5 : Hid _ := HR5'
  obtain ⟨-, ⟨l5, k50, k51⟩, ⟨l6, k60, k61⟩, ⟨l7, k70, k71⟩, ⟨l8, k80, k81⟩, -, -⟩ := id HR5'
  clear HR5'
  have HB5 : Hid _ := HR5.out.below
  have CT : ∀ wx, Below w.heap.size w wx → Below w5.heap.size w5 wx → Calls Tryz.prog 14 #[.agg #[.int .i64 s5, .slice a5 n5 c5]] wx fun e w' => e = .returned (.string tz) ∧ Below wx.heap.size wx w' := fun wx h1 h2 => by
    rw [HTZE.out]
    exact text_any wx _ z (HR5.out.i5.below h2) (Nat.lt_of_lt_of_le HZ2.out (Nat.pow_le_pow_right B_pos (by decide))) (HT.out.below h1)
  have CZT : ∀ wx, Below w.heap.size w wx → Below w5.heap.size w5 wx → Calls Tryz.prog 15 #[.agg #[.bool s7, .slice a7 n7 c7]] wx fun e w' => e = .returned (.string tz) ∧ Below wx.heap.size wx w' := fun wx h1 h2 => by
    rw [HTZE.out]
    exact zText_any wx _ z 250 (HR5.out.i7.below h2) HZ1.out (by decide)
  have CTN : ∀ wx, Below w.heap.size w wx → ∀ v, IsInt wx v n → Calls Tryz.prog 14 #[v] wx fun e w' => e = .returned (.string tn) ∧ Below wx.heap.size wx w' := fun wx h1 v hv => by
    rw [HTNE.out]
    exact text_any wx _ n hv (Nat.lt_of_lt_of_le (show n.natAbs < B ^ 1 by unfold B; omega) (Nat.pow_le_pow_right B_pos (by decide))) (HT.out.below h1)
  have CZTN : ∀ wx v, IsZ wx v n → Calls Tryz.prog 15 #[v] wx fun e w' => e = .returned (.string tn) ∧ Below wx.heap.size wx w' := fun wx v hv => by
    rw [HTNE.out]
    exact zText_any wx _ n 5 hv (by omega) (by decide)
  have CTM : ∀ wx, Below w.heap.size w wx → ∀ v, IsInt wx v (-z) → Calls Tryz.prog 14 #[v] wx fun e w' => e = .returned (.string tm) ∧ Below wx.heap.size wx w' := fun wx h1 v hv => by
    rw [HTME.out]
    exact text_any wx _ _ hv (by rw [Int.natAbs_neg]; exact Nat.lt_of_lt_of_le HZ2.out (Nat.pow_le_pow_right B_pos (by decide))) (HT.out.below h1)
  have CZTM : ∀ wx v, IsZ wx v (-z) → Calls Tryz.prog 15 #[v] wx fun e w' => e = .returned (.string tm) ∧ Below wx.heap.size wx w' := fun wx v hv => by
    rw [HTME.out]
    exact zText_any wx _ _ 250 hv (by rw [Int.natAbs_neg]; exact HZ1.out) (by decide)
  obtain ⟨sg, hsg⟩ : ∃ sg, cmpI z 0 = sg := ⟨_, rfl⟩
  have HSG : Hid _ := hsg
  clear hsg
  have hB1 : Below w.heap.size w w5 := HB5.out
  have HPC : Hid (Value.bool (pc == 0) = .bool false) := by show Value.bool (pc == 0) = .bool false; simpa using H00.out
  go_wp2
  refine wp_world (fun w1 => w1 = w5) rfl ?_
  rintro w1 rfl
  refine wp_drawn mixed [⟨40, [], [], [8]⟩, ⟨41, [0], [0], []⟩, ⟨42, [1], [0, 1], []⟩, ⟨43, [2], [0, 1, 2], []⟩, ⟨44, [3], [0, 1, 2, 3], [5]⟩, ⟨45, [3, 4], [0, 1, 2, 3, 4], []⟩, ⟨46, [3], [0, 1, 2, 3], [0]⟩, ⟨47, [3, 5, 6], [0, 1, 2, 3, 4, 5, 6], []⟩, ⟨48, [3, 7], [0, 1, 2, 3, 4, 5, 6, 7], []⟩, ⟨49, [5, 8], [0, 1, 2, 3, 4, 5, 6, 7, 8], []⟩, ⟨50, [9], [0, 1, 2, 3, 4, 5, 6, 7, 8, 9], [5]⟩, ⟨51, [9, 10], [0, 1, 2, 3, 4, 5, 6, 7, 8, 9, 10], []⟩, ⟨52, [9], [0, 1, 2, 3, 4, 5, 6, 7, 8, 9], [7]⟩, ⟨53, [9, 11, 12], [0, 1, 2, 3, 4, 5, 6, 7, 8, 9, 10, 11, 12], []⟩, ⟨54, [9, 11, 13], [0, 1, 2, 3, 4, 5, 6, 7, 8, 9, 10, 11, 12, 13], []⟩, ⟨55, [9, 14], [0, 1, 2, 3, 4, 5, 6, 7, 8, 9, 10, 11, 12, 13, 14], []⟩, ⟨56, [13, 15], [0, 1, 2, 3, 4, 5, 6, 7, 8, 9, 10, 11, 12, 13, 14, 15], []⟩, ⟨57, [16], [0, 1, 2, 3, 4, 5, 6, 7, 8, 9, 10, 11, 12, 13, 14, 15, 16], [1]⟩, ⟨58, [16, 17], [0, 1, 2, 3, 4, 5, 6, 7, 8, 9, 10, 11, 12, 13, 14, 15, 16, 17], []⟩, ⟨59, [16, 18], [0, 1, 2, 3, 4, 5, 6, 7, 8, 9, 10, 11, 12, 13, 14, 15, 16, 17, 18], []⟩, ⟨60, [16], [0, 1, 2, 3, 4, 5, 6, 7, 8, 9, 10, 11, 12, 13, 14, 15, 16], [1]⟩, ⟨61, [16, 19, 20], [0, 1, 2, 3, 4, 5, 6, 7, 8, 9, 10, 11, 12, 13, 14, 15, 16, 17, 18, 19, 20], []⟩, ⟨62, [16, 21], [0, 1, 2, 3, 4, 5, 6, 7, 8, 9, 10, 11, 12, 13, 14, 15, 16, 17, 18, 19, 20, 21], []⟩, ⟨63, [16, 19, 22], [0, 1, 2, 3, 4, 5, 6, 7, 8, 9, 10, 11, 12, 13, 14, 15, 16, 17, 18, 19, 20, 21, 22], []⟩, ⟨64, [16, 23], [0, 1, 2, 3, 4, 5, 6, 7, 8, 9, 10, 11, 12, 13, 14, 15, 16, 17, 18, 19, 20, 21, 22, 23], []⟩] [] (by kernel_rfl) 89 rfl (by kernel_rfl) (fun (i : Nat) (v : Value) (wq : World) => match i with | 0 => v = .pointer (some ⟨b8, 0, none⟩) | 1 => v = .int .i64 (pc) | 2 => v = .bool (false) | 3 => v = .bool (false) | 4 => v = undef | 5 => v = undef | 6 => v = undef | 7 => v = undef | 8 => v = .bool (false) | 9 => v = .bool (false) | 10 => v = .agg #[.int .i64 (s5), .slice a5 (n5) (c5)] | 11 => v = .string (tz) | 12 => v = .agg #[.bool (s7), .slice a7 (n7) (c7)] | 13 => v = .string (tz) | 14 => v = .bool (false) | 15 => v = .bool (false) | 16 => v = .bool (false) | 17 => v = .int .i64 (n) | 18 => IsInt wq v n | 19 => v = .string (tn) | 20 => v = .int .i64 (n) | 21 => IsZ wq v n | 22 => v = .string (tn) | 23 => v = .bool (false) | 24 => v = .bool (false) | _ => True) (fun _ wq => Below w1.heap.size w1 wq) (fun wx wy => Below wx.heap.size wx wy) (Below.refl _ _).drew (fun i v wx wy h hx => match i, h with | 0, h => h | 1, h => h | 2, h => h | 3, h => h | 4, h => h | 5, h => h | 6, h => h | 7, h => h | 8, h => h | 9, h => h | 10, h => h | 11, h => h | 12, h => h | 13, h => h | 14, h => h | 15, h => h | 16, h => h | 17, h => h | 19, h => h | 20, h => h | 22, h => h | 23, h => h | 24, h => h | 18, h => (h : IsInt wx v n).below hx | 21, h => (h : IsZ wx v n).below hx | n + 25, _ => trivial) ?_ ?_
  · intro i o r ho hr L fr wx hW hL hpr hds hdef hpre hfree
    clear hL hpr hds hdef
    match i, ho, hr with
    | 0, ho, hr =>
      obtain rfl := Option.some.inj ho; obtain rfl := Option.some.inj hr
      have t8 := ev_tmp (show fr.eval (.tmp 8) = .pointer (some ⟨b8, 0, none⟩) from hfree 8 (by decide))
      clear hpre hfree
      refine stpK rfl rfl fun K hK => ?_
      go_simp
      exact hK _ _ ⟨rfl, hW, Below.refl _ _, fun h => (List.not_mem_nil h).elim⟩
    | 1, ho, hr =>
      obtain rfl := Option.some.inj ho; obtain rfl := Option.some.inj hr
      have e0 := ev_tmp (show fr.eval (.tmp 40) = .pointer (some ⟨b8, 0, none⟩) from hpre 0 (by decide) _ rfl)
      clear hpre hfree
      have c0 := (hW.cell (p := ⟨b8, 0, none⟩) l8).trans k80
      refine stpK rfl rfl fun K hK => ?_
      go_simp
      exact hK _ _ ⟨rfl, hW, Below.refl _ _, fun h => (List.not_mem_nil h).elim⟩
    | 2, ho, hr =>
      obtain rfl := Option.some.inj ho; obtain rfl := Option.some.inj hr
      have e1 := ev_tmp (show fr.eval (.tmp 41) = .int .i64 (pc) from hpre 1 (by decide) _ rfl)
      clear hpre hfree
      refine stpK rfl rfl fun K hK => ?_
      go_simp
      exact hK _ _ ⟨HPC.out, hW, Below.refl _ _, fun h => (List.not_mem_nil h).elim⟩
    | 3, ho, hr =>
      obtain rfl := Option.some.inj ho; obtain rfl := Option.some.inj hr
      have e2 := ev_tmp (show fr.eval (.tmp 42) = .bool (false) from hpre 2 (by decide) _ rfl)
      clear hpre hfree
      refine stpK rfl rfl fun K hK => ?_
      go_simp
      exact hK _ _ ⟨rfl, hW, Below.refl _ _, fun h => (List.not_mem_nil h).elim⟩
    | 4, ho, hr =>
      obtain rfl := Option.some.inj ho; obtain rfl := Option.some.inj hr
      have e3 := ev_tmp (show fr.eval (.tmp 43) = .bool (false) from hpre 3 (by decide) _ rfl)
      have t5 := ev_tmp (show fr.eval (.tmp 5) = .pointer (some ⟨b5, 0, none⟩) from hfree 5 (by decide))
      clear hpre hfree
      refine stpN rfl rfl e3 (by decide) ⟨undef, rfl, rfl, hW, Below.refl _ _, fun h => (List.not_mem_nil h).elim⟩
    | 5, ho, hr =>
      obtain rfl := Option.some.inj ho; obtain rfl := Option.some.inj hr
      have e3 := ev_tmp (show fr.eval (.tmp 43) = .bool (false) from hpre 3 (by decide) _ rfl)
      have e4 := ev_tmp (show fr.eval (.tmp 44) = undef from hpre 4 (by decide) _ rfl)
      clear hpre hfree
      refine stpN rfl rfl e3 (by decide) ⟨undef, rfl, rfl, hW, Below.refl _ _, fun h => (List.not_mem_nil h).elim⟩
    | 6, ho, hr =>
      obtain rfl := Option.some.inj ho; obtain rfl := Option.some.inj hr
      have e3 := ev_tmp (show fr.eval (.tmp 43) = .bool (false) from hpre 3 (by decide) _ rfl)
      have t0 := ev_tmp (show fr.eval (.tmp 0) = .string (s) from hfree 0 (by decide))
      clear hpre hfree
      refine stpN rfl rfl e3 (by decide) ⟨undef, rfl, rfl, hW, Below.refl _ _, fun h => (List.not_mem_nil h).elim⟩
    | 7, ho, hr =>
      obtain rfl := Option.some.inj ho; obtain rfl := Option.some.inj hr
      have e3 := ev_tmp (show fr.eval (.tmp 43) = .bool (false) from hpre 3 (by decide) _ rfl)
      have e5 := ev_tmp (show fr.eval (.tmp 45) = undef from hpre 5 (by decide) _ rfl)
      have e6 := ev_tmp (show fr.eval (.tmp 46) = undef from hpre 6 (by decide) _ rfl)
      clear hpre hfree
      refine stpN rfl rfl e3 (by decide) ⟨undef, rfl, rfl, hW, Below.refl _ _, fun h => (List.not_mem_nil h).elim⟩
    | 8, ho, hr =>
      obtain rfl := Option.some.inj ho; obtain rfl := Option.some.inj hr
      have e3 := ev_tmp (show fr.eval (.tmp 43) = .bool (false) from hpre 3 (by decide) _ rfl)
      have e7 := ev_tmp (show fr.eval (.tmp 47) = undef from hpre 7 (by decide) _ rfl)
      clear hpre hfree
      refine stpK rfl rfl fun K hK => ?_
      go_simp
      exact hK _ _ ⟨rfl, hW, Below.refl _ _, fun h => (List.not_mem_nil h).elim⟩
    | 9, ho, hr =>
      obtain rfl := Option.some.inj ho; obtain rfl := Option.some.inj hr
      have e8 := ev_tmp (show fr.eval (.tmp 48) = .bool (false) from hpre 8 (by decide) _ rfl)
      clear hpre hfree
      refine stpK rfl rfl fun K hK => ?_
      go_simp
      exact hK _ _ ⟨rfl, hW, Below.refl _ _, fun h => (List.not_mem_nil h).elim⟩
    | 10, ho, hr =>
      obtain rfl := Option.some.inj ho; obtain rfl := Option.some.inj hr
      have e9 := ev_tmp (show fr.eval (.tmp 49) = .bool (false) from hpre 9 (by decide) _ rfl)
      have t5 := ev_tmp (show fr.eval (.tmp 5) = .pointer (some ⟨b5, 0, none⟩) from hfree 5 (by decide))
      clear hpre hfree
      have c0 := (hW.cell (p := ⟨b5, 0, none⟩) l5).trans k50
      have c1 := (hW.cell (p := ⟨b5, 1, none⟩) l5).trans k51
      refine stpK_g rfl rfl e9 rfl fun K hK => ?_
      go_simp
      exact hK _ _ ⟨rfl, hW, Below.refl _ _, fun h => (List.not_mem_nil h).elim⟩
    | 11, ho, hr =>
      obtain rfl := Option.some.inj ho; obtain rfl := Option.some.inj hr
      have e9 := ev_tmp (show fr.eval (.tmp 49) = .bool (false) from hpre 9 (by decide) _ rfl)
      have e10 := ev_tmp (show fr.eval (.tmp 50) = .agg #[.int .i64 (s5), .slice a5 (n5) (c5)] from hpre 10 (by decide) _ rfl)
      clear hpre hfree
      refine stpK_g rfl rfl e9 rfl fun K hK => ?_
      go_simp
      refine (CT wx (hB1.trans (hW.mono hB1.size)) hW).mono ?_
      rintro e wy ⟨rfl, hb⟩
      exact hK _ _ ⟨rfl, hW.trans (hb.mono hW.size), hb, fun h => (List.not_mem_nil h).elim⟩
    | 12, ho, hr =>
      obtain rfl := Option.some.inj ho; obtain rfl := Option.some.inj hr
      have e9 := ev_tmp (show fr.eval (.tmp 49) = .bool (false) from hpre 9 (by decide) _ rfl)
      have t7 := ev_tmp (show fr.eval (.tmp 7) = .pointer (some ⟨b7, 0, none⟩) from hfree 7 (by decide))
      clear hpre hfree
      have c0 := (hW.cell (p := ⟨b7, 0, none⟩) l7).trans k70
      have c1 := (hW.cell (p := ⟨b7, 1, none⟩) l7).trans k71
      refine stpK_g rfl rfl e9 rfl fun K hK => ?_
      go_simp
      exact hK _ _ ⟨rfl, hW, Below.refl _ _, fun h => (List.not_mem_nil h).elim⟩
    | 13, ho, hr =>
      obtain rfl := Option.some.inj ho; obtain rfl := Option.some.inj hr
      have e9 := ev_tmp (show fr.eval (.tmp 49) = .bool (false) from hpre 9 (by decide) _ rfl)
      have e12 := ev_tmp (show fr.eval (.tmp 52) = .agg #[.bool (s7), .slice a7 (n7) (c7)] from hpre 12 (by decide) _ rfl)
      clear hpre hfree
      refine stpK_g rfl rfl e9 rfl fun K hK => ?_
      go_simp
      refine (CZT wx (hB1.trans (hW.mono hB1.size)) hW).mono ?_
      rintro e wy ⟨rfl, hb⟩
      exact hK _ _ ⟨rfl, hW.trans (hb.mono hW.size), hb, fun h => (List.not_mem_nil h).elim⟩
    | 14, ho, hr =>
      obtain rfl := Option.some.inj ho; obtain rfl := Option.some.inj hr
      have e9 := ev_tmp (show fr.eval (.tmp 49) = .bool (false) from hpre 9 (by decide) _ rfl)
      have e11 := ev_tmp (show fr.eval (.tmp 51) = .string (tz) from hpre 11 (by decide) _ rfl)
      have e13 := ev_tmp (show fr.eval (.tmp 53) = .string (tz) from hpre 13 (by decide) _ rfl)
      clear hpre hfree
      refine stpK_g rfl rfl e9 rfl fun K hK => ?_
      go_simp
      exact hK _ _ ⟨(by first | rfl | (simp; done)), hW, Below.refl _ _, fun h => (List.not_mem_nil h).elim⟩
    | 15, ho, hr =>
      obtain rfl := Option.some.inj ho; obtain rfl := Option.some.inj hr
      have e9 := ev_tmp (show fr.eval (.tmp 49) = .bool (false) from hpre 9 (by decide) _ rfl)
      have e14 := ev_tmp (show fr.eval (.tmp 54) = .bool (false) from hpre 14 (by decide) _ rfl)
      clear hpre hfree
      refine stpK rfl rfl fun K hK => ?_
      go_simp
      exact hK _ _ ⟨rfl, hW, Below.refl _ _, fun h => (List.not_mem_nil h).elim⟩
    | 16, ho, hr =>
      obtain rfl := Option.some.inj ho; obtain rfl := Option.some.inj hr
      have e15 := ev_tmp (show fr.eval (.tmp 55) = .bool (false) from hpre 15 (by decide) _ rfl)
      clear hpre hfree
      refine stpK rfl rfl fun K hK => ?_
      go_simp
      exact hK _ _ ⟨rfl, hW, Below.refl _ _, fun h => (List.not_mem_nil h).elim⟩
    | 17, ho, hr =>
      obtain rfl := Option.some.inj ho; obtain rfl := Option.some.inj hr
      have e16 := ev_tmp (show fr.eval (.tmp 56) = .bool (false) from hpre 16 (by decide) _ rfl)
      have t1 := ev_tmp (show fr.eval (.tmp 1) = .int .i64 (n) from hfree 1 (by decide))
      clear hpre hfree
      refine stpK_g rfl rfl e16 rfl fun K hK => ?_
      go_simp
      exact hK _ _ ⟨rfl, hW, Below.refl _ _, fun h => (List.not_mem_nil h).elim⟩
    | 18, ho, hr =>
      obtain rfl := Option.some.inj ho; obtain rfl := Option.some.inj hr
      have e16 := ev_tmp (show fr.eval (.tmp 56) = .bool (false) from hpre 16 (by decide) _ rfl)
      have e17 := ev_tmp (show fr.eval (.tmp 57) = .int .i64 (n) from hpre 17 (by decide) _ rfl)
      clear hpre hfree
      refine stpK_g rfl rfl e16 rfl fun K hK => ?_
      go_simp
      refine (of_any wx n hn1 hn2).mono ?_
      rintro e wy ⟨v4, rfl, hb, hm4⟩
      exact hK _ _ ⟨hm4, hW.trans (hb.mono hW.size), hb, fun h => (List.not_mem_nil h).elim⟩
    | 19, ho, hr =>
      obtain rfl := Option.some.inj ho; obtain rfl := Option.some.inj hr
      have e16 := ev_tmp (show fr.eval (.tmp 56) = .bool (false) from hpre 16 (by decide) _ rfl)
      obtain ⟨u18, q18⟩ : ∃ u, fr.eval (.tmp 58) = u := ⟨_, rfl⟩
      have p18 : IsInt wx u18 n := by rw [← q18]; exact hpre 18 (by decide) _ rfl
      have e18 := ev_tmp q18; clear q18
      clear hpre hfree
      refine stpK_g rfl rfl e16 rfl fun K hK => ?_
      go_simp
      refine (CTN wx (hB1.trans (hW.mono hB1.size)) _ p18).mono ?_
      rintro e wy ⟨rfl, hb⟩
      exact hK _ _ ⟨rfl, hW.trans (hb.mono hW.size), hb, fun h => (List.not_mem_nil h).elim⟩
    | 20, ho, hr =>
      obtain rfl := Option.some.inj ho; obtain rfl := Option.some.inj hr
      have e16 := ev_tmp (show fr.eval (.tmp 56) = .bool (false) from hpre 16 (by decide) _ rfl)
      have t1 := ev_tmp (show fr.eval (.tmp 1) = .int .i64 (n) from hfree 1 (by decide))
      clear hpre hfree
      refine stpK_g rfl rfl e16 rfl fun K hK => ?_
      go_simp
      exact hK _ _ ⟨rfl, hW, Below.refl _ _, fun h => (List.not_mem_nil h).elim⟩
    | 21, ho, hr =>
      obtain rfl := Option.some.inj ho; obtain rfl := Option.some.inj hr
      have e16 := ev_tmp (show fr.eval (.tmp 56) = .bool (false) from hpre 16 (by decide) _ rfl)
      have e20 := ev_tmp (show fr.eval (.tmp 60) = .int .i64 (n) from hpre 20 (by decide) _ rfl)
      clear hpre hfree
      refine stpK_g rfl rfl e16 rfl fun K hK => ?_
      go_simp
      refine (zOf_any wx n hn1 hn2).mono ?_
      rintro e wy ⟨v4, rfl, hb, hm4⟩
      exact hK _ _ ⟨hm4, hW.trans (hb.mono hW.size), hb, fun h => (List.not_mem_nil h).elim⟩
    | 22, ho, hr =>
      obtain rfl := Option.some.inj ho; obtain rfl := Option.some.inj hr
      have e16 := ev_tmp (show fr.eval (.tmp 56) = .bool (false) from hpre 16 (by decide) _ rfl)
      obtain ⟨u21, q21⟩ : ∃ u, fr.eval (.tmp 61) = u := ⟨_, rfl⟩
      have p21 : IsZ wx u21 n := by rw [← q21]; exact hpre 21 (by decide) _ rfl
      have e21 := ev_tmp q21; clear q21
      clear hpre hfree
      refine stpK_g rfl rfl e16 rfl fun K hK => ?_
      go_simp
      refine (CZTN wx _ p21).mono ?_
      rintro e wy ⟨rfl, hb⟩
      exact hK _ _ ⟨rfl, hW.trans (hb.mono hW.size), hb, fun h => (List.not_mem_nil h).elim⟩
    | 23, ho, hr =>
      obtain rfl := Option.some.inj ho; obtain rfl := Option.some.inj hr
      have e16 := ev_tmp (show fr.eval (.tmp 56) = .bool (false) from hpre 16 (by decide) _ rfl)
      have e19 := ev_tmp (show fr.eval (.tmp 59) = .string (tn) from hpre 19 (by decide) _ rfl)
      have e22 := ev_tmp (show fr.eval (.tmp 62) = .string (tn) from hpre 22 (by decide) _ rfl)
      clear hpre hfree
      refine stpK_g rfl rfl e16 rfl fun K hK => ?_
      go_simp
      exact hK _ _ ⟨(by first | rfl | (simp; done)), hW, Below.refl _ _, fun h => (List.not_mem_nil h).elim⟩
    | 24, ho, hr =>
      obtain rfl := Option.some.inj ho; obtain rfl := Option.some.inj hr
      have e16 := ev_tmp (show fr.eval (.tmp 56) = .bool (false) from hpre 16 (by decide) _ rfl)
      have e23 := ev_tmp (show fr.eval (.tmp 63) = .bool (false) from hpre 23 (by decide) _ rfl)
      clear hpre hfree
      refine stpK rfl rfl fun K hK => ?_
      go_simp
      exact hK _ _ ⟨rfl, hW, Below.refl _ _, fun h => (List.not_mem_nil h).elim⟩
    | n + 25, ho, hr => exact absurd hr (by simp)
  · intro vs wn hvs hW1 hap0
    clear hap0
    have e0 : vs 0 = .pointer (some ⟨b8, 0, none⟩) := hvs 0 (by decide)
    have e1 : vs 1 = .int .i64 (pc) := hvs 1 (by decide)
    have e2 : vs 2 = .bool (false) := hvs 2 (by decide)
    have e3 : vs 3 = .bool (false) := hvs 3 (by decide)
    have e4 : vs 4 = undef := hvs 4 (by decide)
    have e5 : vs 5 = undef := hvs 5 (by decide)
    have e6 : vs 6 = undef := hvs 6 (by decide)
    have e7 : vs 7 = undef := hvs 7 (by decide)
    have e8 : vs 8 = .bool (false) := hvs 8 (by decide)
    have e9 : vs 9 = .bool (false) := hvs 9 (by decide)
    have e10 : vs 10 = .agg #[.int .i64 (s5), .slice a5 (n5) (c5)] := hvs 10 (by decide)
    have e11 : vs 11 = .string (tz) := hvs 11 (by decide)
    have e12 : vs 12 = .agg #[.bool (s7), .slice a7 (n7) (c7)] := hvs 12 (by decide)
    have e13 : vs 13 = .string (tz) := hvs 13 (by decide)
    have e14 : vs 14 = .bool (false) := hvs 14 (by decide)
    have e15 : vs 15 = .bool (false) := hvs 15 (by decide)
    have e16 : vs 16 = .bool (false) := hvs 16 (by decide)
    have e17 : vs 17 = .int .i64 (n) := hvs 17 (by decide)
    obtain ⟨u18, e18⟩ : ∃ u, vs 18 = u := ⟨_, rfl⟩
    have p18 : IsInt wn u18 n := by rw [← e18]; exact hvs 18 (by decide)
    have e19 : vs 19 = .string (tn) := hvs 19 (by decide)
    have e20 : vs 20 = .int .i64 (n) := hvs 20 (by decide)
    obtain ⟨u21, e21⟩ : ∃ u, vs 21 = u := ⟨_, rfl⟩
    have p21 : IsZ wn u21 n := by rw [← e21]; exact hvs 21 (by decide)
    have e22 : vs 22 = .string (tn) := hvs 22 (by decide)
    have e23 : vs 23 = .bool (false) := hvs 23 (by decide)
    have e24 : vs 24 = .bool (false) := hvs 24 (by decide)
    simp only [puts, Nat.reduceAdd, e0, e1, e2, e3, e4, e5, e6, e7, e8, e9, e10, e11, e12, e13, e14, e15, e16, e17, e18, e19, e20, e21, e22, e23, e24, Act.put, List.setIfInBounds_toArray, List.set_cons_zero, List.set_cons_succ, List.drop_succ_cons, List.drop_zero, List.length_cons, List.length_nil]
    clear hvs e0 e1 e2 e3 e4 e5 e6 e7 e8 e9 e10 e11 e12 e13 e14 e15 e16 e17 e18 e19 e20 e21 e22 e23 e24
    have HR6 : Hid _ := HR5.out.step hW1
    have HB6 : Hid _ := HR6.out.below
    replace hB1 := HR6.out.below
    clear l5 l6 l7 l8 k50 k51 k60 k61 k70 k71 k80 k81 hW1 HR5 HB5 CT CZT CTN CZTN p18 p21
    obtain ⟨-, ⟨l5, k50, k51⟩, ⟨l6, k60, k61⟩, ⟨l7, k70, k71⟩, ⟨l8, k80, k81⟩, -, -⟩ := HR6.out
    have CSG : ∀ wx, Below w.heap.size w wx → Below wn.heap.size wn wx → Calls Tryz.prog 18 #[.agg #[.int .i64 s5, .slice a5 n5 c5]] wx fun e w' => e = .returned (.int .i64 sg) ∧ Below wx.heap.size wx w' := fun wx h1 h2 => by
      rw [← HSG.out]
      exact sign_any wx _ z (HR6.out.i5.below h2)
    have CZSG : ∀ wx, Below w.heap.size w wx → Below wn.heap.size wn wx → Calls Tryz.prog 19 #[.agg #[.bool s7, .slice a7 n7 c7]] wx fun e w' => e = .returned (.int .i64 sg) ∧ Below wx.heap.size wx w' := fun wx h1 h2 => by
      rw [← HSG.out]
      exact zSign_any wx _ z (HR6.out.i7.below h2)
    go_wp2
    refine wp_world (fun w1 => w1 = wn) rfl ?_
    rintro w1 rfl
    refine wp_drawn mixed [⟨65, [], [], [5]⟩, ⟨66, [0], [0], []⟩, ⟨67, [], [], [7]⟩, ⟨68, [1, 2], [0, 1, 2], []⟩, ⟨69, [1, 3], [0, 1, 2, 3], []⟩, ⟨70, [3, 4], [0, 1, 2, 3, 4], []⟩, ⟨71, [5], [0, 1, 2, 3, 4, 5], [5]⟩, ⟨72, [5, 6], [0, 1, 2, 3, 4, 5, 6], []⟩, ⟨73, [5, 7], [0, 1, 2, 3, 4, 5, 6, 7], []⟩, ⟨74, [5], [0, 1, 2, 3, 4, 5], [7]⟩, ⟨75, [5, 8, 9], [0, 1, 2, 3, 4, 5, 6, 7, 8, 9], []⟩, ⟨76, [5, 10], [0, 1, 2, 3, 4, 5, 6, 7, 8, 9, 10], []⟩, ⟨77, [5, 8, 11], [0, 1, 2, 3, 4, 5, 6, 7, 8, 9, 10, 11], []⟩, ⟨78, [5, 12], [0, 1, 2, 3, 4, 5, 6, 7, 8, 9, 10, 11, 12], []⟩, ⟨79, [11, 13], [0, 1, 2, 3, 4, 5, 6, 7, 8, 9, 10, 11, 12, 13], []⟩, ⟨80, [14], [0, 1, 2, 3, 4, 5, 6, 7, 8, 9, 10, 11, 12, 13, 14], [9]⟩, ⟨81, [14], [0, 1, 2, 3, 4, 5, 6, 7, 8, 9, 10, 11, 12, 13, 14], [11]⟩, ⟨82, [14, 15, 16], [0, 1, 2, 3, 4, 5, 6, 7, 8, 9, 10, 11, 12, 13, 14, 15, 16], []⟩, ⟨83, [14, 17], [0, 1, 2, 3, 4, 5, 6, 7, 8, 9, 10, 11, 12, 13, 14, 15, 16, 17], []⟩, ⟨84, [14, 18], [0, 1, 2, 3, 4, 5, 6, 7, 8, 9, 10, 11, 12, 13, 14, 15, 16, 17, 18], []⟩, ⟨85, [19], [0, 1, 2, 3, 4, 5, 6, 7, 8, 9, 10, 11, 12, 13, 14, 15, 16, 17, 18, 19], [10]⟩, ⟨86, [19], [0, 1, 2, 3, 4, 5, 6, 7, 8, 9, 10, 11, 12, 13, 14, 15, 16, 17, 18, 19], [12]⟩, ⟨87, [19, 20, 21], [0, 1, 2, 3, 4, 5, 6, 7, 8, 9, 10, 11, 12, 13, 14, 15, 16, 17, 18, 19, 20, 21], []⟩, ⟨88, [19, 22], [0, 1, 2, 3, 4, 5, 6, 7, 8, 9, 10, 11, 12, 13, 14, 15, 16, 17, 18, 19, 20, 21, 22], []⟩, ⟨4, [0, 1, 2, 3, 4, 5, 6, 7, 8, 9, 10, 11, 12, 13, 14, 15, 16, 17, 18, 19, 20, 21, 22, 23], [0, 1, 2, 3, 4, 5, 6, 7, 8, 9, 10, 11, 12, 13, 14, 15, 16, 17, 18, 19, 20, 21, 22, 23], []⟩] [] (by kernel_rfl) 89 rfl (by kernel_rfl) (fun (i : Nat) (v : Value) (wq : World) => match i with | 0 => v = .agg #[.int .i64 (s5), .slice a5 (n5) (c5)] | 1 => v = .int .i64 (sg) | 2 => v = .agg #[.bool (s7), .slice a7 (n7) (c7)] | 3 => v = .int .i64 (sg) | 4 => v = .bool (true) | 5 => v = .bool (true) | 6 => v = .agg #[.int .i64 (s5), .slice a5 (n5) (c5)] | 7 => IsInt wq v (-z) | 8 => v = .string (tm) | 9 => v = .agg #[.bool (s7), .slice a7 (n7) (c7)] | 10 => IsZ wq v (-z) | 11 => v = .string (tm) | 12 => v = .bool (true) | 13 => v = .bool (true) | 14 => v = .bool (true) | 15 => v = .int .i64 (sv) | 16 => v = .int .i64 (sv) | 17 => v = .bool (true) | 18 => v = .bool (true) | 19 => v = .bool (true) | 20 => v = .bool (sb) | 21 => v = .bool (sb) | 22 => v = .bool (true) | 23 => v = .bool (true) | 24 => v = .bool (true) | _ => True) (fun _ wq => Below w1.heap.size w1 wq) (fun wx wy => Below wx.heap.size wx wy) (Below.refl _ _).drew (fun i v wx wy h hx => match i, h with | 0, h => h | 1, h => h | 2, h => h | 3, h => h | 4, h => h | 5, h => h | 6, h => h | 8, h => h | 9, h => h | 11, h => h | 12, h => h | 13, h => h | 14, h => h | 15, h => h | 16, h => h | 17, h => h | 18, h => h | 19, h => h | 20, h => h | 21, h => h | 22, h => h | 23, h => h | 24, h => h | 7, h => (h : IsInt wx v (-z)).below hx | 10, h => (h : IsZ wx v (-z)).below hx | n + 25, _ => trivial) ?_ ?_
    · intro i o r ho hr L fr wx hW hL hpr hds hdef hpre hfree
      clear hL hpr hds hdef
      match i, ho, hr with
      | 0, ho, hr =>
        obtain rfl := Option.some.inj ho; obtain rfl := Option.some.inj hr
        have t5 := ev_tmp (show fr.eval (.tmp 5) = .pointer (some ⟨b5, 0, none⟩) from hfree 5 (by decide))
        clear hpre hfree
        have c0 := (hW.cell (p := ⟨b5, 0, none⟩) l5).trans k50
        have c1 := (hW.cell (p := ⟨b5, 1, none⟩) l5).trans k51
        refine stpK rfl rfl fun K hK => ?_
        go_simp
        exact hK _ _ ⟨rfl, hW, Below.refl _ _, fun h => (List.not_mem_nil h).elim⟩
      | 1, ho, hr =>
        obtain rfl := Option.some.inj ho; obtain rfl := Option.some.inj hr
        have e0 := ev_tmp (show fr.eval (.tmp 65) = .agg #[.int .i64 (s5), .slice a5 (n5) (c5)] from hpre 0 (by decide) _ rfl)
        clear hpre hfree
        refine stpK rfl rfl fun K hK => ?_
        go_simp
        refine (CSG wx (hB1.trans (hW.mono hB1.size)) hW).mono ?_
        rintro e wy ⟨rfl, hb⟩
        exact hK _ _ ⟨rfl, hW.trans (hb.mono hW.size), hb, fun h => (List.not_mem_nil h).elim⟩
      | 2, ho, hr =>
        obtain rfl := Option.some.inj ho; obtain rfl := Option.some.inj hr
        have t7 := ev_tmp (show fr.eval (.tmp 7) = .pointer (some ⟨b7, 0, none⟩) from hfree 7 (by decide))
        clear hpre hfree
        have c0 := (hW.cell (p := ⟨b7, 0, none⟩) l7).trans k70
        have c1 := (hW.cell (p := ⟨b7, 1, none⟩) l7).trans k71
        refine stpK rfl rfl fun K hK => ?_
        go_simp
        exact hK _ _ ⟨rfl, hW, Below.refl _ _, fun h => (List.not_mem_nil h).elim⟩
      | 3, ho, hr =>
        obtain rfl := Option.some.inj ho; obtain rfl := Option.some.inj hr
        have e2 := ev_tmp (show fr.eval (.tmp 67) = .agg #[.bool (s7), .slice a7 (n7) (c7)] from hpre 2 (by decide) _ rfl)
        clear hpre hfree
        refine stpK rfl rfl fun K hK => ?_
        go_simp
        refine (CZSG wx (hB1.trans (hW.mono hB1.size)) hW).mono ?_
        rintro e wy ⟨rfl, hb⟩
        exact hK _ _ ⟨rfl, hW.trans (hb.mono hW.size), hb, fun h => (List.not_mem_nil h).elim⟩
      | 4, ho, hr =>
        obtain rfl := Option.some.inj ho; obtain rfl := Option.some.inj hr
        have e1 := ev_tmp (show fr.eval (.tmp 66) = .int .i64 (sg) from hpre 1 (by decide) _ rfl)
        have e3 := ev_tmp (show fr.eval (.tmp 68) = .int .i64 (sg) from hpre 3 (by decide) _ rfl)
        clear hpre hfree
        refine stpK rfl rfl fun K hK => ?_
        go_simp
        exact hK _ _ ⟨(by first | rfl | (simp; done)), hW, Below.refl _ _, fun h => (List.not_mem_nil h).elim⟩
      | 5, ho, hr =>
        obtain rfl := Option.some.inj ho; obtain rfl := Option.some.inj hr
        have e4 := ev_tmp (show fr.eval (.tmp 69) = .bool (true) from hpre 4 (by decide) _ rfl)
        clear hpre hfree
        refine stpK rfl rfl fun K hK => ?_
        go_simp
        exact hK _ _ ⟨rfl, hW, Below.refl _ _, fun h => (List.not_mem_nil h).elim⟩
      | 6, ho, hr =>
        obtain rfl := Option.some.inj ho; obtain rfl := Option.some.inj hr
        have e5 := ev_tmp (show fr.eval (.tmp 70) = .bool (true) from hpre 5 (by decide) _ rfl)
        have t5 := ev_tmp (show fr.eval (.tmp 5) = .pointer (some ⟨b5, 0, none⟩) from hfree 5 (by decide))
        clear hpre hfree
        have c0 := (hW.cell (p := ⟨b5, 0, none⟩) l5).trans k50
        have c1 := (hW.cell (p := ⟨b5, 1, none⟩) l5).trans k51
        refine stpK_g rfl rfl e5 rfl fun K hK => ?_
        go_simp
        exact hK _ _ ⟨rfl, hW, Below.refl _ _, fun h => (List.not_mem_nil h).elim⟩
      | 7, ho, hr =>
        obtain rfl := Option.some.inj ho; obtain rfl := Option.some.inj hr
        have e5 := ev_tmp (show fr.eval (.tmp 70) = .bool (true) from hpre 5 (by decide) _ rfl)
        have e6 := ev_tmp (show fr.eval (.tmp 71) = .agg #[.int .i64 (s5), .slice a5 (n5) (c5)] from hpre 6 (by decide) _ rfl)
        clear hpre hfree
        refine stpK_g rfl rfl e5 rfl fun K hK => ?_
        go_simp
        refine (neg_any wx _ z (HR6.out.i5.below hW)).mono ?_
        rintro e wy ⟨v4, rfl, hb, hm4⟩
        exact hK _ _ ⟨hm4, hW.trans (hb.mono hW.size), hb, fun h => (List.not_mem_nil h).elim⟩
      | 8, ho, hr =>
        obtain rfl := Option.some.inj ho; obtain rfl := Option.some.inj hr
        have e5 := ev_tmp (show fr.eval (.tmp 70) = .bool (true) from hpre 5 (by decide) _ rfl)
        obtain ⟨u7, q7⟩ : ∃ u, fr.eval (.tmp 72) = u := ⟨_, rfl⟩
        have p7 : IsInt wx u7 (-z) := by rw [← q7]; exact hpre 7 (by decide) _ rfl
        have e7 := ev_tmp q7; clear q7
        clear hpre hfree
        refine stpK_g rfl rfl e5 rfl fun K hK => ?_
        go_simp
        refine (CTM wx (hB1.trans (hW.mono hB1.size)) _ p7).mono ?_
        rintro e wy ⟨rfl, hb⟩
        exact hK _ _ ⟨rfl, hW.trans (hb.mono hW.size), hb, fun h => (List.not_mem_nil h).elim⟩
      | 9, ho, hr =>
        obtain rfl := Option.some.inj ho; obtain rfl := Option.some.inj hr
        have e5 := ev_tmp (show fr.eval (.tmp 70) = .bool (true) from hpre 5 (by decide) _ rfl)
        have t7 := ev_tmp (show fr.eval (.tmp 7) = .pointer (some ⟨b7, 0, none⟩) from hfree 7 (by decide))
        clear hpre hfree
        have c0 := (hW.cell (p := ⟨b7, 0, none⟩) l7).trans k70
        have c1 := (hW.cell (p := ⟨b7, 1, none⟩) l7).trans k71
        refine stpK_g rfl rfl e5 rfl fun K hK => ?_
        go_simp
        exact hK _ _ ⟨rfl, hW, Below.refl _ _, fun h => (List.not_mem_nil h).elim⟩
      | 10, ho, hr =>
        obtain rfl := Option.some.inj ho; obtain rfl := Option.some.inj hr
        have e5 := ev_tmp (show fr.eval (.tmp 70) = .bool (true) from hpre 5 (by decide) _ rfl)
        have e9 := ev_tmp (show fr.eval (.tmp 74) = .agg #[.bool (s7), .slice a7 (n7) (c7)] from hpre 9 (by decide) _ rfl)
        clear hpre hfree
        refine stpK_g rfl rfl e5 rfl fun K hK => ?_
        go_simp
        refine (zNeg_any wx _ z (HR6.out.i7.below hW)).mono ?_
        rintro e wy ⟨v4, rfl, hb, hm4⟩
        exact hK _ _ ⟨hm4, hW.trans (hb.mono hW.size), hb, fun h => (List.not_mem_nil h).elim⟩
      | 11, ho, hr =>
        obtain rfl := Option.some.inj ho; obtain rfl := Option.some.inj hr
        have e5 := ev_tmp (show fr.eval (.tmp 70) = .bool (true) from hpre 5 (by decide) _ rfl)
        obtain ⟨u10, q10⟩ : ∃ u, fr.eval (.tmp 75) = u := ⟨_, rfl⟩
        have p10 : IsZ wx u10 (-z) := by rw [← q10]; exact hpre 10 (by decide) _ rfl
        have e10 := ev_tmp q10; clear q10
        clear hpre hfree
        refine stpK_g rfl rfl e5 rfl fun K hK => ?_
        go_simp
        refine (CZTM wx _ p10).mono ?_
        rintro e wy ⟨rfl, hb⟩
        exact hK _ _ ⟨rfl, hW.trans (hb.mono hW.size), hb, fun h => (List.not_mem_nil h).elim⟩
      | 12, ho, hr =>
        obtain rfl := Option.some.inj ho; obtain rfl := Option.some.inj hr
        have e5 := ev_tmp (show fr.eval (.tmp 70) = .bool (true) from hpre 5 (by decide) _ rfl)
        have e8 := ev_tmp (show fr.eval (.tmp 73) = .string (tm) from hpre 8 (by decide) _ rfl)
        have e11 := ev_tmp (show fr.eval (.tmp 76) = .string (tm) from hpre 11 (by decide) _ rfl)
        clear hpre hfree
        refine stpK_g rfl rfl e5 rfl fun K hK => ?_
        go_simp
        exact hK _ _ ⟨(by first | rfl | (simp; done)), hW, Below.refl _ _, fun h => (List.not_mem_nil h).elim⟩
      | 13, ho, hr =>
        obtain rfl := Option.some.inj ho; obtain rfl := Option.some.inj hr
        have e5 := ev_tmp (show fr.eval (.tmp 70) = .bool (true) from hpre 5 (by decide) _ rfl)
        have e12 := ev_tmp (show fr.eval (.tmp 77) = .bool (true) from hpre 12 (by decide) _ rfl)
        clear hpre hfree
        refine stpK rfl rfl fun K hK => ?_
        go_simp
        exact hK _ _ ⟨rfl, hW, Below.refl _ _, fun h => (List.not_mem_nil h).elim⟩
      | 14, ho, hr =>
        obtain rfl := Option.some.inj ho; obtain rfl := Option.some.inj hr
        have e13 := ev_tmp (show fr.eval (.tmp 78) = .bool (true) from hpre 13 (by decide) _ rfl)
        clear hpre hfree
        refine stpK rfl rfl fun K hK => ?_
        go_simp
        exact hK _ _ ⟨rfl, hW, Below.refl _ _, fun h => (List.not_mem_nil h).elim⟩
      | 15, ho, hr =>
        obtain rfl := Option.some.inj ho; obtain rfl := Option.some.inj hr
        have e14 := ev_tmp (show fr.eval (.tmp 79) = .bool (true) from hpre 14 (by decide) _ rfl)
        have t9 := ev_tmp (show fr.eval (.tmp 9) = .int .i64 (sv) from hfree 9 (by decide))
        clear hpre hfree
        refine stpK_g rfl rfl e14 rfl fun K hK => ?_
        go_simp
        exact hK _ _ ⟨rfl, hW, Below.refl _ _, fun h => (List.not_mem_nil h).elim⟩
      | 16, ho, hr =>
        obtain rfl := Option.some.inj ho; obtain rfl := Option.some.inj hr
        have e14 := ev_tmp (show fr.eval (.tmp 79) = .bool (true) from hpre 14 (by decide) _ rfl)
        have t11 := ev_tmp (show fr.eval (.tmp 11) = .int .i64 (sv) from hfree 11 (by decide))
        clear hpre hfree
        refine stpK_g rfl rfl e14 rfl fun K hK => ?_
        go_simp
        exact hK _ _ ⟨rfl, hW, Below.refl _ _, fun h => (List.not_mem_nil h).elim⟩
      | 17, ho, hr =>
        obtain rfl := Option.some.inj ho; obtain rfl := Option.some.inj hr
        have e14 := ev_tmp (show fr.eval (.tmp 79) = .bool (true) from hpre 14 (by decide) _ rfl)
        have e15 := ev_tmp (show fr.eval (.tmp 80) = .int .i64 (sv) from hpre 15 (by decide) _ rfl)
        have e16 := ev_tmp (show fr.eval (.tmp 81) = .int .i64 (sv) from hpre 16 (by decide) _ rfl)
        clear hpre hfree
        refine stpK_g rfl rfl e14 rfl fun K hK => ?_
        go_simp
        exact hK _ _ ⟨(by first | rfl | (simp; done)), hW, Below.refl _ _, fun h => (List.not_mem_nil h).elim⟩
      | 18, ho, hr =>
        obtain rfl := Option.some.inj ho; obtain rfl := Option.some.inj hr
        have e14 := ev_tmp (show fr.eval (.tmp 79) = .bool (true) from hpre 14 (by decide) _ rfl)
        have e17 := ev_tmp (show fr.eval (.tmp 82) = .bool (true) from hpre 17 (by decide) _ rfl)
        clear hpre hfree
        refine stpK rfl rfl fun K hK => ?_
        go_simp
        exact hK _ _ ⟨rfl, hW, Below.refl _ _, fun h => (List.not_mem_nil h).elim⟩
      | 19, ho, hr =>
        obtain rfl := Option.some.inj ho; obtain rfl := Option.some.inj hr
        have e18 := ev_tmp (show fr.eval (.tmp 83) = .bool (true) from hpre 18 (by decide) _ rfl)
        clear hpre hfree
        refine stpK rfl rfl fun K hK => ?_
        go_simp
        exact hK _ _ ⟨rfl, hW, Below.refl _ _, fun h => (List.not_mem_nil h).elim⟩
      | 20, ho, hr =>
        obtain rfl := Option.some.inj ho; obtain rfl := Option.some.inj hr
        have e19 := ev_tmp (show fr.eval (.tmp 84) = .bool (true) from hpre 19 (by decide) _ rfl)
        have t10 := ev_tmp (show fr.eval (.tmp 10) = .bool (sb) from hfree 10 (by decide))
        clear hpre hfree
        refine stpK_g rfl rfl e19 rfl fun K hK => ?_
        go_simp
        exact hK _ _ ⟨rfl, hW, Below.refl _ _, fun h => (List.not_mem_nil h).elim⟩
      | 21, ho, hr =>
        obtain rfl := Option.some.inj ho; obtain rfl := Option.some.inj hr
        have e19 := ev_tmp (show fr.eval (.tmp 84) = .bool (true) from hpre 19 (by decide) _ rfl)
        have t12 := ev_tmp (show fr.eval (.tmp 12) = .bool (sb) from hfree 12 (by decide))
        clear hpre hfree
        refine stpK_g rfl rfl e19 rfl fun K hK => ?_
        go_simp
        exact hK _ _ ⟨rfl, hW, Below.refl _ _, fun h => (List.not_mem_nil h).elim⟩
      | 22, ho, hr =>
        obtain rfl := Option.some.inj ho; obtain rfl := Option.some.inj hr
        have e19 := ev_tmp (show fr.eval (.tmp 84) = .bool (true) from hpre 19 (by decide) _ rfl)
        have e20 := ev_tmp (show fr.eval (.tmp 85) = .bool (sb) from hpre 20 (by decide) _ rfl)
        have e21 := ev_tmp (show fr.eval (.tmp 86) = .bool (sb) from hpre 21 (by decide) _ rfl)
        clear hpre hfree
        refine stpK_g rfl rfl e19 rfl fun K hK => ?_
        go_simp
        exact hK _ _ ⟨(by first | rfl | (simp; done)), hW, Below.refl _ _, fun h => (List.not_mem_nil h).elim⟩
      | 23, ho, hr =>
        obtain rfl := Option.some.inj ho; obtain rfl := Option.some.inj hr
        have e19 := ev_tmp (show fr.eval (.tmp 84) = .bool (true) from hpre 19 (by decide) _ rfl)
        have e22 := ev_tmp (show fr.eval (.tmp 87) = .bool (true) from hpre 22 (by decide) _ rfl)
        clear hpre hfree
        refine stpK rfl rfl fun K hK => ?_
        go_simp
        exact hK _ _ ⟨rfl, hW, Below.refl _ _, fun h => (List.not_mem_nil h).elim⟩
      | 24, ho, hr =>
        obtain rfl := Option.some.inj ho; obtain rfl := Option.some.inj hr
        have e23 := ev_tmp (show fr.eval (.tmp 88) = .bool (true) from hpre 23 (by decide) _ rfl)
        clear hpre hfree
        refine stpK rfl rfl fun K hK => ?_
        go_simp
        exact hK _ _ ⟨rfl, hW, Below.refl _ _, fun h => (List.not_mem_nil h).elim⟩
      | n + 25, ho, hr => exact absurd hr (by simp)
    · intro vs wn hvs hW1 hap0
      clear hap0
      have e0 : vs 0 = .agg #[.int .i64 (s5), .slice a5 (n5) (c5)] := hvs 0 (by decide)
      have e1 : vs 1 = .int .i64 (sg) := hvs 1 (by decide)
      have e2 : vs 2 = .agg #[.bool (s7), .slice a7 (n7) (c7)] := hvs 2 (by decide)
      have e3 : vs 3 = .int .i64 (sg) := hvs 3 (by decide)
      have e4 : vs 4 = .bool (true) := hvs 4 (by decide)
      have e5 : vs 5 = .bool (true) := hvs 5 (by decide)
      have e6 : vs 6 = .agg #[.int .i64 (s5), .slice a5 (n5) (c5)] := hvs 6 (by decide)
      obtain ⟨u7, e7⟩ : ∃ u, vs 7 = u := ⟨_, rfl⟩
      have p7 : IsInt wn u7 (-z) := by rw [← e7]; exact hvs 7 (by decide)
      have e8 : vs 8 = .string (tm) := hvs 8 (by decide)
      have e9 : vs 9 = .agg #[.bool (s7), .slice a7 (n7) (c7)] := hvs 9 (by decide)
      obtain ⟨u10, e10⟩ : ∃ u, vs 10 = u := ⟨_, rfl⟩
      have p10 : IsZ wn u10 (-z) := by rw [← e10]; exact hvs 10 (by decide)
      have e11 : vs 11 = .string (tm) := hvs 11 (by decide)
      have e12 : vs 12 = .bool (true) := hvs 12 (by decide)
      have e13 : vs 13 = .bool (true) := hvs 13 (by decide)
      have e14 : vs 14 = .bool (true) := hvs 14 (by decide)
      have e15 : vs 15 = .int .i64 (sv) := hvs 15 (by decide)
      have e16 : vs 16 = .int .i64 (sv) := hvs 16 (by decide)
      have e17 : vs 17 = .bool (true) := hvs 17 (by decide)
      have e18 : vs 18 = .bool (true) := hvs 18 (by decide)
      have e19 : vs 19 = .bool (true) := hvs 19 (by decide)
      have e20 : vs 20 = .bool (sb) := hvs 20 (by decide)
      have e21 : vs 21 = .bool (sb) := hvs 21 (by decide)
      have e22 : vs 22 = .bool (true) := hvs 22 (by decide)
      have e23 : vs 23 = .bool (true) := hvs 23 (by decide)
      have e24 : vs 24 = .bool (true) := hvs 24 (by decide)
      simp only [puts, Nat.reduceAdd, e0, e1, e2, e3, e4, e5, e6, e7, e8, e9, e10, e11, e12, e13, e14, e15, e16, e17, e18, e19, e20, e21, e22, e23, e24, Act.put, List.setIfInBounds_toArray, List.set_cons_zero, List.set_cons_succ, List.drop_succ_cons, List.drop_zero, List.length_cons, List.length_nil]
      clear hvs e0 e1 e2 e3 e4 e5 e6 e7 e8 e9 e10 e11 e12 e13 e14 e15 e16 e17 e18 e19 e20 e21 e22 e23 e24
      have hB2 := HB6.out.trans (hW1.mono HB6.out.size)
      have HB2 : Hid _ := hB2
      clear l5 l6 l7 l8 k50 k51 k60 k61 k70 k71 k80 k81 hW1 HR6 HB6 CSG CZSG CTM CZTM p7 p10 hB1 hB2
      go_wp2
      go_ret
      exact ⟨rfl, HB2.out⟩
theorem numReads_walk (w : World) (s : ByteArray) (n : Int) (hs : s.size ≤ 9223372036854775806) (hn1 : -9223372036854775808 ≤ n) (hn2 : n ≤ 9223372036854775807) (ht : TabP w) :
    Calls Tryz.prog 3 #[.string s, .int .i64 n] w fun e w' => e = .returned (.bool true) ∧ Below w.heap.size w w' := by
  by_cases h : pcode s.data.toList = 0
  · exact numReads_a w s n hs hn1 hn2 ht h
  · exact numReads_b w s n hs hn1 hn2 ht h
end Go.Proofs.YtjlkplidpdhgbaaGreatDoor
