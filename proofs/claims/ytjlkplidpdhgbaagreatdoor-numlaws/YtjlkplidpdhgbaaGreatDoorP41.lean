/- A part of the proof: S5. -/
import Derived.Test.YtjlkplidpdhgbaaGreatDoorP25
import Derived.Test.YtjlkplidpdhgbaaGreatDoorP29
import Derived.Test.YtjlkplidpdhgbaaGreatDoorP38
import Derived.Test.YtjlkplidpdhgbaaGreatDoorP27
import Derived.Test.YtjlkplidpdhgbaaGreatDoorP39
import Derived.Test.YtjlkplidpdhgbaaGreatDoorP32
import Derived.Test.YtjlkplidpdhgbaaGreatDoorP40
set_option linter.all false

namespace Go.Proofs.YtjlkplidpdhgbaaGreatDoor
open Go Go.Proofs Go.RowKit Go.Rad


theorem pval_lt53 (l : List UInt8) : (pval l).natAbs < B ^ 53 := Nat.lt_of_lt_of_le (pval_lt l) (by unfold B; decide)
theorem cmp_same (w : World) (vx vy : Value) (x y : Int) (L : Nat) (hx : IsInt w vx x) (hy : IsInt w vy y) (hb : x.natAbs < B ^ L) (hL : L ≤ 1099511627776) (h : x = y) :
    Calls Tryz.prog 28 #[vx, vy] w fun e w' => e = .returned (.int .i64 0) ∧ Below w.heap.size w w' := by
  subst h
  have e : cmpI x x = 0 := by unfold cmpI; rw [if_neg (by omega), if_pos rfl]
  have := cmp_any w vx vy x x L hx hy hb hb hL
  rw [e] at this
  exact this
theorem wrapid {g : Int} (h : -1 ≤ g ∧ g ≤ 1) : Value.int .i64 (IntKind.i64.wrap g) = .int .i64 g := by
  rw [IntKind.wrap_i64]
  congr 1
  omega
theorem cmpI_swap (x y : Int) : cmpI y x = -cmpI x y := by
  unfold cmpI
  rcases Int.lt_trichotomy x y with h | h | h
  · rw [if_pos h, if_neg (by omega), if_neg (by omega)]; rfl
  · subst h; rw [if_neg (by omega), if_pos rfl]; rfl
  · rw [if_pos h, if_neg (by omega), if_neg (by omega)]
theorem cmpI_sub (x y : Int) : cmpI (x - y) 0 = cmpI x y := by
  unfold cmpI
  rcases Int.lt_trichotomy x y with h | h | h
  · rw [if_pos h, if_pos (by omega)]
  · subst h; rw [if_neg (by omega), if_pos (by omega), if_neg (by omega), if_pos rfl]
  · rw [if_neg (by omega), if_neg (by omega), if_neg (by omega), if_neg (by omega)]
/-- The world behind the first statements of NumLaws. -/
structure NK (w wr : World) (b7 b9 b11 : Nat) (s7 : Int) (a7 : Option Addr) (n7 c7 : Nat) (s9 : Int) (a9 : Option Addr) (n9 c9 : Nat) (s11 : Int) (a11 : Option Addr) (n11 c11 : Nat) (x y z : Int) : Prop where
  below : Below w.heap.size w wr
  f7 : FB wr b7 (.int .i64 s7) (.slice a7 n7 c7)
  f9 : FB wr b9 (.int .i64 s9) (.slice a9 n9 c9)
  f11 : FB wr b11 (.int .i64 s11) (.slice a11 n11 c11)
  i7 : IsInt wr (.agg #[.int .i64 s7, .slice a7 n7 c7]) x
  i9 : IsInt wr (.agg #[.int .i64 s9, .slice a9 n9 c9]) y
  i11 : IsInt wr (.agg #[.int .i64 s11, .slice a11 n11 c11]) z
theorem NK.step {w wr wy : World} {b7 b9 b11 : Nat} {s7 : Int} {a7 : Option Addr} {n7 c7 : Nat} {s9 : Int} {a9 : Option Addr} {n9 c9 : Nat} {s11 : Int} {a11 : Option Addr} {n11 c11 : Nat} {x y z : Int} (h : NK w wr b7 b9 b11 s7 a7 n7 c7 s9 a9 n9 c9 s11 a11 n11 c11 x y z) (hb : Below wr.heap.size wr wy) : NK w wy b7 b9 b11 s7 a7 n7 c7 s9 a9 n9 c9 s11 a11 n11 c11 x y z :=
  ⟨h.below.trans (hb.mono h.below.size), h.f7.below hb, h.f9.below hb, h.f11.below hb, h.i7.below hb, h.i9.below hb, h.i11.below hb⟩

theorem law_store {w w8 : World} {b7 b9 b11 b14 : Nat} {s7 : Int} {a7 : Option Addr} {n7 c7 : Nat} {s9 : Int} {a9 : Option Addr} {n9 c9 : Nat} {s11 : Int} {a11 : Option Addr} {n11 c11 : Nat} {x y z Q R : Int} {s15 s16 : Int} {a15 a16 : Option Addr} {n15 c15 n16 c16 : Nat} (h : NK w w8 b7 b9 b11 s7 a7 n7 c7 s9 a9 n9 c9 s11 a11 n11 c11 x y z) (f : FB w8 b14 (.int .i64 0) (.int .i64 0))
    (hn : b7 ≠ b14 ∧ b9 ≠ b14 ∧ b11 ≠ b14 ∧ w.heap.size ≤ b14) (hq : IsInt w8 (.agg #[.int .i64 s15, .slice a15 n15 c15]) Q) (hr : IsInt w8 (.agg #[.int .i64 s16, .slice a16 n16 c16]) R) (c : Int) {W : World}
    (hW : W = (((w8.setCell ⟨b14, 0, none⟩ (.int .i64 c)).setCell ⟨b14, 1, none⟩ (.int .i64 0)).alloc (Obj.cells #[.int .i64 s15, .slice a15 n15 c15] 24)).alloc (Obj.cells #[.int .i64 s16, .slice a16 n16 c16] 24)) :
    NK w W b7 b9 b11 s7 a7 n7 c7 s9 a9 n9 c9 s11 a11 n11 c11 x y z ∧ FB W b14 (.int .i64 c) (.int .i64 0) ∧ FB W w8.heap.size (.int .i64 s15) (.slice a15 n15 c15) ∧ FB W (w8.heap.size + 1) (.int .i64 s16) (.slice a16 n16 c16) ∧
      IsInt W (.agg #[.int .i64 s15, .slice a15 n15 c15]) Q ∧ IsInt W (.agg #[.int .i64 s16, .slice a16 n16 c16]) R := by
  obtain ⟨u, hu⟩ : ∃ u, u = (w8.setCell ⟨b14, 0, none⟩ (.int .i64 c)).setCell ⟨b14, 1, none⟩ (.int .i64 0) := ⟨_, rfl⟩
  have K := f.keepF (.int .i64 c) (.int .i64 0)
  have NU : NK w u b7 b9 b11 s7 a7 n7 c7 s9 a9 n9 c9 s11 a11 n11 c11 x y z := by
    rw [hu]
    exact ⟨below_set2 h.below hn.2.2.2 _ _, h.f7.other _ _ hn.1, h.f9.other _ _ hn.2.1, h.f11.other _ _ hn.2.2.1, h.i7.keep K, h.i9.keep K, h.i11.keep K⟩
  have FU : FB u b14 (.int .i64 c) (.int .i64 0) := by rw [hu]; exact f.set _ _
  have IQ := hq.keep K
  have IR := hr.keep K
  have hs : u.heap.size = w8.heap.size := by rw [hu]; simp
  rw [← hu] at hW IQ IR
  obtain ⟨b2, f1, f2⟩ := fb2 u _ _ _ _ _ _ hW
  rw [hs] at f1 f2
  exact ⟨NU.step b2, FU.below b2, f1, f2, IQ.below b2, IR.below b2⟩

set_option maxRecDepth 10000 in
set_option maxHeartbeats 8000000 in
theorem numLaws_any (w : World) (s t r : ByteArray) (hs : s.size ≤ 9223372036854775806) (ht' : t.size ≤ 9223372036854775806) (hr' : r.size ≤ 9223372036854775806) (ht : TabP w) (hb : TabB w) :
    Calls Tryz.prog 8 #[.string s, .string t, .string r] w fun e w' => e = .returned (.bool true) ∧ Below w.heap.size w w' := by
  have CPX := fun w => parse_any w s hs
  have CPY := fun w => parse_any w t ht'
  have CPZ := fun w => parse_any w r hr'
  have hx0 := pval_lt s.data.toList
  obtain ⟨x, hzx⟩ : ∃ x, pval s.data.toList = x := ⟨_, rfl⟩
  obtain ⟨y, hzy⟩ : ∃ y, pval t.data.toList = y := ⟨_, rfl⟩
  obtain ⟨z, hzz⟩ : ∃ z, pval r.data.toList = z := ⟨_, rfl⟩
  have hx := pval_lt53 s.data.toList
  have hy := pval_lt53 t.data.toList
  have hz := pval_lt53 r.data.toList
  obtain ⟨pc, hpc⟩ : ∃ pc, pcode s.data.toList = pc := ⟨_, rfl⟩
  obtain ⟨pa, hpa⟩ : ∃ pa, pat s.data.toList = pa := ⟨_, rfl⟩
  obtain ⟨qc, hqc⟩ : ∃ qc, pcode t.data.toList = qc := ⟨_, rfl⟩
  obtain ⟨qa, hqa⟩ : ∃ qa, pat t.data.toList = qa := ⟨_, rfl⟩
  obtain ⟨rc, hrc⟩ : ∃ rc, pcode r.data.toList = rc := ⟨_, rfl⟩
  obtain ⟨ra, hra⟩ : ∃ ra, pat r.data.toList = ra := ⟨_, rfl⟩
  simp only [hpc, hpa, hzx] at CPX
  simp only [hqc, hqa, hzy] at CPY
  simp only [hrc, hra, hzz] at CPZ
  rw [hzx] at hx hx0
  rw [hzy] at hy
  rw [hzz] at hz
  have BB := _root_.Rad.law_bounds (β := B) two_le_B hx hy hz
  have HT : Hid (TabP w) := ht
  have HTB : Hid (TabB w) := hb
  have HX0 : Hid (x.natAbs < 10000 ^ 250) := hx0
  have HX : Hid (x.natAbs < B ^ 53) := hx
  have HY : Hid (y.natAbs < B ^ 53) := hy
  have HZ : Hid (z.natAbs < B ^ 53) := hz
  have HXY : Hid ((x + y).natAbs < B ^ 54) := BB.xy
  have HXZ : Hid ((x * z).natAbs < B ^ 106) := BB.xz
  have HYZ : Hid ((y * z).natAbs < B ^ 106) := BB.yz
  have HxY : Hid ((x * y).natAbs < B ^ 106) := BB.xty
  have HXYZ : Hid (((x + y) * z).natAbs < B ^ 107) := BB.xyz
  have HXmY : Hid ((x - y).natAbs < B ^ 54) := BB.xmy
  have HY54 : Hid (y.natAbs < B ^ 54) := BB.y54
  have HX54 : Hid (x.natAbs < B ^ 54) := BB.x54
  have HZ54 : Hid (z.natAbs < B ^ 54) := BB.z54
  have HXmYY : Hid ((x - y + y).natAbs < B ^ 55) := BB.xmyy
  have HxYZ : Hid ((x * y * z).natAbs < B ^ 159) := BB.xtyz
  have HYpZ : Hid ((y + z).natAbs < B ^ 54) := BB.ypz
  have HXpYZ : Hid ((x + (y + z)).natAbs < B ^ 55) := BB.xpyz
  have HBD : Hid _ := BB
  clear ht hb hzx hzy hzz hpc hpa hqc hqa hrc hra hx hy hz hx0 BB
  go_enter Tryz.func8, Tryz.ntmps8
  go_wp2_with (go_at_call 9; fail)
  refine (CPX _).mono ?_
  rintro e w1 ⟨v1, rfl, hb1, hI1⟩
  obtain ⟨s7, a7, n7, c7, rfl⟩ := hI1.form
  unfold flt
  go_upto_region 2 with fail
  refine wp_world (fun wn => Kp w1 wn ∧ FB wn w1.heap.size (.int .i64 s7) (.slice a7 n7 c7)) ⟨(fb2 w1 _ _ _ _ _ _ rfl).1, (fb2 w1 _ _ _ _ _ _ rfl).2.1⟩ ?_
  rintro u1 ⟨hk1, hF7⟩
  replace hk1 : Below w1.heap.size w1 u1 := hk1
  have hI7 := hI1.below hk1
  have hw1 := hb1.trans (hk1.mono hb1.size)
  have hB1 := hw1
  obtain ⟨b7, hbv7⟩ : ∃ b, b = w1.heap.size := ⟨_, rfl⟩
  obtain ⟨d7, hdv7⟩ : ∃ b, b = w1.heap.size + 1 := ⟨_, rfl⟩
  rw [← hdv7]
  rw [← hbv7] at hF7 ⊢
  clear  hI1 hk1 hw1 hb1 hbv7 hdv7
  have HF7 : Hid (FB u1 b7 (.int .i64 s7) (.slice a7 n7 c7)) := hF7
  have HI7 : Hid (IsInt u1 (.agg #[.int .i64 s7, .slice a7 n7 c7]) x) := hI7
  clear hF7 hI7
  have HB1 : Hid (Below w.heap.size w u1) := hB1
  clear hB1
  go_wp2_with (go_at_call 9; fail)
  refine (CPY _).mono ?_
  rintro e w2 ⟨v2, rfl, hb2, hI2⟩
  obtain ⟨s9, a9, n9, c9, rfl⟩ := hI2.form
  unfold flt
  go_upto_region 3 with fail
  refine wp_world (fun wn => Kp w2 wn ∧ FB wn w2.heap.size (.int .i64 s9) (.slice a9 n9 c9)) ⟨(fb2 w2 _ _ _ _ _ _ rfl).1, (fb2 w2 _ _ _ _ _ _ rfl).2.1⟩ ?_
  rintro u2 ⟨hk2, hF9⟩
  replace hk2 : Below w2.heap.size w2 u2 := hk2
  have hI9 := hI2.below hk2
  have hw2 := hb2.trans (hk2.mono hb2.size)
  have hB2 := HB1.out.trans (hw2.mono HB1.out.size)
  have hF7 := FB.below HF7.out hw2
  have hI7 := IsInt.below HI7.out hw2
  obtain ⟨b9, hbv9⟩ : ∃ b, b = w2.heap.size := ⟨_, rfl⟩
  obtain ⟨d9, hdv9⟩ : ∃ b, b = w2.heap.size + 1 := ⟨_, rfl⟩
  rw [← hdv9]
  rw [← hbv9] at hF9 ⊢
  clear HF7 HI7 HB1 hI2 hk2 hw2 hb2 hbv9 hdv9
  have HF7 : Hid (FB u2 b7 (.int .i64 s7) (.slice a7 n7 c7)) := hF7
  have HI7 : Hid (IsInt u2 (.agg #[.int .i64 s7, .slice a7 n7 c7]) x) := hI7
  clear hF7 hI7
  have HF9 : Hid (FB u2 b9 (.int .i64 s9) (.slice a9 n9 c9)) := hF9
  have HI9 : Hid (IsInt u2 (.agg #[.int .i64 s9, .slice a9 n9 c9]) y) := hI9
  clear hF9 hI9
  have HB2 : Hid (Below w.heap.size w u2) := hB2
  clear hB2
  go_wp2_with (go_at_call 9; fail)
  refine (CPZ _).mono ?_
  rintro e w3 ⟨v3, rfl, hb3, hI3⟩
  obtain ⟨s11, a11, n11, c11, rfl⟩ := hI3.form
  unfold flt
  go_upto_region 4 with fail
  refine wp_world (fun wn => Kp w3 wn ∧ FB wn w3.heap.size (.int .i64 s11) (.slice a11 n11 c11)) ⟨(fb2 w3 _ _ _ _ _ _ rfl).1, (fb2 w3 _ _ _ _ _ _ rfl).2.1⟩ ?_
  rintro u3 ⟨hk3, hF11⟩
  replace hk3 : Below w3.heap.size w3 u3 := hk3
  have hI11 := hI3.below hk3
  have hw3 := hb3.trans (hk3.mono hb3.size)
  have hB3 := HB2.out.trans (hw3.mono HB2.out.size)
  have hF7 := FB.below HF7.out hw3
  have hI7 := IsInt.below HI7.out hw3
  have hF9 := FB.below HF9.out hw3
  have hI9 := IsInt.below HI9.out hw3
  obtain ⟨b11, hbv11⟩ : ∃ b, b = w3.heap.size := ⟨_, rfl⟩
  obtain ⟨d11, hdv11⟩ : ∃ b, b = w3.heap.size + 1 := ⟨_, rfl⟩
  rw [← hdv11]
  rw [← hbv11] at hF11 ⊢
  clear HF7 HI7 HF9 HI9 HB2 hI3 hk3 hw3 hb3 hbv11 hdv11
  have HF7 : Hid (FB u3 b7 (.int .i64 s7) (.slice a7 n7 c7)) := hF7
  have HI7 : Hid (IsInt u3 (.agg #[.int .i64 s7, .slice a7 n7 c7]) x) := hI7
  clear hF7 hI7
  have HF9 : Hid (FB u3 b9 (.int .i64 s9) (.slice a9 n9 c9)) := hF9
  have HI9 : Hid (IsInt u3 (.agg #[.int .i64 s9, .slice a9 n9 c9]) y) := hI9
  clear hF9 hI9
  have HF11 : Hid (FB u3 b11 (.int .i64 s11) (.slice a11 n11 c11)) := hF11
  have HI11 : Hid (IsInt u3 (.agg #[.int .i64 s11, .slice a11 n11 c11]) z) := hI11
  clear hF11 hI11
  have HB3 : Hid (Below w.heap.size w u3) := hB3
  clear hB3
  have HR : Hid (NK w u3 b7 b9 b11 s7 a7 n7 c7 s9 a9 n9 c9 s11 a11 n11 c11 x y z) := ⟨HB3.out, HF7.out, HF9.out, HF11.out, HI7.out, HI9.out, HI11.out⟩
  have hB1 : Below w.heap.size w u3 := HB3.out
  clear HB3 HF7 HF9 HF11 HI7 HI9 HI11 CPX CPY CPZ
  obtain ⟨-, ⟨l7, k70, k71, -, -⟩, ⟨l9, k90, k91, -, -⟩, ⟨l11, k110, k111, -, -⟩, -, -, -⟩ := HR.out
  refine wp_world (fun w1 => w1 = u3) rfl ?_
  rintro w1 rfl
  refine wp_drawn mixed [⟨33, [], [], []⟩, ⟨34, [0], [0], []⟩, ⟨35, [0, 1], [0, 1], []⟩, ⟨36, [2], [0, 1, 2], [7]⟩, ⟨37, [2], [0, 1, 2], [9]⟩, ⟨38, [2, 3, 4], [0, 1, 2, 3, 4], []⟩, ⟨39, [2], [0, 1, 2], [11]⟩, ⟨40, [2, 5, 6], [0, 1, 2, 3, 4, 5, 6], []⟩, ⟨41, [2], [0, 1, 2], [7]⟩, ⟨42, [2], [0, 1, 2], [11]⟩, ⟨43, [2, 7, 8, 9], [0, 1, 2, 3, 4, 5, 6, 7, 8, 9], []⟩, ⟨44, [2], [0, 1, 2], [9]⟩, ⟨45, [2], [0, 1, 2], [11]⟩, ⟨46, [2, 10, 11, 12], [0, 1, 2, 3, 4, 5, 6, 7, 8, 9, 10, 11, 12], []⟩, ⟨47, [2, 10, 13], [0, 1, 2, 3, 4, 5, 6, 7, 8, 9, 10, 11, 12, 13], []⟩, ⟨48, [2, 7, 14], [0, 1, 2, 3, 4, 5, 6, 7, 8, 9, 10, 11, 12, 13, 14], []⟩, ⟨49, [2, 15], [0, 1, 2, 3, 4, 5, 6, 7, 8, 9, 10, 11, 12, 13, 14, 15], []⟩, ⟨50, [2, 16], [0, 1, 2, 3, 4, 5, 6, 7, 8, 9, 10, 11, 12, 13, 14, 15, 16], []⟩, ⟨51, [15, 17], [0, 1, 2, 3, 4, 5, 6, 7, 8, 9, 10, 11, 12, 13, 14, 15, 16, 17], []⟩, ⟨52, [18], [0, 1, 2, 3, 4, 5, 6, 7, 8, 9, 10, 11, 12, 13, 14, 15, 16, 17, 18], [7]⟩, ⟨53, [18], [0, 1, 2, 3, 4, 5, 6, 7, 8, 9, 10, 11, 12, 13, 14, 15, 16, 17, 18], [9]⟩, ⟨54, [18, 19, 20], [0, 1, 2, 3, 4, 5, 6, 7, 8, 9, 10, 11, 12, 13, 14, 15, 16, 17, 18, 19, 20], []⟩, ⟨55, [18], [0, 1, 2, 3, 4, 5, 6, 7, 8, 9, 10, 11, 12, 13, 14, 15, 16, 17, 18], [9]⟩, ⟨56, [18, 21, 22], [0, 1, 2, 3, 4, 5, 6, 7, 8, 9, 10, 11, 12, 13, 14, 15, 16, 17, 18, 19, 20, 21, 22], []⟩, ⟨57, [18], [0, 1, 2, 3, 4, 5, 6, 7, 8, 9, 10, 11, 12, 13, 14, 15, 16, 17, 18], [7]⟩, ⟨58, [18, 23, 24], [0, 1, 2, 3, 4, 5, 6, 7, 8, 9, 10, 11, 12, 13, 14, 15, 16, 17, 18, 19, 20, 21, 22, 23, 24], []⟩, ⟨59, [18, 25], [0, 1, 2, 3, 4, 5, 6, 7, 8, 9, 10, 11, 12, 13, 14, 15, 16, 17, 18, 19, 20, 21, 22, 23, 24, 25], []⟩, ⟨60, [18, 26], [0, 1, 2, 3, 4, 5, 6, 7, 8, 9, 10, 11, 12, 13, 14, 15, 16, 17, 18, 19, 20, 21, 22, 23, 24, 25, 26], []⟩, ⟨61, [25, 27], [0, 1, 2, 3, 4, 5, 6, 7, 8, 9, 10, 11, 12, 13, 14, 15, 16, 17, 18, 19, 20, 21, 22, 23, 24, 25, 26, 27], []⟩, ⟨62, [28], [0, 1, 2, 3, 4, 5, 6, 7, 8, 9, 10, 11, 12, 13, 14, 15, 16, 17, 18, 19, 20, 21, 22, 23, 24, 25, 26, 27, 28], [7]⟩, ⟨63, [28], [0, 1, 2, 3, 4, 5, 6, 7, 8, 9, 10, 11, 12, 13, 14, 15, 16, 17, 18, 19, 20, 21, 22, 23, 24, 25, 26, 27, 28], [9]⟩, ⟨64, [28, 29, 30], [0, 1, 2, 3, 4, 5, 6, 7, 8, 9, 10, 11, 12, 13, 14, 15, 16, 17, 18, 19, 20, 21, 22, 23, 24, 25, 26, 27, 28, 29, 30], []⟩, ⟨65, [28], [0, 1, 2, 3, 4, 5, 6, 7, 8, 9, 10, 11, 12, 13, 14, 15, 16, 17, 18, 19, 20, 21, 22, 23, 24, 25, 26, 27, 28], [9]⟩, ⟨66, [28], [0, 1, 2, 3, 4, 5, 6, 7, 8, 9, 10, 11, 12, 13, 14, 15, 16, 17, 18, 19, 20, 21, 22, 23, 24, 25, 26, 27, 28], [7]⟩, ⟨67, [28, 31, 32, 33], [0, 1, 2, 3, 4, 5, 6, 7, 8, 9, 10, 11, 12, 13, 14, 15, 16, 17, 18, 19, 20, 21, 22, 23, 24, 25, 26, 27, 28, 29, 30, 31, 32, 33], []⟩, ⟨68, [28, 31, 34], [0, 1, 2, 3, 4, 5, 6, 7, 8, 9, 10, 11, 12, 13, 14, 15, 16, 17, 18, 19, 20, 21, 22, 23, 24, 25, 26, 27, 28, 29, 30, 31, 32, 33, 34], []⟩, ⟨69, [28, 35], [0, 1, 2, 3, 4, 5, 6, 7, 8, 9, 10, 11, 12, 13, 14, 15, 16, 17, 18, 19, 20, 21, 22, 23, 24, 25, 26, 27, 28, 29, 30, 31, 32, 33, 34, 35], []⟩, ⟨70, [28, 36], [0, 1, 2, 3, 4, 5, 6, 7, 8, 9, 10, 11, 12, 13, 14, 15, 16, 17, 18, 19, 20, 21, 22, 23, 24, 25, 26, 27, 28, 29, 30, 31, 32, 33, 34, 35, 36], []⟩, ⟨71, [35, 37], [0, 1, 2, 3, 4, 5, 6, 7, 8, 9, 10, 11, 12, 13, 14, 15, 16, 17, 18, 19, 20, 21, 22, 23, 24, 25, 26, 27, 28, 29, 30, 31, 32, 33, 34, 35, 36, 37], []⟩, ⟨72, [38], [0, 1, 2, 3, 4, 5, 6, 7, 8, 9, 10, 11, 12, 13, 14, 15, 16, 17, 18, 19, 20, 21, 22, 23, 24, 25, 26, 27, 28, 29, 30, 31, 32, 33, 34, 35, 36, 37, 38], [7]⟩, ⟨73, [38], [0, 1, 2, 3, 4, 5, 6, 7, 8, 9, 10, 11, 12, 13, 14, 15, 16, 17, 18, 19, 20, 21, 22, 23, 24, 25, 26, 27, 28, 29, 30, 31, 32, 33, 34, 35, 36, 37, 38], [9]⟩, ⟨74, [38, 39, 40], [0, 1, 2, 3, 4, 5, 6, 7, 8, 9, 10, 11, 12, 13, 14, 15, 16, 17, 18, 19, 20, 21, 22, 23, 24, 25, 26, 27, 28, 29, 30, 31, 32, 33, 34, 35, 36, 37, 38, 39, 40], []⟩, ⟨75, [38], [0, 1, 2, 3, 4, 5, 6, 7, 8, 9, 10, 11, 12, 13, 14, 15, 16, 17, 18, 19, 20, 21, 22, 23, 24, 25, 26, 27, 28, 29, 30, 31, 32, 33, 34, 35, 36, 37, 38], [11]⟩, ⟨76, [38, 41, 42], [0, 1, 2, 3, 4, 5, 6, 7, 8, 9, 10, 11, 12, 13, 14, 15, 16, 17, 18, 19, 20, 21, 22, 23, 24, 25, 26, 27, 28, 29, 30, 31, 32, 33, 34, 35, 36, 37, 38, 39, 40, 41, 42], []⟩, ⟨77, [38], [0, 1, 2, 3, 4, 5, 6, 7, 8, 9, 10, 11, 12, 13, 14, 15, 16, 17, 18, 19, 20, 21, 22, 23, 24, 25, 26, 27, 28, 29, 30, 31, 32, 33, 34, 35, 36, 37, 38], [7]⟩, ⟨78, [38], [0, 1, 2, 3, 4, 5, 6, 7, 8, 9, 10, 11, 12, 13, 14, 15, 16, 17, 18, 19, 20, 21, 22, 23, 24, 25, 26, 27, 28, 29, 30, 31, 32, 33, 34, 35, 36, 37, 38], [9]⟩, ⟨79, [38], [0, 1, 2, 3, 4, 5, 6, 7, 8, 9, 10, 11, 12, 13, 14, 15, 16, 17, 18, 19, 20, 21, 22, 23, 24, 25, 26, 27, 28, 29, 30, 31, 32, 33, 34, 35, 36, 37, 38], [11]⟩, ⟨80, [38, 43, 45, 46], [0, 1, 2, 3, 4, 5, 6, 7, 8, 9, 10, 11, 12, 13, 14, 15, 16, 17, 18, 19, 20, 21, 22, 23, 24, 25, 26, 27, 28, 29, 30, 31, 32, 33, 34, 35, 36, 37, 38, 39, 40, 41, 42, 43, 45, 46], []⟩, ⟨81, [38, 44, 47], [0, 1, 2, 3, 4, 5, 6, 7, 8, 9, 10, 11, 12, 13, 14, 15, 16, 17, 18, 19, 20, 21, 22, 23, 24, 25, 26, 27, 28, 29, 30, 31, 32, 33, 34, 35, 36, 37, 38, 39, 40, 41, 42, 43, 44, 45, 46, 47], []⟩, ⟨82, [38, 43, 48], [0, 1, 2, 3, 4, 5, 6, 7, 8, 9, 10, 11, 12, 13, 14, 15, 16, 17, 18, 19, 20, 21, 22, 23, 24, 25, 26, 27, 28, 29, 30, 31, 32, 33, 34, 35, 36, 37, 38, 39, 40, 41, 42, 43, 44, 45, 46, 47, 48], []⟩, ⟨83, [38, 49], [0, 1, 2, 3, 4, 5, 6, 7, 8, 9, 10, 11, 12, 13, 14, 15, 16, 17, 18, 19, 20, 21, 22, 23, 24, 25, 26, 27, 28, 29, 30, 31, 32, 33, 34, 35, 36, 37, 38, 39, 40, 41, 42, 43, 44, 45, 46, 47, 48, 49], []⟩, ⟨84, [38, 50], [0, 1, 2, 3, 4, 5, 6, 7, 8, 9, 10, 11, 12, 13, 14, 15, 16, 17, 18, 19, 20, 21, 22, 23, 24, 25, 26, 27, 28, 29, 30, 31, 32, 33, 34, 35, 36, 37, 38, 39, 40, 41, 42, 43, 44, 45, 46, 47, 48, 49, 50], []⟩] [] (by kernel_rfl) 197 rfl (by kernel_rfl) (fun (i : Nat) (v : Value) (wq : World) => match i with | 0 => v = .bool (true) | 1 => v = .bool (false) | 2 => v = .bool (false) | 3 => v = .agg #[.int .i64 (s7), .slice a7 (n7) (c7)] | 4 => v = .agg #[.int .i64 (s9), .slice a9 (n9) (c9)] | 5 => IsInt wq v (x + y) | 6 => v = .agg #[.int .i64 (s11), .slice a11 (n11) (c11)] | 7 => IsInt wq v ((x + y) * z) | 8 => v = .agg #[.int .i64 (s7), .slice a7 (n7) (c7)] | 9 => v = .agg #[.int .i64 (s11), .slice a11 (n11) (c11)] | 10 => IsInt wq v (x * z) | 11 => v = .agg #[.int .i64 (s9), .slice a9 (n9) (c9)] | 12 => v = .agg #[.int .i64 (s11), .slice a11 (n11) (c11)] | 13 => IsInt wq v (y * z) | 14 => IsInt wq v (x * z + y * z) | 15 => v = .int .i64 (0) | 16 => v = .bool (false) | 17 => v = .bool (false) | 18 => v = .bool (false) | 19 => v = .agg #[.int .i64 (s7), .slice a7 (n7) (c7)] | 20 => v = .agg #[.int .i64 (s9), .slice a9 (n9) (c9)] | 21 => IsInt wq v (x - y) | 22 => v = .agg #[.int .i64 (s9), .slice a9 (n9) (c9)] | 23 => IsInt wq v (x - y + y) | 24 => v = .agg #[.int .i64 (s7), .slice a7 (n7) (c7)] | 25 => v = .int .i64 (0) | 26 => v = .bool (false) | 27 => v = .bool (false) | 28 => v = .bool (false) | 29 => v = .agg #[.int .i64 (s7), .slice a7 (n7) (c7)] | 30 => v = .agg #[.int .i64 (s9), .slice a9 (n9) (c9)] | 31 => IsInt wq v (x * y) | 32 => v = .agg #[.int .i64 (s9), .slice a9 (n9) (c9)] | 33 => v = .agg #[.int .i64 (s7), .slice a7 (n7) (c7)] | 34 => IsInt wq v (y * x) | 35 => v = .int .i64 (0) | 36 => v = .bool (false) | 37 => v = .bool (false) | 38 => v = .bool (false) | 39 => v = .agg #[.int .i64 (s7), .slice a7 (n7) (c7)] | 40 => v = .agg #[.int .i64 (s9), .slice a9 (n9) (c9)] | 41 => IsInt wq v (x * y) | 42 => v = .agg #[.int .i64 (s11), .slice a11 (n11) (c11)] | 43 => IsInt wq v (x * y * z) | 44 => v = .agg #[.int .i64 (s7), .slice a7 (n7) (c7)] | 45 => v = .agg #[.int .i64 (s9), .slice a9 (n9) (c9)] | 46 => v = .agg #[.int .i64 (s11), .slice a11 (n11) (c11)] | 47 => IsInt wq v (y * z) | 48 => IsInt wq v (x * (y * z)) | 49 => v = .int .i64 (0) | 50 => v = .bool (false) | 51 => v = .bool (false) | _ => True) (fun _ wq => Below w1.heap.size w1 wq) (fun wx wy => Below wx.heap.size wx wy) (Below.refl _ _).drew (fun i v wx wy h hx => match i, h with | 0, h => h | 1, h => h | 2, h => h | 3, h => h | 4, h => h | 6, h => h | 8, h => h | 9, h => h | 11, h => h | 12, h => h | 15, h => h | 16, h => h | 17, h => h | 18, h => h | 19, h => h | 20, h => h | 22, h => h | 24, h => h | 25, h => h | 26, h => h | 27, h => h | 28, h => h | 29, h => h | 30, h => h | 32, h => h | 33, h => h | 35, h => h | 36, h => h | 37, h => h | 38, h => h | 39, h => h | 40, h => h | 42, h => h | 44, h => h | 45, h => h | 46, h => h | 49, h => h | 50, h => h | 51, h => h | 5, h => (h : IsInt wx v (x + y)).below hx | 7, h => (h : IsInt wx v ((x + y) * z)).below hx | 10, h => (h : IsInt wx v (x * z)).below hx | 13, h => (h : IsInt wx v (y * z)).below hx | 14, h => (h : IsInt wx v (x * z + y * z)).below hx | 21, h => (h : IsInt wx v (x - y)).below hx | 23, h => (h : IsInt wx v (x - y + y)).below hx | 31, h => (h : IsInt wx v (x * y)).below hx | 34, h => (h : IsInt wx v (y * x)).below hx | 41, h => (h : IsInt wx v (x * y)).below hx | 43, h => (h : IsInt wx v (x * y * z)).below hx | 47, h => (h : IsInt wx v (y * z)).below hx | 48, h => (h : IsInt wx v (x * (y * z))).below hx | n + 52, _ => trivial) ?_ ?_
  · intro i o r ho hr L fr wx hW hL hpr hds hdef hpre hfree
    clear hL hpr hds hdef
    match i, ho, hr with
    | 0, ho, hr =>
      obtain rfl := Option.some.inj ho; obtain rfl := Option.some.inj hr
      clear hpre hfree
      refine stpK rfl rfl fun K hK => ?_
      go_simp
      refine (numBegun_any wx (HT.out.below (hB1.trans (hW.mono hB1.size)))).mono ?_
      rintro e wy ⟨rfl, hb⟩
      exact hK _ _ ⟨rfl, hW.trans (hb.mono hW.size), hb, fun h => (List.not_mem_nil h).elim⟩
    | 1, ho, hr =>
      obtain rfl := Option.some.inj ho; obtain rfl := Option.some.inj hr
      have e0 := ev_tmp (show fr.eval (.tmp 33) = .bool (true) from hpre 0 (by decide) _ rfl)
      clear hpre hfree
      refine stpK rfl rfl fun K hK => ?_
      go_simp
      exact hK _ _ ⟨(by first | rfl | (simp; done)), hW, Below.refl _ _, fun h => (List.not_mem_nil h).elim⟩
    | 2, ho, hr =>
      obtain rfl := Option.some.inj ho; obtain rfl := Option.some.inj hr
      have e1 := ev_tmp (show fr.eval (.tmp 34) = .bool (false) from hpre 1 (by decide) _ rfl)
      clear hpre hfree
      refine stpK rfl rfl fun K hK => ?_
      go_simp
      exact hK _ _ ⟨rfl, hW, Below.refl _ _, fun h => (List.not_mem_nil h).elim⟩
    | 3, ho, hr =>
      obtain rfl := Option.some.inj ho; obtain rfl := Option.some.inj hr
      have e2 := ev_tmp (show fr.eval (.tmp 35) = .bool (false) from hpre 2 (by decide) _ rfl)
      have t7 := ev_tmp (show fr.eval (.tmp 7) = .pointer (some ⟨b7, 0, none⟩) from hfree 7 (by decide))
      clear hpre hfree
      have c0 := (hW.cell (p := ⟨b7, 0, none⟩) l7).trans k70
      have c1 := (hW.cell (p := ⟨b7, 1, none⟩) l7).trans k71
      refine stpK_g rfl rfl e2 rfl fun K hK => ?_
      go_simp
      exact hK _ _ ⟨rfl, hW, Below.refl _ _, fun h => (List.not_mem_nil h).elim⟩
    | 4, ho, hr =>
      obtain rfl := Option.some.inj ho; obtain rfl := Option.some.inj hr
      have e2 := ev_tmp (show fr.eval (.tmp 35) = .bool (false) from hpre 2 (by decide) _ rfl)
      have t9 := ev_tmp (show fr.eval (.tmp 9) = .pointer (some ⟨b9, 0, none⟩) from hfree 9 (by decide))
      clear hpre hfree
      have c0 := (hW.cell (p := ⟨b9, 0, none⟩) l9).trans k90
      have c1 := (hW.cell (p := ⟨b9, 1, none⟩) l9).trans k91
      refine stpK_g rfl rfl e2 rfl fun K hK => ?_
      go_simp
      exact hK _ _ ⟨rfl, hW, Below.refl _ _, fun h => (List.not_mem_nil h).elim⟩
    | 5, ho, hr =>
      obtain rfl := Option.some.inj ho; obtain rfl := Option.some.inj hr
      have e2 := ev_tmp (show fr.eval (.tmp 35) = .bool (false) from hpre 2 (by decide) _ rfl)
      have e3 := ev_tmp (show fr.eval (.tmp 36) = .agg #[.int .i64 (s7), .slice a7 (n7) (c7)] from hpre 3 (by decide) _ rfl)
      have e4 := ev_tmp (show fr.eval (.tmp 37) = .agg #[.int .i64 (s9), .slice a9 (n9) (c9)] from hpre 4 (by decide) _ rfl)
      clear hpre hfree
      refine stpK_g rfl rfl e2 rfl fun K hK => ?_
      go_simp
      refine (add_any wx _ _ (x) (y) 53 (HR.out.i7.below hW) (HR.out.i9.below hW) HX.out HY.out (by decide)).mono ?_
      rintro e wy ⟨v4, rfl, hb, hm4⟩
      exact hK _ _ ⟨hm4, hW.trans (hb.mono hW.size), hb, fun h => (List.not_mem_nil h).elim⟩
    | 6, ho, hr =>
      obtain rfl := Option.some.inj ho; obtain rfl := Option.some.inj hr
      have e2 := ev_tmp (show fr.eval (.tmp 35) = .bool (false) from hpre 2 (by decide) _ rfl)
      have t11 := ev_tmp (show fr.eval (.tmp 11) = .pointer (some ⟨b11, 0, none⟩) from hfree 11 (by decide))
      clear hpre hfree
      have c0 := (hW.cell (p := ⟨b11, 0, none⟩) l11).trans k110
      have c1 := (hW.cell (p := ⟨b11, 1, none⟩) l11).trans k111
      refine stpK_g rfl rfl e2 rfl fun K hK => ?_
      go_simp
      exact hK _ _ ⟨rfl, hW, Below.refl _ _, fun h => (List.not_mem_nil h).elim⟩
    | 7, ho, hr =>
      obtain rfl := Option.some.inj ho; obtain rfl := Option.some.inj hr
      have e2 := ev_tmp (show fr.eval (.tmp 35) = .bool (false) from hpre 2 (by decide) _ rfl)
      obtain ⟨u5, q5⟩ : ∃ u, fr.eval (.tmp 38) = u := ⟨_, rfl⟩
      have p5 : IsInt wx u5 (x + y) := by rw [← q5]; exact hpre 5 (by decide) _ rfl
      have e5 := ev_tmp q5; clear q5
      have e6 := ev_tmp (show fr.eval (.tmp 39) = .agg #[.int .i64 (s11), .slice a11 (n11) (c11)] from hpre 6 (by decide) _ rfl)
      clear hpre hfree
      refine stpK_g rfl rfl e2 rfl fun K hK => ?_
      go_simp
      refine (mul_any wx _ _ (x + y) (z) 54 53 p5 (HR.out.i11.below hW) HXY.out HZ.out (by decide)).mono ?_
      rintro e wy ⟨v4, rfl, hb, hm4⟩
      exact hK _ _ ⟨hm4, hW.trans (hb.mono hW.size), hb, fun h => (List.not_mem_nil h).elim⟩
    | 8, ho, hr =>
      obtain rfl := Option.some.inj ho; obtain rfl := Option.some.inj hr
      have e2 := ev_tmp (show fr.eval (.tmp 35) = .bool (false) from hpre 2 (by decide) _ rfl)
      have t7 := ev_tmp (show fr.eval (.tmp 7) = .pointer (some ⟨b7, 0, none⟩) from hfree 7 (by decide))
      clear hpre hfree
      have c0 := (hW.cell (p := ⟨b7, 0, none⟩) l7).trans k70
      have c1 := (hW.cell (p := ⟨b7, 1, none⟩) l7).trans k71
      refine stpK_g rfl rfl e2 rfl fun K hK => ?_
      go_simp
      exact hK _ _ ⟨rfl, hW, Below.refl _ _, fun h => (List.not_mem_nil h).elim⟩
    | 9, ho, hr =>
      obtain rfl := Option.some.inj ho; obtain rfl := Option.some.inj hr
      have e2 := ev_tmp (show fr.eval (.tmp 35) = .bool (false) from hpre 2 (by decide) _ rfl)
      have t11 := ev_tmp (show fr.eval (.tmp 11) = .pointer (some ⟨b11, 0, none⟩) from hfree 11 (by decide))
      clear hpre hfree
      have c0 := (hW.cell (p := ⟨b11, 0, none⟩) l11).trans k110
      have c1 := (hW.cell (p := ⟨b11, 1, none⟩) l11).trans k111
      refine stpK_g rfl rfl e2 rfl fun K hK => ?_
      go_simp
      exact hK _ _ ⟨rfl, hW, Below.refl _ _, fun h => (List.not_mem_nil h).elim⟩
    | 10, ho, hr =>
      obtain rfl := Option.some.inj ho; obtain rfl := Option.some.inj hr
      have e2 := ev_tmp (show fr.eval (.tmp 35) = .bool (false) from hpre 2 (by decide) _ rfl)
      have e8 := ev_tmp (show fr.eval (.tmp 41) = .agg #[.int .i64 (s7), .slice a7 (n7) (c7)] from hpre 8 (by decide) _ rfl)
      have e9 := ev_tmp (show fr.eval (.tmp 42) = .agg #[.int .i64 (s11), .slice a11 (n11) (c11)] from hpre 9 (by decide) _ rfl)
      clear hpre hfree
      refine stpK_g rfl rfl e2 rfl fun K hK => ?_
      go_simp
      refine (mul_any wx _ _ (x) (z) 53 53 (HR.out.i7.below hW) (HR.out.i11.below hW) HX.out HZ.out (by decide)).mono ?_
      rintro e wy ⟨v4, rfl, hb, hm4⟩
      exact hK _ _ ⟨hm4, hW.trans (hb.mono hW.size), hb, fun h => (List.not_mem_nil h).elim⟩
    | 11, ho, hr =>
      obtain rfl := Option.some.inj ho; obtain rfl := Option.some.inj hr
      have e2 := ev_tmp (show fr.eval (.tmp 35) = .bool (false) from hpre 2 (by decide) _ rfl)
      have t9 := ev_tmp (show fr.eval (.tmp 9) = .pointer (some ⟨b9, 0, none⟩) from hfree 9 (by decide))
      clear hpre hfree
      have c0 := (hW.cell (p := ⟨b9, 0, none⟩) l9).trans k90
      have c1 := (hW.cell (p := ⟨b9, 1, none⟩) l9).trans k91
      refine stpK_g rfl rfl e2 rfl fun K hK => ?_
      go_simp
      exact hK _ _ ⟨rfl, hW, Below.refl _ _, fun h => (List.not_mem_nil h).elim⟩
    | 12, ho, hr =>
      obtain rfl := Option.some.inj ho; obtain rfl := Option.some.inj hr
      have e2 := ev_tmp (show fr.eval (.tmp 35) = .bool (false) from hpre 2 (by decide) _ rfl)
      have t11 := ev_tmp (show fr.eval (.tmp 11) = .pointer (some ⟨b11, 0, none⟩) from hfree 11 (by decide))
      clear hpre hfree
      have c0 := (hW.cell (p := ⟨b11, 0, none⟩) l11).trans k110
      have c1 := (hW.cell (p := ⟨b11, 1, none⟩) l11).trans k111
      refine stpK_g rfl rfl e2 rfl fun K hK => ?_
      go_simp
      exact hK _ _ ⟨rfl, hW, Below.refl _ _, fun h => (List.not_mem_nil h).elim⟩
    | 13, ho, hr =>
      obtain rfl := Option.some.inj ho; obtain rfl := Option.some.inj hr
      have e2 := ev_tmp (show fr.eval (.tmp 35) = .bool (false) from hpre 2 (by decide) _ rfl)
      have e11 := ev_tmp (show fr.eval (.tmp 44) = .agg #[.int .i64 (s9), .slice a9 (n9) (c9)] from hpre 11 (by decide) _ rfl)
      have e12 := ev_tmp (show fr.eval (.tmp 45) = .agg #[.int .i64 (s11), .slice a11 (n11) (c11)] from hpre 12 (by decide) _ rfl)
      clear hpre hfree
      refine stpK_g rfl rfl e2 rfl fun K hK => ?_
      go_simp
      refine (mul_any wx _ _ (y) (z) 53 53 (HR.out.i9.below hW) (HR.out.i11.below hW) HY.out HZ.out (by decide)).mono ?_
      rintro e wy ⟨v4, rfl, hb, hm4⟩
      exact hK _ _ ⟨hm4, hW.trans (hb.mono hW.size), hb, fun h => (List.not_mem_nil h).elim⟩
    | 14, ho, hr =>
      obtain rfl := Option.some.inj ho; obtain rfl := Option.some.inj hr
      have e2 := ev_tmp (show fr.eval (.tmp 35) = .bool (false) from hpre 2 (by decide) _ rfl)
      obtain ⟨u10, q10⟩ : ∃ u, fr.eval (.tmp 43) = u := ⟨_, rfl⟩
      have p10 : IsInt wx u10 (x * z) := by rw [← q10]; exact hpre 10 (by decide) _ rfl
      have e10 := ev_tmp q10; clear q10
      obtain ⟨u13, q13⟩ : ∃ u, fr.eval (.tmp 46) = u := ⟨_, rfl⟩
      have p13 : IsInt wx u13 (y * z) := by rw [← q13]; exact hpre 13 (by decide) _ rfl
      have e13 := ev_tmp q13; clear q13
      clear hpre hfree
      refine stpK_g rfl rfl e2 rfl fun K hK => ?_
      go_simp
      refine (add_any wx _ _ (x * z) (y * z) 106 p10 p13 HXZ.out HYZ.out (by decide)).mono ?_
      rintro e wy ⟨v4, rfl, hb, hm4⟩
      exact hK _ _ ⟨hm4, hW.trans (hb.mono hW.size), hb, fun h => (List.not_mem_nil h).elim⟩
    | 15, ho, hr =>
      obtain rfl := Option.some.inj ho; obtain rfl := Option.some.inj hr
      have e2 := ev_tmp (show fr.eval (.tmp 35) = .bool (false) from hpre 2 (by decide) _ rfl)
      obtain ⟨u7, q7⟩ : ∃ u, fr.eval (.tmp 40) = u := ⟨_, rfl⟩
      have p7 : IsInt wx u7 ((x + y) * z) := by rw [← q7]; exact hpre 7 (by decide) _ rfl
      have e7 := ev_tmp q7; clear q7
      obtain ⟨u14, q14⟩ : ∃ u, fr.eval (.tmp 47) = u := ⟨_, rfl⟩
      have p14 : IsInt wx u14 (x * z + y * z) := by rw [← q14]; exact hpre 14 (by decide) _ rfl
      have e14 := ev_tmp q14; clear q14
      clear hpre hfree
      refine stpK_g rfl rfl e2 rfl fun K hK => ?_
      go_simp
      refine (cmp_same wx _ _ ((x + y) * z) (x * z + y * z) 107 p7 p14 HXYZ.out (by decide) (Int.add_mul _ _ _)).mono ?_
      rintro e wy ⟨rfl, hb⟩
      exact hK _ _ ⟨rfl, hW.trans (hb.mono hW.size), hb, fun h => (List.not_mem_nil h).elim⟩
    | 16, ho, hr =>
      obtain rfl := Option.some.inj ho; obtain rfl := Option.some.inj hr
      have e2 := ev_tmp (show fr.eval (.tmp 35) = .bool (false) from hpre 2 (by decide) _ rfl)
      have e15 := ev_tmp (show fr.eval (.tmp 48) = .int .i64 (0) from hpre 15 (by decide) _ rfl)
      clear hpre hfree
      refine stpK_g rfl rfl e2 rfl fun K hK => ?_
      go_simp
      exact hK _ _ ⟨(by first | rfl | (simp; done)), hW, Below.refl _ _, fun h => (List.not_mem_nil h).elim⟩
    | 17, ho, hr =>
      obtain rfl := Option.some.inj ho; obtain rfl := Option.some.inj hr
      have e2 := ev_tmp (show fr.eval (.tmp 35) = .bool (false) from hpre 2 (by decide) _ rfl)
      have e16 := ev_tmp (show fr.eval (.tmp 49) = .bool (false) from hpre 16 (by decide) _ rfl)
      clear hpre hfree
      refine stpK rfl rfl fun K hK => ?_
      go_simp
      exact hK _ _ ⟨(by first | rfl | (simp; done)), hW, Below.refl _ _, fun h => (List.not_mem_nil h).elim⟩
    | 18, ho, hr =>
      obtain rfl := Option.some.inj ho; obtain rfl := Option.some.inj hr
      have e17 := ev_tmp (show fr.eval (.tmp 50) = .bool (false) from hpre 17 (by decide) _ rfl)
      clear hpre hfree
      refine stpK rfl rfl fun K hK => ?_
      go_simp
      exact hK _ _ ⟨rfl, hW, Below.refl _ _, fun h => (List.not_mem_nil h).elim⟩
    | 19, ho, hr =>
      obtain rfl := Option.some.inj ho; obtain rfl := Option.some.inj hr
      have e18 := ev_tmp (show fr.eval (.tmp 51) = .bool (false) from hpre 18 (by decide) _ rfl)
      have t7 := ev_tmp (show fr.eval (.tmp 7) = .pointer (some ⟨b7, 0, none⟩) from hfree 7 (by decide))
      clear hpre hfree
      have c0 := (hW.cell (p := ⟨b7, 0, none⟩) l7).trans k70
      have c1 := (hW.cell (p := ⟨b7, 1, none⟩) l7).trans k71
      refine stpK_g rfl rfl e18 rfl fun K hK => ?_
      go_simp
      exact hK _ _ ⟨rfl, hW, Below.refl _ _, fun h => (List.not_mem_nil h).elim⟩
    | 20, ho, hr =>
      obtain rfl := Option.some.inj ho; obtain rfl := Option.some.inj hr
      have e18 := ev_tmp (show fr.eval (.tmp 51) = .bool (false) from hpre 18 (by decide) _ rfl)
      have t9 := ev_tmp (show fr.eval (.tmp 9) = .pointer (some ⟨b9, 0, none⟩) from hfree 9 (by decide))
      clear hpre hfree
      have c0 := (hW.cell (p := ⟨b9, 0, none⟩) l9).trans k90
      have c1 := (hW.cell (p := ⟨b9, 1, none⟩) l9).trans k91
      refine stpK_g rfl rfl e18 rfl fun K hK => ?_
      go_simp
      exact hK _ _ ⟨rfl, hW, Below.refl _ _, fun h => (List.not_mem_nil h).elim⟩
    | 21, ho, hr =>
      obtain rfl := Option.some.inj ho; obtain rfl := Option.some.inj hr
      have e18 := ev_tmp (show fr.eval (.tmp 51) = .bool (false) from hpre 18 (by decide) _ rfl)
      have e19 := ev_tmp (show fr.eval (.tmp 52) = .agg #[.int .i64 (s7), .slice a7 (n7) (c7)] from hpre 19 (by decide) _ rfl)
      have e20 := ev_tmp (show fr.eval (.tmp 53) = .agg #[.int .i64 (s9), .slice a9 (n9) (c9)] from hpre 20 (by decide) _ rfl)
      clear hpre hfree
      refine stpK_g rfl rfl e18 rfl fun K hK => ?_
      go_simp
      refine (sub_any wx _ _ (x) (y) 53 (HR.out.i7.below hW) (HR.out.i9.below hW) HX.out HY.out (by decide)).mono ?_
      rintro e wy ⟨v4, rfl, hb, hm4⟩
      exact hK _ _ ⟨hm4, hW.trans (hb.mono hW.size), hb, fun h => (List.not_mem_nil h).elim⟩
    | 22, ho, hr =>
      obtain rfl := Option.some.inj ho; obtain rfl := Option.some.inj hr
      have e18 := ev_tmp (show fr.eval (.tmp 51) = .bool (false) from hpre 18 (by decide) _ rfl)
      have t9 := ev_tmp (show fr.eval (.tmp 9) = .pointer (some ⟨b9, 0, none⟩) from hfree 9 (by decide))
      clear hpre hfree
      have c0 := (hW.cell (p := ⟨b9, 0, none⟩) l9).trans k90
      have c1 := (hW.cell (p := ⟨b9, 1, none⟩) l9).trans k91
      refine stpK_g rfl rfl e18 rfl fun K hK => ?_
      go_simp
      exact hK _ _ ⟨rfl, hW, Below.refl _ _, fun h => (List.not_mem_nil h).elim⟩
    | 23, ho, hr =>
      obtain rfl := Option.some.inj ho; obtain rfl := Option.some.inj hr
      have e18 := ev_tmp (show fr.eval (.tmp 51) = .bool (false) from hpre 18 (by decide) _ rfl)
      obtain ⟨u21, q21⟩ : ∃ u, fr.eval (.tmp 54) = u := ⟨_, rfl⟩
      have p21 : IsInt wx u21 (x - y) := by rw [← q21]; exact hpre 21 (by decide) _ rfl
      have e21 := ev_tmp q21; clear q21
      have e22 := ev_tmp (show fr.eval (.tmp 55) = .agg #[.int .i64 (s9), .slice a9 (n9) (c9)] from hpre 22 (by decide) _ rfl)
      clear hpre hfree
      refine stpK_g rfl rfl e18 rfl fun K hK => ?_
      go_simp
      refine (add_any wx _ _ (x - y) (y) 54 p21 (HR.out.i9.below hW) HXmY.out HY54.out (by decide)).mono ?_
      rintro e wy ⟨v4, rfl, hb, hm4⟩
      exact hK _ _ ⟨hm4, hW.trans (hb.mono hW.size), hb, fun h => (List.not_mem_nil h).elim⟩
    | 24, ho, hr =>
      obtain rfl := Option.some.inj ho; obtain rfl := Option.some.inj hr
      have e18 := ev_tmp (show fr.eval (.tmp 51) = .bool (false) from hpre 18 (by decide) _ rfl)
      have t7 := ev_tmp (show fr.eval (.tmp 7) = .pointer (some ⟨b7, 0, none⟩) from hfree 7 (by decide))
      clear hpre hfree
      have c0 := (hW.cell (p := ⟨b7, 0, none⟩) l7).trans k70
      have c1 := (hW.cell (p := ⟨b7, 1, none⟩) l7).trans k71
      refine stpK_g rfl rfl e18 rfl fun K hK => ?_
      go_simp
      exact hK _ _ ⟨rfl, hW, Below.refl _ _, fun h => (List.not_mem_nil h).elim⟩
    | 25, ho, hr =>
      obtain rfl := Option.some.inj ho; obtain rfl := Option.some.inj hr
      have e18 := ev_tmp (show fr.eval (.tmp 51) = .bool (false) from hpre 18 (by decide) _ rfl)
      obtain ⟨u23, q23⟩ : ∃ u, fr.eval (.tmp 56) = u := ⟨_, rfl⟩
      have p23 : IsInt wx u23 (x - y + y) := by rw [← q23]; exact hpre 23 (by decide) _ rfl
      have e23 := ev_tmp q23; clear q23
      have e24 := ev_tmp (show fr.eval (.tmp 57) = .agg #[.int .i64 (s7), .slice a7 (n7) (c7)] from hpre 24 (by decide) _ rfl)
      clear hpre hfree
      refine stpK_g rfl rfl e18 rfl fun K hK => ?_
      go_simp
      refine (cmp_same wx _ _ (x - y + y) (x) 55 p23 (HR.out.i7.below hW) HXmYY.out (by decide) (Int.sub_add_cancel _ _)).mono ?_
      rintro e wy ⟨rfl, hb⟩
      exact hK _ _ ⟨rfl, hW.trans (hb.mono hW.size), hb, fun h => (List.not_mem_nil h).elim⟩
    | 26, ho, hr =>
      obtain rfl := Option.some.inj ho; obtain rfl := Option.some.inj hr
      have e18 := ev_tmp (show fr.eval (.tmp 51) = .bool (false) from hpre 18 (by decide) _ rfl)
      have e25 := ev_tmp (show fr.eval (.tmp 58) = .int .i64 (0) from hpre 25 (by decide) _ rfl)
      clear hpre hfree
      refine stpK_g rfl rfl e18 rfl fun K hK => ?_
      go_simp
      exact hK _ _ ⟨(by first | rfl | (simp; done)), hW, Below.refl _ _, fun h => (List.not_mem_nil h).elim⟩
    | 27, ho, hr =>
      obtain rfl := Option.some.inj ho; obtain rfl := Option.some.inj hr
      have e18 := ev_tmp (show fr.eval (.tmp 51) = .bool (false) from hpre 18 (by decide) _ rfl)
      have e26 := ev_tmp (show fr.eval (.tmp 59) = .bool (false) from hpre 26 (by decide) _ rfl)
      clear hpre hfree
      refine stpK rfl rfl fun K hK => ?_
      go_simp
      exact hK _ _ ⟨(by first | rfl | (simp; done)), hW, Below.refl _ _, fun h => (List.not_mem_nil h).elim⟩
    | 28, ho, hr =>
      obtain rfl := Option.some.inj ho; obtain rfl := Option.some.inj hr
      have e27 := ev_tmp (show fr.eval (.tmp 60) = .bool (false) from hpre 27 (by decide) _ rfl)
      clear hpre hfree
      refine stpK rfl rfl fun K hK => ?_
      go_simp
      exact hK _ _ ⟨rfl, hW, Below.refl _ _, fun h => (List.not_mem_nil h).elim⟩
    | 29, ho, hr =>
      obtain rfl := Option.some.inj ho; obtain rfl := Option.some.inj hr
      have e28 := ev_tmp (show fr.eval (.tmp 61) = .bool (false) from hpre 28 (by decide) _ rfl)
      have t7 := ev_tmp (show fr.eval (.tmp 7) = .pointer (some ⟨b7, 0, none⟩) from hfree 7 (by decide))
      clear hpre hfree
      have c0 := (hW.cell (p := ⟨b7, 0, none⟩) l7).trans k70
      have c1 := (hW.cell (p := ⟨b7, 1, none⟩) l7).trans k71
      refine stpK_g rfl rfl e28 rfl fun K hK => ?_
      go_simp
      exact hK _ _ ⟨rfl, hW, Below.refl _ _, fun h => (List.not_mem_nil h).elim⟩
    | 30, ho, hr =>
      obtain rfl := Option.some.inj ho; obtain rfl := Option.some.inj hr
      have e28 := ev_tmp (show fr.eval (.tmp 61) = .bool (false) from hpre 28 (by decide) _ rfl)
      have t9 := ev_tmp (show fr.eval (.tmp 9) = .pointer (some ⟨b9, 0, none⟩) from hfree 9 (by decide))
      clear hpre hfree
      have c0 := (hW.cell (p := ⟨b9, 0, none⟩) l9).trans k90
      have c1 := (hW.cell (p := ⟨b9, 1, none⟩) l9).trans k91
      refine stpK_g rfl rfl e28 rfl fun K hK => ?_
      go_simp
      exact hK _ _ ⟨rfl, hW, Below.refl _ _, fun h => (List.not_mem_nil h).elim⟩
    | 31, ho, hr =>
      obtain rfl := Option.some.inj ho; obtain rfl := Option.some.inj hr
      have e28 := ev_tmp (show fr.eval (.tmp 61) = .bool (false) from hpre 28 (by decide) _ rfl)
      have e29 := ev_tmp (show fr.eval (.tmp 62) = .agg #[.int .i64 (s7), .slice a7 (n7) (c7)] from hpre 29 (by decide) _ rfl)
      have e30 := ev_tmp (show fr.eval (.tmp 63) = .agg #[.int .i64 (s9), .slice a9 (n9) (c9)] from hpre 30 (by decide) _ rfl)
      clear hpre hfree
      refine stpK_g rfl rfl e28 rfl fun K hK => ?_
      go_simp
      refine (mul_any wx _ _ (x) (y) 53 53 (HR.out.i7.below hW) (HR.out.i9.below hW) HX.out HY.out (by decide)).mono ?_
      rintro e wy ⟨v4, rfl, hb, hm4⟩
      exact hK _ _ ⟨hm4, hW.trans (hb.mono hW.size), hb, fun h => (List.not_mem_nil h).elim⟩
    | 32, ho, hr =>
      obtain rfl := Option.some.inj ho; obtain rfl := Option.some.inj hr
      have e28 := ev_tmp (show fr.eval (.tmp 61) = .bool (false) from hpre 28 (by decide) _ rfl)
      have t9 := ev_tmp (show fr.eval (.tmp 9) = .pointer (some ⟨b9, 0, none⟩) from hfree 9 (by decide))
      clear hpre hfree
      have c0 := (hW.cell (p := ⟨b9, 0, none⟩) l9).trans k90
      have c1 := (hW.cell (p := ⟨b9, 1, none⟩) l9).trans k91
      refine stpK_g rfl rfl e28 rfl fun K hK => ?_
      go_simp
      exact hK _ _ ⟨rfl, hW, Below.refl _ _, fun h => (List.not_mem_nil h).elim⟩
    | 33, ho, hr =>
      obtain rfl := Option.some.inj ho; obtain rfl := Option.some.inj hr
      have e28 := ev_tmp (show fr.eval (.tmp 61) = .bool (false) from hpre 28 (by decide) _ rfl)
      have t7 := ev_tmp (show fr.eval (.tmp 7) = .pointer (some ⟨b7, 0, none⟩) from hfree 7 (by decide))
      clear hpre hfree
      have c0 := (hW.cell (p := ⟨b7, 0, none⟩) l7).trans k70
      have c1 := (hW.cell (p := ⟨b7, 1, none⟩) l7).trans k71
      refine stpK_g rfl rfl e28 rfl fun K hK => ?_
      go_simp
      exact hK _ _ ⟨rfl, hW, Below.refl _ _, fun h => (List.not_mem_nil h).elim⟩
    | 34, ho, hr =>
      obtain rfl := Option.some.inj ho; obtain rfl := Option.some.inj hr
      have e28 := ev_tmp (show fr.eval (.tmp 61) = .bool (false) from hpre 28 (by decide) _ rfl)
      have e32 := ev_tmp (show fr.eval (.tmp 65) = .agg #[.int .i64 (s9), .slice a9 (n9) (c9)] from hpre 32 (by decide) _ rfl)
      have e33 := ev_tmp (show fr.eval (.tmp 66) = .agg #[.int .i64 (s7), .slice a7 (n7) (c7)] from hpre 33 (by decide) _ rfl)
      clear hpre hfree
      refine stpK_g rfl rfl e28 rfl fun K hK => ?_
      go_simp
      refine (mul_any wx _ _ (y) (x) 53 53 (HR.out.i9.below hW) (HR.out.i7.below hW) HY.out HX.out (by decide)).mono ?_
      rintro e wy ⟨v4, rfl, hb, hm4⟩
      exact hK _ _ ⟨hm4, hW.trans (hb.mono hW.size), hb, fun h => (List.not_mem_nil h).elim⟩
    | 35, ho, hr =>
      obtain rfl := Option.some.inj ho; obtain rfl := Option.some.inj hr
      have e28 := ev_tmp (show fr.eval (.tmp 61) = .bool (false) from hpre 28 (by decide) _ rfl)
      obtain ⟨u31, q31⟩ : ∃ u, fr.eval (.tmp 64) = u := ⟨_, rfl⟩
      have p31 : IsInt wx u31 (x * y) := by rw [← q31]; exact hpre 31 (by decide) _ rfl
      have e31 := ev_tmp q31; clear q31
      obtain ⟨u34, q34⟩ : ∃ u, fr.eval (.tmp 67) = u := ⟨_, rfl⟩
      have p34 : IsInt wx u34 (y * x) := by rw [← q34]; exact hpre 34 (by decide) _ rfl
      have e34 := ev_tmp q34; clear q34
      clear hpre hfree
      refine stpK_g rfl rfl e28 rfl fun K hK => ?_
      go_simp
      refine (cmp_same wx _ _ (x * y) (y * x) 106 p31 p34 HxY.out (by decide) (Int.mul_comm _ _)).mono ?_
      rintro e wy ⟨rfl, hb⟩
      exact hK _ _ ⟨rfl, hW.trans (hb.mono hW.size), hb, fun h => (List.not_mem_nil h).elim⟩
    | 36, ho, hr =>
      obtain rfl := Option.some.inj ho; obtain rfl := Option.some.inj hr
      have e28 := ev_tmp (show fr.eval (.tmp 61) = .bool (false) from hpre 28 (by decide) _ rfl)
      have e35 := ev_tmp (show fr.eval (.tmp 68) = .int .i64 (0) from hpre 35 (by decide) _ rfl)
      clear hpre hfree
      refine stpK_g rfl rfl e28 rfl fun K hK => ?_
      go_simp
      exact hK _ _ ⟨(by first | rfl | (simp; done)), hW, Below.refl _ _, fun h => (List.not_mem_nil h).elim⟩
    | 37, ho, hr =>
      obtain rfl := Option.some.inj ho; obtain rfl := Option.some.inj hr
      have e28 := ev_tmp (show fr.eval (.tmp 61) = .bool (false) from hpre 28 (by decide) _ rfl)
      have e36 := ev_tmp (show fr.eval (.tmp 69) = .bool (false) from hpre 36 (by decide) _ rfl)
      clear hpre hfree
      refine stpK rfl rfl fun K hK => ?_
      go_simp
      exact hK _ _ ⟨(by first | rfl | (simp; done)), hW, Below.refl _ _, fun h => (List.not_mem_nil h).elim⟩
    | 38, ho, hr =>
      obtain rfl := Option.some.inj ho; obtain rfl := Option.some.inj hr
      have e37 := ev_tmp (show fr.eval (.tmp 70) = .bool (false) from hpre 37 (by decide) _ rfl)
      clear hpre hfree
      refine stpK rfl rfl fun K hK => ?_
      go_simp
      exact hK _ _ ⟨rfl, hW, Below.refl _ _, fun h => (List.not_mem_nil h).elim⟩
    | 39, ho, hr =>
      obtain rfl := Option.some.inj ho; obtain rfl := Option.some.inj hr
      have e38 := ev_tmp (show fr.eval (.tmp 71) = .bool (false) from hpre 38 (by decide) _ rfl)
      have t7 := ev_tmp (show fr.eval (.tmp 7) = .pointer (some ⟨b7, 0, none⟩) from hfree 7 (by decide))
      clear hpre hfree
      have c0 := (hW.cell (p := ⟨b7, 0, none⟩) l7).trans k70
      have c1 := (hW.cell (p := ⟨b7, 1, none⟩) l7).trans k71
      refine stpK_g rfl rfl e38 rfl fun K hK => ?_
      go_simp
      exact hK _ _ ⟨rfl, hW, Below.refl _ _, fun h => (List.not_mem_nil h).elim⟩
    | 40, ho, hr =>
      obtain rfl := Option.some.inj ho; obtain rfl := Option.some.inj hr
      have e38 := ev_tmp (show fr.eval (.tmp 71) = .bool (false) from hpre 38 (by decide) _ rfl)
      have t9 := ev_tmp (show fr.eval (.tmp 9) = .pointer (some ⟨b9, 0, none⟩) from hfree 9 (by decide))
      clear hpre hfree
      have c0 := (hW.cell (p := ⟨b9, 0, none⟩) l9).trans k90
      have c1 := (hW.cell (p := ⟨b9, 1, none⟩) l9).trans k91
      refine stpK_g rfl rfl e38 rfl fun K hK => ?_
      go_simp
      exact hK _ _ ⟨rfl, hW, Below.refl _ _, fun h => (List.not_mem_nil h).elim⟩
    | 41, ho, hr =>
      obtain rfl := Option.some.inj ho; obtain rfl := Option.some.inj hr
      have e38 := ev_tmp (show fr.eval (.tmp 71) = .bool (false) from hpre 38 (by decide) _ rfl)
      have e39 := ev_tmp (show fr.eval (.tmp 72) = .agg #[.int .i64 (s7), .slice a7 (n7) (c7)] from hpre 39 (by decide) _ rfl)
      have e40 := ev_tmp (show fr.eval (.tmp 73) = .agg #[.int .i64 (s9), .slice a9 (n9) (c9)] from hpre 40 (by decide) _ rfl)
      clear hpre hfree
      refine stpK_g rfl rfl e38 rfl fun K hK => ?_
      go_simp
      refine (mul_any wx _ _ (x) (y) 53 53 (HR.out.i7.below hW) (HR.out.i9.below hW) HX.out HY.out (by decide)).mono ?_
      rintro e wy ⟨v4, rfl, hb, hm4⟩
      exact hK _ _ ⟨hm4, hW.trans (hb.mono hW.size), hb, fun h => (List.not_mem_nil h).elim⟩
    | 42, ho, hr =>
      obtain rfl := Option.some.inj ho; obtain rfl := Option.some.inj hr
      have e38 := ev_tmp (show fr.eval (.tmp 71) = .bool (false) from hpre 38 (by decide) _ rfl)
      have t11 := ev_tmp (show fr.eval (.tmp 11) = .pointer (some ⟨b11, 0, none⟩) from hfree 11 (by decide))
      clear hpre hfree
      have c0 := (hW.cell (p := ⟨b11, 0, none⟩) l11).trans k110
      have c1 := (hW.cell (p := ⟨b11, 1, none⟩) l11).trans k111
      refine stpK_g rfl rfl e38 rfl fun K hK => ?_
      go_simp
      exact hK _ _ ⟨rfl, hW, Below.refl _ _, fun h => (List.not_mem_nil h).elim⟩
    | 43, ho, hr =>
      obtain rfl := Option.some.inj ho; obtain rfl := Option.some.inj hr
      have e38 := ev_tmp (show fr.eval (.tmp 71) = .bool (false) from hpre 38 (by decide) _ rfl)
      obtain ⟨u41, q41⟩ : ∃ u, fr.eval (.tmp 74) = u := ⟨_, rfl⟩
      have p41 : IsInt wx u41 (x * y) := by rw [← q41]; exact hpre 41 (by decide) _ rfl
      have e41 := ev_tmp q41; clear q41
      have e42 := ev_tmp (show fr.eval (.tmp 75) = .agg #[.int .i64 (s11), .slice a11 (n11) (c11)] from hpre 42 (by decide) _ rfl)
      clear hpre hfree
      refine stpK_g rfl rfl e38 rfl fun K hK => ?_
      go_simp
      refine (mul_any wx _ _ (x * y) (z) 106 53 p41 (HR.out.i11.below hW) HxY.out HZ.out (by decide)).mono ?_
      rintro e wy ⟨v4, rfl, hb, hm4⟩
      exact hK _ _ ⟨hm4, hW.trans (hb.mono hW.size), hb, fun h => (List.not_mem_nil h).elim⟩
    | 44, ho, hr =>
      obtain rfl := Option.some.inj ho; obtain rfl := Option.some.inj hr
      have e38 := ev_tmp (show fr.eval (.tmp 71) = .bool (false) from hpre 38 (by decide) _ rfl)
      have t7 := ev_tmp (show fr.eval (.tmp 7) = .pointer (some ⟨b7, 0, none⟩) from hfree 7 (by decide))
      clear hpre hfree
      have c0 := (hW.cell (p := ⟨b7, 0, none⟩) l7).trans k70
      have c1 := (hW.cell (p := ⟨b7, 1, none⟩) l7).trans k71
      refine stpK_g rfl rfl e38 rfl fun K hK => ?_
      go_simp
      exact hK _ _ ⟨rfl, hW, Below.refl _ _, fun h => (List.not_mem_nil h).elim⟩
    | 45, ho, hr =>
      obtain rfl := Option.some.inj ho; obtain rfl := Option.some.inj hr
      have e38 := ev_tmp (show fr.eval (.tmp 71) = .bool (false) from hpre 38 (by decide) _ rfl)
      have t9 := ev_tmp (show fr.eval (.tmp 9) = .pointer (some ⟨b9, 0, none⟩) from hfree 9 (by decide))
      clear hpre hfree
      have c0 := (hW.cell (p := ⟨b9, 0, none⟩) l9).trans k90
      have c1 := (hW.cell (p := ⟨b9, 1, none⟩) l9).trans k91
      refine stpK_g rfl rfl e38 rfl fun K hK => ?_
      go_simp
      exact hK _ _ ⟨rfl, hW, Below.refl _ _, fun h => (List.not_mem_nil h).elim⟩
    | 46, ho, hr =>
      obtain rfl := Option.some.inj ho; obtain rfl := Option.some.inj hr
      have e38 := ev_tmp (show fr.eval (.tmp 71) = .bool (false) from hpre 38 (by decide) _ rfl)
      have t11 := ev_tmp (show fr.eval (.tmp 11) = .pointer (some ⟨b11, 0, none⟩) from hfree 11 (by decide))
      clear hpre hfree
      have c0 := (hW.cell (p := ⟨b11, 0, none⟩) l11).trans k110
      have c1 := (hW.cell (p := ⟨b11, 1, none⟩) l11).trans k111
      refine stpK_g rfl rfl e38 rfl fun K hK => ?_
      go_simp
      exact hK _ _ ⟨rfl, hW, Below.refl _ _, fun h => (List.not_mem_nil h).elim⟩
    | 47, ho, hr =>
      obtain rfl := Option.some.inj ho; obtain rfl := Option.some.inj hr
      have e38 := ev_tmp (show fr.eval (.tmp 71) = .bool (false) from hpre 38 (by decide) _ rfl)
      have e45 := ev_tmp (show fr.eval (.tmp 78) = .agg #[.int .i64 (s9), .slice a9 (n9) (c9)] from hpre 45 (by decide) _ rfl)
      have e46 := ev_tmp (show fr.eval (.tmp 79) = .agg #[.int .i64 (s11), .slice a11 (n11) (c11)] from hpre 46 (by decide) _ rfl)
      clear hpre hfree
      refine stpK_g rfl rfl e38 rfl fun K hK => ?_
      go_simp
      refine (mul_any wx _ _ (y) (z) 53 53 (HR.out.i9.below hW) (HR.out.i11.below hW) HY.out HZ.out (by decide)).mono ?_
      rintro e wy ⟨v4, rfl, hb, hm4⟩
      exact hK _ _ ⟨hm4, hW.trans (hb.mono hW.size), hb, fun h => (List.not_mem_nil h).elim⟩
    | 48, ho, hr =>
      obtain rfl := Option.some.inj ho; obtain rfl := Option.some.inj hr
      have e38 := ev_tmp (show fr.eval (.tmp 71) = .bool (false) from hpre 38 (by decide) _ rfl)
      have e44 := ev_tmp (show fr.eval (.tmp 77) = .agg #[.int .i64 (s7), .slice a7 (n7) (c7)] from hpre 44 (by decide) _ rfl)
      obtain ⟨u47, q47⟩ : ∃ u, fr.eval (.tmp 80) = u := ⟨_, rfl⟩
      have p47 : IsInt wx u47 (y * z) := by rw [← q47]; exact hpre 47 (by decide) _ rfl
      have e47 := ev_tmp q47; clear q47
      clear hpre hfree
      refine stpK_g rfl rfl e38 rfl fun K hK => ?_
      go_simp
      refine (mul_any wx _ _ (x) (y * z) 53 106 (HR.out.i7.below hW) p47 HX.out HYZ.out (by decide)).mono ?_
      rintro e wy ⟨v4, rfl, hb, hm4⟩
      exact hK _ _ ⟨hm4, hW.trans (hb.mono hW.size), hb, fun h => (List.not_mem_nil h).elim⟩
    | 49, ho, hr =>
      obtain rfl := Option.some.inj ho; obtain rfl := Option.some.inj hr
      have e38 := ev_tmp (show fr.eval (.tmp 71) = .bool (false) from hpre 38 (by decide) _ rfl)
      obtain ⟨u43, q43⟩ : ∃ u, fr.eval (.tmp 76) = u := ⟨_, rfl⟩
      have p43 : IsInt wx u43 (x * y * z) := by rw [← q43]; exact hpre 43 (by decide) _ rfl
      have e43 := ev_tmp q43; clear q43
      obtain ⟨u48, q48⟩ : ∃ u, fr.eval (.tmp 81) = u := ⟨_, rfl⟩
      have p48 : IsInt wx u48 (x * (y * z)) := by rw [← q48]; exact hpre 48 (by decide) _ rfl
      have e48 := ev_tmp q48; clear q48
      clear hpre hfree
      refine stpK_g rfl rfl e38 rfl fun K hK => ?_
      go_simp
      refine (cmp_same wx _ _ (x * y * z) (x * (y * z)) 159 p43 p48 HxYZ.out (by decide) (Int.mul_assoc _ _ _)).mono ?_
      rintro e wy ⟨rfl, hb⟩
      exact hK _ _ ⟨rfl, hW.trans (hb.mono hW.size), hb, fun h => (List.not_mem_nil h).elim⟩
    | 50, ho, hr =>
      obtain rfl := Option.some.inj ho; obtain rfl := Option.some.inj hr
      have e38 := ev_tmp (show fr.eval (.tmp 71) = .bool (false) from hpre 38 (by decide) _ rfl)
      have e49 := ev_tmp (show fr.eval (.tmp 82) = .int .i64 (0) from hpre 49 (by decide) _ rfl)
      clear hpre hfree
      refine stpK_g rfl rfl e38 rfl fun K hK => ?_
      go_simp
      exact hK _ _ ⟨(by first | rfl | (simp; done)), hW, Below.refl _ _, fun h => (List.not_mem_nil h).elim⟩
    | 51, ho, hr =>
      obtain rfl := Option.some.inj ho; obtain rfl := Option.some.inj hr
      have e38 := ev_tmp (show fr.eval (.tmp 71) = .bool (false) from hpre 38 (by decide) _ rfl)
      have e50 := ev_tmp (show fr.eval (.tmp 83) = .bool (false) from hpre 50 (by decide) _ rfl)
      clear hpre hfree
      refine stpK rfl rfl fun K hK => ?_
      go_simp
      exact hK _ _ ⟨(by first | rfl | (simp; done)), hW, Below.refl _ _, fun h => (List.not_mem_nil h).elim⟩
    | n + 52, ho, hr => exact absurd hr (by simp)
  · intro vs wn hvs hW1 hap0
    clear hap0
    have e0 : vs 0 = .bool (true) := hvs 0 (by decide)
    have e1 : vs 1 = .bool (false) := hvs 1 (by decide)
    have e2 : vs 2 = .bool (false) := hvs 2 (by decide)
    have e3 : vs 3 = .agg #[.int .i64 (s7), .slice a7 (n7) (c7)] := hvs 3 (by decide)
    have e4 : vs 4 = .agg #[.int .i64 (s9), .slice a9 (n9) (c9)] := hvs 4 (by decide)
    obtain ⟨u5, e5⟩ : ∃ u, vs 5 = u := ⟨_, rfl⟩
    have p5 : IsInt wn u5 (x + y) := by rw [← e5]; exact hvs 5 (by decide)
    have e6 : vs 6 = .agg #[.int .i64 (s11), .slice a11 (n11) (c11)] := hvs 6 (by decide)
    obtain ⟨u7, e7⟩ : ∃ u, vs 7 = u := ⟨_, rfl⟩
    have p7 : IsInt wn u7 ((x + y) * z) := by rw [← e7]; exact hvs 7 (by decide)
    have e8 : vs 8 = .agg #[.int .i64 (s7), .slice a7 (n7) (c7)] := hvs 8 (by decide)
    have e9 : vs 9 = .agg #[.int .i64 (s11), .slice a11 (n11) (c11)] := hvs 9 (by decide)
    obtain ⟨u10, e10⟩ : ∃ u, vs 10 = u := ⟨_, rfl⟩
    have p10 : IsInt wn u10 (x * z) := by rw [← e10]; exact hvs 10 (by decide)
    have e11 : vs 11 = .agg #[.int .i64 (s9), .slice a9 (n9) (c9)] := hvs 11 (by decide)
    have e12 : vs 12 = .agg #[.int .i64 (s11), .slice a11 (n11) (c11)] := hvs 12 (by decide)
    obtain ⟨u13, e13⟩ : ∃ u, vs 13 = u := ⟨_, rfl⟩
    have p13 : IsInt wn u13 (y * z) := by rw [← e13]; exact hvs 13 (by decide)
    obtain ⟨u14, e14⟩ : ∃ u, vs 14 = u := ⟨_, rfl⟩
    have p14 : IsInt wn u14 (x * z + y * z) := by rw [← e14]; exact hvs 14 (by decide)
    have e15 : vs 15 = .int .i64 (0) := hvs 15 (by decide)
    have e16 : vs 16 = .bool (false) := hvs 16 (by decide)
    have e17 : vs 17 = .bool (false) := hvs 17 (by decide)
    have e18 : vs 18 = .bool (false) := hvs 18 (by decide)
    have e19 : vs 19 = .agg #[.int .i64 (s7), .slice a7 (n7) (c7)] := hvs 19 (by decide)
    have e20 : vs 20 = .agg #[.int .i64 (s9), .slice a9 (n9) (c9)] := hvs 20 (by decide)
    obtain ⟨u21, e21⟩ : ∃ u, vs 21 = u := ⟨_, rfl⟩
    have p21 : IsInt wn u21 (x - y) := by rw [← e21]; exact hvs 21 (by decide)
    have e22 : vs 22 = .agg #[.int .i64 (s9), .slice a9 (n9) (c9)] := hvs 22 (by decide)
    obtain ⟨u23, e23⟩ : ∃ u, vs 23 = u := ⟨_, rfl⟩
    have p23 : IsInt wn u23 (x - y + y) := by rw [← e23]; exact hvs 23 (by decide)
    have e24 : vs 24 = .agg #[.int .i64 (s7), .slice a7 (n7) (c7)] := hvs 24 (by decide)
    have e25 : vs 25 = .int .i64 (0) := hvs 25 (by decide)
    have e26 : vs 26 = .bool (false) := hvs 26 (by decide)
    have e27 : vs 27 = .bool (false) := hvs 27 (by decide)
    have e28 : vs 28 = .bool (false) := hvs 28 (by decide)
    have e29 : vs 29 = .agg #[.int .i64 (s7), .slice a7 (n7) (c7)] := hvs 29 (by decide)
    have e30 : vs 30 = .agg #[.int .i64 (s9), .slice a9 (n9) (c9)] := hvs 30 (by decide)
    obtain ⟨u31, e31⟩ : ∃ u, vs 31 = u := ⟨_, rfl⟩
    have p31 : IsInt wn u31 (x * y) := by rw [← e31]; exact hvs 31 (by decide)
    have e32 : vs 32 = .agg #[.int .i64 (s9), .slice a9 (n9) (c9)] := hvs 32 (by decide)
    have e33 : vs 33 = .agg #[.int .i64 (s7), .slice a7 (n7) (c7)] := hvs 33 (by decide)
    obtain ⟨u34, e34⟩ : ∃ u, vs 34 = u := ⟨_, rfl⟩
    have p34 : IsInt wn u34 (y * x) := by rw [← e34]; exact hvs 34 (by decide)
    have e35 : vs 35 = .int .i64 (0) := hvs 35 (by decide)
    have e36 : vs 36 = .bool (false) := hvs 36 (by decide)
    have e37 : vs 37 = .bool (false) := hvs 37 (by decide)
    have e38 : vs 38 = .bool (false) := hvs 38 (by decide)
    have e39 : vs 39 = .agg #[.int .i64 (s7), .slice a7 (n7) (c7)] := hvs 39 (by decide)
    have e40 : vs 40 = .agg #[.int .i64 (s9), .slice a9 (n9) (c9)] := hvs 40 (by decide)
    obtain ⟨u41, e41⟩ : ∃ u, vs 41 = u := ⟨_, rfl⟩
    have p41 : IsInt wn u41 (x * y) := by rw [← e41]; exact hvs 41 (by decide)
    have e42 : vs 42 = .agg #[.int .i64 (s11), .slice a11 (n11) (c11)] := hvs 42 (by decide)
    obtain ⟨u43, e43⟩ : ∃ u, vs 43 = u := ⟨_, rfl⟩
    have p43 : IsInt wn u43 (x * y * z) := by rw [← e43]; exact hvs 43 (by decide)
    have e44 : vs 44 = .agg #[.int .i64 (s7), .slice a7 (n7) (c7)] := hvs 44 (by decide)
    have e45 : vs 45 = .agg #[.int .i64 (s9), .slice a9 (n9) (c9)] := hvs 45 (by decide)
    have e46 : vs 46 = .agg #[.int .i64 (s11), .slice a11 (n11) (c11)] := hvs 46 (by decide)
    obtain ⟨u47, e47⟩ : ∃ u, vs 47 = u := ⟨_, rfl⟩
    have p47 : IsInt wn u47 (y * z) := by rw [← e47]; exact hvs 47 (by decide)
    obtain ⟨u48, e48⟩ : ∃ u, vs 48 = u := ⟨_, rfl⟩
    have p48 : IsInt wn u48 (x * (y * z)) := by rw [← e48]; exact hvs 48 (by decide)
    have e49 : vs 49 = .int .i64 (0) := hvs 49 (by decide)
    have e50 : vs 50 = .bool (false) := hvs 50 (by decide)
    have e51 : vs 51 = .bool (false) := hvs 51 (by decide)
    simp only [puts, Nat.reduceAdd, e0, e1, e2, e3, e4, e5, e6, e7, e8, e9, e10, e11, e12, e13, e14, e15, e16, e17, e18, e19, e20, e21, e22, e23, e24, e25, e26, e27, e28, e29, e30, e31, e32, e33, e34, e35, e36, e37, e38, e39, e40, e41, e42, e43, e44, e45, e46, e47, e48, e49, e50, e51, Act.put, List.setIfInBounds_toArray, List.set_cons_zero, List.set_cons_succ, List.drop_succ_cons, List.drop_zero, List.length_cons, List.length_nil]
    clear hvs e0 e1 e2 e3 e4 e5 e6 e7 e8 e9 e10 e11 e12 e13 e14 e15 e16 e17 e18 e19 e20 e21 e22 e23 e24 e25 e26 e27 e28 e29 e30 e31 e32 e33 e34 e35 e36 e37 e38 e39 e40 e41 e42 e43 e44 e45 e46 e47 e48 e49 e50 e51
    clear p5 p7 p10 p13 p14 p21 p23 p31 p34 p41 p43 p47 p48 l7 l9 l11 k70 k71 k90 k91 k110 k111 hB1 HXZ HYZ HXYZ HXmY HXmYY HxY HxYZ
    go_upto_region 6 with fail
    have HRn : Hid (NK w wn b7 b9 b11 s7 a7 n7 c7 s9 a9 n9 c9 s11 a11 n11 c11 x y z) := HR.out.step hW1
    clear HR
    have HR : Hid (NK w wn b7 b9 b11 s7 a7 n7 c7 s9 a9 n9 c9 s11 a11 n11 c11 x y z) := HRn.out
    clear HRn
    have hB1 : Below w.heap.size w wn := HR.out.below
    obtain ⟨-, ⟨l7, k70, k71, -, -⟩, ⟨l9, k90, k91, -, -⟩, ⟨l11, k110, k111, -, -⟩, -, -, -⟩ := HR.out
    refine wp_world (fun w1 => w1 = wn) rfl ?_
    rintro w1 rfl
    clear hW1
    obtain ⟨g1, hg1⟩ : ∃ g, cmpI x y = g := ⟨_, rfl⟩
    have HGR : Hid (-1 ≤ g1 ∧ g1 ≤ 1) := by have := cmpI_range x y; rw [hg1] at this; exact this
    have CAB : ∀ wx {v v' : Value}, IsInt wx v x → IsInt wx v' y → Calls Tryz.prog 28 #[v, v'] wx fun e w' => e = .returned (.int .i64 g1) ∧ Below wx.heap.size wx w' := fun wx _ _ h h' => by
      have := cmp_any wx _ _ x y 53 h h' HX.out HY.out (by decide)
      rw [hg1] at this
      exact this
    have CBA : ∀ wx {v v' : Value}, IsInt wx v y → IsInt wx v' x → Calls Tryz.prog 28 #[v, v'] wx fun e w' => e = .returned (.int .i64 (-g1)) ∧ Below wx.heap.size wx w' := fun wx _ _ h h' => by
      have := cmp_any wx _ _ y x 53 h h' HY.out HX.out (by decide)
      rw [cmpI_swap, hg1] at this
      exact this
    have CSG : ∀ wx (v : Value), IsInt wx v (x - y) → Calls Tryz.prog 18 #[v] wx fun e w' => e = .returned (.int .i64 g1) ∧ Below wx.heap.size wx w' := fun wx v h => by
      have := sign_any wx v _ h
      rw [cmpI_sub, hg1] at this
      exact this
    clear hg1
    refine wp_drawn mixed [⟨85, [], [], [7]⟩, ⟨86, [], [], [9]⟩, ⟨87, [0, 1], [0, 1], []⟩, ⟨88, [], [], [9]⟩, ⟨89, [], [], [7]⟩, ⟨90, [2, 3, 4], [0, 1, 2, 3, 4], []⟩, ⟨91, [5], [0, 1, 2, 3, 4, 5], []⟩, ⟨92, [2, 6], [0, 1, 2, 3, 4, 5, 6], []⟩, ⟨93, [5, 7], [0, 1, 2, 3, 4, 5, 6, 7], []⟩, ⟨94, [8], [0, 1, 2, 3, 4, 5, 6, 7, 8], [7]⟩, ⟨95, [8], [0, 1, 2, 3, 4, 5, 6, 7, 8], [9]⟩, ⟨96, [8, 9, 10], [0, 1, 2, 3, 4, 5, 6, 7, 8, 9, 10], []⟩, ⟨97, [8], [0, 1, 2, 3, 4, 5, 6, 7, 8], [7]⟩, ⟨98, [8], [0, 1, 2, 3, 4, 5, 6, 7, 8], [9]⟩, ⟨99, [8, 11, 12, 13], [0, 1, 2, 3, 4, 5, 6, 7, 8, 9, 10, 11, 12, 13], []⟩, ⟨100, [8, 14], [0, 1, 2, 3, 4, 5, 6, 7, 8, 9, 10, 11, 12, 13, 14], []⟩, ⟨101, [8, 11, 15], [0, 1, 2, 3, 4, 5, 6, 7, 8, 9, 10, 11, 12, 13, 14, 15], []⟩, ⟨102, [8, 16], [0, 1, 2, 3, 4, 5, 6, 7, 8, 9, 10, 11, 12, 13, 14, 15, 16], []⟩, ⟨103, [15, 17], [0, 1, 2, 3, 4, 5, 6, 7, 8, 9, 10, 11, 12, 13, 14, 15, 16, 17], []⟩, ⟨104, [18], [0, 1, 2, 3, 4, 5, 6, 7, 8, 9, 10, 11, 12, 13, 14, 15, 16, 17, 18], [7]⟩, ⟨105, [18], [0, 1, 2, 3, 4, 5, 6, 7, 8, 9, 10, 11, 12, 13, 14, 15, 16, 17, 18], [9]⟩, ⟨106, [18], [0, 1, 2, 3, 4, 5, 6, 7, 8, 9, 10, 11, 12, 13, 14, 15, 16, 17, 18], [11]⟩, ⟨107, [18, 20, 21], [0, 1, 2, 3, 4, 5, 6, 7, 8, 9, 10, 11, 12, 13, 14, 15, 16, 17, 18, 20, 21], []⟩, ⟨108, [18, 19, 22], [0, 1, 2, 3, 4, 5, 6, 7, 8, 9, 10, 11, 12, 13, 14, 15, 16, 17, 18, 19, 20, 21, 22], []⟩, ⟨109, [18], [0, 1, 2, 3, 4, 5, 6, 7, 8, 9, 10, 11, 12, 13, 14, 15, 16, 17, 18], [7]⟩, ⟨110, [18], [0, 1, 2, 3, 4, 5, 6, 7, 8, 9, 10, 11, 12, 13, 14, 15, 16, 17, 18], [9]⟩, ⟨111, [18, 23, 24, 25], [0, 1, 2, 3, 4, 5, 6, 7, 8, 9, 10, 11, 12, 13, 14, 15, 16, 17, 18, 19, 20, 21, 22, 23, 24, 25], []⟩, ⟨112, [18], [0, 1, 2, 3, 4, 5, 6, 7, 8, 9, 10, 11, 12, 13, 14, 15, 16, 17, 18], [11]⟩, ⟨113, [18, 26, 27], [0, 1, 2, 3, 4, 5, 6, 7, 8, 9, 10, 11, 12, 13, 14, 15, 16, 17, 18, 19, 20, 21, 22, 23, 24, 25, 26, 27], []⟩, ⟨114, [18, 23, 28], [0, 1, 2, 3, 4, 5, 6, 7, 8, 9, 10, 11, 12, 13, 14, 15, 16, 17, 18, 19, 20, 21, 22, 23, 24, 25, 26, 27, 28], []⟩, ⟨115, [18, 29], [0, 1, 2, 3, 4, 5, 6, 7, 8, 9, 10, 11, 12, 13, 14, 15, 16, 17, 18, 19, 20, 21, 22, 23, 24, 25, 26, 27, 28, 29], []⟩, ⟨116, [18, 30], [0, 1, 2, 3, 4, 5, 6, 7, 8, 9, 10, 11, 12, 13, 14, 15, 16, 17, 18, 19, 20, 21, 22, 23, 24, 25, 26, 27, 28, 29, 30], []⟩] [] (by kernel_rfl) 197 rfl (by kernel_rfl) (fun (i : Nat) (v : Value) (wq : World) => match i with | 0 => v = .agg #[.int .i64 (s7), .slice a7 (n7) (c7)] | 1 => v = .agg #[.int .i64 (s9), .slice a9 (n9) (c9)] | 2 => v = .int .i64 (g1) | 3 => v = .agg #[.int .i64 (s9), .slice a9 (n9) (c9)] | 4 => v = .agg #[.int .i64 (s7), .slice a7 (n7) (c7)] | 5 => v = .int .i64 (-g1) | 6 => v = .int .i64 (g1) | 7 => v = .bool (false) | 8 => v = .bool (false) | 9 => v = .agg #[.int .i64 (s7), .slice a7 (n7) (c7)] | 10 => v = .agg #[.int .i64 (s9), .slice a9 (n9) (c9)] | 11 => v = .int .i64 (g1) | 12 => v = .agg #[.int .i64 (s7), .slice a7 (n7) (c7)] | 13 => v = .agg #[.int .i64 (s9), .slice a9 (n9) (c9)] | 14 => IsInt wq v (x - y) | 15 => v = .int .i64 (g1) | 16 => v = .bool (false) | 17 => v = .bool (false) | 18 => v = .bool (false) | 19 => v = .agg #[.int .i64 (s7), .slice a7 (n7) (c7)] | 20 => v = .agg #[.int .i64 (s9), .slice a9 (n9) (c9)] | 21 => v = .agg #[.int .i64 (s11), .slice a11 (n11) (c11)] | 22 => IsInt wq v (y + z) | 23 => IsInt wq v (x + (y + z)) | 24 => v = .agg #[.int .i64 (s7), .slice a7 (n7) (c7)] | 25 => v = .agg #[.int .i64 (s9), .slice a9 (n9) (c9)] | 26 => IsInt wq v (x + y) | 27 => v = .agg #[.int .i64 (s11), .slice a11 (n11) (c11)] | 28 => IsInt wq v (x + y + z) | 29 => v = .int .i64 (0) | 30 => v = .bool (false) | 31 => v = .bool (false) | _ => True) (fun _ wq => Below w1.heap.size w1 wq) (fun wx wy => Below wx.heap.size wx wy) (Below.refl _ _).drew (fun i v wx wy h hx => match i, h with | 0, h => h | 1, h => h | 2, h => h | 3, h => h | 4, h => h | 5, h => h | 6, h => h | 7, h => h | 8, h => h | 9, h => h | 10, h => h | 11, h => h | 12, h => h | 13, h => h | 15, h => h | 16, h => h | 17, h => h | 18, h => h | 19, h => h | 20, h => h | 21, h => h | 24, h => h | 25, h => h | 27, h => h | 29, h => h | 30, h => h | 31, h => h | 14, h => (h : IsInt wx v (x - y)).below hx | 22, h => (h : IsInt wx v (y + z)).below hx | 23, h => (h : IsInt wx v (x + (y + z))).below hx | 26, h => (h : IsInt wx v (x + y)).below hx | 28, h => (h : IsInt wx v (x + y + z)).below hx | n + 32, _ => trivial) ?_ ?_
    · intro i o r ho hr L fr wx hW hL hpr hds hdef hpre hfree
      clear hL hpr hds hdef
      match i, ho, hr with
      | 0, ho, hr =>
        obtain rfl := Option.some.inj ho; obtain rfl := Option.some.inj hr
        have t7 := ev_tmp (show fr.eval (.tmp 7) = .pointer (some ⟨b7, 0, none⟩) from hfree 7 (by decide))
        clear hpre hfree
        have c0 := (hW.cell (p := ⟨b7, 0, none⟩) l7).trans k70
        have c1 := (hW.cell (p := ⟨b7, 1, none⟩) l7).trans k71
        refine stpK rfl rfl fun K hK => ?_
        go_simp
        exact hK _ _ ⟨rfl, hW, Below.refl _ _, fun h => (List.not_mem_nil h).elim⟩
      | 1, ho, hr =>
        obtain rfl := Option.some.inj ho; obtain rfl := Option.some.inj hr
        have t9 := ev_tmp (show fr.eval (.tmp 9) = .pointer (some ⟨b9, 0, none⟩) from hfree 9 (by decide))
        clear hpre hfree
        have c0 := (hW.cell (p := ⟨b9, 0, none⟩) l9).trans k90
        have c1 := (hW.cell (p := ⟨b9, 1, none⟩) l9).trans k91
        refine stpK rfl rfl fun K hK => ?_
        go_simp
        exact hK _ _ ⟨rfl, hW, Below.refl _ _, fun h => (List.not_mem_nil h).elim⟩
      | 2, ho, hr =>
        obtain rfl := Option.some.inj ho; obtain rfl := Option.some.inj hr
        have e0 := ev_tmp (show fr.eval (.tmp 85) = .agg #[.int .i64 (s7), .slice a7 (n7) (c7)] from hpre 0 (by decide) _ rfl)
        have e1 := ev_tmp (show fr.eval (.tmp 86) = .agg #[.int .i64 (s9), .slice a9 (n9) (c9)] from hpre 1 (by decide) _ rfl)
        clear hpre hfree
        refine stpK rfl rfl fun K hK => ?_
        go_simp
        refine (CAB wx (HR.out.i7.below hW) (HR.out.i9.below hW)).mono ?_
        rintro e wy ⟨rfl, hb⟩
        exact hK _ _ ⟨rfl, hW.trans (hb.mono hW.size), hb, fun h => (List.not_mem_nil h).elim⟩
      | 3, ho, hr =>
        obtain rfl := Option.some.inj ho; obtain rfl := Option.some.inj hr
        have t9 := ev_tmp (show fr.eval (.tmp 9) = .pointer (some ⟨b9, 0, none⟩) from hfree 9 (by decide))
        clear hpre hfree
        have c0 := (hW.cell (p := ⟨b9, 0, none⟩) l9).trans k90
        have c1 := (hW.cell (p := ⟨b9, 1, none⟩) l9).trans k91
        refine stpK rfl rfl fun K hK => ?_
        go_simp
        exact hK _ _ ⟨rfl, hW, Below.refl _ _, fun h => (List.not_mem_nil h).elim⟩
      | 4, ho, hr =>
        obtain rfl := Option.some.inj ho; obtain rfl := Option.some.inj hr
        have t7 := ev_tmp (show fr.eval (.tmp 7) = .pointer (some ⟨b7, 0, none⟩) from hfree 7 (by decide))
        clear hpre hfree
        have c0 := (hW.cell (p := ⟨b7, 0, none⟩) l7).trans k70
        have c1 := (hW.cell (p := ⟨b7, 1, none⟩) l7).trans k71
        refine stpK rfl rfl fun K hK => ?_
        go_simp
        exact hK _ _ ⟨rfl, hW, Below.refl _ _, fun h => (List.not_mem_nil h).elim⟩
      | 5, ho, hr =>
        obtain rfl := Option.some.inj ho; obtain rfl := Option.some.inj hr
        have e3 := ev_tmp (show fr.eval (.tmp 88) = .agg #[.int .i64 (s9), .slice a9 (n9) (c9)] from hpre 3 (by decide) _ rfl)
        have e4 := ev_tmp (show fr.eval (.tmp 89) = .agg #[.int .i64 (s7), .slice a7 (n7) (c7)] from hpre 4 (by decide) _ rfl)
        clear hpre hfree
        refine stpK rfl rfl fun K hK => ?_
        go_simp
        refine (CBA wx (HR.out.i9.below hW) (HR.out.i7.below hW)).mono ?_
        rintro e wy ⟨rfl, hb⟩
        exact hK _ _ ⟨rfl, hW.trans (hb.mono hW.size), hb, fun h => (List.not_mem_nil h).elim⟩
      | 6, ho, hr =>
        obtain rfl := Option.some.inj ho; obtain rfl := Option.some.inj hr
        have e5 := ev_tmp (show fr.eval (.tmp 90) = .int .i64 (-g1) from hpre 5 (by decide) _ rfl)
        clear hpre hfree
        refine stpK rfl rfl fun K hK => ?_
        go_simp
        exact hK _ _ ⟨(wrapid HGR.out), hW, Below.refl _ _, fun h => (List.not_mem_nil h).elim⟩
      | 7, ho, hr =>
        obtain rfl := Option.some.inj ho; obtain rfl := Option.some.inj hr
        have e2 := ev_tmp (show fr.eval (.tmp 87) = .int .i64 (g1) from hpre 2 (by decide) _ rfl)
        have e6 := ev_tmp (show fr.eval (.tmp 91) = .int .i64 (g1) from hpre 6 (by decide) _ rfl)
        clear hpre hfree
        refine stpK rfl rfl fun K hK => ?_
        go_simp
        exact hK _ _ ⟨(by first | rfl | (simp; done)), hW, Below.refl _ _, fun h => (List.not_mem_nil h).elim⟩
      | 8, ho, hr =>
        obtain rfl := Option.some.inj ho; obtain rfl := Option.some.inj hr
        have e7 := ev_tmp (show fr.eval (.tmp 92) = .bool (false) from hpre 7 (by decide) _ rfl)
        clear hpre hfree
        refine stpK rfl rfl fun K hK => ?_
        go_simp
        exact hK _ _ ⟨rfl, hW, Below.refl _ _, fun h => (List.not_mem_nil h).elim⟩
      | 9, ho, hr =>
        obtain rfl := Option.some.inj ho; obtain rfl := Option.some.inj hr
        have e8 := ev_tmp (show fr.eval (.tmp 93) = .bool (false) from hpre 8 (by decide) _ rfl)
        have t7 := ev_tmp (show fr.eval (.tmp 7) = .pointer (some ⟨b7, 0, none⟩) from hfree 7 (by decide))
        clear hpre hfree
        have c0 := (hW.cell (p := ⟨b7, 0, none⟩) l7).trans k70
        have c1 := (hW.cell (p := ⟨b7, 1, none⟩) l7).trans k71
        refine stpK_g rfl rfl e8 rfl fun K hK => ?_
        go_simp
        exact hK _ _ ⟨rfl, hW, Below.refl _ _, fun h => (List.not_mem_nil h).elim⟩
      | 10, ho, hr =>
        obtain rfl := Option.some.inj ho; obtain rfl := Option.some.inj hr
        have e8 := ev_tmp (show fr.eval (.tmp 93) = .bool (false) from hpre 8 (by decide) _ rfl)
        have t9 := ev_tmp (show fr.eval (.tmp 9) = .pointer (some ⟨b9, 0, none⟩) from hfree 9 (by decide))
        clear hpre hfree
        have c0 := (hW.cell (p := ⟨b9, 0, none⟩) l9).trans k90
        have c1 := (hW.cell (p := ⟨b9, 1, none⟩) l9).trans k91
        refine stpK_g rfl rfl e8 rfl fun K hK => ?_
        go_simp
        exact hK _ _ ⟨rfl, hW, Below.refl _ _, fun h => (List.not_mem_nil h).elim⟩
      | 11, ho, hr =>
        obtain rfl := Option.some.inj ho; obtain rfl := Option.some.inj hr
        have e8 := ev_tmp (show fr.eval (.tmp 93) = .bool (false) from hpre 8 (by decide) _ rfl)
        have e9 := ev_tmp (show fr.eval (.tmp 94) = .agg #[.int .i64 (s7), .slice a7 (n7) (c7)] from hpre 9 (by decide) _ rfl)
        have e10 := ev_tmp (show fr.eval (.tmp 95) = .agg #[.int .i64 (s9), .slice a9 (n9) (c9)] from hpre 10 (by decide) _ rfl)
        clear hpre hfree
        refine stpK_g rfl rfl e8 rfl fun K hK => ?_
        go_simp
        refine (CAB wx (HR.out.i7.below hW) (HR.out.i9.below hW)).mono ?_
        rintro e wy ⟨rfl, hb⟩
        exact hK _ _ ⟨rfl, hW.trans (hb.mono hW.size), hb, fun h => (List.not_mem_nil h).elim⟩
      | 12, ho, hr =>
        obtain rfl := Option.some.inj ho; obtain rfl := Option.some.inj hr
        have e8 := ev_tmp (show fr.eval (.tmp 93) = .bool (false) from hpre 8 (by decide) _ rfl)
        have t7 := ev_tmp (show fr.eval (.tmp 7) = .pointer (some ⟨b7, 0, none⟩) from hfree 7 (by decide))
        clear hpre hfree
        have c0 := (hW.cell (p := ⟨b7, 0, none⟩) l7).trans k70
        have c1 := (hW.cell (p := ⟨b7, 1, none⟩) l7).trans k71
        refine stpK_g rfl rfl e8 rfl fun K hK => ?_
        go_simp
        exact hK _ _ ⟨rfl, hW, Below.refl _ _, fun h => (List.not_mem_nil h).elim⟩
      | 13, ho, hr =>
        obtain rfl := Option.some.inj ho; obtain rfl := Option.some.inj hr
        have e8 := ev_tmp (show fr.eval (.tmp 93) = .bool (false) from hpre 8 (by decide) _ rfl)
        have t9 := ev_tmp (show fr.eval (.tmp 9) = .pointer (some ⟨b9, 0, none⟩) from hfree 9 (by decide))
        clear hpre hfree
        have c0 := (hW.cell (p := ⟨b9, 0, none⟩) l9).trans k90
        have c1 := (hW.cell (p := ⟨b9, 1, none⟩) l9).trans k91
        refine stpK_g rfl rfl e8 rfl fun K hK => ?_
        go_simp
        exact hK _ _ ⟨rfl, hW, Below.refl _ _, fun h => (List.not_mem_nil h).elim⟩
      | 14, ho, hr =>
        obtain rfl := Option.some.inj ho; obtain rfl := Option.some.inj hr
        have e8 := ev_tmp (show fr.eval (.tmp 93) = .bool (false) from hpre 8 (by decide) _ rfl)
        have e12 := ev_tmp (show fr.eval (.tmp 97) = .agg #[.int .i64 (s7), .slice a7 (n7) (c7)] from hpre 12 (by decide) _ rfl)
        have e13 := ev_tmp (show fr.eval (.tmp 98) = .agg #[.int .i64 (s9), .slice a9 (n9) (c9)] from hpre 13 (by decide) _ rfl)
        clear hpre hfree
        refine stpK_g rfl rfl e8 rfl fun K hK => ?_
        go_simp
        refine (sub_any wx _ _ (x) (y) 53 (HR.out.i7.below hW) (HR.out.i9.below hW) HX.out HY.out (by decide)).mono ?_
        rintro e wy ⟨v4, rfl, hb, hm4⟩
        exact hK _ _ ⟨hm4, hW.trans (hb.mono hW.size), hb, fun h => (List.not_mem_nil h).elim⟩
      | 15, ho, hr =>
        obtain rfl := Option.some.inj ho; obtain rfl := Option.some.inj hr
        have e8 := ev_tmp (show fr.eval (.tmp 93) = .bool (false) from hpre 8 (by decide) _ rfl)
        obtain ⟨u14, q14⟩ : ∃ u, fr.eval (.tmp 99) = u := ⟨_, rfl⟩
        have p14 : IsInt wx u14 (x - y) := by rw [← q14]; exact hpre 14 (by decide) _ rfl
        have e14 := ev_tmp q14; clear q14
        clear hpre hfree
        refine stpK_g rfl rfl e8 rfl fun K hK => ?_
        go_simp
        refine (CSG wx _ p14).mono ?_
        rintro e wy ⟨rfl, hb⟩
        exact hK _ _ ⟨rfl, hW.trans (hb.mono hW.size), hb, fun h => (List.not_mem_nil h).elim⟩
      | 16, ho, hr =>
        obtain rfl := Option.some.inj ho; obtain rfl := Option.some.inj hr
        have e8 := ev_tmp (show fr.eval (.tmp 93) = .bool (false) from hpre 8 (by decide) _ rfl)
        have e11 := ev_tmp (show fr.eval (.tmp 96) = .int .i64 (g1) from hpre 11 (by decide) _ rfl)
        have e15 := ev_tmp (show fr.eval (.tmp 100) = .int .i64 (g1) from hpre 15 (by decide) _ rfl)
        clear hpre hfree
        refine stpK_g rfl rfl e8 rfl fun K hK => ?_
        go_simp
        exact hK _ _ ⟨(by first | rfl | (simp; done)), hW, Below.refl _ _, fun h => (List.not_mem_nil h).elim⟩
      | 17, ho, hr =>
        obtain rfl := Option.some.inj ho; obtain rfl := Option.some.inj hr
        have e8 := ev_tmp (show fr.eval (.tmp 93) = .bool (false) from hpre 8 (by decide) _ rfl)
        have e16 := ev_tmp (show fr.eval (.tmp 101) = .bool (false) from hpre 16 (by decide) _ rfl)
        clear hpre hfree
        refine stpK rfl rfl fun K hK => ?_
        go_simp
        exact hK _ _ ⟨(by first | rfl | (simp; done)), hW, Below.refl _ _, fun h => (List.not_mem_nil h).elim⟩
      | 18, ho, hr =>
        obtain rfl := Option.some.inj ho; obtain rfl := Option.some.inj hr
        have e17 := ev_tmp (show fr.eval (.tmp 102) = .bool (false) from hpre 17 (by decide) _ rfl)
        clear hpre hfree
        refine stpK rfl rfl fun K hK => ?_
        go_simp
        exact hK _ _ ⟨rfl, hW, Below.refl _ _, fun h => (List.not_mem_nil h).elim⟩
      | 19, ho, hr =>
        obtain rfl := Option.some.inj ho; obtain rfl := Option.some.inj hr
        have e18 := ev_tmp (show fr.eval (.tmp 103) = .bool (false) from hpre 18 (by decide) _ rfl)
        have t7 := ev_tmp (show fr.eval (.tmp 7) = .pointer (some ⟨b7, 0, none⟩) from hfree 7 (by decide))
        clear hpre hfree
        have c0 := (hW.cell (p := ⟨b7, 0, none⟩) l7).trans k70
        have c1 := (hW.cell (p := ⟨b7, 1, none⟩) l7).trans k71
        refine stpK_g rfl rfl e18 rfl fun K hK => ?_
        go_simp
        exact hK _ _ ⟨rfl, hW, Below.refl _ _, fun h => (List.not_mem_nil h).elim⟩
      | 20, ho, hr =>
        obtain rfl := Option.some.inj ho; obtain rfl := Option.some.inj hr
        have e18 := ev_tmp (show fr.eval (.tmp 103) = .bool (false) from hpre 18 (by decide) _ rfl)
        have t9 := ev_tmp (show fr.eval (.tmp 9) = .pointer (some ⟨b9, 0, none⟩) from hfree 9 (by decide))
        clear hpre hfree
        have c0 := (hW.cell (p := ⟨b9, 0, none⟩) l9).trans k90
        have c1 := (hW.cell (p := ⟨b9, 1, none⟩) l9).trans k91
        refine stpK_g rfl rfl e18 rfl fun K hK => ?_
        go_simp
        exact hK _ _ ⟨rfl, hW, Below.refl _ _, fun h => (List.not_mem_nil h).elim⟩
      | 21, ho, hr =>
        obtain rfl := Option.some.inj ho; obtain rfl := Option.some.inj hr
        have e18 := ev_tmp (show fr.eval (.tmp 103) = .bool (false) from hpre 18 (by decide) _ rfl)
        have t11 := ev_tmp (show fr.eval (.tmp 11) = .pointer (some ⟨b11, 0, none⟩) from hfree 11 (by decide))
        clear hpre hfree
        have c0 := (hW.cell (p := ⟨b11, 0, none⟩) l11).trans k110
        have c1 := (hW.cell (p := ⟨b11, 1, none⟩) l11).trans k111
        refine stpK_g rfl rfl e18 rfl fun K hK => ?_
        go_simp
        exact hK _ _ ⟨rfl, hW, Below.refl _ _, fun h => (List.not_mem_nil h).elim⟩
      | 22, ho, hr =>
        obtain rfl := Option.some.inj ho; obtain rfl := Option.some.inj hr
        have e18 := ev_tmp (show fr.eval (.tmp 103) = .bool (false) from hpre 18 (by decide) _ rfl)
        have e20 := ev_tmp (show fr.eval (.tmp 105) = .agg #[.int .i64 (s9), .slice a9 (n9) (c9)] from hpre 20 (by decide) _ rfl)
        have e21 := ev_tmp (show fr.eval (.tmp 106) = .agg #[.int .i64 (s11), .slice a11 (n11) (c11)] from hpre 21 (by decide) _ rfl)
        clear hpre hfree
        refine stpK_g rfl rfl e18 rfl fun K hK => ?_
        go_simp
        refine (add_any wx _ _ (y) (z) 53 (HR.out.i9.below hW) (HR.out.i11.below hW) HY.out HZ.out (by decide)).mono ?_
        rintro e wy ⟨v4, rfl, hb, hm4⟩
        exact hK _ _ ⟨hm4, hW.trans (hb.mono hW.size), hb, fun h => (List.not_mem_nil h).elim⟩
      | 23, ho, hr =>
        obtain rfl := Option.some.inj ho; obtain rfl := Option.some.inj hr
        have e18 := ev_tmp (show fr.eval (.tmp 103) = .bool (false) from hpre 18 (by decide) _ rfl)
        have e19 := ev_tmp (show fr.eval (.tmp 104) = .agg #[.int .i64 (s7), .slice a7 (n7) (c7)] from hpre 19 (by decide) _ rfl)
        obtain ⟨u22, q22⟩ : ∃ u, fr.eval (.tmp 107) = u := ⟨_, rfl⟩
        have p22 : IsInt wx u22 (y + z) := by rw [← q22]; exact hpre 22 (by decide) _ rfl
        have e22 := ev_tmp q22; clear q22
        clear hpre hfree
        refine stpK_g rfl rfl e18 rfl fun K hK => ?_
        go_simp
        refine (add_any wx _ _ (x) (y + z) 54 (HR.out.i7.below hW) p22 HX54.out HYpZ.out (by decide)).mono ?_
        rintro e wy ⟨v4, rfl, hb, hm4⟩
        exact hK _ _ ⟨hm4, hW.trans (hb.mono hW.size), hb, fun h => (List.not_mem_nil h).elim⟩
      | 24, ho, hr =>
        obtain rfl := Option.some.inj ho; obtain rfl := Option.some.inj hr
        have e18 := ev_tmp (show fr.eval (.tmp 103) = .bool (false) from hpre 18 (by decide) _ rfl)
        have t7 := ev_tmp (show fr.eval (.tmp 7) = .pointer (some ⟨b7, 0, none⟩) from hfree 7 (by decide))
        clear hpre hfree
        have c0 := (hW.cell (p := ⟨b7, 0, none⟩) l7).trans k70
        have c1 := (hW.cell (p := ⟨b7, 1, none⟩) l7).trans k71
        refine stpK_g rfl rfl e18 rfl fun K hK => ?_
        go_simp
        exact hK _ _ ⟨rfl, hW, Below.refl _ _, fun h => (List.not_mem_nil h).elim⟩
      | 25, ho, hr =>
        obtain rfl := Option.some.inj ho; obtain rfl := Option.some.inj hr
        have e18 := ev_tmp (show fr.eval (.tmp 103) = .bool (false) from hpre 18 (by decide) _ rfl)
        have t9 := ev_tmp (show fr.eval (.tmp 9) = .pointer (some ⟨b9, 0, none⟩) from hfree 9 (by decide))
        clear hpre hfree
        have c0 := (hW.cell (p := ⟨b9, 0, none⟩) l9).trans k90
        have c1 := (hW.cell (p := ⟨b9, 1, none⟩) l9).trans k91
        refine stpK_g rfl rfl e18 rfl fun K hK => ?_
        go_simp
        exact hK _ _ ⟨rfl, hW, Below.refl _ _, fun h => (List.not_mem_nil h).elim⟩
      | 26, ho, hr =>
        obtain rfl := Option.some.inj ho; obtain rfl := Option.some.inj hr
        have e18 := ev_tmp (show fr.eval (.tmp 103) = .bool (false) from hpre 18 (by decide) _ rfl)
        have e24 := ev_tmp (show fr.eval (.tmp 109) = .agg #[.int .i64 (s7), .slice a7 (n7) (c7)] from hpre 24 (by decide) _ rfl)
        have e25 := ev_tmp (show fr.eval (.tmp 110) = .agg #[.int .i64 (s9), .slice a9 (n9) (c9)] from hpre 25 (by decide) _ rfl)
        clear hpre hfree
        refine stpK_g rfl rfl e18 rfl fun K hK => ?_
        go_simp
        refine (add_any wx _ _ (x) (y) 53 (HR.out.i7.below hW) (HR.out.i9.below hW) HX.out HY.out (by decide)).mono ?_
        rintro e wy ⟨v4, rfl, hb, hm4⟩
        exact hK _ _ ⟨hm4, hW.trans (hb.mono hW.size), hb, fun h => (List.not_mem_nil h).elim⟩
      | 27, ho, hr =>
        obtain rfl := Option.some.inj ho; obtain rfl := Option.some.inj hr
        have e18 := ev_tmp (show fr.eval (.tmp 103) = .bool (false) from hpre 18 (by decide) _ rfl)
        have t11 := ev_tmp (show fr.eval (.tmp 11) = .pointer (some ⟨b11, 0, none⟩) from hfree 11 (by decide))
        clear hpre hfree
        have c0 := (hW.cell (p := ⟨b11, 0, none⟩) l11).trans k110
        have c1 := (hW.cell (p := ⟨b11, 1, none⟩) l11).trans k111
        refine stpK_g rfl rfl e18 rfl fun K hK => ?_
        go_simp
        exact hK _ _ ⟨rfl, hW, Below.refl _ _, fun h => (List.not_mem_nil h).elim⟩
      | 28, ho, hr =>
        obtain rfl := Option.some.inj ho; obtain rfl := Option.some.inj hr
        have e18 := ev_tmp (show fr.eval (.tmp 103) = .bool (false) from hpre 18 (by decide) _ rfl)
        obtain ⟨u26, q26⟩ : ∃ u, fr.eval (.tmp 111) = u := ⟨_, rfl⟩
        have p26 : IsInt wx u26 (x + y) := by rw [← q26]; exact hpre 26 (by decide) _ rfl
        have e26 := ev_tmp q26; clear q26
        have e27 := ev_tmp (show fr.eval (.tmp 112) = .agg #[.int .i64 (s11), .slice a11 (n11) (c11)] from hpre 27 (by decide) _ rfl)
        clear hpre hfree
        refine stpK_g rfl rfl e18 rfl fun K hK => ?_
        go_simp
        refine (add_any wx _ _ (x + y) (z) 54 p26 (HR.out.i11.below hW) HXY.out HZ54.out (by decide)).mono ?_
        rintro e wy ⟨v4, rfl, hb, hm4⟩
        exact hK _ _ ⟨hm4, hW.trans (hb.mono hW.size), hb, fun h => (List.not_mem_nil h).elim⟩
      | 29, ho, hr =>
        obtain rfl := Option.some.inj ho; obtain rfl := Option.some.inj hr
        have e18 := ev_tmp (show fr.eval (.tmp 103) = .bool (false) from hpre 18 (by decide) _ rfl)
        obtain ⟨u23, q23⟩ : ∃ u, fr.eval (.tmp 108) = u := ⟨_, rfl⟩
        have p23 : IsInt wx u23 (x + (y + z)) := by rw [← q23]; exact hpre 23 (by decide) _ rfl
        have e23 := ev_tmp q23; clear q23
        obtain ⟨u28, q28⟩ : ∃ u, fr.eval (.tmp 113) = u := ⟨_, rfl⟩
        have p28 : IsInt wx u28 (x + y + z) := by rw [← q28]; exact hpre 28 (by decide) _ rfl
        have e28 := ev_tmp q28; clear q28
        clear hpre hfree
        refine stpK_g rfl rfl e18 rfl fun K hK => ?_
        go_simp
        refine (cmp_same wx _ _ (x + (y + z)) (x + y + z) 55 p23 p28 HXpYZ.out (by decide) (Int.add_assoc _ _ _).symm).mono ?_
        rintro e wy ⟨rfl, hb⟩
        exact hK _ _ ⟨rfl, hW.trans (hb.mono hW.size), hb, fun h => (List.not_mem_nil h).elim⟩
      | 30, ho, hr =>
        obtain rfl := Option.some.inj ho; obtain rfl := Option.some.inj hr
        have e18 := ev_tmp (show fr.eval (.tmp 103) = .bool (false) from hpre 18 (by decide) _ rfl)
        have e29 := ev_tmp (show fr.eval (.tmp 114) = .int .i64 (0) from hpre 29 (by decide) _ rfl)
        clear hpre hfree
        refine stpK_g rfl rfl e18 rfl fun K hK => ?_
        go_simp
        exact hK _ _ ⟨(by first | rfl | (simp; done)), hW, Below.refl _ _, fun h => (List.not_mem_nil h).elim⟩
      | 31, ho, hr =>
        obtain rfl := Option.some.inj ho; obtain rfl := Option.some.inj hr
        have e18 := ev_tmp (show fr.eval (.tmp 103) = .bool (false) from hpre 18 (by decide) _ rfl)
        have e30 := ev_tmp (show fr.eval (.tmp 115) = .bool (false) from hpre 30 (by decide) _ rfl)
        clear hpre hfree
        refine stpK rfl rfl fun K hK => ?_
        go_simp
        exact hK _ _ ⟨(by first | rfl | (simp; done)), hW, Below.refl _ _, fun h => (List.not_mem_nil h).elim⟩
      | n + 32, ho, hr => exact absurd hr (by simp)
    · intro vs wn hvs hW1 hap0
      clear hap0
      have e0 : vs 0 = .agg #[.int .i64 (s7), .slice a7 (n7) (c7)] := hvs 0 (by decide)
      have e1 : vs 1 = .agg #[.int .i64 (s9), .slice a9 (n9) (c9)] := hvs 1 (by decide)
      have e2 : vs 2 = .int .i64 (g1) := hvs 2 (by decide)
      have e3 : vs 3 = .agg #[.int .i64 (s9), .slice a9 (n9) (c9)] := hvs 3 (by decide)
      have e4 : vs 4 = .agg #[.int .i64 (s7), .slice a7 (n7) (c7)] := hvs 4 (by decide)
      have e5 : vs 5 = .int .i64 (-g1) := hvs 5 (by decide)
      have e6 : vs 6 = .int .i64 (g1) := hvs 6 (by decide)
      have e7 : vs 7 = .bool (false) := hvs 7 (by decide)
      have e8 : vs 8 = .bool (false) := hvs 8 (by decide)
      have e9 : vs 9 = .agg #[.int .i64 (s7), .slice a7 (n7) (c7)] := hvs 9 (by decide)
      have e10 : vs 10 = .agg #[.int .i64 (s9), .slice a9 (n9) (c9)] := hvs 10 (by decide)
      have e11 : vs 11 = .int .i64 (g1) := hvs 11 (by decide)
      have e12 : vs 12 = .agg #[.int .i64 (s7), .slice a7 (n7) (c7)] := hvs 12 (by decide)
      have e13 : vs 13 = .agg #[.int .i64 (s9), .slice a9 (n9) (c9)] := hvs 13 (by decide)
      obtain ⟨u14, e14⟩ : ∃ u, vs 14 = u := ⟨_, rfl⟩
      have p14 : IsInt wn u14 (x - y) := by rw [← e14]; exact hvs 14 (by decide)
      have e15 : vs 15 = .int .i64 (g1) := hvs 15 (by decide)
      have e16 : vs 16 = .bool (false) := hvs 16 (by decide)
      have e17 : vs 17 = .bool (false) := hvs 17 (by decide)
      have e18 : vs 18 = .bool (false) := hvs 18 (by decide)
      have e19 : vs 19 = .agg #[.int .i64 (s7), .slice a7 (n7) (c7)] := hvs 19 (by decide)
      have e20 : vs 20 = .agg #[.int .i64 (s9), .slice a9 (n9) (c9)] := hvs 20 (by decide)
      have e21 : vs 21 = .agg #[.int .i64 (s11), .slice a11 (n11) (c11)] := hvs 21 (by decide)
      obtain ⟨u22, e22⟩ : ∃ u, vs 22 = u := ⟨_, rfl⟩
      have p22 : IsInt wn u22 (y + z) := by rw [← e22]; exact hvs 22 (by decide)
      obtain ⟨u23, e23⟩ : ∃ u, vs 23 = u := ⟨_, rfl⟩
      have p23 : IsInt wn u23 (x + (y + z)) := by rw [← e23]; exact hvs 23 (by decide)
      have e24 : vs 24 = .agg #[.int .i64 (s7), .slice a7 (n7) (c7)] := hvs 24 (by decide)
      have e25 : vs 25 = .agg #[.int .i64 (s9), .slice a9 (n9) (c9)] := hvs 25 (by decide)
      obtain ⟨u26, e26⟩ : ∃ u, vs 26 = u := ⟨_, rfl⟩
      have p26 : IsInt wn u26 (x + y) := by rw [← e26]; exact hvs 26 (by decide)
      have e27 : vs 27 = .agg #[.int .i64 (s11), .slice a11 (n11) (c11)] := hvs 27 (by decide)
      obtain ⟨u28, e28⟩ : ∃ u, vs 28 = u := ⟨_, rfl⟩
      have p28 : IsInt wn u28 (x + y + z) := by rw [← e28]; exact hvs 28 (by decide)
      have e29 : vs 29 = .int .i64 (0) := hvs 29 (by decide)
      have e30 : vs 30 = .bool (false) := hvs 30 (by decide)
      have e31 : vs 31 = .bool (false) := hvs 31 (by decide)
      simp only [puts, Nat.reduceAdd, e0, e1, e2, e3, e4, e5, e6, e7, e8, e9, e10, e11, e12, e13, e14, e15, e16, e17, e18, e19, e20, e21, e22, e23, e24, e25, e26, e27, e28, e29, e30, e31, Act.put, List.setIfInBounds_toArray, List.set_cons_zero, List.set_cons_succ, List.drop_succ_cons, List.drop_zero, List.length_cons, List.length_nil]
      clear hvs e0 e1 e2 e3 e4 e5 e6 e7 e8 e9 e10 e11 e12 e13 e14 e15 e16 e17 e18 e19 e20 e21 e22 e23 e24 e25 e26 e27 e28 e29 e30 e31
      clear p14 p22 p23 p26 p28 l7 l9 l11 k70 k71 k90 k91 k110 k111 hB1 CAB CBA CSG HXY HYpZ HXpYZ HGR HX54 HY54 HZ54
      go_upto_region 8 with fail
      have HRn : Hid (NK w wn b7 b9 b11 s7 a7 n7 c7 s9 a9 n9 c9 s11 a11 n11 c11 x y z) := HR.out.step hW1
      clear HR
      have HR : Hid (NK w wn b7 b9 b11 s7 a7 n7 c7 s9 a9 n9 c9 s11 a11 n11 c11 x y z) := HRn.out
      clear HRn
      have hB1 : Below w.heap.size w wn := HR.out.below
      obtain ⟨-, ⟨l7, k70, k71, -, -⟩, ⟨l9, k90, k91, -, -⟩, ⟨l11, k110, k111, -, -⟩, -, -, -⟩ := HR.out
      refine wp_world (fun w1 => w1 = wn) rfl ?_
      rintro w1 rfl
      clear hW1
      have HX9 : Hid (x.natAbs < B ^ 159) := HBD.out.x9
      have HY9 : Hid (y.natAbs < B ^ 159) := HBD.out.y9
      have HZ9 : Hid (z.natAbs < B ^ 159) := HBD.out.z9
      have HXZ9 : Hid ((x * z).natAbs < B ^ 159) := HBD.out.xz9
      have HYZ9 : Hid ((y * z).natAbs < B ^ 159) := HBD.out.yz9
      have H09 : Hid ((0 : Int).natAbs < B ^ 159) := HBD.out.o9
      have HGZ : Hid (((Int.gcd z 0 : Nat) : Int).natAbs < B ^ 53) := HBD.out.gz
      have HG53 : Hid (((Int.gcd x y : Nat) : Int).natAbs < B ^ 53) := HBD.out.g53
      have HGXZ : Hid (((Int.gcd (x * z) (y * z) : Nat) : Int).natAbs < B ^ 106) := HBD.out.gxz
      have HGE : Hid (((Int.gcd (x * z) (y * z) : Nat) : Int) = ((Int.gcd x y : Nat) : Int) * ((Int.gcd z 0 : Nat) : Int)) := by
        show _ = _
        rw [Int.gcd_mul_right, Int.gcd_zero_right, Int.natCast_mul]
      obtain ⟨v1, v2, v3⟩ := _root_.Rad.itoa_back x
      obtain ⟨M, hM⟩ : ∃ M, M = 250 := ⟨_, rfl⟩
      have v4 := v3 (4 * M) (by omega) (by rw [Nat.pow_mul, hM]; exact HX0.out)
      obtain ⟨tx, htx⟩ : ∃ tx : ByteArray, (⟨(txt x).toArray⟩ : ByteArray) = tx := ⟨_, rfl⟩
      have hdl : tx.data.toList = txt x := by rw [← htx]
      have htl : tx.size ≤ 1001 := by
        rw [← ba_size, hdl]
        exact Nat.le_trans (digs_len (txt x)).2 (by unfold txt; omega)
      have q1 : pcode tx.data.toList = 0 := by rw [hdl]; unfold pcode txt; rw [if_pos v1, if_neg (by omega)]
      have q2 : pat tx.data.toList = 0 := by rw [hdl]; unfold pat txt; rw [if_pos v1]
      have q3 : pval tx.data.toList = x := by rw [hdl]; unfold pval txt; rw [if_pos ⟨v1, by omega⟩, v2]
      have CTX : ∀ wx, Below w.heap.size w wx → ∀ v, IsInt wx v x → Calls Tryz.prog 14 #[v] wx fun e w' => e = .returned (.string tx) ∧ Below wx.heap.size wx w' := fun wx h v hv => by
        rw [← htx]
        exact text_any wx v x hv HBD.out.x9 (HT.out.below h)
      have CPT := fun w => parse_any w tx (by omega)
      simp only [q1, q2, q3] at CPT
      have HTL : Hid (tx.size ≤ 1001) := htl
      clear v1 v2 v3 v4 hM htx hdl htl q1 q2 q3
      refine wp_drawn mixed [⟨117, [], [], [7]⟩, ⟨118, [0], [0], []⟩, ⟨119, [1], [0, 1], []⟩, ⟨120, [2], [0, 1, 2], []⟩, ⟨121, [1, 3], [0, 1, 2, 3], []⟩, ⟨122, [4], [0, 1, 2, 3, 4], [7]⟩, ⟨123, [4], [0, 1, 2, 3, 4], [11]⟩, ⟨124, [4, 5, 6], [0, 1, 2, 3, 4, 5, 6], []⟩, ⟨125, [4], [0, 1, 2, 3, 4], [9]⟩, ⟨126, [4], [0, 1, 2, 3, 4], [11]⟩, ⟨127, [4, 7, 8, 9], [0, 1, 2, 3, 4, 5, 6, 7, 8, 9], []⟩, ⟨128, [4, 7, 10], [0, 1, 2, 3, 4, 5, 6, 7, 8, 9, 10], []⟩, ⟨129, [4], [0, 1, 2, 3, 4], [7]⟩, ⟨130, [4], [0, 1, 2, 3, 4], [9]⟩, ⟨131, [4, 11, 12, 13], [0, 1, 2, 3, 4, 5, 6, 7, 8, 9, 10, 11, 12, 13], []⟩, ⟨132, [4], [0, 1, 2, 3, 4], [11]⟩, ⟨133, [4, 14], [0, 1, 2, 3, 4, 5, 6, 7, 8, 9, 10, 11, 12, 13, 14], []⟩, ⟨134, [4, 15, 16], [0, 1, 2, 3, 4, 5, 6, 7, 8, 9, 10, 11, 12, 13, 14, 15, 16], []⟩, ⟨135, [4, 14, 17], [0, 1, 2, 3, 4, 5, 6, 7, 8, 9, 10, 11, 12, 13, 14, 15, 16, 17], []⟩, ⟨136, [4, 11, 18], [0, 1, 2, 3, 4, 5, 6, 7, 8, 9, 10, 11, 12, 13, 14, 15, 16, 17, 18], []⟩, ⟨137, [4, 19], [0, 1, 2, 3, 4, 5, 6, 7, 8, 9, 10, 11, 12, 13, 14, 15, 16, 17, 18, 19], []⟩, ⟨138, [4, 20], [0, 1, 2, 3, 4, 5, 6, 7, 8, 9, 10, 11, 12, 13, 14, 15, 16, 17, 18, 19, 20], []⟩] [] (by kernel_rfl) 197 rfl (by kernel_rfl) (fun (i : Nat) (v : Value) (wq : World) => match i with | 0 => v = .agg #[.int .i64 (s7), .slice a7 (n7) (c7)] | 1 => v = .string (tx) | 2 => v = .int .i64 (((tx.size : Nat) : Int)) | 3 => v = .bool (false) | 4 => v = .bool (false) | 5 => v = .agg #[.int .i64 (s7), .slice a7 (n7) (c7)] | 6 => v = .agg #[.int .i64 (s11), .slice a11 (n11) (c11)] | 7 => IsInt wq v (x * z) | 8 => v = .agg #[.int .i64 (s9), .slice a9 (n9) (c9)] | 9 => v = .agg #[.int .i64 (s11), .slice a11 (n11) (c11)] | 10 => IsInt wq v (y * z) | 11 => IsInt wq v ((Int.gcd (x * z) (y * z) : Nat)) | 12 => v = .agg #[.int .i64 (s7), .slice a7 (n7) (c7)] | 13 => v = .agg #[.int .i64 (s9), .slice a9 (n9) (c9)] | 14 => IsInt wq v ((Int.gcd x y : Nat)) | 15 => v = .agg #[.int .i64 (s11), .slice a11 (n11) (c11)] | 16 => IsInt wq v ((0 : Int)) | 17 => IsInt wq v ((Int.gcd z 0 : Nat)) | 18 => IsInt wq v ((Int.gcd x y : Nat) * (Int.gcd z 0 : Nat)) | 19 => v = .int .i64 (0) | 20 => v = .bool (false) | 21 => v = .bool (false) | _ => True) (fun _ wq => Below w1.heap.size w1 wq) (fun wx wy => Below wx.heap.size wx wy) (Below.refl _ _).drew (fun i v wx wy h hx => match i, h with | 0, h => h | 1, h => h | 2, h => h | 3, h => h | 4, h => h | 5, h => h | 6, h => h | 8, h => h | 9, h => h | 12, h => h | 13, h => h | 15, h => h | 19, h => h | 20, h => h | 21, h => h | 7, h => (h : IsInt wx v (x * z)).below hx | 10, h => (h : IsInt wx v (y * z)).below hx | 11, h => (h : IsInt wx v ((Int.gcd (x * z) (y * z) : Nat))).below hx | 14, h => (h : IsInt wx v ((Int.gcd x y : Nat))).below hx | 16, h => (h : IsInt wx v ((0 : Int))).below hx | 17, h => (h : IsInt wx v ((Int.gcd z 0 : Nat))).below hx | 18, h => (h : IsInt wx v ((Int.gcd x y : Nat) * (Int.gcd z 0 : Nat))).below hx | n + 22, _ => trivial) ?_ ?_
      · intro i o r ho hr L fr wx hW hL hpr hds hdef hpre hfree
        clear hL hpr hds hdef
        match i, ho, hr with
        | 0, ho, hr =>
          obtain rfl := Option.some.inj ho; obtain rfl := Option.some.inj hr
          have t7 := ev_tmp (show fr.eval (.tmp 7) = .pointer (some ⟨b7, 0, none⟩) from hfree 7 (by decide))
          clear hpre hfree
          have c0 := (hW.cell (p := ⟨b7, 0, none⟩) l7).trans k70
          have c1 := (hW.cell (p := ⟨b7, 1, none⟩) l7).trans k71
          refine stpK rfl rfl fun K hK => ?_
          go_simp
          exact hK _ _ ⟨rfl, hW, Below.refl _ _, fun h => (List.not_mem_nil h).elim⟩
        | 1, ho, hr =>
          obtain rfl := Option.some.inj ho; obtain rfl := Option.some.inj hr
          have e0 := ev_tmp (show fr.eval (.tmp 117) = .agg #[.int .i64 (s7), .slice a7 (n7) (c7)] from hpre 0 (by decide) _ rfl)
          clear hpre hfree
          refine stpK rfl rfl fun K hK => ?_
          go_simp
          refine (CTX wx (hB1.trans (hW.mono hB1.size)) _ (HR.out.i7.below hW)).mono ?_
          rintro e wy ⟨rfl, hb⟩
          exact hK _ _ ⟨rfl, hW.trans (hb.mono hW.size), hb, fun h => (List.not_mem_nil h).elim⟩
        | 2, ho, hr =>
          obtain rfl := Option.some.inj ho; obtain rfl := Option.some.inj hr
          have e1 := ev_tmp (show fr.eval (.tmp 118) = .string (tx) from hpre 1 (by decide) _ rfl)
          clear hpre hfree
          refine stpK rfl rfl fun K hK => ?_
          go_simp
          exact hK _ _ ⟨rfl, hW, Below.refl _ _, fun h => (List.not_mem_nil h).elim⟩
        | 3, ho, hr =>
          obtain rfl := Option.some.inj ho; obtain rfl := Option.some.inj hr
          have e2 := ev_tmp (show fr.eval (.tmp 119) = .int .i64 (((tx.size : Nat) : Int)) from hpre 2 (by decide) _ rfl)
          clear hpre hfree
          refine stpK rfl rfl fun K hK => ?_
          go_simp
          exact hK _ _ ⟨(by have h := HTL.out; simp; omega), hW, Below.refl _ _, fun h => (List.not_mem_nil h).elim⟩
        | 4, ho, hr =>
          obtain rfl := Option.some.inj ho; obtain rfl := Option.some.inj hr
          have e3 := ev_tmp (show fr.eval (.tmp 120) = .bool (false) from hpre 3 (by decide) _ rfl)
          clear hpre hfree
          refine stpK rfl rfl fun K hK => ?_
          go_simp
          exact hK _ _ ⟨rfl, hW, Below.refl _ _, fun h => (List.not_mem_nil h).elim⟩
        | 5, ho, hr =>
          obtain rfl := Option.some.inj ho; obtain rfl := Option.some.inj hr
          have e4 := ev_tmp (show fr.eval (.tmp 121) = .bool (false) from hpre 4 (by decide) _ rfl)
          have t7 := ev_tmp (show fr.eval (.tmp 7) = .pointer (some ⟨b7, 0, none⟩) from hfree 7 (by decide))
          clear hpre hfree
          have c0 := (hW.cell (p := ⟨b7, 0, none⟩) l7).trans k70
          have c1 := (hW.cell (p := ⟨b7, 1, none⟩) l7).trans k71
          refine stpK_g rfl rfl e4 rfl fun K hK => ?_
          go_simp
          exact hK _ _ ⟨rfl, hW, Below.refl _ _, fun h => (List.not_mem_nil h).elim⟩
        | 6, ho, hr =>
          obtain rfl := Option.some.inj ho; obtain rfl := Option.some.inj hr
          have e4 := ev_tmp (show fr.eval (.tmp 121) = .bool (false) from hpre 4 (by decide) _ rfl)
          have t11 := ev_tmp (show fr.eval (.tmp 11) = .pointer (some ⟨b11, 0, none⟩) from hfree 11 (by decide))
          clear hpre hfree
          have c0 := (hW.cell (p := ⟨b11, 0, none⟩) l11).trans k110
          have c1 := (hW.cell (p := ⟨b11, 1, none⟩) l11).trans k111
          refine stpK_g rfl rfl e4 rfl fun K hK => ?_
          go_simp
          exact hK _ _ ⟨rfl, hW, Below.refl _ _, fun h => (List.not_mem_nil h).elim⟩
        | 7, ho, hr =>
          obtain rfl := Option.some.inj ho; obtain rfl := Option.some.inj hr
          have e4 := ev_tmp (show fr.eval (.tmp 121) = .bool (false) from hpre 4 (by decide) _ rfl)
          have e5 := ev_tmp (show fr.eval (.tmp 122) = .agg #[.int .i64 (s7), .slice a7 (n7) (c7)] from hpre 5 (by decide) _ rfl)
          have e6 := ev_tmp (show fr.eval (.tmp 123) = .agg #[.int .i64 (s11), .slice a11 (n11) (c11)] from hpre 6 (by decide) _ rfl)
          clear hpre hfree
          refine stpK_g rfl rfl e4 rfl fun K hK => ?_
          go_simp
          refine (mul_any wx _ _ (x) (z) 53 53 (HR.out.i7.below hW) (HR.out.i11.below hW) HX.out HZ.out (by decide)).mono ?_
          rintro e wy ⟨v4, rfl, hb, hm4⟩
          exact hK _ _ ⟨hm4, hW.trans (hb.mono hW.size), hb, fun h => (List.not_mem_nil h).elim⟩
        | 8, ho, hr =>
          obtain rfl := Option.some.inj ho; obtain rfl := Option.some.inj hr
          have e4 := ev_tmp (show fr.eval (.tmp 121) = .bool (false) from hpre 4 (by decide) _ rfl)
          have t9 := ev_tmp (show fr.eval (.tmp 9) = .pointer (some ⟨b9, 0, none⟩) from hfree 9 (by decide))
          clear hpre hfree
          have c0 := (hW.cell (p := ⟨b9, 0, none⟩) l9).trans k90
          have c1 := (hW.cell (p := ⟨b9, 1, none⟩) l9).trans k91
          refine stpK_g rfl rfl e4 rfl fun K hK => ?_
          go_simp
          exact hK _ _ ⟨rfl, hW, Below.refl _ _, fun h => (List.not_mem_nil h).elim⟩
        | 9, ho, hr =>
          obtain rfl := Option.some.inj ho; obtain rfl := Option.some.inj hr
          have e4 := ev_tmp (show fr.eval (.tmp 121) = .bool (false) from hpre 4 (by decide) _ rfl)
          have t11 := ev_tmp (show fr.eval (.tmp 11) = .pointer (some ⟨b11, 0, none⟩) from hfree 11 (by decide))
          clear hpre hfree
          have c0 := (hW.cell (p := ⟨b11, 0, none⟩) l11).trans k110
          have c1 := (hW.cell (p := ⟨b11, 1, none⟩) l11).trans k111
          refine stpK_g rfl rfl e4 rfl fun K hK => ?_
          go_simp
          exact hK _ _ ⟨rfl, hW, Below.refl _ _, fun h => (List.not_mem_nil h).elim⟩
        | 10, ho, hr =>
          obtain rfl := Option.some.inj ho; obtain rfl := Option.some.inj hr
          have e4 := ev_tmp (show fr.eval (.tmp 121) = .bool (false) from hpre 4 (by decide) _ rfl)
          have e8 := ev_tmp (show fr.eval (.tmp 125) = .agg #[.int .i64 (s9), .slice a9 (n9) (c9)] from hpre 8 (by decide) _ rfl)
          have e9 := ev_tmp (show fr.eval (.tmp 126) = .agg #[.int .i64 (s11), .slice a11 (n11) (c11)] from hpre 9 (by decide) _ rfl)
          clear hpre hfree
          refine stpK_g rfl rfl e4 rfl fun K hK => ?_
          go_simp
          refine (mul_any wx _ _ (y) (z) 53 53 (HR.out.i9.below hW) (HR.out.i11.below hW) HY.out HZ.out (by decide)).mono ?_
          rintro e wy ⟨v4, rfl, hb, hm4⟩
          exact hK _ _ ⟨hm4, hW.trans (hb.mono hW.size), hb, fun h => (List.not_mem_nil h).elim⟩
        | 11, ho, hr =>
          obtain rfl := Option.some.inj ho; obtain rfl := Option.some.inj hr
          have e4 := ev_tmp (show fr.eval (.tmp 121) = .bool (false) from hpre 4 (by decide) _ rfl)
          obtain ⟨u7, q7⟩ : ∃ u, fr.eval (.tmp 124) = u := ⟨_, rfl⟩
          have p7 : IsInt wx u7 (x * z) := by rw [← q7]; exact hpre 7 (by decide) _ rfl
          have e7 := ev_tmp q7; clear q7
          obtain ⟨u10, q10⟩ : ∃ u, fr.eval (.tmp 127) = u := ⟨_, rfl⟩
          have p10 : IsInt wx u10 (y * z) := by rw [← q10]; exact hpre 10 (by decide) _ rfl
          have e10 := ev_tmp q10; clear q10
          clear hpre hfree
          refine stpK_g rfl rfl e4 rfl fun K hK => ?_
          go_simp
          refine (gcd_any wx _ _ (x * z) (y * z) p7 p10 HXZ9.out HYZ9.out (TabB.below HTB.out (hB1.trans (hW.mono hB1.size)))).mono ?_
          rintro e wy ⟨v4, rfl, hb, hm4⟩
          exact hK _ _ ⟨hm4, hW.trans (hb.mono hW.size), hb, fun h => (List.not_mem_nil h).elim⟩
        | 12, ho, hr =>
          obtain rfl := Option.some.inj ho; obtain rfl := Option.some.inj hr
          have e4 := ev_tmp (show fr.eval (.tmp 121) = .bool (false) from hpre 4 (by decide) _ rfl)
          have t7 := ev_tmp (show fr.eval (.tmp 7) = .pointer (some ⟨b7, 0, none⟩) from hfree 7 (by decide))
          clear hpre hfree
          have c0 := (hW.cell (p := ⟨b7, 0, none⟩) l7).trans k70
          have c1 := (hW.cell (p := ⟨b7, 1, none⟩) l7).trans k71
          refine stpK_g rfl rfl e4 rfl fun K hK => ?_
          go_simp
          exact hK _ _ ⟨rfl, hW, Below.refl _ _, fun h => (List.not_mem_nil h).elim⟩
        | 13, ho, hr =>
          obtain rfl := Option.some.inj ho; obtain rfl := Option.some.inj hr
          have e4 := ev_tmp (show fr.eval (.tmp 121) = .bool (false) from hpre 4 (by decide) _ rfl)
          have t9 := ev_tmp (show fr.eval (.tmp 9) = .pointer (some ⟨b9, 0, none⟩) from hfree 9 (by decide))
          clear hpre hfree
          have c0 := (hW.cell (p := ⟨b9, 0, none⟩) l9).trans k90
          have c1 := (hW.cell (p := ⟨b9, 1, none⟩) l9).trans k91
          refine stpK_g rfl rfl e4 rfl fun K hK => ?_
          go_simp
          exact hK _ _ ⟨rfl, hW, Below.refl _ _, fun h => (List.not_mem_nil h).elim⟩
        | 14, ho, hr =>
          obtain rfl := Option.some.inj ho; obtain rfl := Option.some.inj hr
          have e4 := ev_tmp (show fr.eval (.tmp 121) = .bool (false) from hpre 4 (by decide) _ rfl)
          have e12 := ev_tmp (show fr.eval (.tmp 129) = .agg #[.int .i64 (s7), .slice a7 (n7) (c7)] from hpre 12 (by decide) _ rfl)
          have e13 := ev_tmp (show fr.eval (.tmp 130) = .agg #[.int .i64 (s9), .slice a9 (n9) (c9)] from hpre 13 (by decide) _ rfl)
          clear hpre hfree
          refine stpK_g rfl rfl e4 rfl fun K hK => ?_
          go_simp
          refine (gcd_any wx _ _ x y (HR.out.i7.below hW) (HR.out.i9.below hW) HX9.out HY9.out (TabB.below HTB.out (hB1.trans (hW.mono hB1.size)))).mono ?_
          rintro e wy ⟨v4, rfl, hb, hm4⟩
          exact hK _ _ ⟨hm4, hW.trans (hb.mono hW.size), hb, fun h => (List.not_mem_nil h).elim⟩
        | 15, ho, hr =>
          obtain rfl := Option.some.inj ho; obtain rfl := Option.some.inj hr
          have e4 := ev_tmp (show fr.eval (.tmp 121) = .bool (false) from hpre 4 (by decide) _ rfl)
          have t11 := ev_tmp (show fr.eval (.tmp 11) = .pointer (some ⟨b11, 0, none⟩) from hfree 11 (by decide))
          clear hpre hfree
          have c0 := (hW.cell (p := ⟨b11, 0, none⟩) l11).trans k110
          have c1 := (hW.cell (p := ⟨b11, 1, none⟩) l11).trans k111
          refine stpK_g rfl rfl e4 rfl fun K hK => ?_
          go_simp
          exact hK _ _ ⟨rfl, hW, Below.refl _ _, fun h => (List.not_mem_nil h).elim⟩
        | 16, ho, hr =>
          obtain rfl := Option.some.inj ho; obtain rfl := Option.some.inj hr
          have e4 := ev_tmp (show fr.eval (.tmp 121) = .bool (false) from hpre 4 (by decide) _ rfl)
          clear hpre hfree
          refine stpK_g rfl rfl e4 rfl fun K hK => ?_
          go_simp
          refine (of_any wx 0 (by decide) (by decide)).mono ?_
          rintro e wy ⟨v4, rfl, hb, hm4⟩
          exact hK _ _ ⟨hm4, hW.trans (hb.mono hW.size), hb, fun h => (List.not_mem_nil h).elim⟩
        | 17, ho, hr =>
          obtain rfl := Option.some.inj ho; obtain rfl := Option.some.inj hr
          have e4 := ev_tmp (show fr.eval (.tmp 121) = .bool (false) from hpre 4 (by decide) _ rfl)
          have e15 := ev_tmp (show fr.eval (.tmp 132) = .agg #[.int .i64 (s11), .slice a11 (n11) (c11)] from hpre 15 (by decide) _ rfl)
          obtain ⟨u16, q16⟩ : ∃ u, fr.eval (.tmp 133) = u := ⟨_, rfl⟩
          have p16 : IsInt wx u16 ((0 : Int)) := by rw [← q16]; exact hpre 16 (by decide) _ rfl
          have e16 := ev_tmp q16; clear q16
          clear hpre hfree
          refine stpK_g rfl rfl e4 rfl fun K hK => ?_
          go_simp
          refine (gcd_any wx _ _ z 0 (HR.out.i11.below hW) p16 HZ9.out H09.out (TabB.below HTB.out (hB1.trans (hW.mono hB1.size)))).mono ?_
          rintro e wy ⟨v4, rfl, hb, hm4⟩
          exact hK _ _ ⟨hm4, hW.trans (hb.mono hW.size), hb, fun h => (List.not_mem_nil h).elim⟩
        | 18, ho, hr =>
          obtain rfl := Option.some.inj ho; obtain rfl := Option.some.inj hr
          have e4 := ev_tmp (show fr.eval (.tmp 121) = .bool (false) from hpre 4 (by decide) _ rfl)
          obtain ⟨u14, q14⟩ : ∃ u, fr.eval (.tmp 131) = u := ⟨_, rfl⟩
          have p14 : IsInt wx u14 ((Int.gcd x y : Nat)) := by rw [← q14]; exact hpre 14 (by decide) _ rfl
          have e14 := ev_tmp q14; clear q14
          obtain ⟨u17, q17⟩ : ∃ u, fr.eval (.tmp 134) = u := ⟨_, rfl⟩
          have p17 : IsInt wx u17 ((Int.gcd z 0 : Nat)) := by rw [← q17]; exact hpre 17 (by decide) _ rfl
          have e17 := ev_tmp q17; clear q17
          clear hpre hfree
          refine stpK_g rfl rfl e4 rfl fun K hK => ?_
          go_simp
          refine (mul_any wx _ _ ((Int.gcd x y : Nat)) ((Int.gcd z 0 : Nat)) 53 53 p14 p17 HG53.out HGZ.out (by decide)).mono ?_
          rintro e wy ⟨v4, rfl, hb, hm4⟩
          exact hK _ _ ⟨hm4, hW.trans (hb.mono hW.size), hb, fun h => (List.not_mem_nil h).elim⟩
        | 19, ho, hr =>
          obtain rfl := Option.some.inj ho; obtain rfl := Option.some.inj hr
          have e4 := ev_tmp (show fr.eval (.tmp 121) = .bool (false) from hpre 4 (by decide) _ rfl)
          obtain ⟨u11, q11⟩ : ∃ u, fr.eval (.tmp 128) = u := ⟨_, rfl⟩
          have p11 : IsInt wx u11 ((Int.gcd (x * z) (y * z) : Nat)) := by rw [← q11]; exact hpre 11 (by decide) _ rfl
          have e11 := ev_tmp q11; clear q11
          obtain ⟨u18, q18⟩ : ∃ u, fr.eval (.tmp 135) = u := ⟨_, rfl⟩
          have p18 : IsInt wx u18 ((Int.gcd x y : Nat) * (Int.gcd z 0 : Nat)) := by rw [← q18]; exact hpre 18 (by decide) _ rfl
          have e18 := ev_tmp q18; clear q18
          clear hpre hfree
          refine stpK_g rfl rfl e4 rfl fun K hK => ?_
          go_simp
          refine (cmp_same wx _ _ ((Int.gcd (x * z) (y * z) : Nat)) ((Int.gcd x y : Nat) * (Int.gcd z 0 : Nat)) 106 p11 p18 HGXZ.out (by decide) HGE.out).mono ?_
          rintro e wy ⟨rfl, hb⟩
          exact hK _ _ ⟨rfl, hW.trans (hb.mono hW.size), hb, fun h => (List.not_mem_nil h).elim⟩
        | 20, ho, hr =>
          obtain rfl := Option.some.inj ho; obtain rfl := Option.some.inj hr
          have e4 := ev_tmp (show fr.eval (.tmp 121) = .bool (false) from hpre 4 (by decide) _ rfl)
          have e19 := ev_tmp (show fr.eval (.tmp 136) = .int .i64 (0) from hpre 19 (by decide) _ rfl)
          clear hpre hfree
          refine stpK_g rfl rfl e4 rfl fun K hK => ?_
          go_simp
          exact hK _ _ ⟨(by first | rfl | (simp; done)), hW, Below.refl _ _, fun h => (List.not_mem_nil h).elim⟩
        | 21, ho, hr =>
          obtain rfl := Option.some.inj ho; obtain rfl := Option.some.inj hr
          have e4 := ev_tmp (show fr.eval (.tmp 121) = .bool (false) from hpre 4 (by decide) _ rfl)
          have e20 := ev_tmp (show fr.eval (.tmp 137) = .bool (false) from hpre 20 (by decide) _ rfl)
          clear hpre hfree
          refine stpK rfl rfl fun K hK => ?_
          go_simp
          exact hK _ _ ⟨(by first | rfl | (simp; done)), hW, Below.refl _ _, fun h => (List.not_mem_nil h).elim⟩
        | n + 22, ho, hr => exact absurd hr (by simp)
      · intro vs wn hvs hW1 hap0
        clear hap0
        have e0 : vs 0 = .agg #[.int .i64 (s7), .slice a7 (n7) (c7)] := hvs 0 (by decide)
        have e1 : vs 1 = .string (tx) := hvs 1 (by decide)
        have e2 : vs 2 = .int .i64 (((tx.size : Nat) : Int)) := hvs 2 (by decide)
        have e3 : vs 3 = .bool (false) := hvs 3 (by decide)
        have e4 : vs 4 = .bool (false) := hvs 4 (by decide)
        have e5 : vs 5 = .agg #[.int .i64 (s7), .slice a7 (n7) (c7)] := hvs 5 (by decide)
        have e6 : vs 6 = .agg #[.int .i64 (s11), .slice a11 (n11) (c11)] := hvs 6 (by decide)
        obtain ⟨u7, e7⟩ : ∃ u, vs 7 = u := ⟨_, rfl⟩
        have p7 : IsInt wn u7 (x * z) := by rw [← e7]; exact hvs 7 (by decide)
        have e8 : vs 8 = .agg #[.int .i64 (s9), .slice a9 (n9) (c9)] := hvs 8 (by decide)
        have e9 : vs 9 = .agg #[.int .i64 (s11), .slice a11 (n11) (c11)] := hvs 9 (by decide)
        obtain ⟨u10, e10⟩ : ∃ u, vs 10 = u := ⟨_, rfl⟩
        have p10 : IsInt wn u10 (y * z) := by rw [← e10]; exact hvs 10 (by decide)
        obtain ⟨u11, e11⟩ : ∃ u, vs 11 = u := ⟨_, rfl⟩
        have p11 : IsInt wn u11 ((Int.gcd (x * z) (y * z) : Nat)) := by rw [← e11]; exact hvs 11 (by decide)
        have e12 : vs 12 = .agg #[.int .i64 (s7), .slice a7 (n7) (c7)] := hvs 12 (by decide)
        have e13 : vs 13 = .agg #[.int .i64 (s9), .slice a9 (n9) (c9)] := hvs 13 (by decide)
        obtain ⟨u14, e14⟩ : ∃ u, vs 14 = u := ⟨_, rfl⟩
        have p14 : IsInt wn u14 ((Int.gcd x y : Nat)) := by rw [← e14]; exact hvs 14 (by decide)
        have e15 : vs 15 = .agg #[.int .i64 (s11), .slice a11 (n11) (c11)] := hvs 15 (by decide)
        obtain ⟨u16, e16⟩ : ∃ u, vs 16 = u := ⟨_, rfl⟩
        have p16 : IsInt wn u16 ((0 : Int)) := by rw [← e16]; exact hvs 16 (by decide)
        obtain ⟨u17, e17⟩ : ∃ u, vs 17 = u := ⟨_, rfl⟩
        have p17 : IsInt wn u17 ((Int.gcd z 0 : Nat)) := by rw [← e17]; exact hvs 17 (by decide)
        obtain ⟨u18, e18⟩ : ∃ u, vs 18 = u := ⟨_, rfl⟩
        have p18 : IsInt wn u18 ((Int.gcd x y : Nat) * (Int.gcd z 0 : Nat)) := by rw [← e18]; exact hvs 18 (by decide)
        have e19 : vs 19 = .int .i64 (0) := hvs 19 (by decide)
        have e20 : vs 20 = .bool (false) := hvs 20 (by decide)
        have e21 : vs 21 = .bool (false) := hvs 21 (by decide)
        simp only [puts, Nat.reduceAdd, e0, e1, e2, e3, e4, e5, e6, e7, e8, e9, e10, e11, e12, e13, e14, e15, e16, e17, e18, e19, e20, e21, Act.put, List.setIfInBounds_toArray, List.set_cons_zero, List.set_cons_succ, List.drop_succ_cons, List.drop_zero, List.length_cons, List.length_nil]
        clear hvs e0 e1 e2 e3 e4 e5 e6 e7 e8 e9 e10 e11 e12 e13 e14 e15 e16 e17 e18 e19 e20 e21
        clear p7 p10 p11 p14 p16 p17 p18 l7 l9 l11 k70 k71 k90 k91 k110 k111 hB1 HX9 HY9 HZ9 HXZ9 HYZ9 H09 HGZ HG53 HGXZ HGE
        go_upto_region 10 with fail
        have HRn : Hid (NK w wn b7 b9 b11 s7 a7 n7 c7 s9 a9 n9 c9 s11 a11 n11 c11 x y z) := HR.out.step hW1
        clear HR
        have HR : Hid (NK w wn b7 b9 b11 s7 a7 n7 c7 s9 a9 n9 c9 s11 a11 n11 c11 x y z) := HRn.out
        clear HRn
        have hB1 : Below w.heap.size w wn := HR.out.below
        obtain ⟨-, ⟨l7, k70, k71, -, -⟩, ⟨l9, k90, k91, -, -⟩, ⟨l11, k110, k111, -, -⟩, -, -, -⟩ := HR.out
        refine wp_world (fun w1 => w1 = wn) rfl ?_
        rintro w1 rfl
        clear hW1
        have CT1 := CTX w1 hB1 _ HR.out.i7
        clear CTX hB1
        go_wp2_with (go_at_call 14; fail)
        refine CT1.mono ?_
        rintro e w4 ⟨rfl, hb4⟩
        clear CT1 l7 k70 k71 l9 k90 k91 l11 k110 k111
        go_wp2_with (go_at_call 9; fail)
        refine (CPT _).mono ?_
        rintro e w5 ⟨v5, rfl, hb5, hI5⟩
        clear CPT
        obtain ⟨s13, a13, n13, c13, rfl⟩ := hI5.form
        unfold flt
        go_upto_region 11 with fail
        refine wp_world (fun wn => Kp w5 wn ∧ FB wn w5.heap.size (.int .i64 s13) (.slice a13 n13 c13) ∧ FB wn (w5.heap.size + 1) (.int .i64 0) (.int .i64 0)) (fb2 w5 _ _ _ _ _ _ rfl) ?_
        rintro w6 ⟨hk6, F13, F14⟩
        replace hk6 : Below w5.heap.size w5 w6 := hk6
        have R6 := ((HR.out.step hb4).step hb5).step hk6
        have I13 := hI5.below hk6
        have hl5 := hb4.size
        have hl6 := hb5.size
        obtain ⟨l7, k70, k71, -, -⟩ := R6.f7
        have h147 : (b7 < w5.heap.size ∧ b9 < w5.heap.size) ∧ b11 < w5.heap.size := by
          have h1 := HR.out.f7.lt; have h2 := HR.out.f9.lt; have h3 := HR.out.f11.lt
          omega
        obtain ⟨b14, hb14⟩ : ∃ b, b = w5.heap.size + 1 := ⟨_, rfl⟩
        obtain ⟨b13, hb13⟩ : ∃ b, b = w5.heap.size := ⟨_, rfl⟩
        rw [← hb14] at F14 ⊢
        rw [← hb13] at F13 ⊢
        have HNE : Hid (b7 ≠ b14 ∧ b9 ≠ b14 ∧ b11 ≠ b14 ∧ w.heap.size ≤ b14) := by
          have := HR.out.below.size
          show _ ∧ _ ∧ _ ∧ _
          omega
        have C11 := cmp_same w6 _ _ x x 53 I13 R6.i7 HX.out (by decide) rfl
        obtain ⟨l13, k130, k131, -, -⟩ := F13
        obtain ⟨l14, k140, k141, -, -⟩ := id F14
        have HR6 : Hid (NK w w6 b7 b9 b11 s7 a7 n7 c7 s9 a9 n9 c9 s11 a11 n11 c11 x y z) := R6
        have HF14 : Hid (FB w6 b14 (.int .i64 0) (.int .i64 0)) := F14
        clear hk6 R6 I13 hI5 hb4 hb5 hl5 hl6 h147 hb14 hb13 F14 HR
        clear w4 w1
        go_wp2_with (go_at_call 28; fail)
        refine C11.mono ?_
        rintro e w7 ⟨rfl, hb7⟩
        have HR7 : Hid (NK w w7 b7 b9 b11 s7 a7 n7 c7 s9 a9 n9 c9 s11 a11 n11 c11 x y z) := HR6.out.step hb7
        have HF7 : Hid (FB w7 b14 (.int .i64 0) (.int .i64 0)) := HF14.out.below hb7
        clear C11 hb7 HR6 HF14 l7 k70 k71 l13 k130 k131 l14 k140 k141
        go_upto_region 13 with fail
        have R := HR7.out
        obtain ⟨l7, k70, k71, -, -⟩ := id R.f7
        obtain ⟨l9, k90, k91, -, -⟩ := id R.f9
        by_cases hy0 : y = 0
        · subst hy0
          have CD := div_zero w7 _ _ x R.i7 R.i9
          clear R
          go_wp2_with (go_at_call 34; fail)
          refine CD.mono ?_
          rintro e w8 ⟨rfl, hb8⟩
          have F8 := HF7.out.below hb8
          have R8 := HR7.out.step hb8
          obtain ⟨l14, k140, k141, p140, p141⟩ := id F8
          have LS := law_store R8 F8 HNE.out (isInt_small w8 0 (by decide) (by decide)) (isInt_small w8 0 (by decide) (by decide)) 4 rfl
          clear CD l7 k70 k71 l9 k90 k91 F8 R8 hb8
          go_upto_region 14 with fail
          refine wp_world (fun W => NK w W b7 b9 b11 s7 a7 n7 c7 s9 a9 n9 c9 s11 a11 n11 c11 x 0 z ∧ FB W b14 (.int .i64 4) (.int .i64 0)) ⟨LS.1, LS.2.1⟩ ?_
          clear LS l14 k140 k141 p140 p141
          rintro w9 ⟨R9, F9⟩
          obtain ⟨l9, k90, k91, -, -⟩ := id R9.f9
          have CS := sign_any w9 _ 0 R9.i9
          have HR9 : Hid (NK w w9 b7 b9 b11 s7 a7 n7 c7 s9 a9 n9 c9 s11 a11 n11 c11 x 0 z) := R9
          have HF9 : Hid (FB w9 b14 (.int .i64 4) (.int .i64 0)) := F9
          clear R9 F9
          rw [show cmpI 0 0 = 0 from rfl] at CS
          go_wp2_with (go_at_call 18; fail)
          refine CS.mono ?_
          rintro e w10 ⟨rfl, hb10⟩
          obtain ⟨l14, k140, k141, -, -⟩ := HF9.out.below hb10
          have HBF : Hid (Below w.heap.size w w10) := (HR9.out.step hb10).below
          clear CS hb10 HR9 HF9 l9 k90 k91
          go_wp2
          go_ret
          exact ⟨rfl, HBF.out⟩
        · have CD := div_any w7 _ _ x y 53 R.i7 R.i9 hy0 HBD.out.x9 HY.out (by decide)
          clear R
          go_wp2_with (go_at_call 34; fail)
          refine CD.mono ?_
          rintro e w8 ⟨vq, vr, rfl, hb8, hq, hr⟩
          obtain ⟨s15, a15, n15, c15, rfl⟩ := hq.form
          obtain ⟨s16, a16, n16, c16, rfl⟩ := hr.form
          have F8 := HF7.out.below hb8
          have R8 := HR7.out.step hb8
          obtain ⟨l14, k140, k141, p140, p141⟩ := id F8
          have LS := law_store R8 F8 HNE.out hq hr 0 rfl
          clear CD l7 k70 k71 l9 k90 k91 F8 R8 hb8 hq hr
          go_upto_region 14 with fail
          refine wp_world (fun W => NK w W b7 b9 b11 s7 a7 n7 c7 s9 a9 n9 c9 s11 a11 n11 c11 x y z ∧ FB W b14 (.int .i64 0) (.int .i64 0) ∧ FB W w8.heap.size (.int .i64 s15) (.slice a15 n15 c15) ∧ FB W (w8.heap.size + 1) (.int .i64 s16) (.slice a16 n16 c16) ∧
            IsInt W (.agg #[.int .i64 s15, .slice a15 n15 c15]) (x / y) ∧ IsInt W (.agg #[.int .i64 s16, .slice a16 n16 c16]) (x % y)) LS ?_
          clear LS l14 k140 k141 p140 p141
          rintro w9 ⟨R9, F14, F15, F16, I15, I16⟩
          obtain ⟨b16, hb16⟩ : ∃ b, b = w8.heap.size + 1 := ⟨_, rfl⟩
          obtain ⟨b15, hb15⟩ : ∃ b, b = w8.heap.size := ⟨_, rfl⟩
          rw [← hb16] at F16 ⊢
          rw [← hb15] at F15 ⊢
          clear hb15 hb16
          obtain ⟨σ, hσ⟩ : ∃ σ, cmpI y 0 = σ := ⟨_, rfl⟩
          have hσ0 : (¬ σ = 0) ∧ (σ < 0 ↔ y < 0) := by
            rw [← hσ]; unfold cmpI
            rcases Int.lt_trichotomy y 0 with h | h | h
            · rw [if_pos h]; omega
            · exact absurd h hy0
            · rw [if_neg (by omega), if_neg (by omega)]; omega
          obtain ⟨hσ1, hσ2⟩ := hσ0
          have hσ3 : (σ == 0) = false := by simpa using hσ1
          have HSG : Hid (σ < 0 ↔ y < 0) := hσ2
          have CS : ∀ wx, IsInt wx (.agg #[.int .i64 s9, .slice a9 n9 c9]) y → Calls Tryz.prog 18 #[.agg #[.int .i64 s9, .slice a9 n9 c9]] wx fun e w' => e = .returned (.int .i64 σ) ∧ Below wx.heap.size wx w' := fun wx h => by
            have := sign_any wx _ y h
            rw [hσ] at this
            exact this
          have CS9 := CS w9 R9.i9
          obtain ⟨l9, k90, k91, -, -⟩ := id R9.f9
          have HR9 : Hid (NK w w9 b7 b9 b11 s7 a7 n7 c7 s9 a9 n9 c9 s11 a11 n11 c11 x y z) := R9
          have HF14 : Hid (FB w9 b14 (.int .i64 0) (.int .i64 0)) := F14
          have HF15 : Hid (FB w9 b15 (.int .i64 s15) (.slice a15 n15 c15)) := F15
          have HF16 : Hid (FB w9 b16 (.int .i64 s16) (.slice a16 n16 c16)) := F16
          have HI15 : Hid (IsInt w9 (.agg #[.int .i64 s15, .slice a15 n15 c15]) (x / y)) := I15
          have HI16 : Hid (IsInt w9 (.agg #[.int .i64 s16, .slice a16 n16 c16]) (x % y)) := I16
          have HY0 : Hid (y ≠ 0) := hy0
          clear R9 F14 F15 F16 I15 I16 hσ hσ2 hy0
          go_wp2_with (go_at_call 18; fail)
          refine CS9.mono ?_
          rintro e w10 ⟨rfl, hb10⟩
          obtain ⟨l9, k90, k91, -, -⟩ := (HR9.out.step hb10).f9
          clear CS9
          go_upto_region 17 with fail
          refine wp_world (fun W => Kp w10 W ∧ FB W w10.heap.size (.int .i64 s9) (.slice a9 n9 c9)) (fb1 w10 _ _ _) ?_
          rintro w11 ⟨hk11, F17⟩
          replace hk11 : Below w10.heap.size w10 w11 := hk11
          have hb11 := hb10.trans (hk11.mono hb10.size)
          have R11 := HR9.out.step hb11
          have G14 := FB.below HF14.out hb11
          have G15 := FB.below HF15.out hb11
          have G16 := FB.below HF16.out hb11
          have J15 := IsInt.below HI15.out hb11
          have J16 := IsInt.below HI16.out hb11
          obtain ⟨b17, hb17⟩ : ∃ b, b = w10.heap.size := ⟨_, rfl⟩
          have HN : Hid ((b7 ≠ b17 ∧ b9 ≠ b17 ∧ b11 ≠ b17) ∧ b14 ≠ b17 ∧ b15 ≠ b17 ∧ b16 ≠ b17 ∧ w.heap.size ≤ b17) := by
            have h1 := HR9.out.f7.lt; have h2 := HR9.out.f9.lt; have h3 := HR9.out.f11.lt
            have h4 := HF14.out.lt; have h5 := HF15.out.lt; have h6 := HF16.out.lt
            have h7 := hb10.size; have h8 := HR9.out.below.size
            show (_ ∧ _ ∧ _) ∧ _ ∧ _ ∧ _ ∧ _
            omega
          rw [← hb17] at F17 ⊢
          clear l9 k90 k91 HF14 HF15 HF16 HI15 HI16 HR9 hb17 hk11 hb10 hb11
          have CS11 := CS w11 R11.i9
          have HR11 : Hid (NK w w11 b7 b9 b11 s7 a7 n7 c7 s9 a9 n9 c9 s11 a11 n11 c11 x y z) := R11
          have HF14 : Hid (FB w11 b14 (.int .i64 0) (.int .i64 0)) := G14
          have HF15 : Hid (FB w11 b15 (.int .i64 s15) (.slice a15 n15 c15)) := G15
          have HF16 : Hid (FB w11 b16 (.int .i64 s16) (.slice a16 n16 c16)) := G16
          have HF17 : Hid (FB w11 b17 (.int .i64 s9) (.slice a9 n9 c9)) := F17
          have HI15 : Hid (IsInt w11 (.agg #[.int .i64 s15, .slice a15 n15 c15]) (x / y)) := J15
          have HI16 : Hid (IsInt w11 (.agg #[.int .i64 s16, .slice a16 n16 c16]) (x % y)) := J16
          obtain ⟨l9, k90, k91, -, -⟩ := id R11.f9
          have HQB : Hid ((x / y).natAbs < B ^ 53) := Nat.lt_of_le_of_lt (Int.natAbs_ediv_le_natAbs x y) HX.out
          have hrl := Int.emod_nonneg x HY0.out
          have hru : x % y < y.natAbs := by
            rcases Int.lt_or_lt_of_ne HY0.out with h | h
            · have := Int.emod_lt_of_neg x h; omega
            · have := Int.emod_lt_of_pos x h; omega
          have HRB : Hid ((x % y).natAbs < B ^ 106) := _root_.Rad.bd_mono two_le_B (show (x % y).natAbs < B ^ 53 by have := HY.out; omega) (by decide)
          have HQY : Hid ((x / y * y).natAbs < B ^ 106) := _root_.Rad.bd_mul HQB.out HY.out
          have HQYR : Hid ((x / y * y + x % y).natAbs < B ^ 107) := (_root_.Rad.bd_add two_le_B HQY.out HRB.out).1
          obtain ⟨g2, hg2⟩ : ∃ g, cmpI (x % y) 0 = g := ⟨_, rfl⟩
          have HG2 : Hid (0 ≤ g2) := by
            show 0 ≤ g2
            rw [← hg2]; unfold cmpI; rw [if_neg (by omega)]; split <;> omega
          have CSR : ∀ wx {v : Value}, IsInt wx v (x % y) → Calls Tryz.prog 18 #[v] wx fun e w' => e = .returned (.int .i64 g2) ∧ Below wx.heap.size wx w' := fun wx v h => by
            have := sign_any wx v _ h
            rw [hg2] at this
            exact this
          have CRZ : ∀ wx {v v' : Value}, IsInt wx v (x % y) → IsInt wx v' ((y.natAbs : Nat) : Int) → Calls Tryz.prog 28 #[v, v'] wx fun e w' => e = .returned (.int .i64 (-1)) ∧ Below wx.heap.size wx w' := fun wx v v' h h' => by
            have := cmp_any wx v v' _ _ 106 h h' HRB.out (_root_.Rad.bd_mono two_le_B (by rw [Int.natAbs_natCast]; exact HY.out) (show 53 ≤ 106 by decide)) (by decide)
            rw [show cmpI (x % y) ((y.natAbs : Nat) : Int) = -1 from if_pos hru] at this
            exact this
          clear R11 G14 G15 G16 F17 J15 J16 CS hrl hru hg2
          go_wp2_with (go_at_call 18; fail)
          refine CS11.mono ?_
          rintro e w12 ⟨rfl, hb12⟩
          have R12 := HR11.out.step hb12
          have G14 := FB.below HF14.out hb12
          have G15 := FB.below HF15.out hb12
          have G16 := FB.below HF16.out hb12
          have G17 := FB.below HF17.out hb12
          have J15 := IsInt.below HI15.out hb12
          have J16 := IsInt.below HI16.out hb12
          clear CS11 HR11 HF14 HF15 HF16 HF17 HI15 HI16 l9 k90 k91 hb12
          by_cases hneg : y < 0
          · have hs0 : σ < 0 := HSG.out.2 hneg
            have CN := neg_any w12 _ y R12.i9
            obtain ⟨l9, k90, k91, -, -⟩ := id R12.f9
            have HR12 : Hid (NK w w12 b7 b9 b11 s7 a7 n7 c7 s9 a9 n9 c9 s11 a11 n11 c11 x y z) := R12
            have HF14 : Hid (FB w12 b14 (.int .i64 0) (.int .i64 0)) := G14
            have HF15 : Hid (FB w12 b15 (.int .i64 s15) (.slice a15 n15 c15)) := G15
            have HF16 : Hid (FB w12 b16 (.int .i64 s16) (.slice a16 n16 c16)) := G16
            have HF17 : Hid (FB w12 b17 (.int .i64 s9) (.slice a9 n9 c9)) := G17
            have HI15 : Hid (IsInt w12 (.agg #[.int .i64 s15, .slice a15 n15 c15]) (x / y)) := J15
            have HI16 : Hid (IsInt w12 (.agg #[.int .i64 s16, .slice a16 n16 c16]) (x % y)) := J16
            have HYN : Hid (-y = ((y.natAbs : Nat) : Int)) := by show _ = _; omega
            clear R12 G14 G15 G16 G17 J15 J16 hneg
            go_wp2_with (go_at_call 20; fail)
            refine CN.mono ?_
            rintro e w13 ⟨v13, rfl, hb13, hI13⟩
            rw [HYN.out] at hI13
            obtain ⟨s17, a17, n17, c17, rfl⟩ := hI13.form
            have R13 := HR12.out.step hb13
            have G14 := FB.below HF14.out hb13
            have G15 := FB.below HF15.out hb13
            have G16 := FB.below HF16.out hb13
            have G17 := FB.below HF17.out hb13
            have J15 := IsInt.below HI15.out hb13
            have J16 := IsInt.below HI16.out hb13
            obtain ⟨⟨m1, m2, m3⟩, m4, m5, m6, m7⟩ := HN.out
            have K := G17.keep (.int .i64 s17) (.slice a17 n17 c17)
            have RZ : NK w ((w13.setCell ⟨b17, 0, none⟩ (.int .i64 s17)).setCell ⟨b17, 1, none⟩ (.slice a17 n17 c17)) b7 b9 b11 s7 a7 n7 c7 s9 a9 n9 c9 s11 a11 n11 c11 x y z :=
              ⟨below_set2 R13.below m7 _ _, R13.f7.other _ _ m1, R13.f9.other _ _ m2, R13.f11.other _ _ m3, R13.i7.keep K, R13.i9.keep K, R13.i11.keep K⟩
            have LZ := And.intro RZ (And.intro (G14.other (.int .i64 s17) (.slice a17 n17 c17) m4) (And.intro (G15.other (.int .i64 s17) (.slice a17 n17 c17) m5) (And.intro (G16.other (.int .i64 s17) (.slice a17 n17 c17) m6) (And.intro (G17.set (.int .i64 s17) (.slice a17 n17 c17)) (And.intro (J15.keep K) (And.intro (J16.keep K) (hI13.keep K)))))))
            obtain ⟨l17, k170, k171, p170, p171⟩ := id G17
            clear CN HR12 HF14 HF15 HF16 HF17 HI15 HI16 l9 k90 k91 hb13 R13 G14 G15 G16 G17 J15 J16 m1 m2 m3 m4 m5 m6 m7 K RZ hI13
            go_upto_region 19 with fail
            refine wp_world (fun W => NK w W b7 b9 b11 s7 a7 n7 c7 s9 a9 n9 c9 s11 a11 n11 c11 x y z ∧ FB W b14 (.int .i64 0) (.int .i64 0) ∧ FB W b15 (.int .i64 s15) (.slice a15 n15 c15) ∧ FB W b16 (.int .i64 s16) (.slice a16 n16 c16) ∧ FB W b17 (.int .i64 s17) (.slice a17 n17 c17) ∧
              IsInt W (.agg #[.int .i64 s15, .slice a15 n15 c15]) (x / y) ∧ IsInt W (.agg #[.int .i64 s16, .slice a16 n16 c16]) (x % y) ∧ IsInt W (.agg #[.int .i64 s17, .slice a17 n17 c17]) ((y.natAbs : Nat) : Int)) LZ ?_
            clear LZ l17 k170 k171 p170 p171
            rintro w1 ⟨RZ, F14, F15, F16, F17, I15, I16, I17⟩
            have HR : Hid (NK w w1 b7 b9 b11 s7 a7 n7 c7 s9 a9 n9 c9 s11 a11 n11 c11 x y z) := RZ
            have HI15 : Hid (IsInt w1 (.agg #[.int .i64 s15, .slice a15 n15 c15]) (x / y)) := I15
            have HI16 : Hid (IsInt w1 (.agg #[.int .i64 s16, .slice a16 n16 c16]) (x % y)) := I16
            have HI17 : Hid (IsInt w1 (.agg #[.int .i64 s17, .slice a17 n17 c17]) ((y.natAbs : Nat) : Int)) := I17
            have hB1 : Below w.heap.size w w1 := RZ.below
            obtain ⟨-, ⟨l7, k70, k71, -, -⟩, ⟨l9, k90, k91, -, -⟩, ⟨l11, k110, k111, -, -⟩, -, -, -⟩ := RZ
            obtain ⟨l14, k140, k141, -, -⟩ := F14
            obtain ⟨l15, k150, k151, -, -⟩ := F15
            obtain ⟨l16, k160, k161, -, -⟩ := F16
            obtain ⟨l17, k170, k171, -, -⟩ := F17
            clear I15 I16 I17
            refine wp_drawn mixed [⟨173, [], [], [14]⟩, ⟨174, [0], [0], []⟩, ⟨175, [1], [0, 1], []⟩, ⟨176, [2], [0, 1, 2], []⟩, ⟨177, [3], [0, 1, 2, 3], [15]⟩, ⟨178, [3], [0, 1, 2, 3], [9]⟩, ⟨179, [3, 4, 5], [0, 1, 2, 3, 4, 5], []⟩, ⟨180, [3], [0, 1, 2, 3], [16]⟩, ⟨181, [3, 6, 7], [0, 1, 2, 3, 4, 5, 6, 7], []⟩, ⟨182, [3], [0, 1, 2, 3], [7]⟩, ⟨183, [3, 8, 9], [0, 1, 2, 3, 4, 5, 6, 7, 8, 9], []⟩, ⟨184, [3, 10], [0, 1, 2, 3, 4, 5, 6, 7, 8, 9, 10], []⟩, ⟨185, [3, 11], [0, 1, 2, 3, 4, 5, 6, 7, 8, 9, 10, 11], []⟩, ⟨186, [10, 12], [0, 1, 2, 3, 4, 5, 6, 7, 8, 9, 10, 11, 12], []⟩, ⟨187, [13], [0, 1, 2, 3, 4, 5, 6, 7, 8, 9, 10, 11, 12, 13], [16]⟩, ⟨188, [13, 14], [0, 1, 2, 3, 4, 5, 6, 7, 8, 9, 10, 11, 12, 13, 14], []⟩, ⟨189, [13, 15], [0, 1, 2, 3, 4, 5, 6, 7, 8, 9, 10, 11, 12, 13, 14, 15], []⟩, ⟨190, [13, 16], [0, 1, 2, 3, 4, 5, 6, 7, 8, 9, 10, 11, 12, 13, 14, 15, 16], []⟩, ⟨191, [15, 17], [0, 1, 2, 3, 4, 5, 6, 7, 8, 9, 10, 11, 12, 13, 14, 15, 16, 17], []⟩, ⟨192, [18], [0, 1, 2, 3, 4, 5, 6, 7, 8, 9, 10, 11, 12, 13, 14, 15, 16, 17, 18], [16]⟩, ⟨193, [18], [0, 1, 2, 3, 4, 5, 6, 7, 8, 9, 10, 11, 12, 13, 14, 15, 16, 17, 18], [17]⟩, ⟨194, [18, 19, 20], [0, 1, 2, 3, 4, 5, 6, 7, 8, 9, 10, 11, 12, 13, 14, 15, 16, 17, 18, 19, 20], []⟩, ⟨195, [18, 21], [0, 1, 2, 3, 4, 5, 6, 7, 8, 9, 10, 11, 12, 13, 14, 15, 16, 17, 18, 19, 20, 21], []⟩, ⟨196, [18, 22], [0, 1, 2, 3, 4, 5, 6, 7, 8, 9, 10, 11, 12, 13, 14, 15, 16, 17, 18, 19, 20, 21, 22], []⟩, ⟨6, [0, 1, 2, 3, 4, 5, 6, 7, 8, 9, 10, 11, 12, 13, 14, 15, 16, 17, 18, 19, 20, 21, 22, 23], [0, 1, 2, 3, 4, 5, 6, 7, 8, 9, 10, 11, 12, 13, 14, 15, 16, 17, 18, 19, 20, 21, 22, 23], []⟩] [] (by kernel_rfl) 197 rfl (by kernel_rfl) (fun (i : Nat) (v : Value) (wq : World) => match i with | 0 => v = .pointer (some ⟨b14, 0, none⟩) | 1 => v = .int .i64 (0) | 2 => v = .bool (true) | 3 => v = .bool (true) | 4 => v = .agg #[.int .i64 (s15), .slice a15 (n15) (c15)] | 5 => v = .agg #[.int .i64 (s9), .slice a9 (n9) (c9)] | 6 => IsInt wq v (x / y * y) | 7 => v = .agg #[.int .i64 (s16), .slice a16 (n16) (c16)] | 8 => IsInt wq v (x / y * y + x % y) | 9 => v = .agg #[.int .i64 (s7), .slice a7 (n7) (c7)] | 10 => v = .int .i64 (0) | 11 => v = .bool (true) | 12 => v = .bool (true) | 13 => v = .bool (true) | 14 => v = .agg #[.int .i64 (s16), .slice a16 (n16) (c16)] | 15 => v = .int .i64 (g2) | 16 => v = .bool (true) | 17 => v = .bool (true) | 18 => v = .bool (true) | 19 => v = .agg #[.int .i64 (s16), .slice a16 (n16) (c16)] | 20 => v = .agg #[.int .i64 (s17), .slice a17 (n17) (c17)] | 21 => v = .int .i64 (-1) | 22 => v = .bool (true) | 23 => v = .bool (true) | 24 => v = .bool (true) | _ => True) (fun _ wq => Below w1.heap.size w1 wq) (fun wx wy => Below wx.heap.size wx wy) (Below.refl _ _).drew (fun i v wx wy h hx => match i, h with | 0, h => h | 1, h => h | 2, h => h | 3, h => h | 4, h => h | 5, h => h | 7, h => h | 9, h => h | 10, h => h | 11, h => h | 12, h => h | 13, h => h | 14, h => h | 15, h => h | 16, h => h | 17, h => h | 18, h => h | 19, h => h | 20, h => h | 21, h => h | 22, h => h | 23, h => h | 24, h => h | 6, h => (h : IsInt wx v (x / y * y)).below hx | 8, h => (h : IsInt wx v (x / y * y + x % y)).below hx | n + 25, _ => trivial) ?_ ?_
            · intro i o r ho hr L fr wx hW hL hpr hds hdef hpre hfree
              clear hL hpr hds hdef
              match i, ho, hr with
              | 0, ho, hr =>
                obtain rfl := Option.some.inj ho; obtain rfl := Option.some.inj hr
                have t14 := ev_tmp (show fr.eval (.tmp 14) = .pointer (some ⟨b14, 0, none⟩) from hfree 14 (by decide))
                clear hpre hfree
                refine stpK rfl rfl fun K hK => ?_
                go_simp
                exact hK _ _ ⟨rfl, hW, Below.refl _ _, fun h => (List.not_mem_nil h).elim⟩
              | 1, ho, hr =>
                obtain rfl := Option.some.inj ho; obtain rfl := Option.some.inj hr
                have e0 := ev_tmp (show fr.eval (.tmp 173) = .pointer (some ⟨b14, 0, none⟩) from hpre 0 (by decide) _ rfl)
                clear hpre hfree
                have c0 := (hW.cell (p := ⟨b14, 0, none⟩) l14).trans k140
                refine stpK rfl rfl fun K hK => ?_
                go_simp
                exact hK _ _ ⟨rfl, hW, Below.refl _ _, fun h => (List.not_mem_nil h).elim⟩
              | 2, ho, hr =>
                obtain rfl := Option.some.inj ho; obtain rfl := Option.some.inj hr
                have e1 := ev_tmp (show fr.eval (.tmp 174) = .int .i64 (0) from hpre 1 (by decide) _ rfl)
                clear hpre hfree
                refine stpK rfl rfl fun K hK => ?_
                go_simp
                exact hK _ _ ⟨(by first | rfl | (simp; done)), hW, Below.refl _ _, fun h => (List.not_mem_nil h).elim⟩
              | 3, ho, hr =>
                obtain rfl := Option.some.inj ho; obtain rfl := Option.some.inj hr
                have e2 := ev_tmp (show fr.eval (.tmp 175) = .bool (true) from hpre 2 (by decide) _ rfl)
                clear hpre hfree
                refine stpK rfl rfl fun K hK => ?_
                go_simp
                exact hK _ _ ⟨rfl, hW, Below.refl _ _, fun h => (List.not_mem_nil h).elim⟩
              | 4, ho, hr =>
                obtain rfl := Option.some.inj ho; obtain rfl := Option.some.inj hr
                have e3 := ev_tmp (show fr.eval (.tmp 176) = .bool (true) from hpre 3 (by decide) _ rfl)
                have t15 := ev_tmp (show fr.eval (.tmp 15) = .pointer (some ⟨b15, 0, none⟩) from hfree 15 (by decide))
                clear hpre hfree
                have c0 := (hW.cell (p := ⟨b15, 0, none⟩) l15).trans k150
                have c1 := (hW.cell (p := ⟨b15, 1, none⟩) l15).trans k151
                refine stpK_g rfl rfl e3 rfl fun K hK => ?_
                go_simp
                exact hK _ _ ⟨rfl, hW, Below.refl _ _, fun h => (List.not_mem_nil h).elim⟩
              | 5, ho, hr =>
                obtain rfl := Option.some.inj ho; obtain rfl := Option.some.inj hr
                have e3 := ev_tmp (show fr.eval (.tmp 176) = .bool (true) from hpre 3 (by decide) _ rfl)
                have t9 := ev_tmp (show fr.eval (.tmp 9) = .pointer (some ⟨b9, 0, none⟩) from hfree 9 (by decide))
                clear hpre hfree
                have c0 := (hW.cell (p := ⟨b9, 0, none⟩) l9).trans k90
                have c1 := (hW.cell (p := ⟨b9, 1, none⟩) l9).trans k91
                refine stpK_g rfl rfl e3 rfl fun K hK => ?_
                go_simp
                exact hK _ _ ⟨rfl, hW, Below.refl _ _, fun h => (List.not_mem_nil h).elim⟩
              | 6, ho, hr =>
                obtain rfl := Option.some.inj ho; obtain rfl := Option.some.inj hr
                have e3 := ev_tmp (show fr.eval (.tmp 176) = .bool (true) from hpre 3 (by decide) _ rfl)
                have e4 := ev_tmp (show fr.eval (.tmp 177) = .agg #[.int .i64 (s15), .slice a15 (n15) (c15)] from hpre 4 (by decide) _ rfl)
                have e5 := ev_tmp (show fr.eval (.tmp 178) = .agg #[.int .i64 (s9), .slice a9 (n9) (c9)] from hpre 5 (by decide) _ rfl)
                clear hpre hfree
                refine stpK_g rfl rfl e3 rfl fun K hK => ?_
                go_simp
                refine (mul_any wx _ _ (x / y) (y) 53 53 (IsInt.below HI15.out hW) (HR.out.i9.below hW) HQB.out HY.out (by decide)).mono ?_
                rintro e wy ⟨v4, rfl, hb, hm4⟩
                exact hK _ _ ⟨hm4, hW.trans (hb.mono hW.size), hb, fun h => (List.not_mem_nil h).elim⟩
              | 7, ho, hr =>
                obtain rfl := Option.some.inj ho; obtain rfl := Option.some.inj hr
                have e3 := ev_tmp (show fr.eval (.tmp 176) = .bool (true) from hpre 3 (by decide) _ rfl)
                have t16 := ev_tmp (show fr.eval (.tmp 16) = .pointer (some ⟨b16, 0, none⟩) from hfree 16 (by decide))
                clear hpre hfree
                have c0 := (hW.cell (p := ⟨b16, 0, none⟩) l16).trans k160
                have c1 := (hW.cell (p := ⟨b16, 1, none⟩) l16).trans k161
                refine stpK_g rfl rfl e3 rfl fun K hK => ?_
                go_simp
                exact hK _ _ ⟨rfl, hW, Below.refl _ _, fun h => (List.not_mem_nil h).elim⟩
              | 8, ho, hr =>
                obtain rfl := Option.some.inj ho; obtain rfl := Option.some.inj hr
                have e3 := ev_tmp (show fr.eval (.tmp 176) = .bool (true) from hpre 3 (by decide) _ rfl)
                obtain ⟨u6, q6⟩ : ∃ u, fr.eval (.tmp 179) = u := ⟨_, rfl⟩
                have p6 : IsInt wx u6 (x / y * y) := by rw [← q6]; exact hpre 6 (by decide) _ rfl
                have e6 := ev_tmp q6; clear q6
                have e7 := ev_tmp (show fr.eval (.tmp 180) = .agg #[.int .i64 (s16), .slice a16 (n16) (c16)] from hpre 7 (by decide) _ rfl)
                clear hpre hfree
                refine stpK_g rfl rfl e3 rfl fun K hK => ?_
                go_simp
                refine (add_any wx _ _ (x / y * y) (x % y) 106 p6 (IsInt.below HI16.out hW) HQY.out HRB.out (by decide)).mono ?_
                rintro e wy ⟨v4, rfl, hb, hm4⟩
                exact hK _ _ ⟨hm4, hW.trans (hb.mono hW.size), hb, fun h => (List.not_mem_nil h).elim⟩
              | 9, ho, hr =>
                obtain rfl := Option.some.inj ho; obtain rfl := Option.some.inj hr
                have e3 := ev_tmp (show fr.eval (.tmp 176) = .bool (true) from hpre 3 (by decide) _ rfl)
                have t7 := ev_tmp (show fr.eval (.tmp 7) = .pointer (some ⟨b7, 0, none⟩) from hfree 7 (by decide))
                clear hpre hfree
                have c0 := (hW.cell (p := ⟨b7, 0, none⟩) l7).trans k70
                have c1 := (hW.cell (p := ⟨b7, 1, none⟩) l7).trans k71
                refine stpK_g rfl rfl e3 rfl fun K hK => ?_
                go_simp
                exact hK _ _ ⟨rfl, hW, Below.refl _ _, fun h => (List.not_mem_nil h).elim⟩
              | 10, ho, hr =>
                obtain rfl := Option.some.inj ho; obtain rfl := Option.some.inj hr
                have e3 := ev_tmp (show fr.eval (.tmp 176) = .bool (true) from hpre 3 (by decide) _ rfl)
                obtain ⟨u8, q8⟩ : ∃ u, fr.eval (.tmp 181) = u := ⟨_, rfl⟩
                have p8 : IsInt wx u8 (x / y * y + x % y) := by rw [← q8]; exact hpre 8 (by decide) _ rfl
                have e8 := ev_tmp q8; clear q8
                have e9 := ev_tmp (show fr.eval (.tmp 182) = .agg #[.int .i64 (s7), .slice a7 (n7) (c7)] from hpre 9 (by decide) _ rfl)
                clear hpre hfree
                refine stpK_g rfl rfl e3 rfl fun K hK => ?_
                go_simp
                refine (cmp_same wx _ _ (x / y * y + x % y) (x) 107 p8 (HR.out.i7.below hW) HQYR.out (by decide) (by rw [Int.mul_comm]; exact Int.mul_ediv_add_emod _ _)).mono ?_
                rintro e wy ⟨rfl, hb⟩
                exact hK _ _ ⟨rfl, hW.trans (hb.mono hW.size), hb, fun h => (List.not_mem_nil h).elim⟩
              | 11, ho, hr =>
                obtain rfl := Option.some.inj ho; obtain rfl := Option.some.inj hr
                have e3 := ev_tmp (show fr.eval (.tmp 176) = .bool (true) from hpre 3 (by decide) _ rfl)
                have e10 := ev_tmp (show fr.eval (.tmp 183) = .int .i64 (0) from hpre 10 (by decide) _ rfl)
                clear hpre hfree
                refine stpK_g rfl rfl e3 rfl fun K hK => ?_
                go_simp
                exact hK _ _ ⟨(by first | rfl | (simp; done)), hW, Below.refl _ _, fun h => (List.not_mem_nil h).elim⟩
              | 12, ho, hr =>
                obtain rfl := Option.some.inj ho; obtain rfl := Option.some.inj hr
                have e3 := ev_tmp (show fr.eval (.tmp 176) = .bool (true) from hpre 3 (by decide) _ rfl)
                have e11 := ev_tmp (show fr.eval (.tmp 184) = .bool (true) from hpre 11 (by decide) _ rfl)
                clear hpre hfree
                refine stpK rfl rfl fun K hK => ?_
                go_simp
                exact hK _ _ ⟨(by first | rfl | (simp; done)), hW, Below.refl _ _, fun h => (List.not_mem_nil h).elim⟩
              | 13, ho, hr =>
                obtain rfl := Option.some.inj ho; obtain rfl := Option.some.inj hr
                have e12 := ev_tmp (show fr.eval (.tmp 185) = .bool (true) from hpre 12 (by decide) _ rfl)
                clear hpre hfree
                refine stpK rfl rfl fun K hK => ?_
                go_simp
                exact hK _ _ ⟨rfl, hW, Below.refl _ _, fun h => (List.not_mem_nil h).elim⟩
              | 14, ho, hr =>
                obtain rfl := Option.some.inj ho; obtain rfl := Option.some.inj hr
                have e13 := ev_tmp (show fr.eval (.tmp 186) = .bool (true) from hpre 13 (by decide) _ rfl)
                have t16 := ev_tmp (show fr.eval (.tmp 16) = .pointer (some ⟨b16, 0, none⟩) from hfree 16 (by decide))
                clear hpre hfree
                have c0 := (hW.cell (p := ⟨b16, 0, none⟩) l16).trans k160
                have c1 := (hW.cell (p := ⟨b16, 1, none⟩) l16).trans k161
                refine stpK_g rfl rfl e13 rfl fun K hK => ?_
                go_simp
                exact hK _ _ ⟨rfl, hW, Below.refl _ _, fun h => (List.not_mem_nil h).elim⟩
              | 15, ho, hr =>
                obtain rfl := Option.some.inj ho; obtain rfl := Option.some.inj hr
                have e13 := ev_tmp (show fr.eval (.tmp 186) = .bool (true) from hpre 13 (by decide) _ rfl)
                have e14 := ev_tmp (show fr.eval (.tmp 187) = .agg #[.int .i64 (s16), .slice a16 (n16) (c16)] from hpre 14 (by decide) _ rfl)
                clear hpre hfree
                refine stpK_g rfl rfl e13 rfl fun K hK => ?_
                go_simp
                refine (CSR wx (IsInt.below HI16.out hW)).mono ?_
                rintro e wy ⟨rfl, hb⟩
                exact hK _ _ ⟨rfl, hW.trans (hb.mono hW.size), hb, fun h => (List.not_mem_nil h).elim⟩
              | 16, ho, hr =>
                obtain rfl := Option.some.inj ho; obtain rfl := Option.some.inj hr
                have e13 := ev_tmp (show fr.eval (.tmp 186) = .bool (true) from hpre 13 (by decide) _ rfl)
                have e15 := ev_tmp (show fr.eval (.tmp 188) = .int .i64 (g2) from hpre 15 (by decide) _ rfl)
                clear hpre hfree
                refine stpK_g rfl rfl e13 rfl fun K hK => ?_
                go_simp
                exact hK _ _ ⟨(by have h := HG2.out; simp; omega), hW, Below.refl _ _, fun h => (List.not_mem_nil h).elim⟩
              | 17, ho, hr =>
                obtain rfl := Option.some.inj ho; obtain rfl := Option.some.inj hr
                have e13 := ev_tmp (show fr.eval (.tmp 186) = .bool (true) from hpre 13 (by decide) _ rfl)
                have e16 := ev_tmp (show fr.eval (.tmp 189) = .bool (true) from hpre 16 (by decide) _ rfl)
                clear hpre hfree
                refine stpK rfl rfl fun K hK => ?_
                go_simp
                exact hK _ _ ⟨(by first | rfl | (simp; done)), hW, Below.refl _ _, fun h => (List.not_mem_nil h).elim⟩
              | 18, ho, hr =>
                obtain rfl := Option.some.inj ho; obtain rfl := Option.some.inj hr
                have e17 := ev_tmp (show fr.eval (.tmp 190) = .bool (true) from hpre 17 (by decide) _ rfl)
                clear hpre hfree
                refine stpK rfl rfl fun K hK => ?_
                go_simp
                exact hK _ _ ⟨rfl, hW, Below.refl _ _, fun h => (List.not_mem_nil h).elim⟩
              | 19, ho, hr =>
                obtain rfl := Option.some.inj ho; obtain rfl := Option.some.inj hr
                have e18 := ev_tmp (show fr.eval (.tmp 191) = .bool (true) from hpre 18 (by decide) _ rfl)
                have t16 := ev_tmp (show fr.eval (.tmp 16) = .pointer (some ⟨b16, 0, none⟩) from hfree 16 (by decide))
                clear hpre hfree
                have c0 := (hW.cell (p := ⟨b16, 0, none⟩) l16).trans k160
                have c1 := (hW.cell (p := ⟨b16, 1, none⟩) l16).trans k161
                refine stpK_g rfl rfl e18 rfl fun K hK => ?_
                go_simp
                exact hK _ _ ⟨rfl, hW, Below.refl _ _, fun h => (List.not_mem_nil h).elim⟩
              | 20, ho, hr =>
                obtain rfl := Option.some.inj ho; obtain rfl := Option.some.inj hr
                have e18 := ev_tmp (show fr.eval (.tmp 191) = .bool (true) from hpre 18 (by decide) _ rfl)
                have t17 := ev_tmp (show fr.eval (.tmp 17) = .pointer (some ⟨b17, 0, none⟩) from hfree 17 (by decide))
                clear hpre hfree
                have c0 := (hW.cell (p := ⟨b17, 0, none⟩) l17).trans k170
                have c1 := (hW.cell (p := ⟨b17, 1, none⟩) l17).trans k171
                refine stpK_g rfl rfl e18 rfl fun K hK => ?_
                go_simp
                exact hK _ _ ⟨rfl, hW, Below.refl _ _, fun h => (List.not_mem_nil h).elim⟩
              | 21, ho, hr =>
                obtain rfl := Option.some.inj ho; obtain rfl := Option.some.inj hr
                have e18 := ev_tmp (show fr.eval (.tmp 191) = .bool (true) from hpre 18 (by decide) _ rfl)
                have e19 := ev_tmp (show fr.eval (.tmp 192) = .agg #[.int .i64 (s16), .slice a16 (n16) (c16)] from hpre 19 (by decide) _ rfl)
                have e20 := ev_tmp (show fr.eval (.tmp 193) = .agg #[.int .i64 (s17), .slice a17 (n17) (c17)] from hpre 20 (by decide) _ rfl)
                clear hpre hfree
                refine stpK_g rfl rfl e18 rfl fun K hK => ?_
                go_simp
                refine (CRZ wx (IsInt.below HI16.out hW) (IsInt.below HI17.out hW)).mono ?_
                rintro e wy ⟨rfl, hb⟩
                exact hK _ _ ⟨rfl, hW.trans (hb.mono hW.size), hb, fun h => (List.not_mem_nil h).elim⟩
              | 22, ho, hr =>
                obtain rfl := Option.some.inj ho; obtain rfl := Option.some.inj hr
                have e18 := ev_tmp (show fr.eval (.tmp 191) = .bool (true) from hpre 18 (by decide) _ rfl)
                have e21 := ev_tmp (show fr.eval (.tmp 194) = .int .i64 (-1) from hpre 21 (by decide) _ rfl)
                clear hpre hfree
                refine stpK_g rfl rfl e18 rfl fun K hK => ?_
                go_simp
                exact hK _ _ ⟨(by first | rfl | (simp; done)), hW, Below.refl _ _, fun h => (List.not_mem_nil h).elim⟩
              | 23, ho, hr =>
                obtain rfl := Option.some.inj ho; obtain rfl := Option.some.inj hr
                have e18 := ev_tmp (show fr.eval (.tmp 191) = .bool (true) from hpre 18 (by decide) _ rfl)
                have e22 := ev_tmp (show fr.eval (.tmp 195) = .bool (true) from hpre 22 (by decide) _ rfl)
                clear hpre hfree
                refine stpK rfl rfl fun K hK => ?_
                go_simp
                exact hK _ _ ⟨(by first | rfl | (simp; done)), hW, Below.refl _ _, fun h => (List.not_mem_nil h).elim⟩
              | 24, ho, hr =>
                obtain rfl := Option.some.inj ho; obtain rfl := Option.some.inj hr
                have e23 := ev_tmp (show fr.eval (.tmp 196) = .bool (true) from hpre 23 (by decide) _ rfl)
                clear hpre hfree
                refine stpK rfl rfl fun K hK => ?_
                go_simp
                exact hK _ _ ⟨rfl, hW, Below.refl _ _, fun h => (List.not_mem_nil h).elim⟩
              | n + 25, ho, hr => exact absurd hr (by simp)
            · intro vs wn hvs hW1 hap0
              clear hap0
              have e0 : vs 0 = .pointer (some ⟨b14, 0, none⟩) := hvs 0 (by decide)
              have e1 : vs 1 = .int .i64 (0) := hvs 1 (by decide)
              have e2 : vs 2 = .bool (true) := hvs 2 (by decide)
              have e3 : vs 3 = .bool (true) := hvs 3 (by decide)
              have e4 : vs 4 = .agg #[.int .i64 (s15), .slice a15 (n15) (c15)] := hvs 4 (by decide)
              have e5 : vs 5 = .agg #[.int .i64 (s9), .slice a9 (n9) (c9)] := hvs 5 (by decide)
              obtain ⟨u6, e6⟩ : ∃ u, vs 6 = u := ⟨_, rfl⟩
              have p6 : IsInt wn u6 (x / y * y) := by rw [← e6]; exact hvs 6 (by decide)
              have e7 : vs 7 = .agg #[.int .i64 (s16), .slice a16 (n16) (c16)] := hvs 7 (by decide)
              obtain ⟨u8, e8⟩ : ∃ u, vs 8 = u := ⟨_, rfl⟩
              have p8 : IsInt wn u8 (x / y * y + x % y) := by rw [← e8]; exact hvs 8 (by decide)
              have e9 : vs 9 = .agg #[.int .i64 (s7), .slice a7 (n7) (c7)] := hvs 9 (by decide)
              have e10 : vs 10 = .int .i64 (0) := hvs 10 (by decide)
              have e11 : vs 11 = .bool (true) := hvs 11 (by decide)
              have e12 : vs 12 = .bool (true) := hvs 12 (by decide)
              have e13 : vs 13 = .bool (true) := hvs 13 (by decide)
              have e14 : vs 14 = .agg #[.int .i64 (s16), .slice a16 (n16) (c16)] := hvs 14 (by decide)
              have e15 : vs 15 = .int .i64 (g2) := hvs 15 (by decide)
              have e16 : vs 16 = .bool (true) := hvs 16 (by decide)
              have e17 : vs 17 = .bool (true) := hvs 17 (by decide)
              have e18 : vs 18 = .bool (true) := hvs 18 (by decide)
              have e19 : vs 19 = .agg #[.int .i64 (s16), .slice a16 (n16) (c16)] := hvs 19 (by decide)
              have e20 : vs 20 = .agg #[.int .i64 (s17), .slice a17 (n17) (c17)] := hvs 20 (by decide)
              have e21 : vs 21 = .int .i64 (-1) := hvs 21 (by decide)
              have e22 : vs 22 = .bool (true) := hvs 22 (by decide)
              have e23 : vs 23 = .bool (true) := hvs 23 (by decide)
              have e24 : vs 24 = .bool (true) := hvs 24 (by decide)
              simp only [puts, Nat.reduceAdd, e0, e1, e2, e3, e4, e5, e6, e7, e8, e9, e10, e11, e12, e13, e14, e15, e16, e17, e18, e19, e20, e21, e22, e23, e24, Act.put, List.setIfInBounds_toArray, List.set_cons_zero, List.set_cons_succ, List.drop_succ_cons, List.drop_zero, List.length_cons, List.length_nil]
              clear hvs e0 e1 e2 e3 e4 e5 e6 e7 e8 e9 e10 e11 e12 e13 e14 e15 e16 e17 e18 e19 e20 e21 e22 e23 e24
              have HBF : Hid (Below w.heap.size w wn) := hB1.trans (hW1.mono hB1.size)
              clear hB1 hW1 l7 l9 l11 l14 l15 l16 l17 k70 k71 k90 k91 k110 k111 k140 k141 k150 k151 k160 k161 k170 k171 HR HI15 HI16 HI17 CSR CRZ p6 p8
              go_wp2
              go_ret
              exact ⟨rfl, HBF.out⟩
          · have hs0 : ¬ σ < 0 := fun h => hneg (HSG.out.1 h)
            have J17 : IsInt w12 (.agg #[.int .i64 s9, .slice a9 n9 c9]) ((y.natAbs : Nat) : Int) := by
              have := R12.i9
              have e : ((y.natAbs : Nat) : Int) = y := by omega
              rw [e]; exact this
            have LZ := And.intro R12 (And.intro G14 (And.intro G15 (And.intro G16 (And.intro G17 (And.intro J15 (And.intro J16 J17))))))
            clear R12 G14 G15 G16 G17 J15 J16 J17 hneg
            go_upto_region 19 with fail
            refine wp_world (fun W => NK w W b7 b9 b11 s7 a7 n7 c7 s9 a9 n9 c9 s11 a11 n11 c11 x y z ∧ FB W b14 (.int .i64 0) (.int .i64 0) ∧ FB W b15 (.int .i64 s15) (.slice a15 n15 c15) ∧ FB W b16 (.int .i64 s16) (.slice a16 n16 c16) ∧ FB W b17 (.int .i64 s9) (.slice a9 n9 c9) ∧
              IsInt W (.agg #[.int .i64 s15, .slice a15 n15 c15]) (x / y) ∧ IsInt W (.agg #[.int .i64 s16, .slice a16 n16 c16]) (x % y) ∧ IsInt W (.agg #[.int .i64 s9, .slice a9 n9 c9]) ((y.natAbs : Nat) : Int)) LZ ?_
            clear LZ
            rintro w1 ⟨RZ, F14, F15, F16, F17, I15, I16, I17⟩
            obtain ⟨s17, hs17⟩ : ∃ s, s = s9 := ⟨_, rfl⟩
            obtain ⟨a17, ha17⟩ : ∃ a, a = a9 := ⟨_, rfl⟩
            obtain ⟨n17, hn17⟩ : ∃ n, n = n9 := ⟨_, rfl⟩
            obtain ⟨c17, hc17⟩ : ∃ c, c = c9 := ⟨_, rfl⟩
            rw [← hs17, ← ha17, ← hn17, ← hc17] at I17 F17
            clear hs17 ha17 hn17 hc17
            have HR : Hid (NK w w1 b7 b9 b11 s7 a7 n7 c7 s9 a9 n9 c9 s11 a11 n11 c11 x y z) := RZ
            have HI15 : Hid (IsInt w1 (.agg #[.int .i64 s15, .slice a15 n15 c15]) (x / y)) := I15
            have HI16 : Hid (IsInt w1 (.agg #[.int .i64 s16, .slice a16 n16 c16]) (x % y)) := I16
            have HI17 : Hid (IsInt w1 (.agg #[.int .i64 s17, .slice a17 n17 c17]) ((y.natAbs : Nat) : Int)) := I17
            have hB1 : Below w.heap.size w w1 := RZ.below
            obtain ⟨-, ⟨l7, k70, k71, -, -⟩, ⟨l9, k90, k91, -, -⟩, ⟨l11, k110, k111, -, -⟩, -, -, -⟩ := RZ
            obtain ⟨l14, k140, k141, -, -⟩ := F14
            obtain ⟨l15, k150, k151, -, -⟩ := F15
            obtain ⟨l16, k160, k161, -, -⟩ := F16
            obtain ⟨l17, k170, k171, -, -⟩ := F17
            clear I15 I16 I17
            refine wp_drawn mixed [⟨173, [], [], [14]⟩, ⟨174, [0], [0], []⟩, ⟨175, [1], [0, 1], []⟩, ⟨176, [2], [0, 1, 2], []⟩, ⟨177, [3], [0, 1, 2, 3], [15]⟩, ⟨178, [3], [0, 1, 2, 3], [9]⟩, ⟨179, [3, 4, 5], [0, 1, 2, 3, 4, 5], []⟩, ⟨180, [3], [0, 1, 2, 3], [16]⟩, ⟨181, [3, 6, 7], [0, 1, 2, 3, 4, 5, 6, 7], []⟩, ⟨182, [3], [0, 1, 2, 3], [7]⟩, ⟨183, [3, 8, 9], [0, 1, 2, 3, 4, 5, 6, 7, 8, 9], []⟩, ⟨184, [3, 10], [0, 1, 2, 3, 4, 5, 6, 7, 8, 9, 10], []⟩, ⟨185, [3, 11], [0, 1, 2, 3, 4, 5, 6, 7, 8, 9, 10, 11], []⟩, ⟨186, [10, 12], [0, 1, 2, 3, 4, 5, 6, 7, 8, 9, 10, 11, 12], []⟩, ⟨187, [13], [0, 1, 2, 3, 4, 5, 6, 7, 8, 9, 10, 11, 12, 13], [16]⟩, ⟨188, [13, 14], [0, 1, 2, 3, 4, 5, 6, 7, 8, 9, 10, 11, 12, 13, 14], []⟩, ⟨189, [13, 15], [0, 1, 2, 3, 4, 5, 6, 7, 8, 9, 10, 11, 12, 13, 14, 15], []⟩, ⟨190, [13, 16], [0, 1, 2, 3, 4, 5, 6, 7, 8, 9, 10, 11, 12, 13, 14, 15, 16], []⟩, ⟨191, [15, 17], [0, 1, 2, 3, 4, 5, 6, 7, 8, 9, 10, 11, 12, 13, 14, 15, 16, 17], []⟩, ⟨192, [18], [0, 1, 2, 3, 4, 5, 6, 7, 8, 9, 10, 11, 12, 13, 14, 15, 16, 17, 18], [16]⟩, ⟨193, [18], [0, 1, 2, 3, 4, 5, 6, 7, 8, 9, 10, 11, 12, 13, 14, 15, 16, 17, 18], [17]⟩, ⟨194, [18, 19, 20], [0, 1, 2, 3, 4, 5, 6, 7, 8, 9, 10, 11, 12, 13, 14, 15, 16, 17, 18, 19, 20], []⟩, ⟨195, [18, 21], [0, 1, 2, 3, 4, 5, 6, 7, 8, 9, 10, 11, 12, 13, 14, 15, 16, 17, 18, 19, 20, 21], []⟩, ⟨196, [18, 22], [0, 1, 2, 3, 4, 5, 6, 7, 8, 9, 10, 11, 12, 13, 14, 15, 16, 17, 18, 19, 20, 21, 22], []⟩, ⟨6, [0, 1, 2, 3, 4, 5, 6, 7, 8, 9, 10, 11, 12, 13, 14, 15, 16, 17, 18, 19, 20, 21, 22, 23], [0, 1, 2, 3, 4, 5, 6, 7, 8, 9, 10, 11, 12, 13, 14, 15, 16, 17, 18, 19, 20, 21, 22, 23], []⟩] [] (by kernel_rfl) 197 rfl (by kernel_rfl) (fun (i : Nat) (v : Value) (wq : World) => match i with | 0 => v = .pointer (some ⟨b14, 0, none⟩) | 1 => v = .int .i64 (0) | 2 => v = .bool (true) | 3 => v = .bool (true) | 4 => v = .agg #[.int .i64 (s15), .slice a15 (n15) (c15)] | 5 => v = .agg #[.int .i64 (s9), .slice a9 (n9) (c9)] | 6 => IsInt wq v (x / y * y) | 7 => v = .agg #[.int .i64 (s16), .slice a16 (n16) (c16)] | 8 => IsInt wq v (x / y * y + x % y) | 9 => v = .agg #[.int .i64 (s7), .slice a7 (n7) (c7)] | 10 => v = .int .i64 (0) | 11 => v = .bool (true) | 12 => v = .bool (true) | 13 => v = .bool (true) | 14 => v = .agg #[.int .i64 (s16), .slice a16 (n16) (c16)] | 15 => v = .int .i64 (g2) | 16 => v = .bool (true) | 17 => v = .bool (true) | 18 => v = .bool (true) | 19 => v = .agg #[.int .i64 (s16), .slice a16 (n16) (c16)] | 20 => v = .agg #[.int .i64 (s17), .slice a17 (n17) (c17)] | 21 => v = .int .i64 (-1) | 22 => v = .bool (true) | 23 => v = .bool (true) | 24 => v = .bool (true) | _ => True) (fun _ wq => Below w1.heap.size w1 wq) (fun wx wy => Below wx.heap.size wx wy) (Below.refl _ _).drew (fun i v wx wy h hx => match i, h with | 0, h => h | 1, h => h | 2, h => h | 3, h => h | 4, h => h | 5, h => h | 7, h => h | 9, h => h | 10, h => h | 11, h => h | 12, h => h | 13, h => h | 14, h => h | 15, h => h | 16, h => h | 17, h => h | 18, h => h | 19, h => h | 20, h => h | 21, h => h | 22, h => h | 23, h => h | 24, h => h | 6, h => (h : IsInt wx v (x / y * y)).below hx | 8, h => (h : IsInt wx v (x / y * y + x % y)).below hx | n + 25, _ => trivial) ?_ ?_
            · intro i o r ho hr L fr wx hW hL hpr hds hdef hpre hfree
              clear hL hpr hds hdef
              match i, ho, hr with
              | 0, ho, hr =>
                obtain rfl := Option.some.inj ho; obtain rfl := Option.some.inj hr
                have t14 := ev_tmp (show fr.eval (.tmp 14) = .pointer (some ⟨b14, 0, none⟩) from hfree 14 (by decide))
                clear hpre hfree
                refine stpK rfl rfl fun K hK => ?_
                go_simp
                exact hK _ _ ⟨rfl, hW, Below.refl _ _, fun h => (List.not_mem_nil h).elim⟩
              | 1, ho, hr =>
                obtain rfl := Option.some.inj ho; obtain rfl := Option.some.inj hr
                have e0 := ev_tmp (show fr.eval (.tmp 173) = .pointer (some ⟨b14, 0, none⟩) from hpre 0 (by decide) _ rfl)
                clear hpre hfree
                have c0 := (hW.cell (p := ⟨b14, 0, none⟩) l14).trans k140
                refine stpK rfl rfl fun K hK => ?_
                go_simp
                exact hK _ _ ⟨rfl, hW, Below.refl _ _, fun h => (List.not_mem_nil h).elim⟩
              | 2, ho, hr =>
                obtain rfl := Option.some.inj ho; obtain rfl := Option.some.inj hr
                have e1 := ev_tmp (show fr.eval (.tmp 174) = .int .i64 (0) from hpre 1 (by decide) _ rfl)
                clear hpre hfree
                refine stpK rfl rfl fun K hK => ?_
                go_simp
                exact hK _ _ ⟨(by first | rfl | (simp; done)), hW, Below.refl _ _, fun h => (List.not_mem_nil h).elim⟩
              | 3, ho, hr =>
                obtain rfl := Option.some.inj ho; obtain rfl := Option.some.inj hr
                have e2 := ev_tmp (show fr.eval (.tmp 175) = .bool (true) from hpre 2 (by decide) _ rfl)
                clear hpre hfree
                refine stpK rfl rfl fun K hK => ?_
                go_simp
                exact hK _ _ ⟨rfl, hW, Below.refl _ _, fun h => (List.not_mem_nil h).elim⟩
              | 4, ho, hr =>
                obtain rfl := Option.some.inj ho; obtain rfl := Option.some.inj hr
                have e3 := ev_tmp (show fr.eval (.tmp 176) = .bool (true) from hpre 3 (by decide) _ rfl)
                have t15 := ev_tmp (show fr.eval (.tmp 15) = .pointer (some ⟨b15, 0, none⟩) from hfree 15 (by decide))
                clear hpre hfree
                have c0 := (hW.cell (p := ⟨b15, 0, none⟩) l15).trans k150
                have c1 := (hW.cell (p := ⟨b15, 1, none⟩) l15).trans k151
                refine stpK_g rfl rfl e3 rfl fun K hK => ?_
                go_simp
                exact hK _ _ ⟨rfl, hW, Below.refl _ _, fun h => (List.not_mem_nil h).elim⟩
              | 5, ho, hr =>
                obtain rfl := Option.some.inj ho; obtain rfl := Option.some.inj hr
                have e3 := ev_tmp (show fr.eval (.tmp 176) = .bool (true) from hpre 3 (by decide) _ rfl)
                have t9 := ev_tmp (show fr.eval (.tmp 9) = .pointer (some ⟨b9, 0, none⟩) from hfree 9 (by decide))
                clear hpre hfree
                have c0 := (hW.cell (p := ⟨b9, 0, none⟩) l9).trans k90
                have c1 := (hW.cell (p := ⟨b9, 1, none⟩) l9).trans k91
                refine stpK_g rfl rfl e3 rfl fun K hK => ?_
                go_simp
                exact hK _ _ ⟨rfl, hW, Below.refl _ _, fun h => (List.not_mem_nil h).elim⟩
              | 6, ho, hr =>
                obtain rfl := Option.some.inj ho; obtain rfl := Option.some.inj hr
                have e3 := ev_tmp (show fr.eval (.tmp 176) = .bool (true) from hpre 3 (by decide) _ rfl)
                have e4 := ev_tmp (show fr.eval (.tmp 177) = .agg #[.int .i64 (s15), .slice a15 (n15) (c15)] from hpre 4 (by decide) _ rfl)
                have e5 := ev_tmp (show fr.eval (.tmp 178) = .agg #[.int .i64 (s9), .slice a9 (n9) (c9)] from hpre 5 (by decide) _ rfl)
                clear hpre hfree
                refine stpK_g rfl rfl e3 rfl fun K hK => ?_
                go_simp
                refine (mul_any wx _ _ (x / y) (y) 53 53 (IsInt.below HI15.out hW) (HR.out.i9.below hW) HQB.out HY.out (by decide)).mono ?_
                rintro e wy ⟨v4, rfl, hb, hm4⟩
                exact hK _ _ ⟨hm4, hW.trans (hb.mono hW.size), hb, fun h => (List.not_mem_nil h).elim⟩
              | 7, ho, hr =>
                obtain rfl := Option.some.inj ho; obtain rfl := Option.some.inj hr
                have e3 := ev_tmp (show fr.eval (.tmp 176) = .bool (true) from hpre 3 (by decide) _ rfl)
                have t16 := ev_tmp (show fr.eval (.tmp 16) = .pointer (some ⟨b16, 0, none⟩) from hfree 16 (by decide))
                clear hpre hfree
                have c0 := (hW.cell (p := ⟨b16, 0, none⟩) l16).trans k160
                have c1 := (hW.cell (p := ⟨b16, 1, none⟩) l16).trans k161
                refine stpK_g rfl rfl e3 rfl fun K hK => ?_
                go_simp
                exact hK _ _ ⟨rfl, hW, Below.refl _ _, fun h => (List.not_mem_nil h).elim⟩
              | 8, ho, hr =>
                obtain rfl := Option.some.inj ho; obtain rfl := Option.some.inj hr
                have e3 := ev_tmp (show fr.eval (.tmp 176) = .bool (true) from hpre 3 (by decide) _ rfl)
                obtain ⟨u6, q6⟩ : ∃ u, fr.eval (.tmp 179) = u := ⟨_, rfl⟩
                have p6 : IsInt wx u6 (x / y * y) := by rw [← q6]; exact hpre 6 (by decide) _ rfl
                have e6 := ev_tmp q6; clear q6
                have e7 := ev_tmp (show fr.eval (.tmp 180) = .agg #[.int .i64 (s16), .slice a16 (n16) (c16)] from hpre 7 (by decide) _ rfl)
                clear hpre hfree
                refine stpK_g rfl rfl e3 rfl fun K hK => ?_
                go_simp
                refine (add_any wx _ _ (x / y * y) (x % y) 106 p6 (IsInt.below HI16.out hW) HQY.out HRB.out (by decide)).mono ?_
                rintro e wy ⟨v4, rfl, hb, hm4⟩
                exact hK _ _ ⟨hm4, hW.trans (hb.mono hW.size), hb, fun h => (List.not_mem_nil h).elim⟩
              | 9, ho, hr =>
                obtain rfl := Option.some.inj ho; obtain rfl := Option.some.inj hr
                have e3 := ev_tmp (show fr.eval (.tmp 176) = .bool (true) from hpre 3 (by decide) _ rfl)
                have t7 := ev_tmp (show fr.eval (.tmp 7) = .pointer (some ⟨b7, 0, none⟩) from hfree 7 (by decide))
                clear hpre hfree
                have c0 := (hW.cell (p := ⟨b7, 0, none⟩) l7).trans k70
                have c1 := (hW.cell (p := ⟨b7, 1, none⟩) l7).trans k71
                refine stpK_g rfl rfl e3 rfl fun K hK => ?_
                go_simp
                exact hK _ _ ⟨rfl, hW, Below.refl _ _, fun h => (List.not_mem_nil h).elim⟩
              | 10, ho, hr =>
                obtain rfl := Option.some.inj ho; obtain rfl := Option.some.inj hr
                have e3 := ev_tmp (show fr.eval (.tmp 176) = .bool (true) from hpre 3 (by decide) _ rfl)
                obtain ⟨u8, q8⟩ : ∃ u, fr.eval (.tmp 181) = u := ⟨_, rfl⟩
                have p8 : IsInt wx u8 (x / y * y + x % y) := by rw [← q8]; exact hpre 8 (by decide) _ rfl
                have e8 := ev_tmp q8; clear q8
                have e9 := ev_tmp (show fr.eval (.tmp 182) = .agg #[.int .i64 (s7), .slice a7 (n7) (c7)] from hpre 9 (by decide) _ rfl)
                clear hpre hfree
                refine stpK_g rfl rfl e3 rfl fun K hK => ?_
                go_simp
                refine (cmp_same wx _ _ (x / y * y + x % y) (x) 107 p8 (HR.out.i7.below hW) HQYR.out (by decide) (by rw [Int.mul_comm]; exact Int.mul_ediv_add_emod _ _)).mono ?_
                rintro e wy ⟨rfl, hb⟩
                exact hK _ _ ⟨rfl, hW.trans (hb.mono hW.size), hb, fun h => (List.not_mem_nil h).elim⟩
              | 11, ho, hr =>
                obtain rfl := Option.some.inj ho; obtain rfl := Option.some.inj hr
                have e3 := ev_tmp (show fr.eval (.tmp 176) = .bool (true) from hpre 3 (by decide) _ rfl)
                have e10 := ev_tmp (show fr.eval (.tmp 183) = .int .i64 (0) from hpre 10 (by decide) _ rfl)
                clear hpre hfree
                refine stpK_g rfl rfl e3 rfl fun K hK => ?_
                go_simp
                exact hK _ _ ⟨(by first | rfl | (simp; done)), hW, Below.refl _ _, fun h => (List.not_mem_nil h).elim⟩
              | 12, ho, hr =>
                obtain rfl := Option.some.inj ho; obtain rfl := Option.some.inj hr
                have e3 := ev_tmp (show fr.eval (.tmp 176) = .bool (true) from hpre 3 (by decide) _ rfl)
                have e11 := ev_tmp (show fr.eval (.tmp 184) = .bool (true) from hpre 11 (by decide) _ rfl)
                clear hpre hfree
                refine stpK rfl rfl fun K hK => ?_
                go_simp
                exact hK _ _ ⟨(by first | rfl | (simp; done)), hW, Below.refl _ _, fun h => (List.not_mem_nil h).elim⟩
              | 13, ho, hr =>
                obtain rfl := Option.some.inj ho; obtain rfl := Option.some.inj hr
                have e12 := ev_tmp (show fr.eval (.tmp 185) = .bool (true) from hpre 12 (by decide) _ rfl)
                clear hpre hfree
                refine stpK rfl rfl fun K hK => ?_
                go_simp
                exact hK _ _ ⟨rfl, hW, Below.refl _ _, fun h => (List.not_mem_nil h).elim⟩
              | 14, ho, hr =>
                obtain rfl := Option.some.inj ho; obtain rfl := Option.some.inj hr
                have e13 := ev_tmp (show fr.eval (.tmp 186) = .bool (true) from hpre 13 (by decide) _ rfl)
                have t16 := ev_tmp (show fr.eval (.tmp 16) = .pointer (some ⟨b16, 0, none⟩) from hfree 16 (by decide))
                clear hpre hfree
                have c0 := (hW.cell (p := ⟨b16, 0, none⟩) l16).trans k160
                have c1 := (hW.cell (p := ⟨b16, 1, none⟩) l16).trans k161
                refine stpK_g rfl rfl e13 rfl fun K hK => ?_
                go_simp
                exact hK _ _ ⟨rfl, hW, Below.refl _ _, fun h => (List.not_mem_nil h).elim⟩
              | 15, ho, hr =>
                obtain rfl := Option.some.inj ho; obtain rfl := Option.some.inj hr
                have e13 := ev_tmp (show fr.eval (.tmp 186) = .bool (true) from hpre 13 (by decide) _ rfl)
                have e14 := ev_tmp (show fr.eval (.tmp 187) = .agg #[.int .i64 (s16), .slice a16 (n16) (c16)] from hpre 14 (by decide) _ rfl)
                clear hpre hfree
                refine stpK_g rfl rfl e13 rfl fun K hK => ?_
                go_simp
                refine (CSR wx (IsInt.below HI16.out hW)).mono ?_
                rintro e wy ⟨rfl, hb⟩
                exact hK _ _ ⟨rfl, hW.trans (hb.mono hW.size), hb, fun h => (List.not_mem_nil h).elim⟩
              | 16, ho, hr =>
                obtain rfl := Option.some.inj ho; obtain rfl := Option.some.inj hr
                have e13 := ev_tmp (show fr.eval (.tmp 186) = .bool (true) from hpre 13 (by decide) _ rfl)
                have e15 := ev_tmp (show fr.eval (.tmp 188) = .int .i64 (g2) from hpre 15 (by decide) _ rfl)
                clear hpre hfree
                refine stpK_g rfl rfl e13 rfl fun K hK => ?_
                go_simp
                exact hK _ _ ⟨(by have h := HG2.out; simp; omega), hW, Below.refl _ _, fun h => (List.not_mem_nil h).elim⟩
              | 17, ho, hr =>
                obtain rfl := Option.some.inj ho; obtain rfl := Option.some.inj hr
                have e13 := ev_tmp (show fr.eval (.tmp 186) = .bool (true) from hpre 13 (by decide) _ rfl)
                have e16 := ev_tmp (show fr.eval (.tmp 189) = .bool (true) from hpre 16 (by decide) _ rfl)
                clear hpre hfree
                refine stpK rfl rfl fun K hK => ?_
                go_simp
                exact hK _ _ ⟨(by first | rfl | (simp; done)), hW, Below.refl _ _, fun h => (List.not_mem_nil h).elim⟩
              | 18, ho, hr =>
                obtain rfl := Option.some.inj ho; obtain rfl := Option.some.inj hr
                have e17 := ev_tmp (show fr.eval (.tmp 190) = .bool (true) from hpre 17 (by decide) _ rfl)
                clear hpre hfree
                refine stpK rfl rfl fun K hK => ?_
                go_simp
                exact hK _ _ ⟨rfl, hW, Below.refl _ _, fun h => (List.not_mem_nil h).elim⟩
              | 19, ho, hr =>
                obtain rfl := Option.some.inj ho; obtain rfl := Option.some.inj hr
                have e18 := ev_tmp (show fr.eval (.tmp 191) = .bool (true) from hpre 18 (by decide) _ rfl)
                have t16 := ev_tmp (show fr.eval (.tmp 16) = .pointer (some ⟨b16, 0, none⟩) from hfree 16 (by decide))
                clear hpre hfree
                have c0 := (hW.cell (p := ⟨b16, 0, none⟩) l16).trans k160
                have c1 := (hW.cell (p := ⟨b16, 1, none⟩) l16).trans k161
                refine stpK_g rfl rfl e18 rfl fun K hK => ?_
                go_simp
                exact hK _ _ ⟨rfl, hW, Below.refl _ _, fun h => (List.not_mem_nil h).elim⟩
              | 20, ho, hr =>
                obtain rfl := Option.some.inj ho; obtain rfl := Option.some.inj hr
                have e18 := ev_tmp (show fr.eval (.tmp 191) = .bool (true) from hpre 18 (by decide) _ rfl)
                have t17 := ev_tmp (show fr.eval (.tmp 17) = .pointer (some ⟨b17, 0, none⟩) from hfree 17 (by decide))
                clear hpre hfree
                have c0 := (hW.cell (p := ⟨b17, 0, none⟩) l17).trans k170
                have c1 := (hW.cell (p := ⟨b17, 1, none⟩) l17).trans k171
                refine stpK_g rfl rfl e18 rfl fun K hK => ?_
                go_simp
                exact hK _ _ ⟨rfl, hW, Below.refl _ _, fun h => (List.not_mem_nil h).elim⟩
              | 21, ho, hr =>
                obtain rfl := Option.some.inj ho; obtain rfl := Option.some.inj hr
                have e18 := ev_tmp (show fr.eval (.tmp 191) = .bool (true) from hpre 18 (by decide) _ rfl)
                have e19 := ev_tmp (show fr.eval (.tmp 192) = .agg #[.int .i64 (s16), .slice a16 (n16) (c16)] from hpre 19 (by decide) _ rfl)
                have e20 := ev_tmp (show fr.eval (.tmp 193) = .agg #[.int .i64 (s17), .slice a17 (n17) (c17)] from hpre 20 (by decide) _ rfl)
                clear hpre hfree
                refine stpK_g rfl rfl e18 rfl fun K hK => ?_
                go_simp
                refine (CRZ wx (IsInt.below HI16.out hW) (IsInt.below HI17.out hW)).mono ?_
                rintro e wy ⟨rfl, hb⟩
                exact hK _ _ ⟨rfl, hW.trans (hb.mono hW.size), hb, fun h => (List.not_mem_nil h).elim⟩
              | 22, ho, hr =>
                obtain rfl := Option.some.inj ho; obtain rfl := Option.some.inj hr
                have e18 := ev_tmp (show fr.eval (.tmp 191) = .bool (true) from hpre 18 (by decide) _ rfl)
                have e21 := ev_tmp (show fr.eval (.tmp 194) = .int .i64 (-1) from hpre 21 (by decide) _ rfl)
                clear hpre hfree
                refine stpK_g rfl rfl e18 rfl fun K hK => ?_
                go_simp
                exact hK _ _ ⟨(by first | rfl | (simp; done)), hW, Below.refl _ _, fun h => (List.not_mem_nil h).elim⟩
              | 23, ho, hr =>
                obtain rfl := Option.some.inj ho; obtain rfl := Option.some.inj hr
                have e18 := ev_tmp (show fr.eval (.tmp 191) = .bool (true) from hpre 18 (by decide) _ rfl)
                have e22 := ev_tmp (show fr.eval (.tmp 195) = .bool (true) from hpre 22 (by decide) _ rfl)
                clear hpre hfree
                refine stpK rfl rfl fun K hK => ?_
                go_simp
                exact hK _ _ ⟨(by first | rfl | (simp; done)), hW, Below.refl _ _, fun h => (List.not_mem_nil h).elim⟩
              | 24, ho, hr =>
                obtain rfl := Option.some.inj ho; obtain rfl := Option.some.inj hr
                have e23 := ev_tmp (show fr.eval (.tmp 196) = .bool (true) from hpre 23 (by decide) _ rfl)
                clear hpre hfree
                refine stpK rfl rfl fun K hK => ?_
                go_simp
                exact hK _ _ ⟨rfl, hW, Below.refl _ _, fun h => (List.not_mem_nil h).elim⟩
              | n + 25, ho, hr => exact absurd hr (by simp)
            · intro vs wn hvs hW1 hap0
              clear hap0
              have e0 : vs 0 = .pointer (some ⟨b14, 0, none⟩) := hvs 0 (by decide)
              have e1 : vs 1 = .int .i64 (0) := hvs 1 (by decide)
              have e2 : vs 2 = .bool (true) := hvs 2 (by decide)
              have e3 : vs 3 = .bool (true) := hvs 3 (by decide)
              have e4 : vs 4 = .agg #[.int .i64 (s15), .slice a15 (n15) (c15)] := hvs 4 (by decide)
              have e5 : vs 5 = .agg #[.int .i64 (s9), .slice a9 (n9) (c9)] := hvs 5 (by decide)
              obtain ⟨u6, e6⟩ : ∃ u, vs 6 = u := ⟨_, rfl⟩
              have p6 : IsInt wn u6 (x / y * y) := by rw [← e6]; exact hvs 6 (by decide)
              have e7 : vs 7 = .agg #[.int .i64 (s16), .slice a16 (n16) (c16)] := hvs 7 (by decide)
              obtain ⟨u8, e8⟩ : ∃ u, vs 8 = u := ⟨_, rfl⟩
              have p8 : IsInt wn u8 (x / y * y + x % y) := by rw [← e8]; exact hvs 8 (by decide)
              have e9 : vs 9 = .agg #[.int .i64 (s7), .slice a7 (n7) (c7)] := hvs 9 (by decide)
              have e10 : vs 10 = .int .i64 (0) := hvs 10 (by decide)
              have e11 : vs 11 = .bool (true) := hvs 11 (by decide)
              have e12 : vs 12 = .bool (true) := hvs 12 (by decide)
              have e13 : vs 13 = .bool (true) := hvs 13 (by decide)
              have e14 : vs 14 = .agg #[.int .i64 (s16), .slice a16 (n16) (c16)] := hvs 14 (by decide)
              have e15 : vs 15 = .int .i64 (g2) := hvs 15 (by decide)
              have e16 : vs 16 = .bool (true) := hvs 16 (by decide)
              have e17 : vs 17 = .bool (true) := hvs 17 (by decide)
              have e18 : vs 18 = .bool (true) := hvs 18 (by decide)
              have e19 : vs 19 = .agg #[.int .i64 (s16), .slice a16 (n16) (c16)] := hvs 19 (by decide)
              have e20 : vs 20 = .agg #[.int .i64 (s17), .slice a17 (n17) (c17)] := hvs 20 (by decide)
              have e21 : vs 21 = .int .i64 (-1) := hvs 21 (by decide)
              have e22 : vs 22 = .bool (true) := hvs 22 (by decide)
              have e23 : vs 23 = .bool (true) := hvs 23 (by decide)
              have e24 : vs 24 = .bool (true) := hvs 24 (by decide)
              simp only [puts, Nat.reduceAdd, e0, e1, e2, e3, e4, e5, e6, e7, e8, e9, e10, e11, e12, e13, e14, e15, e16, e17, e18, e19, e20, e21, e22, e23, e24, Act.put, List.setIfInBounds_toArray, List.set_cons_zero, List.set_cons_succ, List.drop_succ_cons, List.drop_zero, List.length_cons, List.length_nil]
              clear hvs e0 e1 e2 e3 e4 e5 e6 e7 e8 e9 e10 e11 e12 e13 e14 e15 e16 e17 e18 e19 e20 e21 e22 e23 e24
              have HBF : Hid (Below w.heap.size w wn) := hB1.trans (hW1.mono hB1.size)
              clear hB1 hW1 l7 l9 l11 l14 l15 l16 l17 k70 k71 k90 k91 k110 k111 k140 k141 k150 k151 k160 k161 k170 k171 HR HI15 HI16 HI17 CSR CRZ p6 p8
              go_wp2
              go_ret
              exact ⟨rfl, HBF.out⟩
end Go.Proofs.YtjlkplidpdhgbaaGreatDoor
