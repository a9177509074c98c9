/- A part of the proof: S3. -/
import Derived.Test.YtjlkplidpdhgbaaGreatDoorP34
import Derived.Test.YtjlkplidpdhgbaaGreatDoorP33
import Derived.Test.YtjlkplidpdhgbaaGreatDoorP16
import Derived.Test.YtjlkplidpdhgbaaGreatDoorP35
import Derived.Test.YtjlkplidpdhgbaaGreatDoorP36
import Derived.Test.YtjlkplidpdhgbaaGreatDoorP28
import Derived.Test.YtjlkplidpdhgbaaGreatDoorP37
set_option linter.all false

namespace Go.Proofs.YtjlkplidpdhgbaaGreatDoor
open Go Go.Proofs Go.RowKit Go.Rad


theorem powM (M k b : Nat) (hM : M = 4 * k) (hk : k ≤ 159) (h : 10000 ^ 4 ≤ b) (h0 : 0 < b) : 10000 ^ M ≤ b ^ 159 := by
  rw [hM, Nat.pow_mul]
  exact Nat.le_trans (Nat.pow_le_pow_left h k) (Nat.pow_le_pow_right h0 hk)
theorem badd' (P Q : Nat) (x y : Int) (hP : P + P ≤ Q) (hQ : P * P ≤ Q) (hx : x.natAbs < P) (hy : y.natAbs < P) : (x + y).natAbs < Q ∧ (x - y).natAbs < Q ∧ (x * y).natAbs < Q := by
  refine ⟨by omega, by omega, ?_⟩
  rw [Int.natAbs_mul]
  exact Nat.lt_of_lt_of_le (Nat.mul_lt_mul'' hx hy) hQ
theorem badd (x y : Int) (L M : Nat) (hL : 1 ≤ L) (hM : M = L + L) (hx : x.natAbs < 10000 ^ L) (hy : y.natAbs < 10000 ^ L) : (x + y).natAbs < 10000 ^ M ∧ (x - y).natAbs < 10000 ^ M ∧ (x * y).natAbs < 10000 ^ M := by
  have h : ∀ P : Nat, 2 ≤ P → P + P ≤ P * P := fun P h => by
    have := Nat.mul_le_mul_right P h
    omega
  have e : (10000 : Nat) ^ M = 10000 ^ L * 10000 ^ L := by rw [hM, Nat.pow_add]
  refine badd' (10000 ^ L) (10000 ^ M) x y ?_ (Nat.le_of_eq e.symm) hx hy
  rw [e]
  exact h _ (Nat.le_trans (show 2 ≤ 10000 ^ 1 by decide) (Nat.pow_le_pow_right (by decide) hL))

/-- The world behind the first statements of NumReckons. -/
structure RK (w wr : World) (pc pa qc qa x y : Int) (b5 d5 b7 d7 b9 d9 b11 d11 : Nat) (s5 : Int) (a5 : Option Addr) (n5 c5 : Nat) (s7 : Int) (a7 : Option Addr) (n7 c7 : Nat)
    (s9 : Bool) (a9 : Option Addr) (n9 c9 : Nat) (s11 : Bool) (a11 : Option Addr) (n11 c11 : Nat) : Prop where
  below : Below w.heap.size w wr
  x5 : Box2 wr b5 (.int .i64 s5) (.slice a5 n5 c5)
  y5 : Box2 wr d5 (.int .i64 pc) (.int .i64 pa)
  x7 : Box2 wr b7 (.int .i64 s7) (.slice a7 n7 c7)
  y7 : Box2 wr d7 (.int .i64 qc) (.int .i64 qa)
  x9 : Box2 wr b9 (.bool s9) (.slice a9 n9 c9)
  y9 : Box2 wr d9 (.int .i64 pc) (.int .i64 pa)
  x11 : Box2 wr b11 (.bool s11) (.slice a11 n11 c11)
  y11 : Box2 wr d11 (.int .i64 qc) (.int .i64 qa)
  i5 : IsInt wr (.agg #[.int .i64 s5, .slice a5 n5 c5]) x
  i7 : IsInt wr (.agg #[.int .i64 s7, .slice a7 n7 c7]) y
  i9 : IsZ wr (.agg #[.bool s9, .slice a9 n9 c9]) x
  i11 : IsZ wr (.agg #[.bool s11, .slice a11 n11 c11]) y
theorem RK.step {w wr w' : World} {pc pa qc qa x y : Int} {b5 d5 b7 d7 b9 d9 b11 d11 : Nat} {s5 : Int} {a5 : Option Addr} {n5 c5 : Nat} {s7 : Int} {a7 : Option Addr} {n7 c7 : Nat}
    {s9 : Bool} {a9 : Option Addr} {n9 c9 : Nat} {s11 : Bool} {a11 : Option Addr} {n11 c11 : Nat} (h : RK w wr pc pa qc qa x y b5 d5 b7 d7 b9 d9 b11 d11 s5 a5 n5 c5 s7 a7 n7 c7 s9 a9 n9 c9 s11 a11 n11 c11)
    (hb : Below wr.heap.size wr w') : RK w w' pc pa qc qa x y b5 d5 b7 d7 b9 d9 b11 d11 s5 a5 n5 c5 s7 a7 n7 c7 s9 a9 n9 c9 s11 a11 n11 c11 :=
  ⟨h.below.trans (hb.mono h.below.size), h.x5.below hb, h.y5.below hb, h.x7.below hb, h.y7.below hb, h.x9.below hb, h.y9.below hb, h.x11.below hb, h.y11.below hb, h.i5.below hb, h.i7.below hb, h.i9.below hb, h.i11.below hb⟩

set_option maxRecDepth 10000 in
set_option maxHeartbeats 4000000 in
theorem numReckons_any (w : World) (s t : ByteArray) (hs : s.size ≤ 9223372036854775806) (ht' : t.size ≤ 9223372036854775806) (ht : TabP w) :
    Calls Tryz.prog 4 #[.string s, .string t] w fun e w' => e = .returned (.bool true) ∧ Below w.heap.size w w' := by
  have CPX := fun w => parse_any w s hs
  have CPY := fun w => parse_any w t ht'
  have CZX := fun w => zparse_any w s hs
  have CZY := fun w => zparse_any w t ht'
  have hx1 := pval_lt s.data.toList
  have hx2 := pval_B s.data.toList
  have hy1 := pval_lt t.data.toList
  have hy2 := pval_B t.data.toList
  obtain ⟨pc, hpc⟩ : ∃ pc, pcode s.data.toList = pc := ⟨_, rfl⟩
  obtain ⟨pa, hpa⟩ : ∃ pa, pat s.data.toList = pa := ⟨_, rfl⟩
  obtain ⟨x, hz⟩ : ∃ x, pval s.data.toList = x := ⟨_, rfl⟩
  obtain ⟨qc, hqc⟩ : ∃ qc, pcode t.data.toList = qc := ⟨_, rfl⟩
  obtain ⟨qa, hqa⟩ : ∃ qa, pat t.data.toList = qa := ⟨_, rfl⟩
  obtain ⟨y, hzy⟩ : ∃ y, pval t.data.toList = y := ⟨_, rfl⟩
  simp only [hpc, hpa, hz] at CPX CZX
  simp only [hqc, hqa, hzy] at CPY CZY
  rw [hz] at hx1 hx2
  rw [hzy] at hy1 hy2
  have HT : Hid (TabP w) := ht
  have HX1 : Hid _ := hx1
  have HX2 : Hid _ := hx2
  have HY1 : Hid _ := hy1
  have HY2 : Hid _ := hy2
  clear ht hpc hpa hz hqc hqa hzy hx1 hx2 hy1 hy2
  go_enter Tryz.func4, Tryz.ntmps4
  go_wp2_with (go_at_call 9; fail)
  refine (CPX _).mono ?_
  rintro e w1 ⟨v1, rfl, hb1, hI1⟩
  obtain ⟨s5, a5, n5, c5, rfl⟩ := hI1.form
  unfold flt
  have b2 := bel2 w1 (Obj.cells #[Value.int .i64 s5, Value.slice a5 n5 c5] 24) (Obj.cells #[Value.int .i64 pc, Value.int .i64 pa] 26)
  have hB1 := hb1
  have hx5 := Box2.mk2 w1 (.int .i64 s5) (.slice a5 n5 c5) 24 (Obj.cells #[Value.int .i64 pc, Value.int .i64 pa] 26)
  have hy5 := Box2.mk1 w1 (Obj.cells #[Value.int .i64 s5, Value.slice a5 n5 c5] 24) (.int .i64 pc) (.int .i64 pa) 26
  have hz5 := hI1.below b2
  have hB1' := hB1.trans (b2.mono hB1.size)
  clear hI1 hb1 hB1 b2  
  have HB1 : Hid _ := hB1'
  have HX5 : Hid _ := hx5
  have HY5 : Hid _ := hy5
  have HI5 : Hid _ := hz5
  clear hx5 hy5 hz5
  clear hB1'
  go_wp2_with (go_at_call 9; fail)
  refine (CPY _).mono ?_
  rintro e w2 ⟨v2, rfl, hb2, hI2⟩
  obtain ⟨s7, a7, n7, c7, rfl⟩ := hI2.form
  unfold flt
  have b2 := bel2 w2 (Obj.cells #[Value.int .i64 s7, Value.slice a7 n7 c7] 24) (Obj.cells #[Value.int .i64 qc, Value.int .i64 qa] 26)
  have hB2 := HB1.out.trans (hb2.mono HB1.out.size)
  have hx5 := (HX5.out.below hb2).below b2
  have hy5 := (HY5.out.below hb2).below b2
  have hz5 := (IsInt.below HI5.out hb2).below b2
  obtain ⟨b5, hb5⟩ : ∃ b5, w1.heap.size = b5 := ⟨_, rfl⟩
  rw [hb5] at hx5 hy5 ⊢
  obtain ⟨d5, hd5⟩ : ∃ d5, b5 + 1 = d5 := ⟨_, rfl⟩
  rw [hd5] at hy5 ⊢
  clear hb5 hd5
  have hx7 := Box2.mk2 w2 (.int .i64 s7) (.slice a7 n7 c7) 24 (Obj.cells #[Value.int .i64 qc, Value.int .i64 qa] 26)
  have hy7 := Box2.mk1 w2 (Obj.cells #[Value.int .i64 s7, Value.slice a7 n7 c7] 24) (.int .i64 qc) (.int .i64 qa) 26
  have hz7 := hI2.below b2
  have hB2' := hB2.trans (b2.mono hB2.size)
  clear hI2 hb2 hB2 b2 HX5 HY5 HI5 HB1
  have HB2 : Hid _ := hB2'
  have HX5 : Hid _ := hx5
  have HY5 : Hid _ := hy5
  have HI5 : Hid _ := hz5
  clear hx5 hy5 hz5
  have HX7 : Hid _ := hx7
  have HY7 : Hid _ := hy7
  have HI7 : Hid _ := hz7
  clear hx7 hy7 hz7
  clear hB2'
  go_wp2_with (go_at_call 10; fail)
  refine (CZX _).mono ?_
  rintro e w3 ⟨v3, rfl, hb3, hI3⟩
  obtain ⟨s9, a9, n9, c9, rfl⟩ := hI3.form
  unfold flt
  have b2 := bel2 w3 (Obj.cells #[Value.bool s9, Value.slice a9 n9 c9] 31) (Obj.cells #[Value.int .i64 pc, Value.int .i64 pa] 26)
  have hB3 := HB2.out.trans (hb3.mono HB2.out.size)
  have hx5 := (HX5.out.below hb3).below b2
  have hy5 := (HY5.out.below hb3).below b2
  have hz5 := (IsInt.below HI5.out hb3).below b2
  have hx7 := (HX7.out.below hb3).below b2
  have hy7 := (HY7.out.below hb3).below b2
  have hz7 := (IsInt.below HI7.out hb3).below b2
  obtain ⟨b7, hb7⟩ : ∃ b7, w2.heap.size = b7 := ⟨_, rfl⟩
  rw [hb7] at hx7 hy7 ⊢
  obtain ⟨d7, hd7⟩ : ∃ d7, b7 + 1 = d7 := ⟨_, rfl⟩
  rw [hd7] at hy7 ⊢
  clear hb7 hd7
  have hx9 := Box2.mk2 w3 (.bool s9) (.slice a9 n9 c9) 31 (Obj.cells #[Value.int .i64 pc, Value.int .i64 pa] 26)
  have hy9 := Box2.mk1 w3 (Obj.cells #[Value.bool s9, Value.slice a9 n9 c9] 31) (.int .i64 pc) (.int .i64 pa) 26
  have hz9 := hI3.below b2
  have hB3' := hB3.trans (b2.mono hB3.size)
  clear hI3 hb3 hB3 b2 HX5 HY5 HI5 HX7 HY7 HI7 HB2
  have HB3 : Hid _ := hB3'
  have HX5 : Hid _ := hx5
  have HY5 : Hid _ := hy5
  have HI5 : Hid _ := hz5
  clear hx5 hy5 hz5
  have HX7 : Hid _ := hx7
  have HY7 : Hid _ := hy7
  have HI7 : Hid _ := hz7
  clear hx7 hy7 hz7
  have HX9 : Hid _ := hx9
  have HY9 : Hid _ := hy9
  have HI9 : Hid _ := hz9
  clear hx9 hy9 hz9
  clear hB3'
  go_wp2_with (go_at_call 10; fail)
  refine (CZY _).mono ?_
  rintro e w4 ⟨v4, rfl, hb4, hI4⟩
  obtain ⟨s11, a11, n11, c11, rfl⟩ := hI4.form
  unfold flt
  have b2 := bel2 w4 (Obj.cells #[Value.bool s11, Value.slice a11 n11 c11] 31) (Obj.cells #[Value.int .i64 qc, Value.int .i64 qa] 26)
  have hB4 := HB3.out.trans (hb4.mono HB3.out.size)
  have hx5 := (HX5.out.below hb4).below b2
  have hy5 := (HY5.out.below hb4).below b2
  have hz5 := (IsInt.below HI5.out hb4).below b2
  have hx7 := (HX7.out.below hb4).below b2
  have hy7 := (HY7.out.below hb4).below b2
  have hz7 := (IsInt.below HI7.out hb4).below b2
  have hx9 := (HX9.out.below hb4).below b2
  have hy9 := (HY9.out.below hb4).below b2
  have hz9 := (IsZ.below HI9.out hb4).below b2
  obtain ⟨b9, hb9⟩ : ∃ b9, w3.heap.size = b9 := ⟨_, rfl⟩
  rw [hb9] at hx9 hy9 ⊢
  obtain ⟨d9, hd9⟩ : ∃ d9, b9 + 1 = d9 := ⟨_, rfl⟩
  rw [hd9] at hy9 ⊢
  clear hb9 hd9
  have hx11 := Box2.mk2 w4 (.bool s11) (.slice a11 n11 c11) 31 (Obj.cells #[Value.int .i64 qc, Value.int .i64 qa] 26)
  have hy11 := Box2.mk1 w4 (Obj.cells #[Value.bool s11, Value.slice a11 n11 c11] 31) (.int .i64 qc) (.int .i64 qa) 26
  have hz11 := hI4.below b2
  have hB4' := hB4.trans (b2.mono hB4.size)
  clear hI4 hb4 hB4 b2 HX5 HY5 HI5 HX7 HY7 HI7 HX9 HY9 HI9 HB3
  have HB4 : Hid _ := hB4'
  have HX5 : Hid _ := hx5
  have HY5 : Hid _ := hy5
  have HI5 : Hid _ := hz5
  clear hx5 hy5 hz5
  have HX7 : Hid _ := hx7
  have HY7 : Hid _ := hy7
  have HI7 : Hid _ := hz7
  clear hx7 hy7 hz7
  have HX9 : Hid _ := hx9
  have HY9 : Hid _ := hy9
  have HI9 : Hid _ := hz9
  clear hx9 hy9 hz9
  have HX11 : Hid _ := hx11
  have HY11 : Hid _ := hy11
  have HI11 : Hid _ := hz11
  clear hx11 hy11 hz11
  clear hB4'
  clear CPX CPY CZX CZY
  go_wp2_with (go_at_call 11; fail)
  refine (numBegun_any _ (HT.out.below HB4.out)).mono ?_
  rintro e w5 ⟨rfl, hb5⟩
  have hx5 := HX5.out.below hb5
  have hy5 := HY5.out.below hb5
  have hz5 := IsInt.below HI5.out hb5
  have hx7 := HX7.out.below hb5
  have hy7 := HY7.out.below hb5
  have hz7 := IsInt.below HI7.out hb5
  have hx9 := HX9.out.below hb5
  have hy9 := HY9.out.below hb5
  have hz9 := IsZ.below HI9.out hb5
  have hx11 := HX11.out.below hb5
  have hy11 := HY11.out.below hb5
  have hz11 := IsZ.below HI11.out hb5
  obtain ⟨b11, hb11⟩ : ∃ b11, w4.heap.size = b11 := ⟨_, rfl⟩
  rw [hb11] at hx11 hy11 ⊢
  obtain ⟨d11, hd11⟩ : ∃ d11, b11 + 1 = d11 := ⟨_, rfl⟩
  rw [hd11] at hy11 ⊢
  clear hb11 hd11
  have hB5 := HB4.out.trans (hb5.mono HB4.out.size)
  have HR5 : Hid _ := (⟨hB5, hx5, hy5, hx7, hy7, hx9, hy9, hx11, hy11, hz5, hz7, hz9, hz11⟩ : RK w w5 pc pa qc qa x y b5 d5 b7 d7 b9 d9 b11 d11 s5 a5 n5 c5 s7 a7 n7 c7 s9 a9 n9 c9 s11 a11 n11 c11)
  clear HX5 HY5 HI5 HX7 HY7 HI7 HX9 HY9 HI9 HX11 HY11 HI11 HB4 hb5 hB5 hx5 hy5 hx7 hy7 hx9 hy9 hx11 hy11 hz5 hz7 hz9 hz11
  obtain ⟨-, ⟨l5, k50, k51⟩, ⟨m5, j50, j51⟩, ⟨l7, k70, k71⟩, ⟨m7, j70, j71⟩, ⟨l9, k90, k91⟩, ⟨m9, j90, j91⟩, ⟨l11, k110, k111⟩, ⟨m11, j110, j111⟩, -, -, -, -⟩ := HR5.out
  have hB1 : Below w.heap.size w w5 := HR5.out.below
  obtain ⟨M, hM⟩ : ∃ M, M = 250 + 250 := ⟨_, rfl⟩
  have hM1 : M ≤ 1073741824 := by omega
  have pow500 : 10000 ^ M ≤ B ^ 159 := powM M 125 B hM (by decide) (by unfold B; decide) B_pos
  have hbs := badd x y 250 M (by decide) hM HX1.out HY1.out
  have HM1 : Hid _ := hM1
  have HP : Hid _ := pow500
  clear hM hM1 pow500
  obtain ⟨BA, BS, BM⟩ := hbs
  have HBA : Hid _ := BA
  have HBS : Hid _ := BS
  have HBM : Hid _ := BM
  clear BA BS BM
  obtain ⟨tx1, hu1⟩ : ∃ u : ByteArray, u = ⟨(txt (x + y)).toArray⟩ := ⟨_, rfl⟩
  obtain ⟨tx2, hu2⟩ : ∃ u : ByteArray, u = ⟨(txt (x - y)).toArray⟩ := ⟨_, rfl⟩
  obtain ⟨tx3, hu3⟩ : ∃ u : ByteArray, u = ⟨(txt (x * y)).toArray⟩ := ⟨_, rfl⟩
  have HU1 : Hid _ := hu1
  have HU2 : Hid _ := hu2
  have HU3 : Hid _ := hu3
  clear hu1 hu2 hu3
  have CT1 : ∀ wx, Below w.heap.size w wx → ∀ v, IsInt wx v (x + y) → Calls Tryz.prog 14 #[v] wx fun e w' => e = .returned (.string tx1) ∧ Below wx.heap.size wx w' := fun wx h1 v hv => by
    rw [HU1.out]
    exact text_any wx _ _ hv (Nat.lt_of_lt_of_le HBA.out HP.out) (HT.out.below h1)
  have CT2 : ∀ wx, Below w.heap.size w wx → ∀ v, IsInt wx v (x - y) → Calls Tryz.prog 14 #[v] wx fun e w' => e = .returned (.string tx2) ∧ Below wx.heap.size wx w' := fun wx h1 v hv => by
    rw [HU2.out]
    exact text_any wx _ _ hv (Nat.lt_of_lt_of_le HBS.out HP.out) (HT.out.below h1)
  have CT3 : ∀ wx, Below w.heap.size w wx → ∀ v, IsInt wx v (x * y) → Calls Tryz.prog 14 #[v] wx fun e w' => e = .returned (.string tx3) ∧ Below wx.heap.size wx w' := fun wx h1 v hv => by
    rw [HU3.out]
    exact text_any wx _ _ hv (Nat.lt_of_lt_of_le HBM.out HP.out) (HT.out.below h1)
  have CZ1 : ∀ wx v, IsZ wx v (x + y) → Calls Tryz.prog 15 #[v] wx fun e w' => e = .returned (.string tx1) ∧ Below wx.heap.size wx w' := fun wx v hv => by
    rw [HU1.out]
    exact zText_any wx _ _ M hv HBA.out HM1.out
  have CZ2 : ∀ wx v, IsZ wx v (x - y) → Calls Tryz.prog 15 #[v] wx fun e w' => e = .returned (.string tx2) ∧ Below wx.heap.size wx w' := fun wx v hv => by
    rw [HU2.out]
    exact zText_any wx _ _ M hv HBS.out HM1.out
  have CZ3 : ∀ wx v, IsZ wx v (x * y) → Calls Tryz.prog 15 #[v] wx fun e w' => e = .returned (.string tx3) ∧ Below wx.heap.size wx w' := fun wx v hv => by
    rw [HU3.out]
    exact zText_any wx _ _ M hv HBM.out HM1.out
  go_wp2
  clear m5 j50 j51 m7 j70 j71 m9 j90 j91 m11 j110 j111
  refine wp_world (fun w1 => w1 = w5) rfl ?_
  rintro w1 rfl
  refine wp_drawn mixed [⟨45, [], [], [5]⟩, ⟨46, [], [], [7]⟩, ⟨47, [0, 1], [0, 1], []⟩, ⟨48, [2], [0, 1, 2], []⟩, ⟨49, [], [], [9]⟩, ⟨50, [], [], [11]⟩, ⟨51, [3, 4, 5], [0, 1, 2, 3, 4, 5], []⟩, ⟨52, [6], [0, 1, 2, 3, 4, 5, 6], []⟩, ⟨53, [3, 7], [0, 1, 2, 3, 4, 5, 6, 7], []⟩, ⟨54, [7, 8], [0, 1, 2, 3, 4, 5, 6, 7, 8], []⟩, ⟨55, [9], [0, 1, 2, 3, 4, 5, 6, 7, 8, 9], [5]⟩, ⟨56, [9], [0, 1, 2, 3, 4, 5, 6, 7, 8, 9], [7]⟩, ⟨57, [9, 10, 11], [0, 1, 2, 3, 4, 5, 6, 7, 8, 9, 10, 11], []⟩, ⟨58, [9, 12], [0, 1, 2, 3, 4, 5, 6, 7, 8, 9, 10, 11, 12], []⟩, ⟨59, [9], [0, 1, 2, 3, 4, 5, 6, 7, 8, 9], [9]⟩, ⟨60, [9], [0, 1, 2, 3, 4, 5, 6, 7, 8, 9], [11]⟩, ⟨61, [9, 13, 14, 15], [0, 1, 2, 3, 4, 5, 6, 7, 8, 9, 10, 11, 12, 13, 14, 15], []⟩, ⟨62, [9, 16], [0, 1, 2, 3, 4, 5, 6, 7, 8, 9, 10, 11, 12, 13, 14, 15, 16], []⟩, ⟨63, [9, 13, 17], [0, 1, 2, 3, 4, 5, 6, 7, 8, 9, 10, 11, 12, 13, 14, 15, 16, 17], []⟩, ⟨64, [9, 18], [0, 1, 2, 3, 4, 5, 6, 7, 8, 9, 10, 11, 12, 13, 14, 15, 16, 17, 18], []⟩, ⟨65, [17, 19], [0, 1, 2, 3, 4, 5, 6, 7, 8, 9, 10, 11, 12, 13, 14, 15, 16, 17, 18, 19], []⟩, ⟨66, [20], [0, 1, 2, 3, 4, 5, 6, 7, 8, 9, 10, 11, 12, 13, 14, 15, 16, 17, 18, 19, 20], [5]⟩, ⟨67, [20], [0, 1, 2, 3, 4, 5, 6, 7, 8, 9, 10, 11, 12, 13, 14, 15, 16, 17, 18, 19, 20], [7]⟩, ⟨68, [20, 21, 22], [0, 1, 2, 3, 4, 5, 6, 7, 8, 9, 10, 11, 12, 13, 14, 15, 16, 17, 18, 19, 20, 21, 22], []⟩, ⟨69, [20, 23], [0, 1, 2, 3, 4, 5, 6, 7, 8, 9, 10, 11, 12, 13, 14, 15, 16, 17, 18, 19, 20, 21, 22, 23], []⟩, ⟨70, [20], [0, 1, 2, 3, 4, 5, 6, 7, 8, 9, 10, 11, 12, 13, 14, 15, 16, 17, 18, 19, 20], [9]⟩, ⟨71, [20], [0, 1, 2, 3, 4, 5, 6, 7, 8, 9, 10, 11, 12, 13, 14, 15, 16, 17, 18, 19, 20], [11]⟩, ⟨72, [20, 24, 25, 26], [0, 1, 2, 3, 4, 5, 6, 7, 8, 9, 10, 11, 12, 13, 14, 15, 16, 17, 18, 19, 20, 21, 22, 23, 24, 25, 26], []⟩, ⟨73, [20, 27], [0, 1, 2, 3, 4, 5, 6, 7, 8, 9, 10, 11, 12, 13, 14, 15, 16, 17, 18, 19, 20, 21, 22, 23, 24, 25, 26, 27], []⟩, ⟨74, [20, 24, 28], [0, 1, 2, 3, 4, 5, 6, 7, 8, 9, 10, 11, 12, 13, 14, 15, 16, 17, 18, 19, 20, 21, 22, 23, 24, 25, 26, 27, 28], []⟩, ⟨75, [20, 29], [0, 1, 2, 3, 4, 5, 6, 7, 8, 9, 10, 11, 12, 13, 14, 15, 16, 17, 18, 19, 20, 21, 22, 23, 24, 25, 26, 27, 28, 29], []⟩] [] (by kernel_rfl) 92 rfl (by kernel_rfl) (fun (i : Nat) (v : Value) (wq : World) => match i with | 0 => v = .agg #[.int .i64 (s5), .slice a5 (n5) (c5)] | 1 => v = .agg #[.int .i64 (s7), .slice a7 (n7) (c7)] | 2 => IsInt wq v (x + y) | 3 => v = .string (tx1) | 4 => v = .agg #[.bool (s9), .slice a9 (n9) (c9)] | 5 => v = .agg #[.bool (s11), .slice a11 (n11) (c11)] | 6 => IsZ wq v (x + y) | 7 => v = .string (tx1) | 8 => v = .bool (false) | 9 => v = .bool (false) | 10 => v = .agg #[.int .i64 (s5), .slice a5 (n5) (c5)] | 11 => v = .agg #[.int .i64 (s7), .slice a7 (n7) (c7)] | 12 => IsInt wq v (x - y) | 13 => v = .string (tx2) | 14 => v = .agg #[.bool (s9), .slice a9 (n9) (c9)] | 15 => v = .agg #[.bool (s11), .slice a11 (n11) (c11)] | 16 => IsZ wq v (x - y) | 17 => v = .string (tx2) | 18 => v = .bool (false) | 19 => v = .bool (false) | 20 => v = .bool (false) | 21 => v = .agg #[.int .i64 (s5), .slice a5 (n5) (c5)] | 22 => v = .agg #[.int .i64 (s7), .slice a7 (n7) (c7)] | 23 => IsInt wq v (x * y) | 24 => v = .string (tx3) | 25 => v = .agg #[.bool (s9), .slice a9 (n9) (c9)] | 26 => v = .agg #[.bool (s11), .slice a11 (n11) (c11)] | 27 => IsZ wq v (x * y) | 28 => v = .string (tx3) | 29 => v = .bool (false) | 30 => v = .bool (false) | _ => True) (fun _ wq => Below w1.heap.size w1 wq) (fun wx wy => Below wx.heap.size wx wy) (Below.refl _ _).drew (fun i v wx wy h hx => match i, h with | 0, h => h | 1, h => h | 3, h => h | 4, h => h | 5, h => h | 7, h => h | 8, h => h | 9, h => h | 10, h => h | 11, h => h | 13, h => h | 14, h => h | 15, h => h | 17, h => h | 18, h => h | 19, h => h | 20, h => h | 21, h => h | 22, h => h | 24, h => h | 25, h => h | 26, h => h | 28, h => h | 29, h => h | 30, h => h | 2, h => (h : IsInt wx v (x + y)).below hx | 6, h => (h : IsZ wx v (x + y)).below hx | 12, h => (h : IsInt wx v (x - y)).below hx | 16, h => (h : IsZ wx v (x - y)).below hx | 23, h => (h : IsInt wx v (x * y)).below hx | 27, h => (h : IsZ wx v (x * y)).below hx | n + 31, _ => trivial) ?_ ?_
  · intro i o r ho hr L fr wx hW hL hpr hds hdef hpre hfree
    clear hL hpr hds hdef
    match i, ho, hr with
    | 0, ho, hr =>
      obtain rfl := Option.some.inj ho; obtain rfl := Option.some.inj hr
      have t5 := ev_tmp (show fr.eval (.tmp 5) = .pointer (some ⟨b5, 0, none⟩) from hfree 5 (by decide))
      clear hpre hfree
      have c0 := (hW.cell (p := ⟨b5, 0, none⟩) l5).trans k50
      have c1 := (hW.cell (p := ⟨b5, 1, none⟩) l5).trans k51
      refine stpK rfl rfl fun K hK => ?_
      go_simp
      exact hK _ _ ⟨rfl, hW, Below.refl _ _, fun h => (List.not_mem_nil h).elim⟩
    | 1, ho, hr =>
      obtain rfl := Option.some.inj ho; obtain rfl := Option.some.inj hr
      have t7 := ev_tmp (show fr.eval (.tmp 7) = .pointer (some ⟨b7, 0, none⟩) from hfree 7 (by decide))
      clear hpre hfree
      have c0 := (hW.cell (p := ⟨b7, 0, none⟩) l7).trans k70
      have c1 := (hW.cell (p := ⟨b7, 1, none⟩) l7).trans k71
      refine stpK rfl rfl fun K hK => ?_
      go_simp
      exact hK _ _ ⟨rfl, hW, Below.refl _ _, fun h => (List.not_mem_nil h).elim⟩
    | 2, ho, hr =>
      obtain rfl := Option.some.inj ho; obtain rfl := Option.some.inj hr
      have e0 := ev_tmp (show fr.eval (.tmp 45) = .agg #[.int .i64 (s5), .slice a5 (n5) (c5)] from hpre 0 (by decide) _ rfl)
      have e1 := ev_tmp (show fr.eval (.tmp 46) = .agg #[.int .i64 (s7), .slice a7 (n7) (c7)] from hpre 1 (by decide) _ rfl)
      clear hpre hfree
      refine stpK rfl rfl fun K hK => ?_
      go_simp
      refine (add_any wx _ _ x y 100 (HR5.out.i5.below hW) (HR5.out.i7.below hW) HX2.out HY2.out (by decide)).mono ?_
      rintro e wy ⟨v4, rfl, hb, hm4⟩
      exact hK _ _ ⟨hm4, hW.trans (hb.mono hW.size), hb, fun h => (List.not_mem_nil h).elim⟩
    | 3, ho, hr =>
      obtain rfl := Option.some.inj ho; obtain rfl := Option.some.inj hr
      obtain ⟨u2, q2⟩ : ∃ u, fr.eval (.tmp 47) = u := ⟨_, rfl⟩
      have p2 : IsInt wx u2 (x + y) := by rw [← q2]; exact hpre 2 (by decide) _ rfl
      have e2 := ev_tmp q2; clear q2
      clear hpre hfree
      refine stpK rfl rfl fun K hK => ?_
      go_simp
      refine (CT1 wx (hB1.trans (hW.mono hB1.size)) _ p2).mono ?_
      rintro e wy ⟨rfl, hb⟩
      exact hK _ _ ⟨rfl, hW.trans (hb.mono hW.size), hb, fun h => (List.not_mem_nil h).elim⟩
    | 4, ho, hr =>
      obtain rfl := Option.some.inj ho; obtain rfl := Option.some.inj hr
      have t9 := ev_tmp (show fr.eval (.tmp 9) = .pointer (some ⟨b9, 0, none⟩) from hfree 9 (by decide))
      clear hpre hfree
      have c0 := (hW.cell (p := ⟨b9, 0, none⟩) l9).trans k90
      have c1 := (hW.cell (p := ⟨b9, 1, none⟩) l9).trans k91
      refine stpK rfl rfl fun K hK => ?_
      go_simp
      exact hK _ _ ⟨rfl, hW, Below.refl _ _, fun h => (List.not_mem_nil h).elim⟩
    | 5, ho, hr =>
      obtain rfl := Option.some.inj ho; obtain rfl := Option.some.inj hr
      have t11 := ev_tmp (show fr.eval (.tmp 11) = .pointer (some ⟨b11, 0, none⟩) from hfree 11 (by decide))
      clear hpre hfree
      have c0 := (hW.cell (p := ⟨b11, 0, none⟩) l11).trans k110
      have c1 := (hW.cell (p := ⟨b11, 1, none⟩) l11).trans k111
      refine stpK rfl rfl fun K hK => ?_
      go_simp
      exact hK _ _ ⟨rfl, hW, Below.refl _ _, fun h => (List.not_mem_nil h).elim⟩
    | 6, ho, hr =>
      obtain rfl := Option.some.inj ho; obtain rfl := Option.some.inj hr
      have e4 := ev_tmp (show fr.eval (.tmp 49) = .agg #[.bool (s9), .slice a9 (n9) (c9)] from hpre 4 (by decide) _ rfl)
      have e5 := ev_tmp (show fr.eval (.tmp 50) = .agg #[.bool (s11), .slice a11 (n11) (c11)] from hpre 5 (by decide) _ rfl)
      clear hpre hfree
      refine stpK rfl rfl fun K hK => ?_
      go_simp
      refine (zAdd_any wx _ _ x y 250 (HR5.out.i9.below hW) (HR5.out.i11.below hW) HX1.out HY1.out (by decide)).mono ?_
      rintro e wy ⟨v4, rfl, hb, hm4⟩
      exact hK _ _ ⟨hm4, hW.trans (hb.mono hW.size), hb, fun h => (List.not_mem_nil h).elim⟩
    | 7, ho, hr =>
      obtain rfl := Option.some.inj ho; obtain rfl := Option.some.inj hr
      obtain ⟨u6, q6⟩ : ∃ u, fr.eval (.tmp 51) = u := ⟨_, rfl⟩
      have p6 : IsZ wx u6 (x + y) := by rw [← q6]; exact hpre 6 (by decide) _ rfl
      have e6 := ev_tmp q6; clear q6
      clear hpre hfree
      refine stpK rfl rfl fun K hK => ?_
      go_simp
      refine (CZ1 wx _ p6).mono ?_
      rintro e wy ⟨rfl, hb⟩
      exact hK _ _ ⟨rfl, hW.trans (hb.mono hW.size), hb, fun h => (List.not_mem_nil h).elim⟩
    | 8, ho, hr =>
      obtain rfl := Option.some.inj ho; obtain rfl := Option.some.inj hr
      have e3 := ev_tmp (show fr.eval (.tmp 48) = .string (tx1) from hpre 3 (by decide) _ rfl)
      have e7 := ev_tmp (show fr.eval (.tmp 52) = .string (tx1) from hpre 7 (by decide) _ rfl)
      clear hpre hfree
      refine stpK rfl rfl fun K hK => ?_
      go_simp
      exact hK _ _ ⟨rfl, hW, Below.refl _ _, fun h => (List.not_mem_nil h).elim⟩
    | 9, ho, hr =>
      obtain rfl := Option.some.inj ho; obtain rfl := Option.some.inj hr
      have e8 := ev_tmp (show fr.eval (.tmp 53) = .bool (false) from hpre 8 (by decide) _ rfl)
      clear hpre hfree
      refine stpK rfl rfl fun K hK => ?_
      go_simp
      exact hK _ _ ⟨rfl, hW, Below.refl _ _, fun h => (List.not_mem_nil h).elim⟩
    | 10, ho, hr =>
      obtain rfl := Option.some.inj ho; obtain rfl := Option.some.inj hr
      have e9 := ev_tmp (show fr.eval (.tmp 54) = .bool (false) from hpre 9 (by decide) _ rfl)
      have t5 := ev_tmp (show fr.eval (.tmp 5) = .pointer (some ⟨b5, 0, none⟩) from hfree 5 (by decide))
      clear hpre hfree
      have c0 := (hW.cell (p := ⟨b5, 0, none⟩) l5).trans k50
      have c1 := (hW.cell (p := ⟨b5, 1, none⟩) l5).trans k51
      refine stpK_g rfl rfl e9 rfl fun K hK => ?_
      go_simp
      exact hK _ _ ⟨rfl, hW, Below.refl _ _, fun h => (List.not_mem_nil h).elim⟩
    | 11, ho, hr =>
      obtain rfl := Option.some.inj ho; obtain rfl := Option.some.inj hr
      have e9 := ev_tmp (show fr.eval (.tmp 54) = .bool (false) from hpre 9 (by decide) _ rfl)
      have t7 := ev_tmp (show fr.eval (.tmp 7) = .pointer (some ⟨b7, 0, none⟩) from hfree 7 (by decide))
      clear hpre hfree
      have c0 := (hW.cell (p := ⟨b7, 0, none⟩) l7).trans k70
      have c1 := (hW.cell (p := ⟨b7, 1, none⟩) l7).trans k71
      refine stpK_g rfl rfl e9 rfl fun K hK => ?_
      go_simp
      exact hK _ _ ⟨rfl, hW, Below.refl _ _, fun h => (List.not_mem_nil h).elim⟩
    | 12, ho, hr =>
      obtain rfl := Option.some.inj ho; obtain rfl := Option.some.inj hr
      have e9 := ev_tmp (show fr.eval (.tmp 54) = .bool (false) from hpre 9 (by decide) _ rfl)
      have e10 := ev_tmp (show fr.eval (.tmp 55) = .agg #[.int .i64 (s5), .slice a5 (n5) (c5)] from hpre 10 (by decide) _ rfl)
      have e11 := ev_tmp (show fr.eval (.tmp 56) = .agg #[.int .i64 (s7), .slice a7 (n7) (c7)] from hpre 11 (by decide) _ rfl)
      clear hpre hfree
      refine stpK_g rfl rfl e9 rfl fun K hK => ?_
      go_simp
      refine (sub_any wx _ _ x y 100 (HR5.out.i5.below hW) (HR5.out.i7.below hW) HX2.out HY2.out (by decide)).mono ?_
      rintro e wy ⟨v4, rfl, hb, hm4⟩
      exact hK _ _ ⟨hm4, hW.trans (hb.mono hW.size), hb, fun h => (List.not_mem_nil h).elim⟩
    | 13, ho, hr =>
      obtain rfl := Option.some.inj ho; obtain rfl := Option.some.inj hr
      have e9 := ev_tmp (show fr.eval (.tmp 54) = .bool (false) from hpre 9 (by decide) _ rfl)
      obtain ⟨u12, q12⟩ : ∃ u, fr.eval (.tmp 57) = u := ⟨_, rfl⟩
      have p12 : IsInt wx u12 (x - y) := by rw [← q12]; exact hpre 12 (by decide) _ rfl
      have e12 := ev_tmp q12; clear q12
      clear hpre hfree
      refine stpK_g rfl rfl e9 rfl fun K hK => ?_
      go_simp
      refine (CT2 wx (hB1.trans (hW.mono hB1.size)) _ p12).mono ?_
      rintro e wy ⟨rfl, hb⟩
      exact hK _ _ ⟨rfl, hW.trans (hb.mono hW.size), hb, fun h => (List.not_mem_nil h).elim⟩
    | 14, ho, hr =>
      obtain rfl := Option.some.inj ho; obtain rfl := Option.some.inj hr
      have e9 := ev_tmp (show fr.eval (.tmp 54) = .bool (false) from hpre 9 (by decide) _ rfl)
      have t9 := ev_tmp (show fr.eval (.tmp 9) = .pointer (some ⟨b9, 0, none⟩) from hfree 9 (by decide))
      clear hpre hfree
      have c0 := (hW.cell (p := ⟨b9, 0, none⟩) l9).trans k90
      have c1 := (hW.cell (p := ⟨b9, 1, none⟩) l9).trans k91
      refine stpK_g rfl rfl e9 rfl fun K hK => ?_
      go_simp
      exact hK _ _ ⟨rfl, hW, Below.refl _ _, fun h => (List.not_mem_nil h).elim⟩
    | 15, ho, hr =>
      obtain rfl := Option.some.inj ho; obtain rfl := Option.some.inj hr
      have e9 := ev_tmp (show fr.eval (.tmp 54) = .bool (false) from hpre 9 (by decide) _ rfl)
      have t11 := ev_tmp (show fr.eval (.tmp 11) = .pointer (some ⟨b11, 0, none⟩) from hfree 11 (by decide))
      clear hpre hfree
      have c0 := (hW.cell (p := ⟨b11, 0, none⟩) l11).trans k110
      have c1 := (hW.cell (p := ⟨b11, 1, none⟩) l11).trans k111
      refine stpK_g rfl rfl e9 rfl fun K hK => ?_
      go_simp
      exact hK _ _ ⟨rfl, hW, Below.refl _ _, fun h => (List.not_mem_nil h).elim⟩
    | 16, ho, hr =>
      obtain rfl := Option.some.inj ho; obtain rfl := Option.some.inj hr
      have e9 := ev_tmp (show fr.eval (.tmp 54) = .bool (false) from hpre 9 (by decide) _ rfl)
      have e14 := ev_tmp (show fr.eval (.tmp 59) = .agg #[.bool (s9), .slice a9 (n9) (c9)] from hpre 14 (by decide) _ rfl)
      have e15 := ev_tmp (show fr.eval (.tmp 60) = .agg #[.bool (s11), .slice a11 (n11) (c11)] from hpre 15 (by decide) _ rfl)
      clear hpre hfree
      refine stpK_g rfl rfl e9 rfl fun K hK => ?_
      go_simp
      refine (zSub_any wx _ _ x y 250 (HR5.out.i9.below hW) (HR5.out.i11.below hW) HX1.out HY1.out (by decide)).mono ?_
      rintro e wy ⟨v4, rfl, hb, hm4⟩
      exact hK _ _ ⟨hm4, hW.trans (hb.mono hW.size), hb, fun h => (List.not_mem_nil h).elim⟩
    | 17, ho, hr =>
      obtain rfl := Option.some.inj ho; obtain rfl := Option.some.inj hr
      have e9 := ev_tmp (show fr.eval (.tmp 54) = .bool (false) from hpre 9 (by decide) _ rfl)
      obtain ⟨u16, q16⟩ : ∃ u, fr.eval (.tmp 61) = u := ⟨_, rfl⟩
      have p16 : IsZ wx u16 (x - y) := by rw [← q16]; exact hpre 16 (by decide) _ rfl
      have e16 := ev_tmp q16; clear q16
      clear hpre hfree
      refine stpK_g rfl rfl e9 rfl fun K hK => ?_
      go_simp
      refine (CZ2 wx _ p16).mono ?_
      rintro e wy ⟨rfl, hb⟩
      exact hK _ _ ⟨rfl, hW.trans (hb.mono hW.size), hb, fun h => (List.not_mem_nil h).elim⟩
    | 18, ho, hr =>
      obtain rfl := Option.some.inj ho; obtain rfl := Option.some.inj hr
      have e9 := ev_tmp (show fr.eval (.tmp 54) = .bool (false) from hpre 9 (by decide) _ rfl)
      have e13 := ev_tmp (show fr.eval (.tmp 58) = .string (tx2) from hpre 13 (by decide) _ rfl)
      have e17 := ev_tmp (show fr.eval (.tmp 62) = .string (tx2) from hpre 17 (by decide) _ rfl)
      clear hpre hfree
      refine stpK_g rfl rfl e9 rfl fun K hK => ?_
      go_simp
      exact hK _ _ ⟨rfl, hW, Below.refl _ _, fun h => (List.not_mem_nil h).elim⟩
    | 19, ho, hr =>
      obtain rfl := Option.some.inj ho; obtain rfl := Option.some.inj hr
      have e9 := ev_tmp (show fr.eval (.tmp 54) = .bool (false) from hpre 9 (by decide) _ rfl)
      have e18 := ev_tmp (show fr.eval (.tmp 63) = .bool (false) from hpre 18 (by decide) _ rfl)
      clear hpre hfree
      refine stpK rfl rfl fun K hK => ?_
      go_simp
      exact hK _ _ ⟨(by first | rfl | (simp; done)), hW, Below.refl _ _, fun h => (List.not_mem_nil h).elim⟩
    | 20, ho, hr =>
      obtain rfl := Option.some.inj ho; obtain rfl := Option.some.inj hr
      have e19 := ev_tmp (show fr.eval (.tmp 64) = .bool (false) from hpre 19 (by decide) _ rfl)
      clear hpre hfree
      refine stpK rfl rfl fun K hK => ?_
      go_simp
      exact hK _ _ ⟨rfl, hW, Below.refl _ _, fun h => (List.not_mem_nil h).elim⟩
    | 21, ho, hr =>
      obtain rfl := Option.some.inj ho; obtain rfl := Option.some.inj hr
      have e20 := ev_tmp (show fr.eval (.tmp 65) = .bool (false) from hpre 20 (by decide) _ rfl)
      have t5 := ev_tmp (show fr.eval (.tmp 5) = .pointer (some ⟨b5, 0, none⟩) from hfree 5 (by decide))
      clear hpre hfree
      have c0 := (hW.cell (p := ⟨b5, 0, none⟩) l5).trans k50
      have c1 := (hW.cell (p := ⟨b5, 1, none⟩) l5).trans k51
      refine stpK_g rfl rfl e20 rfl fun K hK => ?_
      go_simp
      exact hK _ _ ⟨rfl, hW, Below.refl _ _, fun h => (List.not_mem_nil h).elim⟩
    | 22, ho, hr =>
      obtain rfl := Option.some.inj ho; obtain rfl := Option.some.inj hr
      have e20 := ev_tmp (show fr.eval (.tmp 65) = .bool (false) from hpre 20 (by decide) _ rfl)
      have t7 := ev_tmp (show fr.eval (.tmp 7) = .pointer (some ⟨b7, 0, none⟩) from hfree 7 (by decide))
      clear hpre hfree
      have c0 := (hW.cell (p := ⟨b7, 0, none⟩) l7).trans k70
      have c1 := (hW.cell (p := ⟨b7, 1, none⟩) l7).trans k71
      refine stpK_g rfl rfl e20 rfl fun K hK => ?_
      go_simp
      exact hK _ _ ⟨rfl, hW, Below.refl _ _, fun h => (List.not_mem_nil h).elim⟩
    | 23, ho, hr =>
      obtain rfl := Option.some.inj ho; obtain rfl := Option.some.inj hr
      have e20 := ev_tmp (show fr.eval (.tmp 65) = .bool (false) from hpre 20 (by decide) _ rfl)
      have e21 := ev_tmp (show fr.eval (.tmp 66) = .agg #[.int .i64 (s5), .slice a5 (n5) (c5)] from hpre 21 (by decide) _ rfl)
      have e22 := ev_tmp (show fr.eval (.tmp 67) = .agg #[.int .i64 (s7), .slice a7 (n7) (c7)] from hpre 22 (by decide) _ rfl)
      clear hpre hfree
      refine stpK_g rfl rfl e20 rfl fun K hK => ?_
      go_simp
      refine (mul_any wx _ _ x y 100 100 (HR5.out.i5.below hW) (HR5.out.i7.below hW) HX2.out HY2.out (by decide)).mono ?_
      rintro e wy ⟨v4, rfl, hb, hm4⟩
      exact hK _ _ ⟨hm4, hW.trans (hb.mono hW.size), hb, fun h => (List.not_mem_nil h).elim⟩
    | 24, ho, hr =>
      obtain rfl := Option.some.inj ho; obtain rfl := Option.some.inj hr
      have e20 := ev_tmp (show fr.eval (.tmp 65) = .bool (false) from hpre 20 (by decide) _ rfl)
      obtain ⟨u23, q23⟩ : ∃ u, fr.eval (.tmp 68) = u := ⟨_, rfl⟩
      have p23 : IsInt wx u23 (x * y) := by rw [← q23]; exact hpre 23 (by decide) _ rfl
      have e23 := ev_tmp q23; clear q23
      clear hpre hfree
      refine stpK_g rfl rfl e20 rfl fun K hK => ?_
      go_simp
      refine (CT3 wx (hB1.trans (hW.mono hB1.size)) _ p23).mono ?_
      rintro e wy ⟨rfl, hb⟩
      exact hK _ _ ⟨rfl, hW.trans (hb.mono hW.size), hb, fun h => (List.not_mem_nil h).elim⟩
    | 25, ho, hr =>
      obtain rfl := Option.some.inj ho; obtain rfl := Option.some.inj hr
      have e20 := ev_tmp (show fr.eval (.tmp 65) = .bool (false) from hpre 20 (by decide) _ rfl)
      have t9 := ev_tmp (show fr.eval (.tmp 9) = .pointer (some ⟨b9, 0, none⟩) from hfree 9 (by decide))
      clear hpre hfree
      have c0 := (hW.cell (p := ⟨b9, 0, none⟩) l9).trans k90
      have c1 := (hW.cell (p := ⟨b9, 1, none⟩) l9).trans k91
      refine stpK_g rfl rfl e20 rfl fun K hK => ?_
      go_simp
      exact hK _ _ ⟨rfl, hW, Below.refl _ _, fun h => (List.not_mem_nil h).elim⟩
    | 26, ho, hr =>
      obtain rfl := Option.some.inj ho; obtain rfl := Option.some.inj hr
      have e20 := ev_tmp (show fr.eval (.tmp 65) = .bool (false) from hpre 20 (by decide) _ rfl)
      have t11 := ev_tmp (show fr.eval (.tmp 11) = .pointer (some ⟨b11, 0, none⟩) from hfree 11 (by decide))
      clear hpre hfree
      have c0 := (hW.cell (p := ⟨b11, 0, none⟩) l11).trans k110
      have c1 := (hW.cell (p := ⟨b11, 1, none⟩) l11).trans k111
      refine stpK_g rfl rfl e20 rfl fun K hK => ?_
      go_simp
      exact hK _ _ ⟨rfl, hW, Below.refl _ _, fun h => (List.not_mem_nil h).elim⟩
    | 27, ho, hr =>
      obtain rfl := Option.some.inj ho; obtain rfl := Option.some.inj hr
      have e20 := ev_tmp (show fr.eval (.tmp 65) = .bool (false) from hpre 20 (by decide) _ rfl)
      have e25 := ev_tmp (show fr.eval (.tmp 70) = .agg #[.bool (s9), .slice a9 (n9) (c9)] from hpre 25 (by decide) _ rfl)
      have e26 := ev_tmp (show fr.eval (.tmp 71) = .agg #[.bool (s11), .slice a11 (n11) (c11)] from hpre 26 (by decide) _ rfl)
      clear hpre hfree
      refine stpK_g rfl rfl e20 rfl fun K hK => ?_
      go_simp
      refine (zMul_any wx _ _ x y 250 (HR5.out.i9.below hW) (HR5.out.i11.below hW) HX1.out HY1.out (by decide)).mono ?_
      rintro e wy ⟨v4, rfl, hb, hm4⟩
      exact hK _ _ ⟨hm4, hW.trans (hb.mono hW.size), hb, fun h => (List.not_mem_nil h).elim⟩
    | 28, ho, hr =>
      obtain rfl := Option.some.inj ho; obtain rfl := Option.some.inj hr
      have e20 := ev_tmp (show fr.eval (.tmp 65) = .bool (false) from hpre 20 (by decide) _ rfl)
      obtain ⟨u27, q27⟩ : ∃ u, fr.eval (.tmp 72) = u := ⟨_, rfl⟩
      have p27 : IsZ wx u27 (x * y) := by rw [← q27]; exact hpre 27 (by decide) _ rfl
      have e27 := ev_tmp q27; clear q27
      clear hpre hfree
      refine stpK_g rfl rfl e20 rfl fun K hK => ?_
      go_simp
      refine (CZ3 wx _ p27).mono ?_
      rintro e wy ⟨rfl, hb⟩
      exact hK _ _ ⟨rfl, hW.trans (hb.mono hW.size), hb, fun h => (List.not_mem_nil h).elim⟩
    | 29, ho, hr =>
      obtain rfl := Option.some.inj ho; obtain rfl := Option.some.inj hr
      have e20 := ev_tmp (show fr.eval (.tmp 65) = .bool (false) from hpre 20 (by decide) _ rfl)
      have e24 := ev_tmp (show fr.eval (.tmp 69) = .string (tx3) from hpre 24 (by decide) _ rfl)
      have e28 := ev_tmp (show fr.eval (.tmp 73) = .string (tx3) from hpre 28 (by decide) _ rfl)
      clear hpre hfree
      refine stpK_g rfl rfl e20 rfl fun K hK => ?_
      go_simp
      exact hK _ _ ⟨rfl, hW, Below.refl _ _, fun h => (List.not_mem_nil h).elim⟩
    | 30, ho, hr =>
      obtain rfl := Option.some.inj ho; obtain rfl := Option.some.inj hr
      have e20 := ev_tmp (show fr.eval (.tmp 65) = .bool (false) from hpre 20 (by decide) _ rfl)
      have e29 := ev_tmp (show fr.eval (.tmp 74) = .bool (false) from hpre 29 (by decide) _ rfl)
      clear hpre hfree
      refine stpK rfl rfl fun K hK => ?_
      go_simp
      exact hK _ _ ⟨(by first | rfl | (simp; done)), hW, Below.refl _ _, fun h => (List.not_mem_nil h).elim⟩
    | n + 31, ho, hr => exact absurd hr (by simp)
  · intro vs wn hvs hW1 hap0
    clear hap0
    have e0 : vs 0 = .agg #[.int .i64 (s5), .slice a5 (n5) (c5)] := hvs 0 (by decide)
    have e1 : vs 1 = .agg #[.int .i64 (s7), .slice a7 (n7) (c7)] := hvs 1 (by decide)
    obtain ⟨u2, e2⟩ : ∃ u, vs 2 = u := ⟨_, rfl⟩
    have p2 : IsInt wn u2 (x + y) := by rw [← e2]; exact hvs 2 (by decide)
    have e3 : vs 3 = .string (tx1) := hvs 3 (by decide)
    have e4 : vs 4 = .agg #[.bool (s9), .slice a9 (n9) (c9)] := hvs 4 (by decide)
    have e5 : vs 5 = .agg #[.bool (s11), .slice a11 (n11) (c11)] := hvs 5 (by decide)
    obtain ⟨u6, e6⟩ : ∃ u, vs 6 = u := ⟨_, rfl⟩
    have p6 : IsZ wn u6 (x + y) := by rw [← e6]; exact hvs 6 (by decide)
    have e7 : vs 7 = .string (tx1) := hvs 7 (by decide)
    have e8 : vs 8 = .bool (false) := hvs 8 (by decide)
    have e9 : vs 9 = .bool (false) := hvs 9 (by decide)
    have e10 : vs 10 = .agg #[.int .i64 (s5), .slice a5 (n5) (c5)] := hvs 10 (by decide)
    have e11 : vs 11 = .agg #[.int .i64 (s7), .slice a7 (n7) (c7)] := hvs 11 (by decide)
    obtain ⟨u12, e12⟩ : ∃ u, vs 12 = u := ⟨_, rfl⟩
    have p12 : IsInt wn u12 (x - y) := by rw [← e12]; exact hvs 12 (by decide)
    have e13 : vs 13 = .string (tx2) := hvs 13 (by decide)
    have e14 : vs 14 = .agg #[.bool (s9), .slice a9 (n9) (c9)] := hvs 14 (by decide)
    have e15 : vs 15 = .agg #[.bool (s11), .slice a11 (n11) (c11)] := hvs 15 (by decide)
    obtain ⟨u16, e16⟩ : ∃ u, vs 16 = u := ⟨_, rfl⟩
    have p16 : IsZ wn u16 (x - y) := by rw [← e16]; exact hvs 16 (by decide)
    have e17 : vs 17 = .string (tx2) := hvs 17 (by decide)
    have e18 : vs 18 = .bool (false) := hvs 18 (by decide)
    have e19 : vs 19 = .bool (false) := hvs 19 (by decide)
    have e20 : vs 20 = .bool (false) := hvs 20 (by decide)
    have e21 : vs 21 = .agg #[.int .i64 (s5), .slice a5 (n5) (c5)] := hvs 21 (by decide)
    have e22 : vs 22 = .agg #[.int .i64 (s7), .slice a7 (n7) (c7)] := hvs 22 (by decide)
    obtain ⟨u23, e23⟩ : ∃ u, vs 23 = u := ⟨_, rfl⟩
    have p23 : IsInt wn u23 (x * y) := by rw [← e23]; exact hvs 23 (by decide)
    have e24 : vs 24 = .string (tx3) := hvs 24 (by decide)
    have e25 : vs 25 = .agg #[.bool (s9), .slice a9 (n9) (c9)] := hvs 25 (by decide)
    have e26 : vs 26 = .agg #[.bool (s11), .slice a11 (n11) (c11)] := hvs 26 (by decide)
    obtain ⟨u27, e27⟩ : ∃ u, vs 27 = u := ⟨_, rfl⟩
    have p27 : IsZ wn u27 (x * y) := by rw [← e27]; exact hvs 27 (by decide)
    have e28 : vs 28 = .string (tx3) := hvs 28 (by decide)
    have e29 : vs 29 = .bool (false) := hvs 29 (by decide)
    have e30 : vs 30 = .bool (false) := hvs 30 (by decide)
    simp only [puts, Nat.reduceAdd, e0, e1, e2, e3, e4, e5, e6, e7, e8, e9, e10, e11, e12, e13, e14, e15, e16, e17, e18, e19, e20, e21, e22, e23, e24, e25, e26, e27, e28, e29, e30, Act.put, List.setIfInBounds_toArray, List.set_cons_zero, List.set_cons_succ, List.drop_succ_cons, List.drop_zero, List.length_cons, List.length_nil]
    clear hvs e0 e1 e2 e3 e4 e5 e6 e7 e8 e9 e10 e11 e12 e13 e14 e15 e16 e17 e18 e19 e20 e21 e22 e23 e24 e25 e26 e27 e28 e29 e30
    have HR6 : Hid _ := HR5.out.step hW1
    replace hB1 := HR6.out.below
    clear l5 l7 l9 l11 k50 k51 k70 k71 k90 k91 k110 k111 hW1 HR5 CT1 CT2 CT3 CZ1 CZ2 CZ3 p2 p6 p12 p16 p23 p27
    obtain ⟨-, ⟨l5, k50, k51⟩, -, ⟨l7, k70, k71⟩, -, ⟨l9, k90, k91⟩, -, ⟨l11, k110, k111⟩, -, -, -, -, -⟩ := HR6.out
    obtain ⟨g1, hg1⟩ : ∃ g, cmpI x y = g := ⟨_, rfl⟩
    obtain ⟨g2, hg2⟩ : ∃ g, cmpI y x = g := ⟨_, rfl⟩
    have HG1 : Hid _ := hg1
    have HG2 : Hid _ := hg2
    clear hg1 hg2
    have C1 : ∀ wx, Below wn.heap.size wn wx → Calls Tryz.prog 28 #[.agg #[.int .i64 s5, .slice a5 n5 c5], .agg #[.int .i64 s7, .slice a7 n7 c7]] wx fun e w' => e = .returned (.int .i64 g1) ∧ Below wx.heap.size wx w' := fun wx h2 => by
      rw [← HG1.out]
      exact cmp_any wx _ _ x y 100 (HR6.out.i5.below h2) (HR6.out.i7.below h2) HX2.out HY2.out (by decide)
    have C2 : ∀ wx, Below wn.heap.size wn wx → Calls Tryz.prog 28 #[.agg #[.int .i64 s7, .slice a7 n7 c7], .agg #[.int .i64 s5, .slice a5 n5 c5]] wx fun e w' => e = .returned (.int .i64 g2) ∧ Below wx.heap.size wx w' := fun wx h2 => by
      rw [← HG2.out]
      exact cmp_any wx _ _ y x 100 (HR6.out.i7.below h2) (HR6.out.i5.below h2) HY2.out HX2.out (by decide)
    have D1 : ∀ wx, Below wn.heap.size wn wx → Calls Tryz.prog 29 #[.agg #[.bool s9, .slice a9 n9 c9], .agg #[.bool s11, .slice a11 n11 c11]] wx fun e w' => e = .returned (.int .i64 g1) ∧ Below wx.heap.size wx w' := fun wx h2 => by
      rw [← HG1.out]
      exact zCmp_any wx _ _ x y 250 (HR6.out.i9.below h2) (HR6.out.i11.below h2) HX1.out HY1.out (by decide)
    have D2 : ∀ wx, Below wn.heap.size wn wx → Calls Tryz.prog 29 #[.agg #[.bool s11, .slice a11 n11 c11], .agg #[.bool s9, .slice a9 n9 c9]] wx fun e w' => e = .returned (.int .i64 g2) ∧ Below wx.heap.size wx w' := fun wx h2 => by
      rw [← HG2.out]
      exact zCmp_any wx _ _ y x 250 (HR6.out.i11.below h2) (HR6.out.i9.below h2) HY1.out HX1.out (by decide)
    go_wp2
    refine wp_world (fun w1 => w1 = wn) rfl ?_
    rintro w1 rfl
    refine wp_drawn mixed [⟨76, [], [], [5]⟩, ⟨77, [], [], [7]⟩, ⟨78, [0, 1], [0, 1], []⟩, ⟨79, [], [], [9]⟩, ⟨80, [], [], [11]⟩, ⟨81, [2, 3, 4], [0, 1, 2, 3, 4], []⟩, ⟨82, [2, 5], [0, 1, 2, 3, 4, 5], []⟩, ⟨83, [5, 6], [0, 1, 2, 3, 4, 5, 6], []⟩, ⟨84, [7], [0, 1, 2, 3, 4, 5, 6, 7], [7]⟩, ⟨85, [7], [0, 1, 2, 3, 4, 5, 6, 7], [5]⟩, ⟨86, [7, 8, 9], [0, 1, 2, 3, 4, 5, 6, 7, 8, 9], []⟩, ⟨87, [7], [0, 1, 2, 3, 4, 5, 6, 7], [11]⟩, ⟨88, [7], [0, 1, 2, 3, 4, 5, 6, 7], [9]⟩, ⟨89, [7, 10, 11, 12], [0, 1, 2, 3, 4, 5, 6, 7, 8, 9, 10, 11, 12], []⟩, ⟨90, [7, 10, 13], [0, 1, 2, 3, 4, 5, 6, 7, 8, 9, 10, 11, 12, 13], []⟩, ⟨91, [7, 14], [0, 1, 2, 3, 4, 5, 6, 7, 8, 9, 10, 11, 12, 13, 14], []⟩, ⟨4, [0, 1, 2, 3, 4, 5, 6, 7, 8, 9, 10, 11, 12, 13, 14, 15], [0, 1, 2, 3, 4, 5, 6, 7, 8, 9, 10, 11, 12, 13, 14, 15], []⟩] [] (by kernel_rfl) 92 rfl (by kernel_rfl) (fun (i : Nat) (v : Value) (wq : World) => match i with | 0 => v = .agg #[.int .i64 (s5), .slice a5 (n5) (c5)] | 1 => v = .agg #[.int .i64 (s7), .slice a7 (n7) (c7)] | 2 => v = .int .i64 (g1) | 3 => v = .agg #[.bool (s9), .slice a9 (n9) (c9)] | 4 => v = .agg #[.bool (s11), .slice a11 (n11) (c11)] | 5 => v = .int .i64 (g1) | 6 => v = .bool (true) | 7 => v = .bool (true) | 8 => v = .agg #[.int .i64 (s7), .slice a7 (n7) (c7)] | 9 => v = .agg #[.int .i64 (s5), .slice a5 (n5) (c5)] | 10 => v = .int .i64 (g2) | 11 => v = .agg #[.bool (s11), .slice a11 (n11) (c11)] | 12 => v = .agg #[.bool (s9), .slice a9 (n9) (c9)] | 13 => v = .int .i64 (g2) | 14 => v = .bool (true) | 15 => v = .bool (true) | 16 => v = .bool (true) | _ => True) (fun _ wq => Below w1.heap.size w1 wq) (fun wx wy => Below wx.heap.size wx wy) (Below.refl _ _).drew (fun i v wx wy h hx => match i, h with | 0, h => h | 1, h => h | 2, h => h | 3, h => h | 4, h => h | 5, h => h | 6, h => h | 7, h => h | 8, h => h | 9, h => h | 10, h => h | 11, h => h | 12, h => h | 13, h => h | 14, h => h | 15, h => h | 16, h => h  | n + 17, _ => trivial) ?_ ?_
    · intro i o r ho hr L fr wx hW hL hpr hds hdef hpre hfree
      clear hL hpr hds hdef
      match i, ho, hr with
      | 0, ho, hr =>
        obtain rfl := Option.some.inj ho; obtain rfl := Option.some.inj hr
        have t5 := ev_tmp (show fr.eval (.tmp 5) = .pointer (some ⟨b5, 0, none⟩) from hfree 5 (by decide))
        clear hpre hfree
        have c0 := (hW.cell (p := ⟨b5, 0, none⟩) l5).trans k50
        have c1 := (hW.cell (p := ⟨b5, 1, none⟩) l5).trans k51
        refine stpK rfl rfl fun K hK => ?_
        go_simp
        exact hK _ _ ⟨rfl, hW, Below.refl _ _, fun h => (List.not_mem_nil h).elim⟩
      | 1, ho, hr =>
        obtain rfl := Option.some.inj ho; obtain rfl := Option.some.inj hr
        have t7 := ev_tmp (show fr.eval (.tmp 7) = .pointer (some ⟨b7, 0, none⟩) from hfree 7 (by decide))
        clear hpre hfree
        have c0 := (hW.cell (p := ⟨b7, 0, none⟩) l7).trans k70
        have c1 := (hW.cell (p := ⟨b7, 1, none⟩) l7).trans k71
        refine stpK rfl rfl fun K hK => ?_
        go_simp
        exact hK _ _ ⟨rfl, hW, Below.refl _ _, fun h => (List.not_mem_nil h).elim⟩
      | 2, ho, hr =>
        obtain rfl := Option.some.inj ho; obtain rfl := Option.some.inj hr
        have e0 := ev_tmp (show fr.eval (.tmp 76) = .agg #[.int .i64 (s5), .slice a5 (n5) (c5)] from hpre 0 (by decide) _ rfl)
        have e1 := ev_tmp (show fr.eval (.tmp 77) = .agg #[.int .i64 (s7), .slice a7 (n7) (c7)] from hpre 1 (by decide) _ rfl)
        clear hpre hfree
        refine stpK rfl rfl fun K hK => ?_
        go_simp
        refine (C1 wx hW).mono ?_
        rintro e wy ⟨rfl, hb⟩
        exact hK _ _ ⟨rfl, hW.trans (hb.mono hW.size), hb, fun h => (List.not_mem_nil h).elim⟩
      | 3, ho, hr =>
        obtain rfl := Option.some.inj ho; obtain rfl := Option.some.inj hr
        have t9 := ev_tmp (show fr.eval (.tmp 9) = .pointer (some ⟨b9, 0, none⟩) from hfree 9 (by decide))
        clear hpre hfree
        have c0 := (hW.cell (p := ⟨b9, 0, none⟩) l9).trans k90
        have c1 := (hW.cell (p := ⟨b9, 1, none⟩) l9).trans k91
        refine stpK rfl rfl fun K hK => ?_
        go_simp
        exact hK _ _ ⟨rfl, hW, Below.refl _ _, fun h => (List.not_mem_nil h).elim⟩
      | 4, ho, hr =>
        obtain rfl := Option.some.inj ho; obtain rfl := Option.some.inj hr
        have t11 := ev_tmp (show fr.eval (.tmp 11) = .pointer (some ⟨b11, 0, none⟩) from hfree 11 (by decide))
        clear hpre hfree
        have c0 := (hW.cell (p := ⟨b11, 0, none⟩) l11).trans k110
        have c1 := (hW.cell (p := ⟨b11, 1, none⟩) l11).trans k111
        refine stpK rfl rfl fun K hK => ?_
        go_simp
        exact hK _ _ ⟨rfl, hW, Below.refl _ _, fun h => (List.not_mem_nil h).elim⟩
      | 5, ho, hr =>
        obtain rfl := Option.some.inj ho; obtain rfl := Option.some.inj hr
        have e3 := ev_tmp (show fr.eval (.tmp 79) = .agg #[.bool (s9), .slice a9 (n9) (c9)] from hpre 3 (by decide) _ rfl)
        have e4 := ev_tmp (show fr.eval (.tmp 80) = .agg #[.bool (s11), .slice a11 (n11) (c11)] from hpre 4 (by decide) _ rfl)
        clear hpre hfree
        refine stpK rfl rfl fun K hK => ?_
        go_simp
        refine (D1 wx hW).mono ?_
        rintro e wy ⟨rfl, hb⟩
        exact hK _ _ ⟨rfl, hW.trans (hb.mono hW.size), hb, fun h => (List.not_mem_nil h).elim⟩
      | 6, ho, hr =>
        obtain rfl := Option.some.inj ho; obtain rfl := Option.some.inj hr
        have e2 := ev_tmp (show fr.eval (.tmp 78) = .int .i64 (g1) from hpre 2 (by decide) _ rfl)
        have e5 := ev_tmp (show fr.eval (.tmp 81) = .int .i64 (g1) from hpre 5 (by decide) _ rfl)
        clear hpre hfree
        refine stpK rfl rfl fun K hK => ?_
        go_simp
        exact hK _ _ ⟨(by first | rfl | (simp; done)), hW, Below.refl _ _, fun h => (List.not_mem_nil h).elim⟩
      | 7, ho, hr =>
        obtain rfl := Option.some.inj ho; obtain rfl := Option.some.inj hr
        have e6 := ev_tmp (show fr.eval (.tmp 82) = .bool (true) from hpre 6 (by decide) _ rfl)
        clear hpre hfree
        refine stpK rfl rfl fun K hK => ?_
        go_simp
        exact hK _ _ ⟨rfl, hW, Below.refl _ _, fun h => (List.not_mem_nil h).elim⟩
      | 8, ho, hr =>
        obtain rfl := Option.some.inj ho; obtain rfl := Option.some.inj hr
        have e7 := ev_tmp (show fr.eval (.tmp 83) = .bool (true) from hpre 7 (by decide) _ rfl)
        have t7 := ev_tmp (show fr.eval (.tmp 7) = .pointer (some ⟨b7, 0, none⟩) from hfree 7 (by decide))
        clear hpre hfree
        have c0 := (hW.cell (p := ⟨b7, 0, none⟩) l7).trans k70
        have c1 := (hW.cell (p := ⟨b7, 1, none⟩) l7).trans k71
        refine stpK_g rfl rfl e7 rfl fun K hK => ?_
        go_simp
        exact hK _ _ ⟨rfl, hW, Below.refl _ _, fun h => (List.not_mem_nil h).elim⟩
      | 9, ho, hr =>
        obtain rfl := Option.some.inj ho; obtain rfl := Option.some.inj hr
        have e7 := ev_tmp (show fr.eval (.tmp 83) = .bool (true) from hpre 7 (by decide) _ rfl)
        have t5 := ev_tmp (show fr.eval (.tmp 5) = .pointer (some ⟨b5, 0, none⟩) from hfree 5 (by decide))
        clear hpre hfree
        have c0 := (hW.cell (p := ⟨b5, 0, none⟩) l5).trans k50
        have c1 := (hW.cell (p := ⟨b5, 1, none⟩) l5).trans k51
        refine stpK_g rfl rfl e7 rfl fun K hK => ?_
        go_simp
        exact hK _ _ ⟨rfl, hW, Below.refl _ _, fun h => (List.not_mem_nil h).elim⟩
      | 10, ho, hr =>
        obtain rfl := Option.some.inj ho; obtain rfl := Option.some.inj hr
        have e7 := ev_tmp (show fr.eval (.tmp 83) = .bool (true) from hpre 7 (by decide) _ rfl)
        have e8 := ev_tmp (show fr.eval (.tmp 84) = .agg #[.int .i64 (s7), .slice a7 (n7) (c7)] from hpre 8 (by decide) _ rfl)
        have e9 := ev_tmp (show fr.eval (.tmp 85) = .agg #[.int .i64 (s5), .slice a5 (n5) (c5)] from hpre 9 (by decide) _ rfl)
        clear hpre hfree
        refine stpK_g rfl rfl e7 rfl fun K hK => ?_
        go_simp
        refine (C2 wx hW).mono ?_
        rintro e wy ⟨rfl, hb⟩
        exact hK _ _ ⟨rfl, hW.trans (hb.mono hW.size), hb, fun h => (List.not_mem_nil h).elim⟩
      | 11, ho, hr =>
        obtain rfl := Option.some.inj ho; obtain rfl := Option.some.inj hr
        have e7 := ev_tmp (show fr.eval (.tmp 83) = .bool (true) from hpre 7 (by decide) _ rfl)
        have t11 := ev_tmp (show fr.eval (.tmp 11) = .pointer (some ⟨b11, 0, none⟩) from hfree 11 (by decide))
        clear hpre hfree
        have c0 := (hW.cell (p := ⟨b11, 0, none⟩) l11).trans k110
        have c1 := (hW.cell (p := ⟨b11, 1, none⟩) l11).trans k111
        refine stpK_g rfl rfl e7 rfl fun K hK => ?_
        go_simp
        exact hK _ _ ⟨rfl, hW, Below.refl _ _, fun h => (List.not_mem_nil h).elim⟩
      | 12, ho, hr =>
        obtain rfl := Option.some.inj ho; obtain rfl := Option.some.inj hr
        have e7 := ev_tmp (show fr.eval (.tmp 83) = .bool (true) from hpre 7 (by decide) _ rfl)
        have t9 := ev_tmp (show fr.eval (.tmp 9) = .pointer (some ⟨b9, 0, none⟩) from hfree 9 (by decide))
        clear hpre hfree
        have c0 := (hW.cell (p := ⟨b9, 0, none⟩) l9).trans k90
        have c1 := (hW.cell (p := ⟨b9, 1, none⟩) l9).trans k91
        refine stpK_g rfl rfl e7 rfl fun K hK => ?_
        go_simp
        exact hK _ _ ⟨rfl, hW, Below.refl _ _, fun h => (List.not_mem_nil h).elim⟩
      | 13, ho, hr =>
        obtain rfl := Option.some.inj ho; obtain rfl := Option.some.inj hr
        have e7 := ev_tmp (show fr.eval (.tmp 83) = .bool (true) from hpre 7 (by decide) _ rfl)
        have e11 := ev_tmp (show fr.eval (.tmp 87) = .agg #[.bool (s11), .slice a11 (n11) (c11)] from hpre 11 (by decide) _ rfl)
        have e12 := ev_tmp (show fr.eval (.tmp 88) = .agg #[.bool (s9), .slice a9 (n9) (c9)] from hpre 12 (by decide) _ rfl)
        clear hpre hfree
        refine stpK_g rfl rfl e7 rfl fun K hK => ?_
        go_simp
        refine (D2 wx hW).mono ?_
        rintro e wy ⟨rfl, hb⟩
        exact hK _ _ ⟨rfl, hW.trans (hb.mono hW.size), hb, fun h => (List.not_mem_nil h).elim⟩
      | 14, ho, hr =>
        obtain rfl := Option.some.inj ho; obtain rfl := Option.some.inj hr
        have e7 := ev_tmp (show fr.eval (.tmp 83) = .bool (true) from hpre 7 (by decide) _ rfl)
        have e10 := ev_tmp (show fr.eval (.tmp 86) = .int .i64 (g2) from hpre 10 (by decide) _ rfl)
        have e13 := ev_tmp (show fr.eval (.tmp 89) = .int .i64 (g2) from hpre 13 (by decide) _ rfl)
        clear hpre hfree
        refine stpK_g rfl rfl e7 rfl fun K hK => ?_
        go_simp
        exact hK _ _ ⟨(by first | rfl | (simp; done)), hW, Below.refl _ _, fun h => (List.not_mem_nil h).elim⟩
      | 15, ho, hr =>
        obtain rfl := Option.some.inj ho; obtain rfl := Option.some.inj hr
        have e7 := ev_tmp (show fr.eval (.tmp 83) = .bool (true) from hpre 7 (by decide) _ rfl)
        have e14 := ev_tmp (show fr.eval (.tmp 90) = .bool (true) from hpre 14 (by decide) _ rfl)
        clear hpre hfree
        refine stpK rfl rfl fun K hK => ?_
        go_simp
        exact hK _ _ ⟨(by first | rfl | (simp; done)), hW, Below.refl _ _, fun h => (List.not_mem_nil h).elim⟩
      | 16, ho, hr =>
        obtain rfl := Option.some.inj ho; obtain rfl := Option.some.inj hr
        have e15 := ev_tmp (show fr.eval (.tmp 91) = .bool (true) from hpre 15 (by decide) _ rfl)
        clear hpre hfree
        refine stpK rfl rfl fun K hK => ?_
        go_simp
        exact hK _ _ ⟨rfl, hW, Below.refl _ _, fun h => (List.not_mem_nil h).elim⟩
      | n + 17, ho, hr => exact absurd hr (by simp)
    · intro vs wn hvs hW1 hap0
      clear hap0
      have e0 : vs 0 = .agg #[.int .i64 (s5), .slice a5 (n5) (c5)] := hvs 0 (by decide)
      have e1 : vs 1 = .agg #[.int .i64 (s7), .slice a7 (n7) (c7)] := hvs 1 (by decide)
      have e2 : vs 2 = .int .i64 (g1) := hvs 2 (by decide)
      have e3 : vs 3 = .agg #[.bool (s9), .slice a9 (n9) (c9)] := hvs 3 (by decide)
      have e4 : vs 4 = .agg #[.bool (s11), .slice a11 (n11) (c11)] := hvs 4 (by decide)
      have e5 : vs 5 = .int .i64 (g1) := hvs 5 (by decide)
      have e6 : vs 6 = .bool (true) := hvs 6 (by decide)
      have e7 : vs 7 = .bool (true) := hvs 7 (by decide)
      have e8 : vs 8 = .agg #[.int .i64 (s7), .slice a7 (n7) (c7)] := hvs 8 (by decide)
      have e9 : vs 9 = .agg #[.int .i64 (s5), .slice a5 (n5) (c5)] := hvs 9 (by decide)
      have e10 : vs 10 = .int .i64 (g2) := hvs 10 (by decide)
      have e11 : vs 11 = .agg #[.bool (s11), .slice a11 (n11) (c11)] := hvs 11 (by decide)
      have e12 : vs 12 = .agg #[.bool (s9), .slice a9 (n9) (c9)] := hvs 12 (by decide)
      have e13 : vs 13 = .int .i64 (g2) := hvs 13 (by decide)
      have e14 : vs 14 = .bool (true) := hvs 14 (by decide)
      have e15 : vs 15 = .bool (true) := hvs 15 (by decide)
      have e16 : vs 16 = .bool (true) := hvs 16 (by decide)
      simp only [puts, Nat.reduceAdd, e0, e1, e2, e3, e4, e5, e6, e7, e8, e9, e10, e11, e12, e13, e14, e15, e16, Act.put, List.setIfInBounds_toArray, List.set_cons_zero, List.set_cons_succ, List.drop_succ_cons, List.drop_zero, List.length_cons, List.length_nil]
      clear hvs e0 e1 e2 e3 e4 e5 e6 e7 e8 e9 e10 e11 e12 e13 e14 e15 e16
      have hB2 := HR6.out.below.trans (hW1.mono HR6.out.below.size)
      have HB2 : Hid _ := hB2
      clear l5 l7 l9 l11 k50 k51 k70 k71 k90 k91 k110 k111 hW1 HR6 C1 C2 D1 D2 hB1 hB2
      go_wp2
      go_ret
      exact ⟨rfl, HB2.out⟩
end Go.Proofs.YtjlkplidpdhgbaaGreatDoor
