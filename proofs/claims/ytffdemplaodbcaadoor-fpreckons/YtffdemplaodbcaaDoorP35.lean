/- A part of the proof: QM. -/
import Derived.Test.YtffdemplaodbcaaDoorP32
import Derived.Test.YtffdemplaodbcaaDoorP33
import Derived.Test.YtffdemplaodbcaaDoorP25
import Derived.Test.YtffdemplaodbcaaDoorP23
import Derived.Test.YtffdemplaodbcaaDoorP34
set_option linter.all false
namespace Go.Proofs.YtffdemplaodbcaaDoor
open Go Go.Proofs Go.RowKit Go.Rad

/-- A quotient's last coefficient is not 0. -/
theorem Dvd.top {p : Int} {xs ys Q z : List Int} (h : Dvd p ys xs Q z) (hx : IsF p xs) (hy0 : 0 < ys.length) : 0 < Q.length → Q.getD (Q.length - 1) 0 ≠ 0 := by
  intro hq h0
  have hl := h.len
  have hz := h.rl
  have he := h.eq (xs.length - 1)
  have e1 : act Q (row ys) (xs.length - 1) = 0 := by
    have e : act Q (row ys) (xs.length - 1) = cvp (fun j => Q.getD j 0) (fun j => ys.getD j 0) ys.length Q.length (xs.length - 1) := by
      rw [← act_row_lst, lst_self, lst_self]
    rw [e]
    obtain ⟨k, hk⟩ : ∃ k, Q.length = k + 1 := ⟨Q.length - 1, by omega⟩
    rw [hk]
    show cvp _ _ _ k _ + _ = 0
    rw [cvp_zero _ _ _ _ _ (by omega), Int.zero_add]
    rw [hk, Nat.add_sub_cancel] at h0
    split
    · show Q.getD k 0 * _ = 0
      rw [h0, Int.zero_mul]
    · rfl
  have hb := hx.all (xs.length - 1)
  have ht := hx.last (by omega)
  rw [e1, row_getD, row_getD, getD_of_ge z _ (by omega), Int.emod_eq_of_lt hb.1 hb.2] at he
  exact ht (by simpa using he)
theorem Dvd.isF {p : Int} {xs ys Q z : List Int} (h : Dvd p ys xs Q z) (hx : IsF p xs) (hy : IsF p ys) (hy0 : 0 < ys.length) : IsF p Q ∧ IsF p z := by
  have h1 := hx.len
  have h2 := hy.len
  exact ⟨⟨hx.pr, by have := h.len; omega, fun j _ => h.bd j, h.top hx hy0⟩, ⟨hx.pr, by have := h.rl; omega, fun j _ => h.rb j, h.rt⟩⟩
/-- The arguments, their copies, the table. -/
structure BS (w0 wx : World) (v1 v2 v9 v10 : Value) (xs ys : List Int) : Prop where
  B : Below w0.heap.size w0 wx
  i1 : IL wx v1 xs
  i2 : IL wx v2 ys
  i9 : IL wx v9 xs
  i10 : IL wx v10 ys
  T : TabB wx
theorem BS.below {w0 wx wy : World} {v1 v2 v9 v10 : Value} {xs ys : List Int} (h : BS w0 wx v1 v2 v9 v10 xs ys) (hb : Below wx.heap.size wx wy) : BS w0 wy v1 v2 v9 v10 xs ys :=
  ⟨h.B.trans (hb.mono h.B.size), h.i1.below hb, h.i2.below hb, h.i9.below hb, h.i10.below hb, h.T.below hb⟩
/-- What Mul answers. -/
inductive MulV (B : Nat) (p : Int) (xs ys : List Int) (u : Value) (wx : World) : Prop
  | bad (h : ckBC p xs ys ≠ 0) (hu : u = .slice none 0 0)
  | ok (h : ckBC p xs ys = 0) (z : List Int) (hS : SR wx B u z) (hN : Nrm p (row (pmul xs ys)) z)
theorem MulV.below {B : Nat} {p : Int} {xs ys : List Int} {u : Value} {wx wy : World} (h : MulV B p xs ys u wx) (hb : Below wx.heap.size wx wy) : MulV B p xs ys u wy := by
  cases h with
  | bad h hu => exact .bad h hu
  | ok h z hV hN => exact .ok h z (hV.below hb) hN
theorem MulV.set {B b i : Nat} {p : Int} {xs ys : List Int} {u : Value} {wx : World} (h : MulV B p xs ys u wx) (hb : b < B) (v : Value) : MulV B p xs ys u (wx.setCell ⟨b, i, none⟩ v) := by
  cases h with
  | bad h hu => exact .bad h hu
  | ok h z hS hN => exact .ok h z (sr_set hS hb _) hN
inductive DivV (B : Nat) (p : Int) (xs ys : List Int) (u1 u2 : Value) (wx : World) : Prop
  | bad (h : dvC p xs ys ≠ 0) (h1 : u1 = .slice none 0 0) (h2 : u2 = .slice none 0 0)
  | ok (h : dvC p xs ys = 0) (Q z : List Int) (h1 : SR wx B u1 Q) (h2 : SR wx B u2 z) (hD : Dvd p ys xs Q z)
theorem DivV.below {B : Nat} {p : Int} {xs ys : List Int} {u1 u2 : Value} {wx wy : World} (h : DivV B p xs ys u1 u2 wx) (hb : Below wx.heap.size wx wy) : DivV B p xs ys u1 u2 wy := by
  cases h with
  | bad h h1 h2 => exact .bad h h1 h2
  | ok h Q z h1 h2 hD => exact .ok h Q z (h1.below hb) (h2.below hb) hD
theorem DivV.set {B b i : Nat} {p : Int} {xs ys : List Int} {u1 u2 : Value} {wx : World} (h : DivV B p xs ys u1 u2 wx) (hb : b < B) (v : Value) : DivV B p xs ys u1 u2 (wx.setCell ⟨b, i, none⟩ v) := by
  cases h with
  | bad h h1 h2 => exact .bad h h1 h2
  | ok h Q z h1 h2 hD => exact .ok h Q z (sr_set h1 hb _) (sr_set h2 hb _) hD
inductive PowV (B : Nat) (p : Int) (xs : List Int) (n : Int) (ms : List Int) (u : Value) (wx : World) : Prop
  | bad (h : powC p xs n ms ≠ 0) (hu : u = .slice none 0 0)
  | ok (h : powC p xs n ms = 0) (z : List Int) (hS : SR wx B u z) (hR : Res p ms (row (ppow xs n.toNat)) z)
theorem PowV.below {B : Nat} {p : Int} {xs : List Int} {n : Int} {ms : List Int} {u : Value} {wx wy : World} (h : PowV B p xs n ms u wx) (hb : Below wx.heap.size wx wy) : PowV B p xs n ms u wy := by
  cases h with
  | bad h hu => exact .bad h hu
  | ok h z hV hR => exact .ok h z (hV.below hb) hR
theorem PowV.set {B b i : Nat} {p : Int} {xs : List Int} {n : Int} {ms : List Int} {u : Value} {wx : World} (h : PowV B p xs n ms u wx) (hb : b < B) (v : Value) : PowV B p xs n ms u (wx.setCell ⟨b, i, none⟩ v) := by
  cases h with
  | bad h hu => exact .bad h hu
  | ok h z hS hR => exact .ok h z (sr_set hS hb _) hR
/-- All that the walk has at hand behind the calls of the program. -/
structure ST (w0 w2 wx : World) (p n : Int) (xs ys : List Int) (v1 v2 v9 v10 vm vq vr vw : Value) (b11 b13 b16 b18 : Nat) (c11 a11 c13 a13 c16 a16 c18 : Int) : Prop where
  bs2 : BS w0 w2 v1 v2 v9 v10 xs ys
  B2 : Below w2.heap.size w2 wx
  ne : w2.heap.size ≤ b11 ∧ b11 < b13 ∧ b11 < b16 ∧ b11 < b18
  f11 : FB wx b11 (.int .i64 c11) (.int .i64 a11)
  f13 : FB wx b13 (.int .i64 c13) (.int .i64 a13)
  f16 : FB wx b16 (.int .i64 c16) (.int .i64 a16)
  f18 : FB wx b18 (.int .i64 c18) (.int .i64 a16)
  m : MulV (b11 + 1) p xs ys vm wx
  d : DivV (b11 + 1) p xs ys vq vr wx
  w : PowV (b11 + 1) p xs n ys vw wx
theorem ST.below {w0 w2 wx wy : World} {p n : Int} {xs ys : List Int} {v1 v2 v9 v10 vm vq vr vw : Value} {b11 b13 b16 b18 : Nat} {c11 a11 c13 a13 c16 a16 c18 : Int} (h : ST w0 w2 wx p n xs ys v1 v2 v9 v10 vm vq vr vw b11 b13 b16 b18 c11 a11 c13 a13 c16 a16 c18) (hb : Below wx.heap.size wx wy) :
    ST w0 w2 wy p n xs ys v1 v2 v9 v10 vm vq vr vw b11 b13 b16 b18 c11 a11 c13 a13 c16 a16 c18 :=
  ⟨h.bs2, h.B2.trans (hb.mono h.B2.size), h.ne, h.f11.below hb, h.f13.below hb, h.f16.below hb, h.f18.below hb, h.m.below hb, h.d.below hb, h.w.below hb⟩
theorem ST.bs {w0 w2 wx : World} {p n : Int} {xs ys : List Int} {v1 v2 v9 v10 vm vq vr vw : Value} {b11 b13 b16 b18 : Nat} {c11 a11 c13 a13 c16 a16 c18 : Int} (h : ST w0 w2 wx p n xs ys v1 v2 v9 v10 vm vq vr vw b11 b13 b16 b18 c11 a11 c13 a13 c16 a16 c18) : BS w0 wx v1 v2 v9 v10 xs ys := h.bs2.below h.B2
theorem ST.set {w0 w2 wx : World} {p n : Int} {xs ys : List Int} {v1 v2 v9 v10 vm vq vr vw : Value} {b11 b13 b16 b18 : Nat} {c11 a11 c13 a13 c16 a16 c18 : Int} (h : ST w0 w2 wx p n xs ys v1 v2 v9 v10 vm vq vr vw b11 b13 b16 b18 c11 a11 c13 a13 c16 a16 c18) (x y : Int) :
    ST w0 w2 ((wx.setCell ⟨b11, 0, none⟩ (.int .i64 x)).setCell ⟨b11, 1, none⟩ (.int .i64 y)) p n xs ys v1 v2 v9 v10 vm vq vr vw b11 b13 b16 b18 x y c13 a13 c16 a16 c18 := by
  have hn := h.ne
  exact ⟨h.bs2, below_set2 h.B2 hn.1 _ _, hn, h.f11.set _ _, h.f13.other _ _ (by omega), h.f16.other _ _ (by omega), h.f18.other _ _ (by omega),
    (h.m.set (Nat.lt_succ_self _) _).set (Nat.lt_succ_self _) _, (h.d.set (Nat.lt_succ_self _) _).set (Nat.lt_succ_self _) _, (h.w.set (Nat.lt_succ_self _) _).set (Nat.lt_succ_self _) _⟩
set_option maxRecDepth 20000 in
set_option maxHeartbeats 4000000 in
theorem fpReckons_any (w : World) (v1 v2 : Value) (xs ys : List Int) (n p : Int) (h1 : IL w v1 xs) (h2 : IL w v2 ys) (ht : TabB w) (hn : n < 9223372036854775808) :
    Calls Tryd.prog 3 #[v1, v2, .int .i64 n, .int .i64 p] w fun e w' => e = .returned (.bool true) ∧ Below w.heap.size w w' := by
  have HBS0 : Hid (Below w.heap.size w w ∧ IL w v1 xs ∧ IL w v2 ys ∧ TabB w) := ⟨Below.refl _ _, h1, h2, ht⟩
  have HN : Hid (n < 9223372036854775808) := hn
  clear h1 h2 ht hn
  go_enter Tryd.func3, Tryd.ntmps3
  go_upto_region 2 with (at_builtin; refine wpList_copy (by rfl) _ _ (by rfl) (by rfl) _ xs (by rfl) HBS0.out.2.1 ?_; intro v9 w1 hs9 hb1)
  have HBS1 : Hid (Below w.heap.size w w1 ∧ SR w1 w.heap.size v9 xs) := ⟨hb1, hs9⟩
  clear hb1 hs9
  go_upto_region 3 with (at_builtin; refine wpList_copy (by rfl) _ _ (by rfl) (by rfl) _ ys (by rfl) (HBS0.out.2.2.1.below HBS1.out.1) ?_; intro v10 w2 hs10 hb2)
  have HCAP : Hid (∀ a k c, v10 = .slice a k c → k ≤ c) := hs10.cap
  have HBS2 : Hid (BS w w2 v1 v2 v9 v10 xs ys) := by
    have h := HBS0.out
    have hB : Below w.heap.size w w2 := HBS1.out.1.trans (hb2.mono HBS1.out.1.size)
    exact ⟨hB, h.2.1.below hB, h.2.2.1.below hB, (HBS1.out.2.below hb2).il h.2.1.len, hs10.il h.2.2.1.len, h.2.2.2.below hB⟩
  clear hb2 hs10 HBS1 HBS0
  obtain ⟨c1, hc1⟩ : ∃ c, ckC p xs = c := ⟨_, rfl⟩
  obtain ⟨a1, ha1⟩ : ∃ c, ckA p xs = c := ⟨_, rfl⟩
  obtain ⟨c2, hc2⟩ : ∃ c, ckC p ys = c := ⟨_, rfl⟩
  obtain ⟨a2, ha2⟩ : ∃ c, ckA p ys = c := ⟨_, rfl⟩
  obtain ⟨c13, hc13⟩ : ∃ c, ckBC p xs ys = c := ⟨_, rfl⟩
  obtain ⟨a13, ha13⟩ : ∃ c, (if ckBC p xs ys = 0 then 0 else ckBA p xs ys) = c := ⟨_, rfl⟩
  obtain ⟨c16, hc16⟩ : ∃ c, dvC p xs ys = c := ⟨_, rfl⟩
  obtain ⟨a16, ha16⟩ : ∃ c, powA p xs ys = c := ⟨_, rfl⟩
  obtain ⟨c18, hc18⟩ : ∃ c, powC p xs n ys = c := ⟨_, rfl⟩
  have HE : Hid ((ckC p xs = c1 ∧ ckA p xs = a1 ∧ ckC p ys = c2 ∧ ckA p ys = a2) ∧ ckBC p xs ys = c13 ∧ (if ckBC p xs ys = 0 then 0 else ckBA p xs ys) = a13 ∧ dvC p xs ys = c16 ∧ powA p xs ys = a16 ∧ powC p xs n ys = c18) := ⟨⟨hc1, ha1, hc2, ha2⟩, hc13, ha13, hc16, ha16, hc18⟩
  have C1 := fun wx (hb : Below w2.heap.size w2 wx) => checkMod_any wx v1 xs p (HBS2.out.i1.below hb)
  rw [hc1, ha1] at C1
  have HC1 : Hid _ := C1
  clear hc1 ha1 hc2 ha2 hc13 ha13 hc16 ha16 hc18 C1
  go_wp2_with (go_at_call 8; fail)
  refine (HC1.out w2 (Below.refl _ _)).mono ?_
  rintro e w3 ⟨rfl, hb3⟩
  go_upto_region 4 with fail
  refine wp_world (fun w4 => FB w4 w3.heap.size (.int .i64 c1) (.int .i64 a1) ∧ Below w2.heap.size w2 w4) ⟨FB.mk0 w3 _ _ _, hb3.alloc hb3.size _⟩ ?_
  rintro w4 ⟨hF4, hB4⟩
  obtain ⟨b11, hb11⟩ : ∃ x, x = w3.heap.size := ⟨_, rfl⟩
  rw [← hb11] at hF4 ⊢
  have HF4 : Hid (FB w4 b11 (.int .i64 c1) (.int .i64 a1)) := hF4
  have HB4 : Hid (Below w2.heap.size w2 w4) := hB4
  have HN11 : Hid (w2.heap.size ≤ b11 ∧ b11 < w4.heap.size) := by
    have h1 := hb3.size
    have h2 := hF4.lt
    show _ ∧ _
    omega
  clear hb11 hF4 hB4 hb3 HC1
  have B4 := HBS2.out.below HB4.out
  have C4 := rMul_any w4 v9 v10 xs ys p B4.i9 B4.i10 B4.T
  clear B4
  go_wp2_with (go_at_call 9; fail)
  refine C4.mono ?_
  rintro e w5 ⟨vm, he, hb5, hf5, ho5⟩
  rw [HE.out.2.1, ← HE.out.2.1, HE.out.2.2.1, HE.out.2.1] at he
  subst he
  have HM5 : Hid (MulV (b11 + 1) p xs ys vm w5) := by
    by_cases h0 : ckBC p xs ys = 0
    · obtain ⟨z, hz, hN⟩ := ho5 h0
      exact .ok h0 z (hz.mono HN11.out.2) hN
    · exact .bad h0 (hf5 h0)
  have HB5 : Hid (Below w2.heap.size w2 w5) := HB4.out.trans (hb5.mono HB4.out.size)
  have HF5 : Hid (FB w5 b11 (.int .i64 c1) (.int .i64 a1)) := HF4.out.below hb5
  clear hb5 hf5 ho5 HB4 HF4 C4
  go_upto_region 5 with fail
  refine wp_world (fun w6 => FB w6 w5.heap.size (.int .i64 c13) (.int .i64 a13) ∧ Below w2.heap.size w2 w6 ∧ FB w6 b11 (.int .i64 c1) (.int .i64 a1) ∧ MulV (b11 + 1) p xs ys vm w6) ⟨FB.mk0 w5 _ _ _, HB5.out.alloc HB5.out.size _, HF5.out.alloc _, HM5.out.below (bel1 _ _)⟩ ?_
  rintro w6 ⟨hF6, hB6, hf6, hM6⟩
  obtain ⟨b13, hb13⟩ : ∃ x, x = w5.heap.size := ⟨_, rfl⟩
  rw [← hb13] at hF6 ⊢
  have HN13 : Hid (b11 < b13) := by have := HF5.out.lt; show _ < _; omega
  have HS6 : Hid (FB w6 b13 (.int .i64 c13) (.int .i64 a13) ∧ Below w2.heap.size w2 w6 ∧ FB w6 b11 (.int .i64 c1) (.int .i64 a1) ∧ MulV (b11 + 1) p xs ys vm w6) := ⟨hF6, hB6, hf6, hM6⟩
  clear hb13 hF6 hB6 hf6 hM6 HM5 HB5 HF5
  have B6 := HBS2.out.below HS6.out.2.1
  have C6 := rDiv_any w6 v9 v10 xs ys p B6.i9 B6.i10 B6.T HCAP.out
  clear B6
  go_wp2_with (go_at_call 10; fail)
  refine C6.mono ?_
  rintro e w7 ⟨vq, vr, he, hb7, hf7, ho7⟩
  rw [HE.out.2.2.2.1, HE.out.2.2.2.2.1] at he
  subst he
  have HD7 : Hid (DivV (b11 + 1) p xs ys vq vr w7) := by
    by_cases h0 : dvC p xs ys = 0
    · obtain ⟨Q, z, h1, h2, hD⟩ := ho7 h0
      have h9 : b11 + 1 ≤ w6.heap.size := HS6.out.2.2.1.lt
      exact .ok h0 Q z (h1.mono h9) (h2.mono h9) hD
    · exact .bad h0 (hf7 h0).1 (hf7 h0).2
  have HS7 : Hid (FB w7 b13 (.int .i64 c13) (.int .i64 a13) ∧ Below w2.heap.size w2 w7 ∧ FB w7 b11 (.int .i64 c1) (.int .i64 a1) ∧ MulV (b11 + 1) p xs ys vm w7) :=
    ⟨HS6.out.1.below hb7, HS6.out.2.1.trans (hb7.mono HS6.out.2.1.size), HS6.out.2.2.1.below hb7, HS6.out.2.2.2.below hb7⟩
  clear hb7 hf7 ho7 HS6 C6
  go_upto_region 6 with fail
  refine wp_world (fun w8 => FB w8 w7.heap.size (.int .i64 c16) (.int .i64 a16) ∧ DivV (b11 + 1) p xs ys vq vr w8 ∧ FB w8 b13 (.int .i64 c13) (.int .i64 a13) ∧ Below w2.heap.size w2 w8 ∧ FB w8 b11 (.int .i64 c1) (.int .i64 a1) ∧ MulV (b11 + 1) p xs ys vm w8)
    ⟨FB.mk0 w7 _ _ _, HD7.out.below (bel1 _ _), HS7.out.1.alloc _, HS7.out.2.1.alloc HS7.out.2.1.size _, HS7.out.2.2.1.alloc _, HS7.out.2.2.2.below (bel1 _ _)⟩ ?_
  rintro w8 hS8
  obtain ⟨b16, hb16⟩ : ∃ x, x = w7.heap.size := ⟨_, rfl⟩
  rw [← hb16] at hS8 ⊢
  have HN16 : Hid (b11 < b16) := by have := HS7.out.2.2.1.lt; show _ < _; omega
  have HS8 : Hid (FB w8 b16 (.int .i64 c16) (.int .i64 a16) ∧ DivV (b11 + 1) p xs ys vq vr w8 ∧ FB w8 b13 (.int .i64 c13) (.int .i64 a13) ∧ Below w2.heap.size w2 w8 ∧ FB w8 b11 (.int .i64 c1) (.int .i64 a1) ∧ MulV (b11 + 1) p xs ys vm w8) := hS8
  clear hb16 hS8 HS7 HD7
  have B8 := HBS2.out.below HS8.out.2.2.2.1
  have C8 := rPower_any w8 v9 v10 xs ys n p B8.i9 B8.i10 B8.T HCAP.out HN.out
  clear B8
  go_wp2_with (go_at_call 11; fail)
  refine C8.mono ?_
  rintro e w9 ⟨vw, he, hb9, hf9, ho9⟩
  rw [HE.out.2.2.2.2.1, HE.out.2.2.2.2.2] at he
  subst he
  have HP9 : Hid (PowV (b11 + 1) p xs n ys vw w9) := by
    by_cases h0 : powC p xs n ys = 0
    · obtain ⟨z, hz, hR⟩ := ho9 h0
      have h9 : b11 + 1 ≤ w8.heap.size := HS8.out.2.2.2.2.1.lt
      exact .ok h0 z (hz.mono h9) hR
    · exact .bad h0 (hf9 h0)
  have HS9 : Hid (FB w9 b16 (.int .i64 c16) (.int .i64 a16) ∧ DivV (b11 + 1) p xs ys vq vr w9 ∧ FB w9 b13 (.int .i64 c13) (.int .i64 a13) ∧ Below w2.heap.size w2 w9 ∧ FB w9 b11 (.int .i64 c1) (.int .i64 a1) ∧ MulV (b11 + 1) p xs ys vm w9) :=
    ⟨HS8.out.1.below hb9, HS8.out.2.1.below hb9, HS8.out.2.2.1.below hb9, HS8.out.2.2.2.1.trans (hb9.mono HS8.out.2.2.2.1.size), HS8.out.2.2.2.2.1.below hb9, HS8.out.2.2.2.2.2.below hb9⟩
  clear hb9 hf9 ho9 HS8 HCAP C8
  go_upto_region 7 with fail
  refine wp_world (fun w10 => ST w w2 w10 p n xs ys v1 v2 v9 v10 vm vq vr vw b11 b13 b16 w9.heap.size c1 a1 c13 a13 c16 a16 c18)
    ⟨HBS2.out, HS9.out.2.2.2.1.alloc HS9.out.2.2.2.1.size _, ⟨HN11.out.1, HN13.out, HN16.out, HS9.out.2.2.2.2.1.lt⟩, HS9.out.2.2.2.2.1.alloc _, HS9.out.2.2.1.alloc _, HS9.out.1.alloc _, FB.mk0 w9 _ _ _, HS9.out.2.2.2.2.2.below (bel1 _ _), HS9.out.2.1.below (bel1 _ _), HP9.out.below (bel1 _ _)⟩ ?_
  rintro w10 hST
  obtain ⟨b18, hb18⟩ : ∃ x, x = w9.heap.size := ⟨_, rfl⟩
  rw [← hb18] at hST ⊢
  have HST : Hid (ST w w2 w10 p n xs ys v1 v2 v9 v10 vm vq vr vw b11 b13 b16 b18 c1 a1 c13 a13 c16 a16 c18) := hST
  clear hb18 hST HS9 HP9 HBS2 HN11 HN13 HN16
  obtain ⟨l11, d0, d1, z0, z1⟩ := HST.out.f11
  have HK1 : Hid (ckC p xs = c1 ∧ ckA p xs = a1) := ⟨HE.out.1.1, HE.out.1.2.1⟩
  go_cut [57] from 49 to 56 (fun v wx => v = .bool false ∧ ST w w2 wx p n xs ys v1 v2 v9 v10 vm vq vr vw b11 b13 b16 b18 c1 a1 c13 a13 c16 a16 c18)
  case first =>
    go_region_with (first
      | (go_at_call 12
         refine (begun_any _ (HST.out.bs.T.below (bel_drew w10))).mono ?_
         rintro e w11 ⟨rfl, hb11⟩
         have HST1 : Hid (ST w w2 w11 p n xs ys v1 v2 v9 v10 vm vq vr vw b11 b13 b16 b18 c1 a1 c13 a13 c16 a16 c18) := HST.out.below ((bel_drew w10).trans hb11)
         obtain ⟨l11a, d0a, d1a, z0a, z1a⟩ := HST1.out.f11
         clear hb11)
      | (go_at_call 13
         refine (check_any w11 v9 xs p HST1.out.bs.i9 HST1.out.bs.T).mono ?_
         rintro e w12 ⟨rfl, hb12⟩
         rw [HK1.out.1, HK1.out.2]
         have HST2 : Hid (ST w w2 w12 p n xs ys v1 v2 v9 v10 vm vq vr vw b11 b13 b16 b18 c1 a1 c13 a13 c16 a16 c18) := HST1.out.below hb12
         obtain ⟨l11b, d0b, d1b, z0b, z1b⟩ := HST2.out.f11
         clear hb12))
    all_goals
      go_wp2_with fail
      go_meet
      case rel => exact ⟨rfl, by first | exact HST2.out | exact HST2.out.below (bel_drew _)⟩
  case rest =>
  obtain ⟨rfl, hst⟩ := hcut
  have HST3 : Hid (ST w w2 wc p n xs ys v1 v2 v9 v10 vm vq vr vw b11 b13 b16 b18 c1 a1 c13 a13 c16 a16 c18) := hst
  clear hst HST HK1 l11 d0 d1 z0 z1
  have C2 := fun wx (hb : Below wc.heap.size wc wx) => checkMod_any wx v2 ys p (HST3.out.bs.i2.below hb)
  rw [HE.out.1.2.2.1, HE.out.1.2.2.2] at C2
  have HC2 : Hid _ := C2
  have HZ : Hid (c1 = 0 → c13 = c2 ∧ a13 = a2) := fun h => by
    have h1 := HE.out
    have hb : ckBC p xs ys = c2 := by unfold ckBC; rw [if_pos (by rw [h1.1.1, h]), h1.1.2.2.1]
    refine ⟨by rw [← h1.2.1, hb], ?_⟩
    rw [← h1.2.2.1]
    by_cases h2 : ckBC p xs ys = 0
    · rw [if_pos h2, ← h1.1.2.2.2, (ck_isF (h1.1.2.2.1.trans (hb.symm.trans h2))).ck.2]
    · rw [if_neg h2]; unfold ckBA; rw [if_pos (by rw [h1.1.1, h]), h1.1.2.2.2]
  have HNZ : Hid (c1 ≠ 0 → c13 = c1 ∧ a13 = a1) := fun h => by
    have h1 := HE.out
    have hb : ckBC p xs ys = c1 := by unfold ckBC; rw [if_neg (by rw [h1.1.1]; exact h), h1.1.1]
    refine ⟨by rw [← h1.2.1, hb], ?_⟩
    rw [← h1.2.2.1, if_neg (by rw [hb]; exact h)]
    unfold ckBA; rw [if_neg (by rw [h1.1.1]; exact h), h1.1.2.1]
  clear C2
  obtain ⟨ws, hws⟩ : ∃ x, x = wc := ⟨_, rfl⟩
  rw [← hws] at HST3 HC2 ⊢
  clear hws wc
  obtain ⟨l11, d0, d1, z0, z1⟩ := HST3.out.f11
  go_upto_if 60 with fail
  generalize hBB : (c1 == 0) = BB
  have HBB : Hid ((c1 == 0) = BB) := hBB
  clear hBB
  go_cut [] from 61 to 63 (fun wx => ST w w2 wx p n xs ys v1 v2 v9 v10 vm vq vr vw b11 b13 b16 b18 c13 a13 c13 a13 c16 a16 c18)
  case first =>
    cases BB with
    | true =>
      have H0 : Hid (c1 = 0) := by show c1 = 0; simpa using HBB.out
      clear HBB
      go_wp2_with (go_at_call 8; fail)
      refine (HC2.out ws (Below.refl _ _)).mono ?_
      rintro e w13 ⟨rfl, hb13⟩
      have HST4 : Hid (ST w w2 w13 p n xs ys v1 v2 v9 v10 vm vq vr vw b11 b13 b16 b18 c1 a1 c13 a13 c16 a16 c18) := HST3.out.below hb13
      clear hb13 l11 d0 d1 z0 z1
      obtain ⟨l11, d0, d1, z0, z1⟩ := HST4.out.f11
      go_wp2_with fail
      go_meet
      case rel =>
        have h := HST4.out.set c2 a2
        have e := HZ.out H0.out
        rw [← e.1, ← e.2] at h ⊢
        exact h
    | false =>
      have H0 : Hid (c1 ≠ 0) := by show ¬ c1 = 0; simpa using HBB.out
      clear HBB
      go_wp2_with fail
      go_meet
      case rel =>
        have h := HST3.out
        have e := HNZ.out H0.out
        rw [← e.1, ← e.2] at h
        exact h
  case rest =>
  have HST5 : Hid (ST w w2 wc p n xs ys v1 v2 v9 v10 vm vq vr vw b11 b13 b16 b18 c13 a13 c13 a13 c16 a16 c18) := hcut
  clear hcut HBB HST3 HC2 HZ HNZ l11 d0 d1 z0 z1
  obtain ⟨l11, d0, d1, z0, z1⟩ := HST5.out.f11
  obtain ⟨l13, e0, e1, y0, y1⟩ := HST5.out.f13
  go_wp2_with (go_at_call 14; fail)
  refine (same_any wc v9 v1 xs xs HST5.out.bs.i9.vw HST5.out.bs.i1.vw HST5.out.bs.i1.len HST5.out.bs.i1.len).mono ?_
  rintro e w14 ⟨r, rfl, hr, hb14⟩
  obtain rfl : r = true := hr.2 rfl
  have HST6 : Hid (ST w w2 w14 p n xs ys v1 v2 v9 v10 vm vq vr vw b11 b13 b16 b18 c13 a13 c13 a13 c16 a16 c18) := HST5.out.below hb14
  clear hr hb14 l11 d0 d1 z0 z1 l13 e0 e1 y0 y1 HST5
  go_wp2_with (go_at_call 14; fail)
  refine (same_any w14 v10 v2 ys ys HST6.out.bs.i10.vw HST6.out.bs.i2.vw HST6.out.bs.i2.len HST6.out.bs.i2.len).mono ?_
  rintro e w15 ⟨r, rfl, hr, hb15⟩
  obtain rfl : r = true := hr.2 rfl
  have HST7 : Hid (ST w w2 w15 p n xs ys v1 v2 v9 v10 vm vq vr vw b11 b13 b16 b18 c13 a13 c13 a13 c16 a16 c18) := HST6.out.below hb15
  clear hr hb15 HST6
  go_upto_region 13 with fail
  by_cases h0 : c13 = 0
  · have H0 : Hid (ckBC p xs ys = 0) := by show _ = _; rw [HE.out.2.1]; exact h0
    have HFF : Hid (IsF p xs ∧ IsF p ys) := ckBC_zero H0.out
    have H13 : Hid (a13 = 0 ∧ a16 = 0 ∧ c16 = (if ys.length = 0 then 4 else 0) ∧ c18 = (if n < 0 then 7 else if ys.length = 0 then 4 else 0)) := by
      have h1 := HE.out.2
      refine ⟨?_, ?_, ?_, ?_⟩
      · rw [← h1.2.1, if_pos H0.out]
      · rw [← h1.2.2.2.1]; unfold powA; rw [if_pos H0.out]
      · rw [← h1.2.2.1]; unfold dvC; rw [if_pos H0.out]
      · rw [← h1.2.2.2.2]; unfold powC; rw [if_pos H0.out]
    obtain ⟨rfl, rfl, h16, h18⟩ := H13.out
    have H16 : Hid (c16 = (if ys.length = 0 then 4 else 0) ∧ c18 = (if n < 0 then 7 else if ys.length = 0 then 4 else 0)) := ⟨h16, h18⟩
    clear h16 h18 H13
    subst h0
    have hpp : 1 < p ∧ p < 2147483648 := by
      obtain ⟨P, h1, h2, h3⟩ := HFF.out.1.pr
      have := h2.1
      omega
    obtain ⟨l11, d0, d1, z0, z1⟩ := HST7.out.f11
    by_cases h5 : 5000 < p
    · go_wp2
      refine bodyPost_ret (v := .bool true) (by simp [results, go_sem, loadVar]) rfl ?_
      exact ⟨rfl, HST7.out.bs.B⟩
    · have h5' : p ≤ 5000 := by omega
      have hlx := HFF.out.1.len
      have hly := HFF.out.2.len
      have CMM := mmul_any w15 v1 v2 xs ys p HST7.out.bs.i1.vw HST7.out.bs.i2.vw (by omega) HFF.out.1.all HFF.out.2.all (by omega) (by omega)
      have HLL : Hid (xs.length ≤ 65 ∧ ys.length ≤ 65) := ⟨hlx, hly⟩
      clear hlx hly
      go_wp2_with (go_at_call 15; fail)
      refine CMM.mono ?_
      rintro e w16 ⟨u16, z16, rfl, hS16, hb16, hN16⟩
      have HST8 : Hid (ST w w2 w16 p n xs ys v1 v2 v9 v10 vm vq vr vw b11 b13 b16 b18 0 0 0 0 c16 0 c18) := HST7.out.below hb16
      have HV16 : Hid (VW w16 u16 z16) := hS16.view
      have HN16 : Hid (Nrm p (row (pmul xs ys)) z16) := hN16
      have HZ16 : Hid (∃ z, VW w16 vm z ∧ z = z16) := by
        cases HST8.out.m with
        | bad h hu => exact absurd H0.out h
        | ok h z hS hN => exact ⟨z, hS.view, hN.uniq HN16.out (fun _ => rfl)⟩
      have HL16 : Hid (z16.length ≤ 1000) := by
        have := hN16.len (n := xs.length + ys.length) (fun j hj => by rw [row_pmul_ge xs ys j (by omega)]; simp)
        have := HLL.out
        show _ ≤ _
        omega
      clear CMM hS16 hb16 hN16 l11 d0 d1 z0 z1 HST7
      obtain ⟨zm, hzm, ezm⟩ := HZ16.out
      subst ezm
      have CS := same_any w16 vm u16 zm zm hzm HV16.out (by have := HL16.out; omega) (by have := HL16.out; omega)
      clear hzm HZ16
      go_wp2_with (go_at_call 14; fail)
      refine CS.mono ?_
      rintro e w17 ⟨r, rfl, hr, hb17⟩
      obtain rfl : r = true := hr.2 (by trivial)
      have HST9 : Hid (ST w w2 w17 p n xs ys v1 v2 v9 v10 vm vq vr vw b11 b13 b16 b18 0 0 0 0 c16 0 c18) := HST8.out.below hb17
      clear hr hb17 CS HST8 HV16 HN16 HL16
      go_upto_if 114 with fail
      go_cut [] from 115 to 122 (fun wx => ST w w2 wx p n xs ys v1 v2 v9 v10 vm vq vr vw b11 b13 b16 b18 0 0 0 0 c16 0 c18)
      case first =>
        by_cases hneg : n < 0
        · obtain ⟨hc18, hnw⟩ : c18 = 7 ∧ vw = .slice none 0 0 := by
            have h1 := H16.out.2
            rw [if_pos hneg] at h1
            refine ⟨h1, ?_⟩
            cases HST9.out.w with
            | bad h hu => exact hu
            | ok h z hS hR => exact absurd (HE.out.2.2.2.2.2.symm.trans h) (by rw [h1]; decide)
          subst hc18 hnw
          obtain ⟨l18, g0, g1, x0, x1⟩ := HST9.out.f18
          go_upto_region 20 with fail
          refine wp_drawn mixed [⟨115, [], [], [18]⟩, ⟨116, [], [], []⟩, ⟨117, [0, 1], [0, 1], []⟩, ⟨118, [1, 2], [0, 1, 2], []⟩, ⟨119, [3], [0, 1, 2, 3], [17]⟩, ⟨120, [3, 4], [0, 1, 2, 3, 4], []⟩, ⟨121, [3, 5], [0, 1, 2, 3, 4, 5], []⟩, ⟨122, [3, 6], [0, 1, 2, 3, 4, 5, 6], []⟩] [] (by kernel_rfl) 201 rfl (by kernel_rfl) (fun (i : Nat) (v : Value) (wq : World) => match i with | 0 => v = .agg #[.int .i64 (7), .int .i64 (0)] | 1 => v = .agg #[.int .i64 (7), .int .i64 (0)] | 2 => v = .bool (false) | 3 => v = .bool (false) | 4 => v = .slice none (0) (0) | 5 => v = .int .i64 (((0 : Nat) : Int)) | 6 => v = .bool (false) | 7 => v = .bool (false) | _ => True) (fun _ wq => Below w17.heap.size w17 wq) (fun wx wy => Below wx.heap.size wx wy) (Below.refl _ _).drew (fun i v wx wy h hx => match i, h with | 0, h => h | 1, h => h | 2, h => h | 3, h => h | 4, h => h | 5, h => h | 6, h => h | 7, h => h  | n + 8, _ => trivial) ?_ ?_
          · intro i o r ho hr L fr wx hW hL hpr hds hdef hpre hfree
            clear hL hpr hds hdef
            match i, ho, hr with
            | 0, ho, hr => ?_
            | 1, ho, hr =>
              obtain rfl := Option.some.inj ho; obtain rfl := Option.some.inj hr
              clear hpre hfree
              refine stpK rfl rfl fun K hK => ?_
              go_simp
              refine (fault_any wx 7 0).mono ?_
              rintro e wy ⟨rfl, hb⟩
              exact hK _ _ ⟨rfl, hW.trans (hb.mono hW.size), hb, fun h => (List.not_mem_nil h).elim⟩
            | 2, ho, hr => ?_
            | 3, ho, hr => ?_
            | 4, ho, hr => ?_
            | 5, ho, hr => ?_
            | 6, ho, hr => ?_
            | 7, ho, hr => ?_
            | n + 8, ho, hr => exact absurd hr (by simp)
            all_goals
              obtain rfl := Option.some.inj ho; obtain rfl := Option.some.inj hr
              simp only [List.mem_cons, List.not_mem_nil, or_false, false_imp_iff, implies_true, forall_eq_or_imp, forall_eq, List.getElem?_cons_zero, List.getElem?_cons_succ, Option.some.injEq, forall_eq', evt] at hpre hfree
              have c0 := (hW.cell (p := ⟨b18, 0, none⟩) l18).trans g0
              have c1 := (hW.cell (p := ⟨b18, 1, none⟩) l18).trans g1
              (first | refine stpK rfl rfl fun K hK => ?_ | refine stpK_g rfl rfl (by simp only [hpre]) rfl fun K hK => ?_) <;> (go_simp; exact hK _ _ ⟨rfl, hW, Below.refl _ _, fun h => (List.not_mem_nil h).elim⟩)
          · intro vs w18 hvs hW1 hap0
            clear hap0
            have e0 : vs 0 = .agg #[.int .i64 (7), .int .i64 (0)] := hvs 0 (by decide)
            have e1 : vs 1 = .agg #[.int .i64 (7), .int .i64 (0)] := hvs 1 (by decide)
            have e2 : vs 2 = .bool (false) := hvs 2 (by decide)
            have e3 : vs 3 = .bool (false) := hvs 3 (by decide)
            have e4 : vs 4 = .slice none (0) (0) := hvs 4 (by decide)
            have e5 : vs 5 = .int .i64 (((0 : Nat) : Int)) := hvs 5 (by decide)
            have e6 : vs 6 = .bool (false) := hvs 6 (by decide)
            have e7 : vs 7 = .bool (false) := hvs 7 (by decide)
            simp only [puts, Nat.reduceAdd, e0, e1, e2, e3, e4, e5, e6, e7, Act.put, List.setIfInBounds_toArray, List.set_cons_zero, List.set_cons_succ, List.drop_succ_cons, List.drop_zero, List.length_cons, List.length_nil]
            clear hvs e0 e1 e2 e3 e4 e5 e6 e7
            have HSTa : Hid (ST w w2 w18 p n xs ys v1 v2 v9 v10 vm vq vr (.slice none 0 0) b11 b13 b16 b18 0 0 0 0 c16 0 7) := HST9.out.below hW1
            clear hW1 l18 g0 g1 x0 x1
            go_wp2_with fail
            go_meet
            case rel => exact HSTa.out
        · go_wp2_with fail
          go_meet
          case rel => exact HST9.out
      case rest =>
      obtain ⟨w20, hw20⟩ : ∃ x, x = wc := ⟨_, rfl⟩
      rw [← hw20] at hcut ⊢
      have HSTb : Hid (ST w w2 w20 p n xs ys v1 v2 v9 v10 vm vq vr vw b11 b13 b16 b18 0 0 0 0 c16 0 c18) := hcut
      clear hcut hw20 HST9
      obtain ⟨a2, s2, o2, m2, k2, rfl, hm2, -, -, -⟩ := HSTb.out.bs.i2
      have HM2 : Hid (ys.length = m2) := hm2
      clear hm2
      by_cases hz : m2 = 0
      · obtain ⟨hc16, hnq, hnr⟩ : c16 = 4 ∧ vq = .slice none 0 0 ∧ vr = .slice none 0 0 := by
          have h1 := H16.out.1
          rw [HM2.out, if_pos hz] at h1
          refine ⟨h1, ?_⟩
          cases HSTb.out.d with
          | bad h h1 h2 => exact ⟨h1, h2⟩
          | ok h Q z h1' h2 hD => exact absurd (HE.out.2.2.2.1.symm.trans h) (by rw [h1]; decide)
        obtain ⟨e18, hnw⟩ : c18 = (if n < 0 then 7 else 4) ∧ vw = .slice none 0 0 := by
          have h1 := H16.out.2
          rw [HM2.out, if_pos hz] at h1
          refine ⟨h1, ?_⟩
          cases HSTb.out.w with
          | bad h hu => exact hu
          | ok h z hS hR =>
            have h2 := HE.out.2.2.2.2.2.symm.trans h
            rw [h1] at h2
            split at h2 <;> cases h2
        subst hc16 hnq hnr hnw hz
        have H18 : Hid (c18 = (if n < 0 then 7 else 4)) := e18
        clear e18
        obtain ⟨l16, e0, e1, y0, y1⟩ := HSTb.out.f16
        obtain ⟨l18, g0, g1, x0, x1⟩ := HSTb.out.f18
        have hw0 : IntKind.i64.wrap 0 = 0 := by decide
        by_cases hneg : n < 0
        · have hdn : decide (n < 0) = true := by simpa using hneg
          go_upto_region 23 with fail
          refine wp_drawn mixed [⟨126, [], [], [16]⟩, ⟨127, [], [], []⟩, ⟨128, [0, 1], [0, 1], []⟩, ⟨129, [1, 2], [0, 1, 2], []⟩, ⟨130, [3], [0, 1, 2, 3], [14]⟩, ⟨131, [3, 4], [0, 1, 2, 3, 4], []⟩, ⟨132, [3], [0, 1, 2, 3], [15]⟩, ⟨133, [3, 6], [0, 1, 2, 3, 6], []⟩, ⟨134, [3, 5, 7], [0, 1, 2, 3, 4, 5, 6, 7], []⟩, ⟨135, [3, 8], [0, 1, 2, 3, 4, 5, 6, 7, 8], []⟩, ⟨136, [3, 9], [0, 1, 2, 3, 4, 5, 6, 7, 8, 9], []⟩, ⟨137, [3, 10], [0, 1, 2, 3, 4, 5, 6, 7, 8, 9, 10], []⟩, ⟨138, [11], [0, 1, 2, 3, 4, 5, 6, 7, 8, 9, 10, 11], [2]⟩, ⟨139, [11, 12], [0, 1, 2, 3, 4, 5, 6, 7, 8, 9, 10, 11, 12], []⟩, ⟨140, [11, 13], [0, 1, 2, 3, 4, 5, 6, 7, 8, 9, 10, 11, 12, 13], []⟩, ⟨141, [14], [0, 1, 2, 3, 4, 5, 6, 7, 8, 9, 10, 11, 12, 13, 14], [18]⟩, ⟨142, [14], [0, 1, 2, 3, 4, 5, 6, 7, 8, 9, 10, 11, 12, 13, 14], [16]⟩, ⟨143, [14, 15, 16], [0, 1, 2, 3, 4, 5, 6, 7, 8, 9, 10, 11, 12, 13, 14, 15, 16], []⟩, ⟨144, [14, 17], [0, 1, 2, 3, 4, 5, 6, 7, 8, 9, 10, 11, 12, 13, 14, 15, 16, 17], []⟩, ⟨145, [18], [0, 1, 2, 3, 4, 5, 6, 7, 8, 9, 10, 11, 12, 13, 14, 15, 16, 17, 18], [17]⟩, ⟨146, [18, 19], [0, 1, 2, 3, 4, 5, 6, 7, 8, 9, 10, 11, 12, 13, 14, 15, 16, 17, 18, 19], []⟩, ⟨147, [18, 20], [0, 1, 2, 3, 4, 5, 6, 7, 8, 9, 10, 11, 12, 13, 14, 15, 16, 17, 18, 19, 20], []⟩, ⟨148, [14, 18, 21], [0, 1, 2, 3, 4, 5, 6, 7, 8, 9, 10, 11, 12, 13, 14, 15, 16, 17, 18, 19, 20, 21], []⟩, ⟨149, [11, 14, 22], [0, 1, 2, 3, 4, 5, 6, 7, 8, 9, 10, 11, 12, 13, 14, 15, 16, 17, 18, 19, 20, 21, 22], []⟩, ⟨150, [11, 23], [0, 1, 2, 3, 4, 5, 6, 7, 8, 9, 10, 11, 12, 13, 14, 15, 16, 17, 18, 19, 20, 21, 22, 23], []⟩] [] (by kernel_rfl) 201 rfl (by kernel_rfl) (fun (i : Nat) (v : Value) (wq : World) => match i with | 0 => v = .agg #[.int .i64 (4), .int .i64 (0)] | 1 => v = .agg #[.int .i64 (4), .int .i64 (0)] | 2 => v = .bool (true) | 3 => v = .bool (true) | 4 => v = .slice none (0) (0) | 5 => v = .int .i64 (((0 : Nat) : Int)) | 6 => v = .slice none (0) (0) | 7 => v = .int .i64 (((0 : Nat) : Int)) | 8 => v = .int .i64 (0) | 9 => v = .bool (true) | 10 => v = .bool (true) | 11 => v = .bool (true) | 12 => v = .int .i64 (n) | 13 => v = .bool (true) | 14 => v = .bool (true) | 15 => v = undef | 16 => v = undef | 17 => v = undef | 18 => v = undef | 19 => v = undef | 20 => v = undef | 21 => v = undef | 22 => v = undef | 23 => v = .bool (true) | 24 => v = .bool (true) | _ => True) (fun _ wq => Below w20.heap.size w20 wq) (fun wx wy => Below wx.heap.size wx wy) (Below.refl _ _).drew (fun i v wx wy h hx => match i, h with | 0, h => h | 1, h => h | 2, h => h | 3, h => h | 4, h => h | 5, h => h | 6, h => h | 7, h => h | 8, h => h | 9, h => h | 10, h => h | 11, h => h | 12, h => h | 13, h => h | 14, h => h | 15, h => h | 16, h => h | 17, h => h | 18, h => h | 19, h => h | 20, h => h | 21, h => h | 22, h => h | 23, h => h | 24, h => h  | n + 25, _ => trivial) ?_ ?_
          · intro i o r ho hr L fr wx hW hL hpr hds hdef hpre hfree
            clear hL hpr hds hdef
            match i, ho, hr with
            | 0, ho, hr =>
              obtain rfl := Option.some.inj ho; obtain rfl := Option.some.inj hr
              have t16 := ev_tmp (show fr.eval (.tmp 16) = .pointer (some ⟨b16, 0, none⟩) from hfree 16 (by decide))
              clear hpre hfree
              have c0 := (hW.cell (p := ⟨b16, 0, none⟩) l16).trans e0
              have c1 := (hW.cell (p := ⟨b16, 1, none⟩) l16).trans e1
              refine stpK rfl rfl fun K hK => ?_
              go_simp
              exact hK _ _ ⟨rfl, hW, Below.refl _ _, fun h => (List.not_mem_nil h).elim⟩
            | 1, ho, hr =>
              obtain rfl := Option.some.inj ho; obtain rfl := Option.some.inj hr
              clear hpre hfree
              refine stpK rfl rfl fun K hK => ?_
              go_simp
              refine (fault_any wx 4 0).mono ?_
              rintro e wy ⟨rfl, hb⟩
              exact hK _ _ ⟨rfl, hW.trans (hb.mono hW.size), hb, fun h => (List.not_mem_nil h).elim⟩
            | 2, ho, hr =>
              obtain rfl := Option.some.inj ho; obtain rfl := Option.some.inj hr
              have e0 := ev_tmp (show fr.eval (.tmp 126) = .agg #[.int .i64 (4), .int .i64 (0)] from hpre 0 (by decide) _ rfl)
              have e1 := ev_tmp (show fr.eval (.tmp 127) = .agg #[.int .i64 (4), .int .i64 (0)] from hpre 1 (by decide) _ rfl)
              clear hpre hfree
              refine stpK rfl rfl fun K hK => ?_
              go_simp
              exact hK _ _ ⟨rfl, hW, Below.refl _ _, fun h => (List.not_mem_nil h).elim⟩
            | 3, ho, hr =>
              obtain rfl := Option.some.inj ho; obtain rfl := Option.some.inj hr
              have e2 := ev_tmp (show fr.eval (.tmp 128) = .bool (true) from hpre 2 (by decide) _ rfl)
              clear hpre hfree
              refine stpK rfl rfl fun K hK => ?_
              go_simp
              exact hK _ _ ⟨rfl, hW, Below.refl _ _, fun h => (List.not_mem_nil h).elim⟩
            | 4, ho, hr =>
              obtain rfl := Option.some.inj ho; obtain rfl := Option.some.inj hr
              have e3 := ev_tmp (show fr.eval (.tmp 129) = .bool (true) from hpre 3 (by decide) _ rfl)
              have t14 := ev_tmp (show fr.eval (.tmp 14) = .slice none (0) (0) from hfree 14 (by decide))
              clear hpre hfree
              refine stpK_g rfl rfl e3 rfl fun K hK => ?_
              go_simp
              exact hK _ _ ⟨rfl, hW, Below.refl _ _, fun h => (List.not_mem_nil h).elim⟩
            | 5, ho, hr =>
              obtain rfl := Option.some.inj ho; obtain rfl := Option.some.inj hr
              have e3 := ev_tmp (show fr.eval (.tmp 129) = .bool (true) from hpre 3 (by decide) _ rfl)
              have e4 := ev_tmp (show fr.eval (.tmp 130) = .slice none (0) (0) from hpre 4 (by decide) _ rfl)
              clear hpre hfree
              refine stpK_g rfl rfl e3 rfl fun K hK => ?_
              go_simp
              exact hK _ _ ⟨rfl, hW, Below.refl _ _, fun h => (List.not_mem_nil h).elim⟩
            | 6, ho, hr =>
              obtain rfl := Option.some.inj ho; obtain rfl := Option.some.inj hr
              have e3 := ev_tmp (show fr.eval (.tmp 129) = .bool (true) from hpre 3 (by decide) _ rfl)
              have t15 := ev_tmp (show fr.eval (.tmp 15) = .slice none (0) (0) from hfree 15 (by decide))
              clear hpre hfree
              refine stpK_g rfl rfl e3 rfl fun K hK => ?_
              go_simp
              exact hK _ _ ⟨rfl, hW, Below.refl _ _, fun h => (List.not_mem_nil h).elim⟩
            | 7, ho, hr =>
              obtain rfl := Option.some.inj ho; obtain rfl := Option.some.inj hr
              have e3 := ev_tmp (show fr.eval (.tmp 129) = .bool (true) from hpre 3 (by decide) _ rfl)
              have e6 := ev_tmp (show fr.eval (.tmp 132) = .slice none (0) (0) from hpre 6 (by decide) _ rfl)
              clear hpre hfree
              refine stpK_g rfl rfl e3 rfl fun K hK => ?_
              go_simp
              exact hK _ _ ⟨rfl, hW, Below.refl _ _, fun h => (List.not_mem_nil h).elim⟩
            | 8, ho, hr =>
              obtain rfl := Option.some.inj ho; obtain rfl := Option.some.inj hr
              have e3 := ev_tmp (show fr.eval (.tmp 129) = .bool (true) from hpre 3 (by decide) _ rfl)
              have e5 := ev_tmp (show fr.eval (.tmp 131) = .int .i64 (((0 : Nat) : Int)) from hpre 5 (by decide) _ rfl)
              have e7 := ev_tmp (show fr.eval (.tmp 133) = .int .i64 (((0 : Nat) : Int)) from hpre 7 (by decide) _ rfl)
              clear hpre hfree
              refine stpK_g rfl rfl e3 rfl fun K hK => ?_
              go_simp
              exact hK _ _ ⟨(by first | (show Value.int _ (IntKind.i64.wrap _) = _; rw [hw0]) | rfl), hW, Below.refl _ _, fun h => (List.not_mem_nil h).elim⟩
            | 9, ho, hr =>
              obtain rfl := Option.some.inj ho; obtain rfl := Option.some.inj hr
              have e3 := ev_tmp (show fr.eval (.tmp 129) = .bool (true) from hpre 3 (by decide) _ rfl)
              have e8 := ev_tmp (show fr.eval (.tmp 134) = .int .i64 (0) from hpre 8 (by decide) _ rfl)
              clear hpre hfree
              refine stpK_g rfl rfl e3 rfl fun K hK => ?_
              go_simp
              exact hK _ _ ⟨rfl, hW, Below.refl _ _, fun h => (List.not_mem_nil h).elim⟩
            | 10, ho, hr =>
              obtain rfl := Option.some.inj ho; obtain rfl := Option.some.inj hr
              have e3 := ev_tmp (show fr.eval (.tmp 129) = .bool (true) from hpre 3 (by decide) _ rfl)
              have e9 := ev_tmp (show fr.eval (.tmp 135) = .bool (true) from hpre 9 (by decide) _ rfl)
              clear hpre hfree
              refine stpK rfl rfl fun K hK => ?_
              go_simp
              exact hK _ _ ⟨rfl, hW, Below.refl _ _, fun h => (List.not_mem_nil h).elim⟩
            | 11, ho, hr =>
              obtain rfl := Option.some.inj ho; obtain rfl := Option.some.inj hr
              have e10 := ev_tmp (show fr.eval (.tmp 136) = .bool (true) from hpre 10 (by decide) _ rfl)
              clear hpre hfree
              refine stpK rfl rfl fun K hK => ?_
              go_simp
              exact hK _ _ ⟨rfl, hW, Below.refl _ _, fun h => (List.not_mem_nil h).elim⟩
            | 12, ho, hr =>
              obtain rfl := Option.some.inj ho; obtain rfl := Option.some.inj hr
              have e11 := ev_tmp (show fr.eval (.tmp 137) = .bool (true) from hpre 11 (by decide) _ rfl)
              have t2 := ev_tmp (show fr.eval (.tmp 2) = .int .i64 (n) from hfree 2 (by decide))
              clear hpre hfree
              refine stpK_g rfl rfl e11 rfl fun K hK => ?_
              go_simp
              exact hK _ _ ⟨rfl, hW, Below.refl _ _, fun h => (List.not_mem_nil h).elim⟩
            | 13, ho, hr =>
              obtain rfl := Option.some.inj ho; obtain rfl := Option.some.inj hr
              have e11 := ev_tmp (show fr.eval (.tmp 137) = .bool (true) from hpre 11 (by decide) _ rfl)
              have e12 := ev_tmp (show fr.eval (.tmp 138) = .int .i64 (n) from hpre 12 (by decide) _ rfl)
              clear hpre hfree
              refine stpK_g rfl rfl e11 rfl fun K hK => ?_
              go_simp
              exact hK _ _ ⟨(by first | rfl | exact congrArg Value.bool hdn | simp [hdn]), hW, Below.refl _ _, fun h => (List.not_mem_nil h).elim⟩
            | 14, ho, hr =>
              obtain rfl := Option.some.inj ho; obtain rfl := Option.some.inj hr
              have e11 := ev_tmp (show fr.eval (.tmp 137) = .bool (true) from hpre 11 (by decide) _ rfl)
              have e13 := ev_tmp (show fr.eval (.tmp 139) = .bool (true) from hpre 13 (by decide) _ rfl)
              clear hpre hfree
              refine stpK_g rfl rfl e11 rfl fun K hK => ?_
              go_simp
              exact hK _ _ ⟨rfl, hW, Below.refl _ _, fun h => (List.not_mem_nil h).elim⟩
            | 15, ho, hr =>
              obtain rfl := Option.some.inj ho; obtain rfl := Option.some.inj hr
              have e14 := ev_tmp (show fr.eval (.tmp 140) = .bool (true) from hpre 14 (by decide) _ rfl)
              have t18 := ev_tmp (show fr.eval (.tmp 18) = .pointer (some ⟨b18, 0, none⟩) from hfree 18 (by decide))
              clear hpre hfree
              refine stpN rfl rfl e14 (by decide) ⟨undef, rfl, rfl, hW, Below.refl _ _, fun h => (List.not_mem_nil h).elim⟩
            | 16, ho, hr =>
              obtain rfl := Option.some.inj ho; obtain rfl := Option.some.inj hr
              have e14 := ev_tmp (show fr.eval (.tmp 140) = .bool (true) from hpre 14 (by decide) _ rfl)
              have t16 := ev_tmp (show fr.eval (.tmp 16) = .pointer (some ⟨b16, 0, none⟩) from hfree 16 (by decide))
              clear hpre hfree
              refine stpN rfl rfl e14 (by decide) ⟨undef, rfl, rfl, hW, Below.refl _ _, fun h => (List.not_mem_nil h).elim⟩
            | 17, ho, hr =>
              obtain rfl := Option.some.inj ho; obtain rfl := Option.some.inj hr
              have e14 := ev_tmp (show fr.eval (.tmp 140) = .bool (true) from hpre 14 (by decide) _ rfl)
              have e15 := ev_tmp (show fr.eval (.tmp 141) = undef from hpre 15 (by decide) _ rfl)
              have e16 := ev_tmp (show fr.eval (.tmp 142) = undef from hpre 16 (by decide) _ rfl)
              clear hpre hfree
              refine stpN rfl rfl e14 (by decide) ⟨undef, rfl, rfl, hW, Below.refl _ _, fun h => (List.not_mem_nil h).elim⟩
            | 18, ho, hr =>
              obtain rfl := Option.some.inj ho; obtain rfl := Option.some.inj hr
              have e14 := ev_tmp (show fr.eval (.tmp 140) = .bool (true) from hpre 14 (by decide) _ rfl)
              have e17 := ev_tmp (show fr.eval (.tmp 143) = undef from hpre 17 (by decide) _ rfl)
              clear hpre hfree
              refine stpN rfl rfl e14 (by decide) ⟨undef, rfl, rfl, hW, Below.refl _ _, fun h => (List.not_mem_nil h).elim⟩
            | 19, ho, hr =>
              obtain rfl := Option.some.inj ho; obtain rfl := Option.some.inj hr
              have e18 := ev_tmp (show fr.eval (.tmp 144) = undef from hpre 18 (by decide) _ rfl)
              have t17 := ev_tmp (show fr.eval (.tmp 17) = .slice none (0) (0) from hfree 17 (by decide))
              clear hpre hfree
              refine stpU rfl rfl e18 ⟨undef, rfl, rfl, hW, Below.refl _ _, fun h => (List.not_mem_nil h).elim⟩
            | 20, ho, hr =>
              obtain rfl := Option.some.inj ho; obtain rfl := Option.some.inj hr
              have e18 := ev_tmp (show fr.eval (.tmp 144) = undef from hpre 18 (by decide) _ rfl)
              have e19 := ev_tmp (show fr.eval (.tmp 145) = undef from hpre 19 (by decide) _ rfl)
              clear hpre hfree
              refine stpU rfl rfl e18 ⟨undef, rfl, rfl, hW, Below.refl _ _, fun h => (List.not_mem_nil h).elim⟩
            | 21, ho, hr =>
              obtain rfl := Option.some.inj ho; obtain rfl := Option.some.inj hr
              have e18 := ev_tmp (show fr.eval (.tmp 144) = undef from hpre 18 (by decide) _ rfl)
              have e20 := ev_tmp (show fr.eval (.tmp 146) = undef from hpre 20 (by decide) _ rfl)
              clear hpre hfree
              refine stpU rfl rfl e18 ⟨undef, rfl, rfl, hW, Below.refl _ _, fun h => (List.not_mem_nil h).elim⟩
            | 22, ho, hr =>
              obtain rfl := Option.some.inj ho; obtain rfl := Option.some.inj hr
              have e14 := ev_tmp (show fr.eval (.tmp 140) = .bool (true) from hpre 14 (by decide) _ rfl)
              have e18 := ev_tmp (show fr.eval (.tmp 144) = undef from hpre 18 (by decide) _ rfl)
              have e21 := ev_tmp (show fr.eval (.tmp 147) = undef from hpre 21 (by decide) _ rfl)
              clear hpre hfree
              refine stpN rfl rfl e14 (by decide) ⟨undef, rfl, rfl, hW, Below.refl _ _, fun h => (List.not_mem_nil h).elim⟩
            | 23, ho, hr =>
              obtain rfl := Option.some.inj ho; obtain rfl := Option.some.inj hr
              have e11 := ev_tmp (show fr.eval (.tmp 137) = .bool (true) from hpre 11 (by decide) _ rfl)
              have e14 := ev_tmp (show fr.eval (.tmp 140) = .bool (true) from hpre 14 (by decide) _ rfl)
              have e22 := ev_tmp (show fr.eval (.tmp 148) = undef from hpre 22 (by decide) _ rfl)
              clear hpre hfree
              refine stpK_g rfl rfl e11 rfl fun K hK => ?_
              go_simp
              exact hK _ _ ⟨rfl, hW, Below.refl _ _, fun h => (List.not_mem_nil h).elim⟩
            | 24, ho, hr =>
              obtain rfl := Option.some.inj ho; obtain rfl := Option.some.inj hr
              have e11 := ev_tmp (show fr.eval (.tmp 137) = .bool (true) from hpre 11 (by decide) _ rfl)
              have e23 := ev_tmp (show fr.eval (.tmp 149) = .bool (true) from hpre 23 (by decide) _ rfl)
              clear hpre hfree
              refine stpK rfl rfl fun K hK => ?_
              go_simp
              exact hK _ _ ⟨rfl, hW, Below.refl _ _, fun h => (List.not_mem_nil h).elim⟩
            | n + 25, ho, hr => exact absurd hr (by simp)
          · intro vs w21 hvs hW1 hap0
            clear hap0
            have e0 : vs 0 = .agg #[.int .i64 (4), .int .i64 (0)] := hvs 0 (by decide)
            have e1 : vs 1 = .agg #[.int .i64 (4), .int .i64 (0)] := hvs 1 (by decide)
            have e2 : vs 2 = .bool (true) := hvs 2 (by decide)
            have e3 : vs 3 = .bool (true) := hvs 3 (by decide)
            have e4 : vs 4 = .slice none (0) (0) := hvs 4 (by decide)
            have e5 : vs 5 = .int .i64 (((0 : Nat) : Int)) := hvs 5 (by decide)
            have e6 : vs 6 = .slice none (0) (0) := hvs 6 (by decide)
            have e7 : vs 7 = .int .i64 (((0 : Nat) : Int)) := hvs 7 (by decide)
            have e8 : vs 8 = .int .i64 (0) := hvs 8 (by decide)
            have e9 : vs 9 = .bool (true) := hvs 9 (by decide)
            have e10 : vs 10 = .bool (true) := hvs 10 (by decide)
            have e11 : vs 11 = .bool (true) := hvs 11 (by decide)
            have e12 : vs 12 = .int .i64 (n) := hvs 12 (by decide)
            have e13 : vs 13 = .bool (true) := hvs 13 (by decide)
            have e14 : vs 14 = .bool (true) := hvs 14 (by decide)
            have e15 : vs 15 = undef := hvs 15 (by decide)
            have e16 : vs 16 = undef := hvs 16 (by decide)
            have e17 : vs 17 = undef := hvs 17 (by decide)
            have e18 : vs 18 = undef := hvs 18 (by decide)
            have e19 : vs 19 = undef := hvs 19 (by decide)
            have e20 : vs 20 = undef := hvs 20 (by decide)
            have e21 : vs 21 = undef := hvs 21 (by decide)
            have e22 : vs 22 = undef := hvs 22 (by decide)
            have e23 : vs 23 = .bool (true) := hvs 23 (by decide)
            have e24 : vs 24 = .bool (true) := hvs 24 (by decide)
            simp only [puts, Nat.reduceAdd, e0, e1, e2, e3, e4, e5, e6, e7, e8, e9, e10, e11, e12, e13, e14, e15, e16, e17, e18, e19, e20, e21, e22, e23, e24, Act.put, List.setIfInBounds_toArray, List.set_cons_zero, List.set_cons_succ, List.drop_succ_cons, List.drop_zero, List.length_cons, List.length_nil]
            clear hvs e0 e1 e2 e3 e4 e5 e6 e7 e8 e9 e10 e11 e12 e13 e14 e15 e16 e17 e18 e19 e20 e21 e22 e23 e24
            have HSTc : Hid (Below w20.heap.size w20 w21) := hW1
            clear hW1 l18 g0 g1 x0 x1 l16 e0 e1 y0 y1
            go_wp2
            refine bodyPost_ret (v := .bool true) (by simp [results, go_sem, loadVar]) rfl ?_
            exact ⟨rfl, (HSTb.out.below HSTc.out).bs.B⟩
        · have hdn : decide (n < 0) = false := by simpa using hneg
          obtain rfl : c18 = 4 := by rw [H18.out, if_neg hneg]
          go_upto_region 23 with fail
          refine wp_drawn mixed [⟨126, [], [], [16]⟩, ⟨127, [], [], []⟩, ⟨128, [0, 1], [0, 1], []⟩, ⟨129, [1, 2], [0, 1, 2], []⟩, ⟨130, [3], [0, 1, 2, 3], [14]⟩, ⟨131, [3, 4], [0, 1, 2, 3, 4], []⟩, ⟨132, [3], [0, 1, 2, 3], [15]⟩, ⟨133, [3, 6], [0, 1, 2, 3, 6], []⟩, ⟨134, [3, 5, 7], [0, 1, 2, 3, 4, 5, 6, 7], []⟩, ⟨135, [3, 8], [0, 1, 2, 3, 4, 5, 6, 7, 8], []⟩, ⟨136, [3, 9], [0, 1, 2, 3, 4, 5, 6, 7, 8, 9], []⟩, ⟨137, [3, 10], [0, 1, 2, 3, 4, 5, 6, 7, 8, 9, 10], []⟩, ⟨138, [11], [0, 1, 2, 3, 4, 5, 6, 7, 8, 9, 10, 11], [2]⟩, ⟨139, [11, 12], [0, 1, 2, 3, 4, 5, 6, 7, 8, 9, 10, 11, 12], []⟩, ⟨140, [11, 13], [0, 1, 2, 3, 4, 5, 6, 7, 8, 9, 10, 11, 12, 13], []⟩, ⟨141, [14], [0, 1, 2, 3, 4, 5, 6, 7, 8, 9, 10, 11, 12, 13, 14], [18]⟩, ⟨142, [14], [0, 1, 2, 3, 4, 5, 6, 7, 8, 9, 10, 11, 12, 13, 14], [16]⟩, ⟨143, [14, 15, 16], [0, 1, 2, 3, 4, 5, 6, 7, 8, 9, 10, 11, 12, 13, 14, 15, 16], []⟩, ⟨144, [14, 17], [0, 1, 2, 3, 4, 5, 6, 7, 8, 9, 10, 11, 12, 13, 14, 15, 16, 17], []⟩, ⟨145, [18], [0, 1, 2, 3, 4, 5, 6, 7, 8, 9, 10, 11, 12, 13, 14, 15, 16, 17, 18], [17]⟩, ⟨146, [18, 19], [0, 1, 2, 3, 4, 5, 6, 7, 8, 9, 10, 11, 12, 13, 14, 15, 16, 17, 18, 19], []⟩, ⟨147, [18, 20], [0, 1, 2, 3, 4, 5, 6, 7, 8, 9, 10, 11, 12, 13, 14, 15, 16, 17, 18, 19, 20], []⟩, ⟨148, [14, 18, 21], [0, 1, 2, 3, 4, 5, 6, 7, 8, 9, 10, 11, 12, 13, 14, 15, 16, 17, 18, 19, 20, 21], []⟩, ⟨149, [11, 14, 22], [0, 1, 2, 3, 4, 5, 6, 7, 8, 9, 10, 11, 12, 13, 14, 15, 16, 17, 18, 19, 20, 21, 22], []⟩, ⟨150, [11, 23], [0, 1, 2, 3, 4, 5, 6, 7, 8, 9, 10, 11, 12, 13, 14, 15, 16, 17, 18, 19, 20, 21, 22, 23], []⟩] [] (by kernel_rfl) 201 rfl (by kernel_rfl) (fun (i : Nat) (v : Value) (wq : World) => match i with | 0 => v = .agg #[.int .i64 (4), .int .i64 (0)] | 1 => v = .agg #[.int .i64 (4), .int .i64 (0)] | 2 => v = .bool (true) | 3 => v = .bool (true) | 4 => v = .slice none (0) (0) | 5 => v = .int .i64 (((0 : Nat) : Int)) | 6 => v = .slice none (0) (0) | 7 => v = .int .i64 (((0 : Nat) : Int)) | 8 => v = .int .i64 (0) | 9 => v = .bool (true) | 10 => v = .bool (true) | 11 => v = .bool (true) | 12 => v = .int .i64 (n) | 13 => v = .bool (false) | 14 => v = .bool (false) | 15 => v = .agg #[.int .i64 (4), .int .i64 (0)] | 16 => v = .agg #[.int .i64 (4), .int .i64 (0)] | 17 => v = .bool (true) | 18 => v = .bool (true) | 19 => v = .slice none (0) (0) | 20 => v = .int .i64 (((0 : Nat) : Int)) | 21 => v = .bool (true) | 22 => v = .bool (true) | 23 => v = .bool (true) | 24 => v = .bool (true) | _ => True) (fun _ wq => Below w20.heap.size w20 wq) (fun wx wy => Below wx.heap.size wx wy) (Below.refl _ _).drew (fun i v wx wy h hx => match i, h with | 0, h => h | 1, h => h | 2, h => h | 3, h => h | 4, h => h | 5, h => h | 6, h => h | 7, h => h | 8, h => h | 9, h => h | 10, h => h | 11, h => h | 12, h => h | 13, h => h | 14, h => h | 15, h => h | 16, h => h | 17, h => h | 18, h => h | 19, h => h | 20, h => h | 21, h => h | 22, h => h | 23, h => h | 24, h => h  | n + 25, _ => trivial) ?_ ?_
          · intro i o r ho hr L fr wx hW hL hpr hds hdef hpre hfree
            clear hL hpr hds hdef
            match i, ho, hr with
            | 0, ho, hr =>
              obtain rfl := Option.some.inj ho; obtain rfl := Option.some.inj hr
              have t16 := ev_tmp (show fr.eval (.tmp 16) = .pointer (some ⟨b16, 0, none⟩) from hfree 16 (by decide))
              clear hpre hfree
              have c0 := (hW.cell (p := ⟨b16, 0, none⟩) l16).trans e0
              have c1 := (hW.cell (p := ⟨b16, 1, none⟩) l16).trans e1
              refine stpK rfl rfl fun K hK => ?_
              go_simp
              exact hK _ _ ⟨rfl, hW, Below.refl _ _, fun h => (List.not_mem_nil h).elim⟩
            | 1, ho, hr =>
              obtain rfl := Option.some.inj ho; obtain rfl := Option.some.inj hr
              clear hpre hfree
              refine stpK rfl rfl fun K hK => ?_
              go_simp
              refine (fault_any wx 4 0).mono ?_
              rintro e wy ⟨rfl, hb⟩
              exact hK _ _ ⟨rfl, hW.trans (hb.mono hW.size), hb, fun h => (List.not_mem_nil h).elim⟩
            | 2, ho, hr =>
              obtain rfl := Option.some.inj ho; obtain rfl := Option.some.inj hr
              have e0 := ev_tmp (show fr.eval (.tmp 126) = .agg #[.int .i64 (4), .int .i64 (0)] from hpre 0 (by decide) _ rfl)
              have e1 := ev_tmp (show fr.eval (.tmp 127) = .agg #[.int .i64 (4), .int .i64 (0)] from hpre 1 (by decide) _ rfl)
              clear hpre hfree
              refine stpK rfl rfl fun K hK => ?_
              go_simp
              exact hK _ _ ⟨rfl, hW, Below.refl _ _, fun h => (List.not_mem_nil h).elim⟩
            | 3, ho, hr =>
              obtain rfl := Option.some.inj ho; obtain rfl := Option.some.inj hr
              have e2 := ev_tmp (show fr.eval (.tmp 128) = .bool (true) from hpre 2 (by decide) _ rfl)
              clear hpre hfree
              refine stpK rfl rfl fun K hK => ?_
              go_simp
              exact hK _ _ ⟨rfl, hW, Below.refl _ _, fun h => (List.not_mem_nil h).elim⟩
            | 4, ho, hr =>
              obtain rfl := Option.some.inj ho; obtain rfl := Option.some.inj hr
              have e3 := ev_tmp (show fr.eval (.tmp 129) = .bool (true) from hpre 3 (by decide) _ rfl)
              have t14 := ev_tmp (show fr.eval (.tmp 14) = .slice none (0) (0) from hfree 14 (by decide))
              clear hpre hfree
              refine stpK_g rfl rfl e3 rfl fun K hK => ?_
              go_simp
              exact hK _ _ ⟨rfl, hW, Below.refl _ _, fun h => (List.not_mem_nil h).elim⟩
            | 5, ho, hr =>
              obtain rfl := Option.some.inj ho; obtain rfl := Option.some.inj hr
              have e3 := ev_tmp (show fr.eval (.tmp 129) = .bool (true) from hpre 3 (by decide) _ rfl)
              have e4 := ev_tmp (show fr.eval (.tmp 130) = .slice none (0) (0) from hpre 4 (by decide) _ rfl)
              clear hpre hfree
              refine stpK_g rfl rfl e3 rfl fun K hK => ?_
              go_simp
              exact hK _ _ ⟨rfl, hW, Below.refl _ _, fun h => (List.not_mem_nil h).elim⟩
            | 6, ho, hr =>
              obtain rfl := Option.some.inj ho; obtain rfl := Option.some.inj hr
              have e3 := ev_tmp (show fr.eval (.tmp 129) = .bool (true) from hpre 3 (by decide) _ rfl)
              have t15 := ev_tmp (show fr.eval (.tmp 15) = .slice none (0) (0) from hfree 15 (by decide))
              clear hpre hfree
              refine stpK_g rfl rfl e3 rfl fun K hK => ?_
              go_simp
              exact hK _ _ ⟨rfl, hW, Below.refl _ _, fun h => (List.not_mem_nil h).elim⟩
            | 7, ho, hr =>
              obtain rfl := Option.some.inj ho; obtain rfl := Option.some.inj hr
              have e3 := ev_tmp (show fr.eval (.tmp 129) = .bool (true) from hpre 3 (by decide) _ rfl)
              have e6 := ev_tmp (show fr.eval (.tmp 132) = .slice none (0) (0) from hpre 6 (by decide) _ rfl)
              clear hpre hfree
              refine stpK_g rfl rfl e3 rfl fun K hK => ?_
              go_simp
              exact hK _ _ ⟨rfl, hW, Below.refl _ _, fun h => (List.not_mem_nil h).elim⟩
            | 8, ho, hr =>
              obtain rfl := Option.some.inj ho; obtain rfl := Option.some.inj hr
              have e3 := ev_tmp (show fr.eval (.tmp 129) = .bool (true) from hpre 3 (by decide) _ rfl)
              have e5 := ev_tmp (show fr.eval (.tmp 131) = .int .i64 (((0 : Nat) : Int)) from hpre 5 (by decide) _ rfl)
              have e7 := ev_tmp (show fr.eval (.tmp 133) = .int .i64 (((0 : Nat) : Int)) from hpre 7 (by decide) _ rfl)
              clear hpre hfree
              refine stpK_g rfl rfl e3 rfl fun K hK => ?_
              go_simp
              exact hK _ _ ⟨(by first | (show Value.int _ (IntKind.i64.wrap _) = _; rw [hw0]) | rfl), hW, Below.refl _ _, fun h => (List.not_mem_nil h).elim⟩
            | 9, ho, hr =>
              obtain rfl := Option.some.inj ho; obtain rfl := Option.some.inj hr
              have e3 := ev_tmp (show fr.eval (.tmp 129) = .bool (true) from hpre 3 (by decide) _ rfl)
              have e8 := ev_tmp (show fr.eval (.tmp 134) = .int .i64 (0) from hpre 8 (by decide) _ rfl)
              clear hpre hfree
              refine stpK_g rfl rfl e3 rfl fun K hK => ?_
              go_simp
              exact hK _ _ ⟨rfl, hW, Below.refl _ _, fun h => (List.not_mem_nil h).elim⟩
            | 10, ho, hr =>
              obtain rfl := Option.some.inj ho; obtain rfl := Option.some.inj hr
              have e3 := ev_tmp (show fr.eval (.tmp 129) = .bool (true) from hpre 3 (by decide) _ rfl)
              have e9 := ev_tmp (show fr.eval (.tmp 135) = .bool (true) from hpre 9 (by decide) _ rfl)
              clear hpre hfree
              refine stpK rfl rfl fun K hK => ?_
              go_simp
              exact hK _ _ ⟨rfl, hW, Below.refl _ _, fun h => (List.not_mem_nil h).elim⟩
            | 11, ho, hr =>
              obtain rfl := Option.some.inj ho; obtain rfl := Option.some.inj hr
              have e10 := ev_tmp (show fr.eval (.tmp 136) = .bool (true) from hpre 10 (by decide) _ rfl)
              clear hpre hfree
              refine stpK rfl rfl fun K hK => ?_
              go_simp
              exact hK _ _ ⟨rfl, hW, Below.refl _ _, fun h => (List.not_mem_nil h).elim⟩
            | 12, ho, hr =>
              obtain rfl := Option.some.inj ho; obtain rfl := Option.some.inj hr
              have e11 := ev_tmp (show fr.eval (.tmp 137) = .bool (true) from hpre 11 (by decide) _ rfl)
              have t2 := ev_tmp (show fr.eval (.tmp 2) = .int .i64 (n) from hfree 2 (by decide))
              clear hpre hfree
              refine stpK_g rfl rfl e11 rfl fun K hK => ?_
              go_simp
              exact hK _ _ ⟨rfl, hW, Below.refl _ _, fun h => (List.not_mem_nil h).elim⟩
            | 13, ho, hr =>
              obtain rfl := Option.some.inj ho; obtain rfl := Option.some.inj hr
              have e11 := ev_tmp (show fr.eval (.tmp 137) = .bool (true) from hpre 11 (by decide) _ rfl)
              have e12 := ev_tmp (show fr.eval (.tmp 138) = .int .i64 (n) from hpre 12 (by decide) _ rfl)
              clear hpre hfree
              refine stpK_g rfl rfl e11 rfl fun K hK => ?_
              go_simp
              exact hK _ _ ⟨(by first | rfl | exact congrArg Value.bool hdn | simp [hdn]), hW, Below.refl _ _, fun h => (List.not_mem_nil h).elim⟩
            | 14, ho, hr =>
              obtain rfl := Option.some.inj ho; obtain rfl := Option.some.inj hr
              have e11 := ev_tmp (show fr.eval (.tmp 137) = .bool (true) from hpre 11 (by decide) _ rfl)
              have e13 := ev_tmp (show fr.eval (.tmp 139) = .bool (false) from hpre 13 (by decide) _ rfl)
              clear hpre hfree
              refine stpK_g rfl rfl e11 rfl fun K hK => ?_
              go_simp
              exact hK _ _ ⟨rfl, hW, Below.refl _ _, fun h => (List.not_mem_nil h).elim⟩
            | 15, ho, hr =>
              obtain rfl := Option.some.inj ho; obtain rfl := Option.some.inj hr
              have e14 := ev_tmp (show fr.eval (.tmp 140) = .bool (false) from hpre 14 (by decide) _ rfl)
              have t18 := ev_tmp (show fr.eval (.tmp 18) = .pointer (some ⟨b18, 0, none⟩) from hfree 18 (by decide))
              clear hpre hfree
              have c0 := (hW.cell (p := ⟨b18, 0, none⟩) l18).trans g0
              have c1 := (hW.cell (p := ⟨b18, 1, none⟩) l18).trans g1
              refine stpK_g rfl rfl e14 rfl fun K hK => ?_
              go_simp
              exact hK _ _ ⟨rfl, hW, Below.refl _ _, fun h => (List.not_mem_nil h).elim⟩
            | 16, ho, hr =>
              obtain rfl := Option.some.inj ho; obtain rfl := Option.some.inj hr
              have e14 := ev_tmp (show fr.eval (.tmp 140) = .bool (false) from hpre 14 (by decide) _ rfl)
              have t16 := ev_tmp (show fr.eval (.tmp 16) = .pointer (some ⟨b16, 0, none⟩) from hfree 16 (by decide))
              clear hpre hfree
              have c0 := (hW.cell (p := ⟨b16, 0, none⟩) l16).trans e0
              have c1 := (hW.cell (p := ⟨b16, 1, none⟩) l16).trans e1
              refine stpK_g rfl rfl e14 rfl fun K hK => ?_
              go_simp
              exact hK _ _ ⟨rfl, hW, Below.refl _ _, fun h => (List.not_mem_nil h).elim⟩
            | 17, ho, hr =>
              obtain rfl := Option.some.inj ho; obtain rfl := Option.some.inj hr
              have e14 := ev_tmp (show fr.eval (.tmp 140) = .bool (false) from hpre 14 (by decide) _ rfl)
              have e15 := ev_tmp (show fr.eval (.tmp 141) = .agg #[.int .i64 (4), .int .i64 (0)] from hpre 15 (by decide) _ rfl)
              have e16 := ev_tmp (show fr.eval (.tmp 142) = .agg #[.int .i64 (4), .int .i64 (0)] from hpre 16 (by decide) _ rfl)
              clear hpre hfree
              refine stpK_g rfl rfl e14 rfl fun K hK => ?_
              go_simp
              exact hK _ _ ⟨rfl, hW, Below.refl _ _, fun h => (List.not_mem_nil h).elim⟩
            | 18, ho, hr =>
              obtain rfl := Option.some.inj ho; obtain rfl := Option.some.inj hr
              have e14 := ev_tmp (show fr.eval (.tmp 140) = .bool (false) from hpre 14 (by decide) _ rfl)
              have e17 := ev_tmp (show fr.eval (.tmp 143) = .bool (true) from hpre 17 (by decide) _ rfl)
              clear hpre hfree
              refine stpK_g rfl rfl e14 rfl fun K hK => ?_
              go_simp
              exact hK _ _ ⟨rfl, hW, Below.refl _ _, fun h => (List.not_mem_nil h).elim⟩
            | 19, ho, hr =>
              obtain rfl := Option.some.inj ho; obtain rfl := Option.some.inj hr
              have e18 := ev_tmp (show fr.eval (.tmp 144) = .bool (true) from hpre 18 (by decide) _ rfl)
              have t17 := ev_tmp (show fr.eval (.tmp 17) = .slice none (0) (0) from hfree 17 (by decide))
              clear hpre hfree
              refine stpK_g rfl rfl e18 rfl fun K hK => ?_
              go_simp
              exact hK _ _ ⟨rfl, hW, Below.refl _ _, fun h => (List.not_mem_nil h).elim⟩
            | 20, ho, hr =>
              obtain rfl := Option.some.inj ho; obtain rfl := Option.some.inj hr
              have e18 := ev_tmp (show fr.eval (.tmp 144) = .bool (true) from hpre 18 (by decide) _ rfl)
              have e19 := ev_tmp (show fr.eval (.tmp 145) = .slice none (0) (0) from hpre 19 (by decide) _ rfl)
              clear hpre hfree
              refine stpK_g rfl rfl e18 rfl fun K hK => ?_
              go_simp
              exact hK _ _ ⟨rfl, hW, Below.refl _ _, fun h => (List.not_mem_nil h).elim⟩
            | 21, ho, hr =>
              obtain rfl := Option.some.inj ho; obtain rfl := Option.some.inj hr
              have e18 := ev_tmp (show fr.eval (.tmp 144) = .bool (true) from hpre 18 (by decide) _ rfl)
              have e20 := ev_tmp (show fr.eval (.tmp 146) = .int .i64 (((0 : Nat) : Int)) from hpre 20 (by decide) _ rfl)
              clear hpre hfree
              refine stpK_g rfl rfl e18 rfl fun K hK => ?_
              go_simp
              exact hK _ _ ⟨rfl, hW, Below.refl _ _, fun h => (List.not_mem_nil h).elim⟩
            | 22, ho, hr =>
              obtain rfl := Option.some.inj ho; obtain rfl := Option.some.inj hr
              have e14 := ev_tmp (show fr.eval (.tmp 140) = .bool (false) from hpre 14 (by decide) _ rfl)
              have e18 := ev_tmp (show fr.eval (.tmp 144) = .bool (true) from hpre 18 (by decide) _ rfl)
              have e21 := ev_tmp (show fr.eval (.tmp 147) = .bool (true) from hpre 21 (by decide) _ rfl)
              clear hpre hfree
              refine stpK_g rfl rfl e14 rfl fun K hK => ?_
              go_simp
              exact hK _ _ ⟨rfl, hW, Below.refl _ _, fun h => (List.not_mem_nil h).elim⟩
            | 23, ho, hr =>
              obtain rfl := Option.some.inj ho; obtain rfl := Option.some.inj hr
              have e11 := ev_tmp (show fr.eval (.tmp 137) = .bool (true) from hpre 11 (by decide) _ rfl)
              have e14 := ev_tmp (show fr.eval (.tmp 140) = .bool (false) from hpre 14 (by decide) _ rfl)
              have e22 := ev_tmp (show fr.eval (.tmp 148) = .bool (true) from hpre 22 (by decide) _ rfl)
              clear hpre hfree
              refine stpK_g rfl rfl e11 rfl fun K hK => ?_
              go_simp
              exact hK _ _ ⟨rfl, hW, Below.refl _ _, fun h => (List.not_mem_nil h).elim⟩
            | 24, ho, hr =>
              obtain rfl := Option.some.inj ho; obtain rfl := Option.some.inj hr
              have e11 := ev_tmp (show fr.eval (.tmp 137) = .bool (true) from hpre 11 (by decide) _ rfl)
              have e23 := ev_tmp (show fr.eval (.tmp 149) = .bool (true) from hpre 23 (by decide) _ rfl)
              clear hpre hfree
              refine stpK rfl rfl fun K hK => ?_
              go_simp
              exact hK _ _ ⟨rfl, hW, Below.refl _ _, fun h => (List.not_mem_nil h).elim⟩
            | n + 25, ho, hr => exact absurd hr (by simp)
          · intro vs w21 hvs hW1 hap0
            clear hap0
            have e0 : vs 0 = .agg #[.int .i64 (4), .int .i64 (0)] := hvs 0 (by decide)
            have e1 : vs 1 = .agg #[.int .i64 (4), .int .i64 (0)] := hvs 1 (by decide)
            have e2 : vs 2 = .bool (true) := hvs 2 (by decide)
            have e3 : vs 3 = .bool (true) := hvs 3 (by decide)
            have e4 : vs 4 = .slice none (0) (0) := hvs 4 (by decide)
            have e5 : vs 5 = .int .i64 (((0 : Nat) : Int)) := hvs 5 (by decide)
            have e6 : vs 6 = .slice none (0) (0) := hvs 6 (by decide)
            have e7 : vs 7 = .int .i64 (((0 : Nat) : Int)) := hvs 7 (by decide)
            have e8 : vs 8 = .int .i64 (0) := hvs 8 (by decide)
            have e9 : vs 9 = .bool (true) := hvs 9 (by decide)
            have e10 : vs 10 = .bool (true) := hvs 10 (by decide)
            have e11 : vs 11 = .bool (true) := hvs 11 (by decide)
            have e12 : vs 12 = .int .i64 (n) := hvs 12 (by decide)
            have e13 : vs 13 = .bool (false) := hvs 13 (by decide)
            have e14 : vs 14 = .bool (false) := hvs 14 (by decide)
            have e15 : vs 15 = .agg #[.int .i64 (4), .int .i64 (0)] := hvs 15 (by decide)
            have e16 : vs 16 = .agg #[.int .i64 (4), .int .i64 (0)] := hvs 16 (by decide)
            have e17 : vs 17 = .bool (true) := hvs 17 (by decide)
            have e18 : vs 18 = .bool (true) := hvs 18 (by decide)
            have e19 : vs 19 = .slice none (0) (0) := hvs 19 (by decide)
            have e20 : vs 20 = .int .i64 (((0 : Nat) : Int)) := hvs 20 (by decide)
            have e21 : vs 21 = .bool (true) := hvs 21 (by decide)
            have e22 : vs 22 = .bool (true) := hvs 22 (by decide)
            have e23 : vs 23 = .bool (true) := hvs 23 (by decide)
            have e24 : vs 24 = .bool (true) := hvs 24 (by decide)
            simp only [puts, Nat.reduceAdd, e0, e1, e2, e3, e4, e5, e6, e7, e8, e9, e10, e11, e12, e13, e14, e15, e16, e17, e18, e19, e20, e21, e22, e23, e24, Act.put, List.setIfInBounds_toArray, List.set_cons_zero, List.set_cons_succ, List.drop_succ_cons, List.drop_zero, List.length_cons, List.length_nil]
            clear hvs e0 e1 e2 e3 e4 e5 e6 e7 e8 e9 e10 e11 e12 e13 e14 e15 e16 e17 e18 e19 e20 e21 e22 e23 e24
            have HSTc : Hid (Below w20.heap.size w20 w21) := hW1
            clear hW1 l18 g0 g1 x0 x1 l16 e0 e1 y0 y1
            go_wp2
            refine bodyPost_ret (v := .bool true) (by simp [results, go_sem, loadVar]) rfl ?_
            exact ⟨rfl, (HSTb.out.below HSTc.out).bs.B⟩
      · have hy0 : 0 < ys.length := by have := HM2.out; omega
        have HY0 : Hid (0 < ys.length) := hy0
        obtain ⟨hc16, e18⟩ : c16 = 0 ∧ c18 = (if n < 0 then 7 else 0) := by
          have h1 := H16.out
          rw [h1.1, h1.2]
          refine ⟨if_neg (by omega), ?_⟩
          by_cases h : n < 0
          · rw [if_pos h, if_pos h]
          · rw [if_neg h, if_neg h, if_neg (by omega)]
        subst hc16
        have H18 : Hid (c18 = (if n < 0 then 7 else 0)) := e18
        clear e18 hy0
        have HDD : Hid (∃ Q z, SR w20 (b11 + 1) vq Q ∧ SR w20 (b11 + 1) vr z ∧ Dvd p ys xs Q z) := by
          cases HSTb.out.d with
          | bad h h1 h2 => exact absurd HE.out.2.2.2.1 h
          | ok h Q z h1 h2 hD => exact ⟨Q, z, h1, h2, hD⟩
        obtain ⟨Q, z, hQ, hz', hD⟩ := HDD.out
        have HQ : Hid (SR w20 (b11 + 1) vq Q) := hQ
        have HD : Hid (Dvd p ys xs Q z) := hD
        obtain ⟨ar, br, orr, cr, hvr, -, -⟩ := hz'.view
        subst hvr
        obtain ⟨zl, hzl⟩ : ∃ zl, z.length = zl := ⟨_, rfl⟩
        rw [hzl] at hz' HSTb ⊢
        have HZ : Hid (SR w20 (b11 + 1) (.slice ar zl cr) z) := hz'
        have hlt : zl < m2 := by have := hD.rl; have := HM2.out; omega
        have hlt1 : ¬ (m2 : Int) ≤ (zl : Int) := by omega
        have hlt2 : ¬ m2 ≤ zl := by omega
        have HFQ : Hid (IsF p Q ∧ IsF p z) := hD.isF HFF.out.1 HFF.out.2 HY0.out
        have hmz : ¬ (m2 : Int) = 0 := by omega
        have hmb : ((m2 : Int) == 0) = false := by simpa using hmz
        have HZL : Hid (z.length = zl) := hzl
        have hql := HFQ.out.1.len
        have hzl2 := HFQ.out.2.len
        have hly := HLL.out.2
        have CMM := mmul_any w20 vq _ Q ys p hQ.view HSTb.out.bs.i2.vw (by omega) HFQ.out.1.all HFF.out.2.all (by omega) (by omega)
        have HQL : Hid (Q.length ≤ 65 ∧ z.length ≤ 65) := ⟨hql, hzl2⟩
        clear hQ hz' hD HDD hzl hql hzl2 hly
        obtain ⟨l16, e0, e1, y0, y1⟩ := HSTb.out.f16
        have hfld : ∀ w, Sem.run Tryd.prog (Instr.field 24 (Flt 0 0) 0) w = .ok (.int .i64 0) w := fun _ => by kernel_rfl
        go_wp2_with (go_at_call 15; fail)
        refine CMM.mono ?_
        rintro e w21 ⟨u21, z21, rfl, hS21, hb21, hN21⟩
        have HST21 : Hid (ST w w2 w21 p n xs ys v1 (.slice a2 m2 k2) v9 v10 vm vq (.slice ar zl cr) vw b11 b13 b16 b18 0 0 0 0 0 0 c18) := HSTb.out.below hb21
        have HV21 : Hid (VW w21 u21 z21) := hS21.view
        have HN21 : Hid (Nrm p (row (pmul Q ys)) z21) := hN21
        have HQ21 : Hid (SR w21 (b11 + 1) vq Q) := HQ.out.below hb21
        have HZ21 : Hid (SR w21 (b11 + 1) (.slice ar zl cr) z) := HZ.out.below hb21
        have hl21 : z21.length ≤ 200 := by
          have h1 := hN21.len (n := Q.length + ys.length) (fun j hj => by rw [row_pmul_ge Q ys j (by omega)]; simp)
          have h2 := HQL.out
          have h3 := HLL.out
          omega
        have CMA := madd_any w21 u21 _ z21 z p HV21.out HZ21.out.view (by omega) (hN21.isP (by omega)).bd HFQ.out.2.all (by omega) (by have := HQL.out; omega)
        clear hS21 hb21 hN21 CMM l16 e0 e1 y0 y1 HQ HZ
        go_wp2_with (go_at_call 17; fail)
        refine CMA.mono ?_
        rintro e w22 ⟨u22, z22, rfl, hS22, hb22, hN22⟩
        have HST22 : Hid (ST w w2 w22 p n xs ys v1 (.slice a2 m2 k2) v9 v10 vm vq (.slice ar zl cr) vw b11 b13 b16 b18 0 0 0 0 0 0 c18) := HST21.out.below hb22
        have HQ22 : Hid (SR w22 (b11 + 1) vq Q) := HQ21.out.below hb22
        have HZ22 : Hid (SR w22 (b11 + 1) (.slice ar zl cr) z) := HZ21.out.below hb22
        have he22 : z22 = xs := by
          refine hN22.uniq (y := xs) (s := row xs) ⟨fun j => by rw [row_getD]; exact (Int.emod_eq_of_lt (HFF.out.1.all j).1 (HFF.out.1.all j).2).symm, HFF.out.1.last⟩ (fun j => ?_)
          rw [HD.out.eq j, HN21.out.eq j, row_pmul, Int.emod_add_emod, Int.add_comm]
        subst he22
        have CS := same_any w22 u22 v1 z22 z22 hS22.view HST22.out.bs.i1.vw HST22.out.bs.i1.len HST22.out.bs.i1.len
        clear hS22 hb22 hN22 CMA hl21 HV21 HN21 HST21 HQ21 HZ21
        go_wp2_with (go_at_call 14; fail)
        refine CS.mono ?_
        rintro e w23 ⟨r, rfl, hr, hb23⟩
        obtain rfl : r = true := hr.2 (by trivial)
        have HST23 : Hid (ST w w2 w23 p n z22 ys v1 (.slice a2 m2 k2) v9 v10 vm vq (.slice ar zl cr) vw b11 b13 b16 b18 0 0 0 0 0 0 c18) := HST22.out.below hb23
        have HQ23 : Hid (SR w23 (b11 + 1) vq Q) := HQ22.out.below hb23
        have HZ23 : Hid (SR w23 (b11 + 1) (.slice ar zl cr) z) := HZ22.out.below hb23
        clear hr hb23 CS HST22 HQ22 HZ22
        have CC := checkMod_any w23 vq Q p (HQ23.out.il (by have := HQL.out; omega))
        rw [HFQ.out.1.ck.1, HFQ.out.1.ck.2] at CC
        go_wp2_with (go_at_call 8; fail)
        refine CC.mono ?_
        rintro e w24 ⟨rfl, hb24⟩
        have HST24 : Hid (ST w w2 w24 p n z22 ys v1 (.slice a2 m2 k2) v9 v10 vm vq (.slice ar zl cr) vw b11 b13 b16 b18 0 0 0 0 0 0 c18) := HST23.out.below hb24
        have HZ24 : Hid (SR w24 (b11 + 1) (.slice ar zl cr) z) := HZ23.out.below hb24
        clear hb24 CC HST23 HQ23 HZ23
        have CC := checkMod_any w24 _ z p (HZ24.out.il (by have := HQL.out; omega))
        rw [HFQ.out.2.ck.1, HFQ.out.2.ck.2] at CC
        go_wp2_with (go_at_call 8; fail)
        refine CC.mono ?_
        rintro e w25 ⟨rfl, hb25⟩
        have HST25 : Hid (ST w w2 w25 p n z22 ys v1 (.slice a2 m2 k2) v9 v10 vm vq (.slice ar zl cr) vw b11 b13 b16 b18 0 0 0 0 0 0 c18) := HST24.out.below hb25
        clear hb25 CC HST24 HZ24
        by_cases hneg : n < 0
        · go_wp2
          refine bodyPost_ret (v := .bool true) (by simp [results, go_sem, loadVar]) rfl ?_
          exact ⟨rfl, HST25.out.bs.B⟩
        · obtain ⟨N, hnN⟩ : ∃ N : Nat, n = (N : Int) := ⟨n.toNat, by omega⟩
          obtain rfl : c18 = 0 := by rw [H18.out, if_neg hneg]
          have HW : Hid (∃ zw, VW w25 vw zw ∧ Res p ys (row (ppow z22 N)) zw) := by
            cases HST25.out.w with
            | bad h hu => exact absurd HE.out.2.2.2.2.2 h
            | ok h zw hS hR =>
              rw [hnN, Int.toNat_natCast] at hR
              exact ⟨zw, hS.view, hR⟩
          have CP := mpower_any w25 v1 _ z22 ys p N HST25.out.bs.i1.vw HST25.out.bs.i2.vw HFF.out.1 HFF.out.2 HY0.out (by have := HN.out; omega)
          rw [← hnN] at CP
          obtain ⟨l18, g0, g1, x0, x1⟩ := HST25.out.f18
          clear H18 hlt hlt1 hlt2 hnN
          go_wp2_with (go_at_call 18; fail)
          refine CP.mono ?_
          rintro e w26 ⟨u26, z26, rfl, hV26, hb26, hR26⟩
          obtain ⟨zw, hVw, hRw⟩ := HW.out
          have he26 : zw = z26 := Res.eq HY0.out (HFF.out.2.pr.gcd (HFF.out.2.all _).1 (HFF.out.2.last HY0.out) (HFF.out.2.all _).2) hRw hR26 (.refl _ _ _)
          subst he26
          have hlw := hRw.len
          have CS := same_any w26 vw u26 zw zw (hVw.below hb26) hV26 (by have := HLL.out; omega) (by have := HLL.out; omega)
          have HST26 : Hid (ST w w2 w26 p n z22 ys v1 (.slice a2 m2 k2) v9 v10 vm vq (.slice ar zl cr) vw b11 b13 b16 b18 0 0 0 0 0 0 0) := HST25.out.below hb26
          clear hV26 hb26 hR26 hVw hRw hlw CP l18 g0 g1 x0 x1 HST25
          go_wp2_with (go_at_call 14; fail)
          refine CS.mono ?_
          rintro e w27 ⟨r, rfl, hr, hb27⟩
          obtain rfl : r = true := hr.2 (by trivial)
          have HST27 : Hid (ST w w2 w27 p n z22 ys v1 (.slice a2 m2 k2) v9 v10 vm vq (.slice ar zl cr) vw b11 b13 b16 b18 0 0 0 0 0 0 0) := HST26.out.below hb27
          clear hr hb27 CS HST26
          go_wp2
          refine bodyPost_ret (v := .bool true) (by simp [results, go_sem, loadVar]) rfl ?_
          exact ⟨rfl, HST27.out.bs.B⟩
  · have H0 : Hid (ckBC p xs ys ≠ 0) := by show _ ≠ _; rw [HE.out.2.1]; exact h0
    have H16 : Hid (c16 = c13 ∧ a16 = a13 ∧ c18 = c13) := by
      have h1 := HE.out.2
      refine ⟨?_, ?_, ?_⟩
      · rw [← h1.2.2.1, ← h1.1]; unfold dvC; rw [if_neg H0.out]
      · rw [← h1.2.2.2.1, ← h1.2.1, if_neg H0.out]; unfold powA; rw [if_neg H0.out]
      · rw [← h1.2.2.2.2, ← h1.1]; unfold powC; rw [if_neg H0.out]
    obtain ⟨rfl, rfl, rfl⟩ := H16.out
    have hnm : vm = .slice none 0 0 := by
      cases HST7.out.m with
      | bad h hu => exact hu
      | ok h z hS hN => exact absurd h H0.out
    have hnq : vq = .slice none 0 0 ∧ vr = .slice none 0 0 := by
      cases HST7.out.d with
      | bad h h1 h2 => exact ⟨h1, h2⟩
      | ok h Q z h1 h2 hD => exact absurd (HE.out.2.2.2.1.symm.trans h) h0
    have hnw : vw = .slice none 0 0 := by
      cases HST7.out.w with
      | bad h hu => exact hu
      | ok h z hS hR => exact absurd (HE.out.2.2.2.2.2.symm.trans h) h0
    subst hnm
    obtain ⟨rfl, rfl⟩ := hnq
    subst hnw
    obtain ⟨l11, d0, d1, z0, z1⟩ := HST7.out.f11
    obtain ⟨l16, e0, e1, y0, y1⟩ := HST7.out.f16
    obtain ⟨l18, g0, g1, x0, x1⟩ := HST7.out.f18
    have h0b : (c18 != 0) = true := by simpa using h0
    go_wp2
    refine bodyPost_ret (v := .bool true) (by simp [results, go_sem, loadVar]) rfl ?_
    exact ⟨rfl, HST7.out.bs.B⟩
end Go.Proofs.YtffdemplaodbcaaDoor
