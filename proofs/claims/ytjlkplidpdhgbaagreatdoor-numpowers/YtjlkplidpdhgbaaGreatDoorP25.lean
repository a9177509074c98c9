/- A part of the proof: W37, W38, V1, V2, V3. -/
import Derived.Test.YtjlkplidpdhgbaaGreatDoorP24
import Derived.Deep.QuietTactic
import Derived.BigQuiet
import Derived.Test.YtjlkplidpdhgbaaGreatDoorP08
import Derived.Test.YtjlkplidpdhgbaaGreatDoorShelf
import Derived.Lib.ConvBytes
import Derived.Test.YtjlkplidpdhgbaaGreatDoorP07
set_option linter.all false

namespace Go.Proofs.YtjlkplidpdhgbaaGreatDoor
open Go Go.Proofs Go.RowKit Go.Rad

theorem ba_drop (s : ByteArray) (k : Nat) : (s.extract k s.size).data.toList = s.data.toList.drop k := by
  rw [ByteArray.data_extract, Array.toList_extract, List.extract_eq_take_drop, List.take_of_length_le]
  simp
theorem ba_take (s : ByteArray) (k : Nat) : (s.extract 0 k).data.toList = s.data.toList.take k := by
  rw [ByteArray.data_extract, Array.toList_extract, List.extract_eq_take_drop]
  simp
theorem ba_size (s : ByteArray) : s.data.toList.length = s.size := by simp
theorem ba_all (s : ByteArray) : s.extract 0 s.size = s := by simp
theorem dl_le (l : List UInt8) : dl l ≤ l.length := by
  unfold dl; have := _root_.Rad.runD_le l; split <;> omega
theorem wlen_nil : _root_.Rad.wlen [] = 0 := rfl
theorem ba_cons {s : ByteArray} (h : 0 < s.size) : s.data.toList = s[0] :: s.data.toList.drop 1 := by
  have := ba_head h
  cases hl : s.data.toList with
  | nil => rw [hl] at this; simp at this
  | cons a t => rw [hl] at this; simp at this; simp [this]
set_option maxRecDepth 10000 in
set_option maxHeartbeats 1000000 in
theorem numberLen_any (w : World) (s : ByteArray) (hs : s.size ≤ 9223372036854775806) (r : Nat) (hr : _root_.Rad.wlen s.data.toList = r) :
    Calls Tryz.prog 62 #[.string s] w fun e w' => e = .returned (.int .i64 (r : Nat)) ∧ w' = w := by
  have hlen : s.data.toList.length = s.size := ba_size s
  by_cases h0 : s.size = 0
  · have e1 := ba_empty h0
    have hnil : s.data.toList = [] := List.eq_nil_of_length_eq_zero (by omega)
    rw [hnil] at hr
    obtain rfl : r = 0 := hr.symm
    have es : s.extract 0 s.size = s := ba_all s
    have CL := digitsLen_any w s hs
    rw [hnil, show dl [] = 0 from rfl] at CL
    have eE : s = ByteArray.empty := by
      apply ByteArray.ext
      apply Array.toList_inj.1
      rw [hnil]; rfl
    clear hr hlen hnil es
    subst eE
    go_enter Tryz.func62, Tryz.ntmps62
    go_wp2_with (go_at_call 96; refine CL.mono ?_; rintro e w' ⟨rfl, hw⟩; subst hw)
    go_ret
    exact ⟨rfl, rfl⟩
  · have e2 : 0 < s.size := by omega
    have e1 := ba_full e2
    have ec := ba_cons e2
    by_cases h1 : s[0] = 45
    · have e3 : (s[0].toNat : Int) = 45 := by rw [h1]; rfl
      obtain ⟨q, hq⟩ : ∃ q, dl (s.data.toList.drop 1) = q := ⟨_, rfl⟩
      have CL := digitsLen_any w (s.extract 1 s.size) (by simp; omega)
      rw [ba_drop, hq] at CL
      have hrq : r = 1 + q := by
        rw [← hr, ec, h1, _root_.Rad.wlen_neg, ← hq]; rfl
      have hqle : q ≤ s.size := by rw [← hq, ← hlen]; refine Nat.le_trans (dl_le _) ?_; simp
      subst hrq
      have ew : IntKind.i64.wrap (1 + (q : Int)) = ((1 + q : Nat) : Int) := by rw [IntKind.wrap_i64]; omega
      clear hr hq hlen ec
      go_enter Tryz.func62, Tryz.ntmps62
      go_wp2_with (go_at_call 96; refine CL.mono ?_; rintro e w' ⟨rfl, hw⟩; subst hw)
      go_ret
      exact ⟨by go_num, rfl⟩
    · have e3 : ¬ (s[0].toNat : Int) = 45 := u8_ne (n := 45) (by decide) h1
      by_cases h2 : s[0] = 48
      · have e4 : (s[0].toNat : Int) = 48 := by rw [h2]; rfl
        obtain rfl : r = 1 := by rw [← hr, ec, h2, _root_.Rad.wlen_zero]
        clear hr hlen ec
        go_enter Tryz.func62, Tryz.ntmps62
        go_wp2
        go_ret
        exact ⟨rfl, rfl⟩
      · have e4 : ¬ (s[0].toNat : Int) = 48 := u8_ne (n := 48) (by decide) h2
        have CL := digitsLen_any w (s.extract 0 s.size) (by rw [ba_all]; exact hs)
        have hrq : dl s.data.toList = r := by
          rw [← hr, ec, _root_.Rad.wlen_pos h1 h2]; unfold dl; rw [if_neg]; simpa using h2
        have hqle : r ≤ s.size := by rw [← hrq, ← hlen]; exact dl_le _
        rw [ba_all, hrq] at CL
        have ea := ba_all s
        have f3 : (((s[0].toNat : Nat) : Int) == 45) = false := by simpa using e3
        have f4 : (((s[0].toNat : Nat) : Int) == 48) = false := by simpa using e4
        have ew : IntKind.i64.wrap ((r : Int)) = (r : Int) := by rw [IntKind.wrap_i64]; omega
        clear hr hlen ec hrq
        go_enter Tryz.func62, Tryz.ntmps62
        go_wp2_with (go_at_call 96; refine CL.mono ?_; rintro e w' ⟨rfl, hw⟩; subst hw)
        go_ret
        exact ⟨by go_num, rfl⟩
end Go.Proofs.YtjlkplidpdhgbaaGreatDoor

namespace Go.Proofs.YtjlkplidpdhgbaaGreatDoor
open Go Go.Proofs Go.RowKit Go.Rad

set_option maxRecDepth 10000 in
set_option maxHeartbeats 1000000 in
theorem withoutSign_any (w : World) (s : ByteArray) (hs : s.size ≤ 9223372036854775806) (h0 : 0 < s.size) :
    Calls Tryz.prog 101 #[.string s] w fun e w' => ∃ (b : Bool) (t : ByteArray), e = .returned (.tuple #[.bool b, .string t]) ∧ t.data.toList = _root_.Rad.digs s.data.toList ∧ (b = true ↔ s.data.toList.head? = some 45) ∧ t.size ≤ s.size ∧ ∃ n, w' = w.drewN n := by
  have e1 := ba_full h0
  have ec := ba_cons h0
  by_cases h1 : s[0] = 45
  · have e3 : (s[0].toNat : Int) = 45 := by rw [h1]; rfl
    go_enter Tryz.func101, Tryz.ntmps101
    go_wp2
    go_quiet (fail)
    go_wp2
    go_ret2
    refine ⟨true, s.extract 1 s.size, rfl, ?_, ?_, by simp, _, rfl⟩
    · rw [ba_drop, ec, h1, _root_.Rad.digs_neg]; rfl
    · rw [ec, h1]; simp
  · have e3 : ¬ (s[0].toNat : Int) = 45 := u8_ne (n := 45) (by decide) h1
    go_enter Tryz.func101, Tryz.ntmps101
    go_wp2
    go_ret2
    refine ⟨false, s, rfl, ?_, ?_, Nat.le_refl _, 0, rfl⟩
    · rw [ec, _root_.Rad.digs_pos h1]
    · rw [ec]; simp [h1]
theorem ends_iff {l : List UInt8} : _root_.Rad.digs l ≠ [] ↔ l ≠ [] ∧ l ≠ [45] := by
  cases l with
  | nil => simp [_root_.Rad.digs]
  | cons b t =>
    by_cases hb : b = 45
    · subst hb; rw [_root_.Rad.digs_neg]; simp
    · rw [_root_.Rad.digs_pos hb]; simp [hb]
set_option maxRecDepth 10000 in
theorem endsInDigit_any (w : World) (s : ByteArray) (r : Bool) (hr : r = true ↔ _root_.Rad.digs s.data.toList ≠ []) :
    Calls Tryz.prog 63 #[.string s] w fun e w' => e = .returned (.bool r) ∧ w' = w := by
  have hq : (!s.toList.isEmpty && !s.toList == [45]) = r := by
    rw [ends_iff, ← ByteArray.toList_eq] at hr
    apply Bool.eq_iff_iff.2
    rw [hr]
    simp
  by_cases h0 : s.toList = []
  · rw [h0] at hq
    have hr' : r = false := by rw [← hq]; rfl
    subst hr'
    clear hq hr
    go_enter Tryz.func63, Tryz.ntmps63
    go_wp2
    go_ret
    exact ⟨rfl, rfl⟩
  · clear hr
    go_enter Tryz.func63, Tryz.ntmps63
    go_wp2
    go_ret
    exact ⟨rfl, rfl⟩
set_option maxRecDepth 10000 in
theorem tooLong_any (w : World) (s : ByteArray) (hs : s.size ≤ 9223372036854775806) (h0 : 0 < s.size) (r : Bool) (hr : r = decide (1000 < (_root_.Rad.digs s.data.toList).length)) :
    Calls Tryz.prog 64 #[.string s] w fun e w' => e = .returned (.bool r) ∧ ∃ n, w' = w.drewN n := by
  have CS := withoutSign_any w s hs h0
  go_enter Tryz.func64, Tryz.ntmps64
  go_wp2_with (go_at_call 101; fail)
  refine CS.mono ?_
  rintro e w' ⟨b, t, rfl, ht, -, htl, n, hw⟩
  have hr' : r = decide (1000 < t.size) := by rw [hr, ← ht, ba_size]
  clear CS hr ht
  subst hw
  rcases Nat.lt_or_ge 1000 t.size with h | h
  · have c1 : (1000 : Int) < (t.size : Int) := by omega
    obtain rfl : r = true := by rw [hr']; simpa using h
    clear hr'
    go_wp2
    go_ret
    exact ⟨rfl, n, rfl⟩
  · have c1 : ¬ (1000 : Int) < (t.size : Int) := by omega
    obtain rfl : r = false := by rw [hr']; simpa using h
    clear hr'
    go_wp2
    go_ret
    refine ⟨?_, n, rfl⟩
    show Ending.returned (.bool (decide ((1000 : Int) < (t.size : Int)))) = _
    rw [decide_eq_false (show ¬ (1000 : Int) < (t.size : Int) by omega)]
end Go.Proofs.YtjlkplidpdhgbaaGreatDoor

namespace Go.Proofs.YtjlkplidpdhgbaaGreatDoor
open Go Go.Proofs Go.RowKit Go.Rad

theorem below_bytes (w : World) (e : TypeId) (s : ByteArray) : Below w.heap.size w (Lib.bytesWorld w e s) :=
  ⟨rfl, rfl, rfl, by rw [Lib.bytesWorld_size]; omega, fun k hk => Lib.bytesWorld_at_old w e s k (by omega)⟩
theorem parseUint_any (w : World) (s : ByteArray) (d : Nat) (h0 : s.data.toList ≠ []) (h : ∀ b ∈ s.data.toList, _root_.Rad.IsDg b) (hl : s.size ≤ 19) (hd : d = _root_.Rad.dval s.data.toList) :
    Calls Tryz.prog 103 #[.string s, .int .i64 10, .int .i64 64] w fun e w' => e = .returned (.tuple #[.int .u64 (d : Nat), .nilIface]) ∧ Below w.heap.size w w' := by
  refine (Tryz.strconv_ParseUint_10_at64_ok s (by omega) d (by rw [hd]; exact _root_.Rad.pu_ok h0 h (by rw [ba_size]; exact hl)) w).mono ?_
  rintro e w' ⟨rfl, hw⟩
  refine ⟨rfl, ?_⟩
  rcases hw with rfl | rfl
  · exact Below.refl _ _
  · exact below_bytes _ _ _
theorem atoi_any (w : World) (s : ByteArray) (z : Int) (h : _root_.Rad.Valid s.data.toList) (hl : (_root_.Rad.digs s.data.toList).length ≤ 18) (hs : s.size ≤ 1001) (hz : z = _root_.Rad.val s.data.toList) :
    Calls Tryz.prog 102 #[.string s] w fun e w' => e = .returned (.tuple #[.int .i64 z, .nilIface]) ∧ Below w.heap.size w w' := by
  refine (Tryz.strconv_Atoi_ok s (by omega) z (by rw [hz]; exact _root_.Rad.atoi_ok h hl) w).mono ?_
  rintro e w' ⟨rfl, hw⟩
  refine ⟨rfl, ?_⟩
  rcases hw with rfl | ⟨t, rfl⟩
  · exact Below.refl _ _
  · exact below_bytes _ _ _
end Go.Proofs.YtjlkplidpdhgbaaGreatDoor

namespace Go.Proofs.YtjlkplidpdhgbaaGreatDoor
open Go Go.Proofs Go.RowKit Go.Rad

theorem below_drewN (B : Nat) (w : World) (n : Nat) : Below B w (w.drewN n) := ⟨rfl, rfl, rfl, Nat.le_refl _, fun _ _ => rfl⟩
/-- A result of type Int that has its variable in block b, not yet written. -/
structure Res (w w1 : World) (b : Nat) : Prop where
  below : Below w.heap.size w w1
  ge : w.heap.size ≤ b
  lt : b < w1.heap.size
  c0 : w1.cell? ⟨b, 0, none⟩ = some (.int .i64 0)
  c1 : w1.cell? ⟨b, 1, none⟩ = some (.slice none 0 0)
  f0 : w1.frozen? ⟨b, 0, none⟩ = false
  f1 : w1.frozen? ⟨b, 1, none⟩ = false
theorem Res.mk0 (w : World) : Res w (w.alloc (Obj.cells #[Value.int IntKind.i64 0, Value.slice none 0 0] 24)) w.heap.size :=
  ⟨bel1 _ _, Nat.le_refl _, by simp, by simp [go_sem], by simp [go_sem], by simp [go_sem], by simp [go_sem]⟩
theorem Res.step {w w1 w2 : World} {b B : Nat} (h : Res w w1 b) (hb : Below B w1 w2) (hB : b < B) : Res w w2 b := by
  have hg := h.ge
  refine ⟨h.below.trans (hb.mono (by omega)), h.ge, Nat.lt_of_lt_of_le h.lt hb.size, ?_, ?_, ?_, ?_⟩
  · exact (World.cell?_of_block (hb.block b hB)).trans h.c0
  · exact (World.cell?_of_block (hb.block b hB)).trans h.c1
  · exact (World.frozen?_of_block (hb.block b hB)).trans h.f0
  · exact (World.frozen?_of_block (hb.block b hB)).trans h.f1
/-- The number that is stored there is the function's. -/
theorem Res.done {w w1 : World} {b : Nat} (h : Res w w1 b) {s : Int} {a : Option Addr} {n c : Nat} {z : Int} (hI : IsInt w1 (.agg #[.int .i64 s, .slice a n c]) z) :
    Below w.heap.size w ((w1.setCell ⟨b, 0, none⟩ (.int .i64 s)).setCell ⟨b, 1, none⟩ (.slice a n c)) ∧ IsInt ((w1.setCell ⟨b, 0, none⟩ (.int .i64 s)).setCell ⟨b, 1, none⟩ (.slice a n c)) (.agg #[.int .i64 s, .slice a n c]) z :=
  ⟨(h.below.setCell (p := ⟨b, 0, none⟩) h.ge _).setCell (p := ⟨b, 1, none⟩) h.ge _, hI.stored h.c0 h.c1 (by intro q; simp)⟩

set_option maxRecDepth 10000 in
set_option maxHeartbeats 1000000 in
theorem value_short (w : World) (s : ByteArray) (hV : _root_.Rad.Valid s.data.toList) (hs : s.size ≤ 1001) (hl : (_root_.Rad.digs s.data.toList).length ≤ 18) (z : Int) (hz : z = _root_.Rad.val s.data.toList) (hr : -9223372036854775808 ≤ z ∧ z ≤ 9223372036854775807) (h0 : 0 < s.size) :
    Calls Tryz.prog 65 #[.string s] w fun e w' => ∃ v, e = .returned v ∧ Below w.heap.size w w' ∧ IsInt w' v z := by
  have R := Res.mk0 w
  go_enter Tryz.func65, Tryz.ntmps65
  go_wp2_with (go_at_call 101; fail)
  have CW := withoutSign_any (w.alloc (Obj.cells #[Value.int IntKind.i64 0, Value.slice none 0 0] 24)) s (by omega) h0
  refine CW.mono ?_
  rintro e w2 ⟨b, t, rfl, ht, -, htl, n, hw⟩
  have R2 : Res w w2 w.heap.size := R.step (B := w.heap.size + 1) (by subst hw; exact below_drewN _ _ _) (by omega)
  have htl' : t.size ≤ 18 := by rw [← ba_size, ht]; exact hl
  clear hw R CW
  have c1 : (t.size : Int) ≤ 18 := by omega
  have CA := atoi_any w2 s z hV hl hs hz
  clear ht hz
  go_wp2_with (go_at_call 102; fail)
  refine CA.mono ?_
  rintro e w3 ⟨rfl, hb3⟩
  have R3 := R2.step hb3 R2.lt
  clear R2 CA
  have CO := of_any w3 z hr.1 hr.2
  go_wp2_with (go_at_call 16; fail)
  refine CO.mono ?_
  rintro e w4 ⟨v, rfl, hb4, hI⟩
  have R4 := R3.step hb4 R3.lt
  clear R3 CO hb4 hb3
  obtain ⟨s5, a5, n5, c5, rfl⟩ := hI.form
  obtain ⟨HE, HI⟩ := R4.done hI
  have HE' : Hid _ := HE
  have HI' : Hid _ := HI
  obtain ⟨-, -, lt, k0, k1, f0, f1⟩ := R4
  clear HE HI hI
  go_wp2
  refine bodyPost_ret (v := .agg #[.int .i64 s5, .slice a5 n5 c5]) (by simp [results, go_sem, loadVar, World.cell?_setCell_same, *]) rfl ?_
  exact ⟨_, rfl, HE'.out, HI'.out⟩
end Go.Proofs.YtjlkplidpdhgbaaGreatDoor

namespace Go.Proofs.YtjlkplidpdhgbaaGreatDoor
open Go Go.Proofs Go.RowKit Go.Rad

/-- One word of the inner round. -/
theorem chunk_word {β M p W d0 x d X : Nat} (h : W + p * d = X * M + d0) : (W + p * ((x * M + d) % β)) + p * β * ((x * M + d) / β) = (X + p * x) * M + d0 := by
  have h1 := Nat.mod_add_div (x * M + d) β
  have h2 : p * ((x * M + d) % β) + p * β * ((x * M + d) / β) = p * (x * M + d) := by rw [Nat.mul_assoc, ← Nat.mul_add, h1]
  have h3 : p * (x * M + d) = p * x * M + p * d := by rw [Nat.mul_add, Nat.mul_assoc]
  rw [Nat.add_mul]
  omega

def strLen : Value → Nat
  | .string t => t.size
  | _ => 0
set_option maxRecDepth 10000 in
set_option maxHeartbeats 4000000 in
theorem value_long (w : World) (s : ByteArray) (hV : _root_.Rad.Valid s.data.toList) (hs : s.size ≤ 1001) (hl : 18 < (_root_.Rad.digs s.data.toList).length) (h0 : 0 < s.size) (z : Int) (hz : z = _root_.Rad.val s.data.toList) :
    Calls Tryz.prog 65 #[.string s] w fun e w' => ∃ v, e = .returned v ∧ Below w.heap.size w w' ∧ IsInt w' v z := by
  have R := Res.mk0 w
  go_enter Tryz.func65, Tryz.ntmps65
  go_wp2_with (go_at_call 101; fail)
  have CW := withoutSign_any (w.alloc (Obj.cells #[Value.int IntKind.i64 0, Value.slice none 0 0] 24)) s (by omega) h0
  refine CW.mono ?_
  rintro e w2 ⟨b, t, rfl, ht, hb, htl, n, hw⟩
  have R2 : Res w w2 w.heap.size := R.step (B := w.heap.size + 1) (by subst hw; exact below_drewN _ _ _) (by omega)
  have htl' : 18 < t.size := by rw [← ba_size, ht]; exact hl
  clear hw R CW
  have c1 : ¬ (t.size : Int) ≤ 18 := by omega
  obtain ⟨V, hVd⟩ : ∃ V, V = _root_.Rad.dval t.data.toList := ⟨_, rfl⟩
  have hzV : z = sgn b V := by
    rw [hz, hVd, ht]
    unfold _root_.Rad.val sgn
    by_cases hb' : s.data.toList.head? = some 45
    · rw [if_pos hb', if_pos (hb.2 hb')]
    · rw [if_neg hb', if_neg (fun h => hb' (hb.1 h))]
  have hdg : ∀ c ∈ t.data.toList, _root_.Rad.IsDg c := by rw [ht]; exact hV.digits
  obtain ⟨C, hC⟩ : ∃ C, C = t.size / 19 + 1 := ⟨_, rfl⟩
  have hcap : ((t.size : Int) / 19 + 1) = (C : Int) := by omega
  have hC2 : C ≤ 1099511627776 := by omega
  obtain ⟨L, hL⟩ : ∃ L, t.size = L := ⟨_, rfl⟩
  have HZ : Hid _ := hzV
  have HDG : Hid _ := hdg
  have HV : Hid _ := hVd
  have HL : Hid _ := hL
  have HR : Hid _ := R2
  have hb2 : w.heap.size < w2.heap.size := R2.lt
  clear hz hzV hdg hVd ht hb hV hl hL R2 hC
  go_wp2_with (at_make; refine wpList_makeCapN .u64 98 rfl _ _ 22 rfl Tryz.underlying22 8 info98 (by decide) .i64 .i64 _ C rfl rfl rfl hC2 (w.heap.size + 1) (by omega) ?_; intro w3 hrow3 hb3)
  have R3 : Res w w3 w.heap.size := HR.out.step hb3 hb2
  clear HR hb3
  go_loopw [4, 7] (fun s4 s7 wr => ∃ (tt : ByteArray) (xs : List Nat), s4 = .string tt ∧ RowN .u64 98 wr (w.heap.size + 1) s7 xs ∧ (∀ x ∈ xs, x < B) ∧ (∀ c ∈ tt.data.toList, _root_.Rad.IsDg c) ∧ lv B xs * 10 ^ tt.data.toList.length + _root_.Rad.dval tt.data.toList = V ∧ (xs = [] ∨ tt.size % 19 = 0) ∧ xs.length + tt.size ≤ L ∧ L ≤ 1001 ∧ Res w wr w.heap.size)
    (fun s4 _ _ => strLen s4)
  case atStart => exact ⟨t, [], rfl, hrow3, by simp, HDG.out, by rw [HV.out]; simp [lv], .inl rfl, by have := HL.out; simp; omega, by have := HL.out; omega, R3⟩
  case round =>
    obtain ⟨tt, xs, rfl, hrow, hxs, hdt, hval, hmod, hlen, hL, hR⟩ := hrel
    clear hrow3 R3 HDG HV HL
    have hRl := hR.lt
    by_cases ht0 : tt.size = 0
    · have e1 := ba_empty ht0
      obtain ⟨ao, bb, cc, rfl, hsl, hc, hcm, harr, hnum, hfree, _, _⟩ := hrow.arr hxs
      have hv0 : lv B xs = V := by
        have : tt.data.toList = [] := List.eq_nil_of_length_eq_zero (by rw [ba_size]; exact ht0)
        rw [this] at hval
        rw [← hval]; simp [_root_.Rad.dval, _root_.Rad.dvalF]
      have CF := front_mag wr ao bb 0 xs.length cc xs.length hsl hc (by omega) (by omega) harr
      rw [Nat.min_self, hnum, hv0] at CF
      have HRR : Hid _ := hR
      clear hrow hnum hsl hc harr hfree hval hv0 hmod hdt hxs hR hlen ht0
      go_wp2_with (go_at_call 86; fail)
      refine CF.mono ?_
      rintro e w4 ⟨v4, k4, rfl, rfl, -, -, hM⟩
      clear CF
      obtain ⟨a4, b4, o4, c4, rfl, h4⟩ := id hM
      clear h4
      have CS := signed_any w4 b _ _ _ hM
      go_wp2_with (go_at_call 76; fail)
      refine CS.mono ?_
      rintro e w5 ⟨v5, rfl, hb5, hI⟩
      have R5 := HRR.out.step hb5 HRR.out.lt
      clear CS HRR hM
      obtain ⟨s5, a5, n5, c5, rfl⟩ := hI.form
      obtain ⟨HE, HI⟩ := R5.done hI
      have HE' : Hid _ := HE
      have HI' : Hid _ := HI
      obtain ⟨-, -, lt, k0, k1, f0, f1⟩ := R5
      clear HE HI hI hb5
      go_wp2
      refine bodyPost_ret (v := .agg #[.int .i64 s5, .slice a5 n5 c5]) (by simp [results, go_sem, loadVar, World.cell?_setCell_same, *]) rfl ?_
      exact ⟨_, rfl, HE'.out, by rw [HZ.out]; exact HI'.out⟩
    · have e1 := ba_full (show 0 < tt.size by omega)
      obtain ⟨q, hq⟩ : ∃ q, (tt.size - 1) % 19 + 1 = q := ⟨_, rfl⟩
      have hq1 : 1 ≤ q ∧ q ≤ 19 ∧ q ≤ tt.size ∧ (tt.size - q) % 19 = 0 ∧ (tt.size % 19 = 0 → q = 19) := by omega
      obtain ⟨hq1, hq2, hq3, hq4, hq5⟩ := hq1
      have hqi : ((tt.size : Int) - 1) % 19 + 1 = (q : Int) := by omega
      have hqt : ((tt.size : Int) - 1).tmod 19 + 1 = (q : Int) := by rw [Int.tmod_eq_emod_of_nonneg (by omega)]; exact hqi
      clear hq
      obtain ⟨ao, cc, rfl, hc, hcm, ha⟩ := hrow.form
      obtain ⟨D, hD⟩ : ∃ D, D = _root_.Rad.dval (tt.data.toList.take q) := ⟨_, rfl⟩
      have hDB : D < B := by
        have h1 : D < 10 ^ (tt.data.toList.take q).length := by rw [hD]; exact _root_.Rad.dval_lt fun c hc => hdt c (List.mem_of_mem_take hc)
        have h2 : 10 ^ (tt.data.toList.take q).length ≤ 10 ^ 19 := Nat.pow_le_pow_right (by decide) (by rw [List.length_take]; omega)
        exact Nat.lt_of_lt_of_le h1 (Nat.le_trans h2 (by decide))
      have hnext := _root_.Rad.chunk_step (n := q) (by rw [ba_size]; exact hq3) (by
        rcases hmod with h | h
        · rw [h]; exact .inl rfl
        · exact .inr (hq5 h)) hval hD
      have CP := parseUint_any wr (tt.extract 0 q) D (by rw [ba_take]; intro h; have := congrArg List.length h; rw [List.length_take, ba_size, Nat.min_eq_left hq3] at this; simp at this; omega)
        (by rw [ba_take]; exact fun c hc => hdt c (List.mem_of_mem_take hc)) (by rw [ByteArray.size_extract, Nat.min_eq_left (by omega), Nat.sub_zero]; exact hq2) (by rw [ba_take]; exact hD)
      have hdt' : ∀ c ∈ (tt.extract q tt.size).data.toList, _root_.Rad.IsDg c := by rw [ba_drop]; exact fun c hc => hdt c (List.mem_of_mem_drop hc)
      rw [← ba_drop] at hnext
      have HN : Hid _ := hnext
      have HDT : Hid _ := hdt'
      clear hdt hval hmod hD hnext hdt'
      go_wp2_with (go_at_call 103; fail)
      refine CP.mono ?_
      rintro e w5 ⟨rfl, hb5⟩
      have R5 := hR.step hb5 hR.lt
      have row5 := hrow.below hb5
      clear CP hrow hR hb5 hRl
      go_wp2
      have HR5 : Hid _ := R5
      go_loopw [9, 51] (fun s9 s51 wi => ∃ (i d : Nat) (ys : List Nat), s51 = .int .i64 i ∧ i ≤ xs.length ∧ s9 = .int .u64 d ∧ d < B ∧ ys.length = xs.length ∧ (∀ y ∈ ys, y < B) ∧ RowN .u64 98 wi (w.heap.size + 1) (.slice ao xs.length cc) ys ∧
          lv B (ys.take i) + B ^ i * d = lv B (xs.take i) * 10000000000000000000 + D ∧ ys.drop i = xs.drop i ∧ Res w wi w.heap.size)
        (fun _ s51 _ => xs.length - (intOf s51).toNat)
      case atStart => exact ⟨0, D, xs, rfl, by omega, rfl, hDB, rfl, hxs, row5, by simp [lv], rfl, HR5.out⟩
      case round =>
        obtain ⟨i, d, ys, rfl, hii, rfl, hd, hyl, hys, hrow, heq, hdrop, hR⟩ := hrel
        clear row5 R5 HR5
        by_cases hie : i = xs.length
        · subst hie
          rw [List.take_of_length_le (by omega), List.take_length] at heq
          have hNX := HN.out
          rw [← heq] at hNX
          have hNX2 : Hid ((lv B ys + B ^ xs.length * d) * 10 ^ (tt.extract q tt.size).data.toList.length + _root_.Rad.dval (tt.extract q tt.size).data.toList = V) := hNX
          have hsz : (tt.extract q tt.size).size = tt.size - q := by rw [ByteArray.size_extract, Nat.min_self]
          have HSZ : Hid _ := hsz
          have HROW := hrow.hid
          have HYS : Hid _ := hys
          have HRR : Hid _ := hR
          have HYL : Hid _ := hyl
          have hRl := hR.lt
          clear heq hNX HN hrow hys hR hsz hdrop hyl hxs
          by_cases hd0 : d = 0
          · have hd0' : (d : Int) = 0 := by omega
            go_wp2
            go_roundw
            case rel => exact ⟨_, ys, rfl, HROW.out, HYS.out, HDT.out, by have := hNX2.out; rw [hd0] at this; simpa using this, .inr (by rw [HSZ.out]; exact hq4), by rw [HSZ.out, HYL.out]; omega, hL, HRR.out⟩
            case measure => show (tt.extract q tt.size).size < tt.size; rw [HSZ.out]; omega
          · have hd0' : ¬ (d : Int) = 0 := by omega
            have HROW2 := (HROW.out.below (bel1 wr (Obj.cells #[Value.int IntKind.u64 (d : Int)] 98))).hid
            have HC2 : Hid ((wr.alloc (Obj.cells #[Value.int IntKind.u64 (d : Int)] 98)).cell? ⟨wr.heap.size, 0, none⟩ = some (.int .u64 (d : Int))) := by show _ = _; simp [go_sem]
            have HB2 := bel1 wr (Obj.cells #[Value.int IntKind.u64 (d : Int)] 98)
            have HS2 : Hid (w.heap.size + 1 ≤ (wr.alloc (Obj.cells #[Value.int IntKind.u64 (d : Int)] 98)).heap.size) := by show _ ≤ _; simp; omega
            go_wp2_with (at_builtin; go_loud (refine wpList_appendN .u64 98 rfl _ _ 22 rfl Tryz.underlying22 8 info98 (by decide) (w.heap.size + 1) (.slice ao xs.length cc) ys rfl HROW2.out wr.heap.size 1 d rfl HC2.out (by rw [HYL.out]; omega) HS2.out ?_); intro v6 w6 row6 hb6 hor6 hg6)
            have R6 := (HRR.out.step HB2 hRl).step hb6 (by omega)
            refine ⟨⟨_, ys ++ [d], rfl, row6, ?_, HDT.out, ?_, .inr (by rw [HSZ.out]; exact hq4), ?_, hL, R6⟩, ?_⟩
            · intro x hx
              rcases List.mem_append.1 hx with h | h
              · exact HYS.out x h
              · rw [List.mem_singleton.1 h]; exact hd
            · rw [lv_snoc, HYL.out]; exact hNX2.out
            · rw [List.length_append, HSZ.out, HYL.out]; simp; omega
            · show (tt.extract q tt.size).size < tt.size; rw [HSZ.out]; omega
        · have hlt : (i : Int) < (xs.length : Int) := by omega
          rcases ha with ⟨_, h0', _⟩ | ⟨bb, rfl, hbb, hbl⟩
          · omega
          · have hiy : i < ys.length := by omega
            have hix : i < xs.length := by omega
            obtain ⟨y, hy⟩ : ∃ y, ys[i] = y := ⟨_, rfl⟩
            have hcell := hrow.cell hiy
            rw [hy] at hcell
            have hfr := hrow.free i
            have hyB : y < B := by rw [← hy]; exact hys _ (List.getElem_mem hiy)
            have hyx : xs[i] = y := by
              have h1 := congrArg (fun l => l[0]?) hdrop
              simp only [List.getElem?_drop, Nat.add_zero, List.getElem?_eq_getElem hiy, List.getElem?_eq_getElem hix] at h1
              rw [← hy]; exact (Option.some.inj h1).symm
            have CM := mulAdd_any y 10000000000000000000 d hyB (by decide) hd wr
            have hstep := chunk_word (β := B) (x := y) heq
            obtain ⟨l1, hl1⟩ : ∃ l, lo (y * 10000000000000000000 + d) = l := ⟨_, rfl⟩
            obtain ⟨h1, hh1⟩ : ∃ l, hi (y * 10000000000000000000 + d) = l := ⟨_, rfl⟩
            have hlo : l1 < B := by rw [← hl1]; exact lo_lt _
            have hhi : h1 < B := by rw [← hh1]; exact (mulAdd_num hyB (show 10000000000000000000 < B by decide) hd).2.2.2
            have hm : (y * 10000000000000000000 + d) % B = l1 := hl1
            have hq : (y * 10000000000000000000 + d) / B = h1 := hh1
            rw [hm, hq, ← Nat.pow_succ] at hstep
            rw [hl1, hh1] at CM
            have hdrop' : (ys.set i l1).drop (i + 1) = xs.drop (i + 1) := by
              rw [List.drop_set_of_lt (by omega), ← List.drop_drop, hdrop, List.drop_drop]
            have htake : lv B ((ys.set i l1).take (i + 1)) = lv B (ys.take i) + B ^ i * l1 := by
              rw [List.take_succ_eq_append_getElem (by simpa using hiy), lv_snoc, List.getElem_set_self, List.take_set_of_le (Nat.le_refl _), List.length_take, Nat.min_eq_left (by omega)]
            have htakex : lv B (xs.take (i + 1)) = lv B (xs.take i) + B ^ i * y := by
              rw [List.take_succ_eq_append_getElem hix, lv_snoc, hyx, List.length_take, Nat.min_eq_left (by omega)]
            rw [← htake, ← htakex] at hstep
            have hrow' := (hrow.set i l1).hid
            have hR' : Hid _ := hR.step ((Below.refl (w.heap.size + 1) wr).setCell (p := ⟨bb, i, none⟩) hbb (.int .u64 (l1 : Int))) (by omega)
            have HS : Hid _ := hstep
            have HD : Hid _ := hdrop'
            have HYS : Hid _ := hys
            clear hstep heq hdrop hdrop' hys hrow hR htake htakex hl1 hh1 hm hq hxs hyx hyB hy
            have c1 : i < cc := by omega
            go_wp2_with (go_at_call 104; refine CM.mono ?_; rintro e w' ⟨rfl, hw⟩; subst hw)
            refine ⟨⟨i + 1, h1, ys.set i l1, by go_num, by omega, rfl, hhi, by rw [List.length_set]; exact hyl, fun y' hy' => ?_, hrow'.out, HS.out, HD.out, hR'.out⟩, by simp [intOf]; omega⟩
            rcases List.mem_or_eq_of_mem_set hy' with h | h
            · exact HYS.out y' h
            · rw [h]; exact hlo
/-- What is written there, of a number's text of at most 1001 bytes. -/
theorem value_any (w : World) (s : ByteArray) (hV : _root_.Rad.Valid s.data.toList) (hs : s.size ≤ 1001) (z : Int) (hz : z = _root_.Rad.val s.data.toList) :
    Calls Tryz.prog 65 #[.string s] w fun e w' => ∃ v, e = .returned v ∧ Below w.heap.size w w' ∧ IsInt w' v z := by
  have h0 : 0 < s.size := by
    rcases Nat.eq_zero_or_pos s.size with h | h
    · have h1 := hV.2
      rw [List.eq_nil_of_length_eq_zero (by rw [ba_size]; exact h : s.data.toList.length = 0)] at h1
      exact absurd rfl h1
    · exact h
  rcases Nat.lt_or_ge 18 (_root_.Rad.digs s.data.toList).length with h | h
  · exact value_long w s hV hs h h0 z hz
  · refine value_short w s hV hs h z hz ?_ h0
    have h1 : z.natAbs = _root_.Rad.dval (_root_.Rad.digs s.data.toList) := by rw [hz]; exact _root_.Rad.Valid.val_abs
    have h2 := _root_.Rad.dval_lt hV.digits
    have h3 : 10 ^ (_root_.Rad.digs s.data.toList).length ≤ 10 ^ 18 := Nat.pow_le_pow_right (by decide) h
    have h4 := Nat.lt_of_lt_of_le h2 h3
    omega
end Go.Proofs.YtjlkplidpdhgbaaGreatDoor
