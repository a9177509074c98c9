/- A part of the proof: V3, V4, Tx3, Tx4. -/
import Derived.Test.YtjlkplidpdhgbaaGreatDoorP36
import Derived.Test.YtjlkplidpdhgbaaGreatDoorP07
import Derived.Test.YtjlkplidpdhgbaaGreatDoorP35
set_option linter.all false

namespace Go.Proofs.YtjlkplidpdhgbaaGreatDoor
open Go Go.Proofs Go.RowKit Go.Rad

/-- One word of the inner round. -/
theorem chunk_word {β M p W d0 x d X : Nat} (h : W + p * d = X * M + d0) : (W + p * ((x * M + d) % β)) + p * β * ((x * M + d) / β) = (X + p * x) * M + d0 := by
  have h1 := Nat.mod_add_div (x * M + d) β
  have h2 : p * ((x * M + d) % β) + p * β * ((x * M + d) / β) = p * (x * M + d) := by rw [Nat.mul_assoc, ← Nat.mul_add, h1]
  have h3 : p * (x * M + d) = p * x * M + p * d := by rw [Nat.mul_add, Nat.mul_assoc]
  rw [Nat.add_mul]
  omega

def strLen : Value → Nat
  | .string t => t.size
  | _ => 0
set_option maxRecDepth 10000 in
set_option maxHeartbeats 4000000 in
theorem value_long (w : World) (s : ByteArray) (hV : _root_.Rad.Valid s.data.toList) (hs : s.size ≤ 1001) (hl : 18 < (_root_.Rad.digs s.data.toList).length) (h0 : 0 < s.size) (z : Int) (hz : z = _root_.Rad.val s.data.toList) :
    Calls Tryz.prog 65 #[.string s] w fun e w' => ∃ v, e = .returned v ∧ Below w.heap.size w w' ∧ IsInt w' v z := by
  have R := Res.mk0 w
  go_enter Tryz.func65, Tryz.ntmps65
  go_wp2_with (go_at_call 101; fail)
  have CW := withoutSign_any (w.alloc (Obj.cells #[Value.int IntKind.i64 0, Value.slice none 0 0] 24)) s (by omega) h0
  refine CW.mono ?_
  rintro e w2 ⟨b, t, rfl, ht, hb, htl, n, hw⟩
  have R2 : Res w w2 w.heap.size := R.step (B := w.heap.size + 1) (by subst hw; exact below_drewN _ _ _) (by omega)
  have htl' : 18 < t.size := by rw [← ba_size, ht]; exact hl
  clear hw R CW
  have c1 : ¬ (t.size : Int) ≤ 18 := by omega
  obtain ⟨V, hVd⟩ : ∃ V, V = _root_.Rad.dval t.data.toList := ⟨_, rfl⟩
  have hzV : z = sgn b V := by
    rw [hz, hVd, ht]
    unfold _root_.Rad.val sgn
    by_cases hb' : s.data.toList.head? = some 45
    · rw [if_pos hb', if_pos (hb.2 hb')]
    · rw [if_neg hb', if_neg (fun h => hb' (hb.1 h))]
  have hdg : ∀ c ∈ t.data.toList, _root_.Rad.IsDg c := by rw [ht]; exact hV.digits
  obtain ⟨C, hC⟩ : ∃ C, C = t.size / 19 + 1 := ⟨_, rfl⟩
  have hcap : ((t.size : Int) / 19 + 1) = (C : Int) := by omega
  have hC2 : C ≤ 1099511627776 := by omega
  obtain ⟨L, hL⟩ : ∃ L, t.size = L := ⟨_, rfl⟩
  have HZ : Hid _ := hzV
  have HDG : Hid _ := hdg
  have HV : Hid _ := hVd
  have HL : Hid _ := hL
  have HR : Hid _ := R2
  have hb2 : w.heap.size < w2.heap.size := R2.lt
  clear hz hzV hdg hVd ht hb hV hl hL R2 hC
  go_wp2_with (at_make; refine wpList_makeCapN .u64 98 rfl _ _ 22 rfl Tryz.underlying22 8 info98 (by decide) .i64 .i64 _ C rfl rfl rfl hC2 (w.heap.size + 1) (by omega) ?_; intro w3 hrow3 hb3)
  have R3 : Res w w3 w.heap.size := HR.out.step hb3 hb2
  clear HR hb3
  go_loopw [4, 7] (fun s4 s7 wr => ∃ (tt : ByteArray) (xs : List Nat), s4 = .string tt ∧ RowN .u64 98 wr (w.heap.size + 1) s7 xs ∧ (∀ x ∈ xs, x < B) ∧ (∀ c ∈ tt.data.toList, _root_.Rad.IsDg c) ∧ lv B xs * 10 ^ tt.data.toList.length + _root_.Rad.dval tt.data.toList = V ∧ (xs = [] ∨ tt.size % 19 = 0) ∧ xs.length + tt.size ≤ L ∧ L ≤ 1001 ∧ Res w wr w.heap.size)
    (fun s4 _ _ => strLen s4)
  case atStart => exact ⟨t, [], rfl, hrow3, by simp, HDG.out, by rw [HV.out]; simp [lv], .inl rfl, by have := HL.out; simp; omega, by have := HL.out; omega, R3⟩
  case round =>
    obtain ⟨tt, xs, rfl, hrow, hxs, hdt, hval, hmod, hlen, hL, hR⟩ := hrel
    clear hrow3 R3 HDG HV HL
    have hRl := hR.lt
    by_cases ht0 : tt.size = 0
    · have e1 := ba_empty ht0
      obtain ⟨ao, bb, cc, rfl, hsl, hc, hcm, harr, hnum, hfree, _, _⟩ := hrow.arr hxs
      have hv0 : lv B xs = V := by
        have : tt.data.toList = [] := List.eq_nil_of_length_eq_zero (by rw [ba_size]; exact ht0)
        rw [this] at hval
        rw [← hval]; simp [_root_.Rad.dval, _root_.Rad.dvalF]
      have CF := front_mag wr ao bb 0 xs.length cc xs.length hsl hc (by omega) (by omega) harr
      rw [Nat.min_self, hnum, hv0] at CF
      have HRR : Hid _ := hR
      clear hrow hnum hsl hc harr hfree hval hv0 hmod hdt hxs hR hlen ht0
      go_wp2_with (go_at_call 86; fail)
      refine CF.mono ?_
      rintro e w4 ⟨v4, k4, rfl, rfl, -, -, hM⟩
      clear CF
      obtain ⟨a4, b4, o4, c4, rfl, h4⟩ := id hM
      clear h4
      have CS := signed_any w4 b _ _ _ hM
      go_wp2_with (go_at_call 76; fail)
      refine CS.mono ?_
      rintro e w5 ⟨v5, rfl, hb5, hI⟩
      have R5 := HRR.out.step hb5 HRR.out.lt
      clear CS HRR hM
      obtain ⟨s5, a5, n5, c5, rfl⟩ := hI.form
      obtain ⟨HE, HI⟩ := R5.done hI
      have HE' : Hid _ := HE
      have HI' : Hid _ := HI
      obtain ⟨-, -, lt, k0, k1, f0, f1⟩ := R5
      clear HE HI hI hb5
      go_wp2
      refine bodyPost_ret (v := .agg #[.int .i64 s5, .slice a5 n5 c5]) (by simp [results, go_sem, loadVar, World.cell?_setCell_same, *]) rfl ?_
      exact ⟨_, rfl, HE'.out, by rw [HZ.out]; exact HI'.out⟩
    · have e1 := ba_full (show 0 < tt.size by omega)
      obtain ⟨q, hq⟩ : ∃ q, (tt.size - 1) % 19 + 1 = q := ⟨_, rfl⟩
      have hq1 : 1 ≤ q ∧ q ≤ 19 ∧ q ≤ tt.size ∧ (tt.size - q) % 19 = 0 ∧ (tt.size % 19 = 0 → q = 19) := by omega
      obtain ⟨hq1, hq2, hq3, hq4, hq5⟩ := hq1
      have hqi : ((tt.size : Int) - 1) % 19 + 1 = (q : Int) := by omega
      have hqt : ((tt.size : Int) - 1).tmod 19 + 1 = (q : Int) := by rw [Int.tmod_eq_emod_of_nonneg (by omega)]; exact hqi
      clear hq
      obtain ⟨ao, cc, rfl, hc, hcm, ha⟩ := hrow.form
      obtain ⟨D, hD⟩ : ∃ D, D = _root_.Rad.dval (tt.data.toList.take q) := ⟨_, rfl⟩
      have hDB : D < B := by
        have h1 : D < 10 ^ (tt.data.toList.take q).length := by rw [hD]; exact _root_.Rad.dval_lt fun c hc => hdt c (List.mem_of_mem_take hc)
        have h2 : 10 ^ (tt.data.toList.take q).length ≤ 10 ^ 19 := Nat.pow_le_pow_right (by decide) (by rw [List.length_take]; omega)
        exact Nat.lt_of_lt_of_le h1 (Nat.le_trans h2 (by decide))
      have hnext := _root_.Rad.chunk_step (n := q) (by rw [ba_size]; exact hq3) (by
        rcases hmod with h | h
        · rw [h]; exact .inl rfl
        · exact .inr (hq5 h)) hval hD
      have CP := parseUint_any wr (tt.extract 0 q) D (by rw [ba_take]; intro h; have := congrArg List.length h; rw [List.length_take, ba_size, Nat.min_eq_left hq3] at this; simp at this; omega)
        (by rw [ba_take]; exact fun c hc => hdt c (List.mem_of_mem_take hc)) (by rw [ByteArray.size_extract, Nat.min_eq_left (by omega), Nat.sub_zero]; exact hq2) (by rw [ba_take]; exact hD)
      have hdt' : ∀ c ∈ (tt.extract q tt.size).data.toList, _root_.Rad.IsDg c := by rw [ba_drop]; exact fun c hc => hdt c (List.mem_of_mem_drop hc)
      rw [← ba_drop] at hnext
      have HN : Hid _ := hnext
      have HDT : Hid _ := hdt'
      clear hdt hval hmod hD hnext hdt'
      go_wp2_with (go_at_call 103; fail)
      refine CP.mono ?_
      rintro e w5 ⟨rfl, hb5⟩
      have R5 := hR.step hb5 hR.lt
      have row5 := hrow.below hb5
      clear CP hrow hR hb5 hRl
      go_wp2
      have HR5 : Hid _ := R5
      go_loopw [9, 51] (fun s9 s51 wi => ∃ (i d : Nat) (ys : List Nat), s51 = .int .i64 i ∧ i ≤ xs.length ∧ s9 = .int .u64 d ∧ d < B ∧ ys.length = xs.length ∧ (∀ y ∈ ys, y < B) ∧ RowN .u64 98 wi (w.heap.size + 1) (.slice ao xs.length cc) ys ∧
          lv B (ys.take i) + B ^ i * d = lv B (xs.take i) * 10000000000000000000 + D ∧ ys.drop i = xs.drop i ∧ Res w wi w.heap.size)
        (fun _ s51 _ => xs.length - (intOf s51).toNat)
      case atStart => exact ⟨0, D, xs, rfl, by omega, rfl, hDB, rfl, hxs, row5, by simp [lv], rfl, HR5.out⟩
      case round =>
        obtain ⟨i, d, ys, rfl, hii, rfl, hd, hyl, hys, hrow, heq, hdrop, hR⟩ := hrel
        clear row5 R5 HR5
        by_cases hie : i = xs.length
        · subst hie
          rw [List.take_of_length_le (by omega), List.take_length] at heq
          have hNX := HN.out
          rw [← heq] at hNX
          have hNX2 : Hid ((lv B ys + B ^ xs.length * d) * 10 ^ (tt.extract q tt.size).data.toList.length + _root_.Rad.dval (tt.extract q tt.size).data.toList = V) := hNX
          have hsz : (tt.extract q tt.size).size = tt.size - q := by rw [ByteArray.size_extract, Nat.min_self]
          have HSZ : Hid _ := hsz
          have HROW := hrow.hid
          have HYS : Hid _ := hys
          have HRR : Hid _ := hR
          have HYL : Hid _ := hyl
          have hRl := hR.lt
          clear heq hNX HN hrow hys hR hsz hdrop hyl hxs
          by_cases hd0 : d = 0
          · have hd0' : (d : Int) = 0 := by omega
            go_wp2
            go_roundw
            case rel => exact ⟨_, ys, rfl, HROW.out, HYS.out, HDT.out, by have := hNX2.out; rw [hd0] at this; simpa using this, .inr (by rw [HSZ.out]; exact hq4), by rw [HSZ.out, HYL.out]; omega, hL, HRR.out⟩
            case measure => show (tt.extract q tt.size).size < tt.size; rw [HSZ.out]; omega
          · have hd0' : ¬ (d : Int) = 0 := by omega
            have HROW2 := (HROW.out.below (bel1 wr (Obj.cells #[Value.int IntKind.u64 (d : Int)] 98))).hid
            have HC2 : Hid ((wr.alloc (Obj.cells #[Value.int IntKind.u64 (d : Int)] 98)).cell? ⟨wr.heap.size, 0, none⟩ = some (.int .u64 (d : Int))) := by show _ = _; simp [go_sem]
            have HB2 := bel1 wr (Obj.cells #[Value.int IntKind.u64 (d : Int)] 98)
            have HS2 : Hid (w.heap.size + 1 ≤ (wr.alloc (Obj.cells #[Value.int IntKind.u64 (d : Int)] 98)).heap.size) := by show _ ≤ _; simp; omega
            go_wp2_with (at_builtin; go_loud (refine wpList_appendN .u64 98 rfl _ _ 22 rfl Tryz.underlying22 8 info98 (by decide) (w.heap.size + 1) (.slice ao xs.length cc) ys rfl HROW2.out wr.heap.size 1 d rfl HC2.out (by rw [HYL.out]; omega) HS2.out ?_); intro v6 w6 row6 hb6 hor6 hg6)
            have R6 := (HRR.out.step HB2 hRl).step hb6 (by omega)
            refine ⟨⟨_, ys ++ [d], rfl, row6, ?_, HDT.out, ?_, .inr (by rw [HSZ.out]; exact hq4), ?_, hL, R6⟩, ?_⟩
            · intro x hx
              rcases List.mem_append.1 hx with h | h
              · exact HYS.out x h
              · rw [List.mem_singleton.1 h]; exact hd
            · rw [lv_snoc, HYL.out]; exact hNX2.out
            · rw [List.length_append, HSZ.out, HYL.out]; simp; omega
            · show (tt.extract q tt.size).size < tt.size; rw [HSZ.out]; omega
        · have hlt : (i : Int) < (xs.length : Int) := by omega
          rcases ha with ⟨_, h0', _⟩ | ⟨bb, rfl, hbb, hbl⟩
          · omega
          · have hiy : i < ys.length := by omega
            have hix : i < xs.length := by omega
            obtain ⟨y, hy⟩ : ∃ y, ys[i] = y := ⟨_, rfl⟩
            have hcell := hrow.cell hiy
            rw [hy] at hcell
            have hfr := hrow.free i
            have hyB : y < B := by rw [← hy]; exact hys _ (List.getElem_mem hiy)
            have hyx : xs[i] = y := by
              have h1 := congrArg (fun l => l[0]?) hdrop
              simp only [List.getElem?_drop, Nat.add_zero, List.getElem?_eq_getElem hiy, List.getElem?_eq_getElem hix] at h1
              rw [← hy]; exact (Option.some.inj h1).symm
            have CM := mulAdd_any y 10000000000000000000 d hyB (by decide) hd wr
            have hstep := chunk_word (β := B) (x := y) heq
            obtain ⟨l1, hl1⟩ : ∃ l, lo (y * 10000000000000000000 + d) = l := ⟨_, rfl⟩
            obtain ⟨h1, hh1⟩ : ∃ l, hi (y * 10000000000000000000 + d) = l := ⟨_, rfl⟩
            have hlo : l1 < B := by rw [← hl1]; exact lo_lt _
            have hhi : h1 < B := by rw [← hh1]; exact (mulAdd_num hyB (show 10000000000000000000 < B by decide) hd).2.2.2
            have hm : (y * 10000000000000000000 + d) % B = l1 := hl1
            have hq : (y * 10000000000000000000 + d) / B = h1 := hh1
            rw [hm, hq, ← Nat.pow_succ] at hstep
            rw [hl1, hh1] at CM
            have hdrop' : (ys.set i l1).drop (i + 1) = xs.drop (i + 1) := by
              rw [List.drop_set_of_lt (by omega), ← List.drop_drop, hdrop, List.drop_drop]
            have htake : lv B ((ys.set i l1).take (i + 1)) = lv B (ys.take i) + B ^ i * l1 := by
              rw [List.take_succ_eq_append_getElem (by simpa using hiy), lv_snoc, List.getElem_set_self, List.take_set_of_le (Nat.le_refl _), List.length_take, Nat.min_eq_left (by omega)]
            have htakex : lv B (xs.take (i + 1)) = lv B (xs.take i) + B ^ i * y := by
              rw [List.take_succ_eq_append_getElem hix, lv_snoc, hyx, List.length_take, Nat.min_eq_left (by omega)]
            rw [← htake, ← htakex] at hstep
            have hrow' := (hrow.set i l1).hid
            have hR' : Hid _ := hR.step ((Below.refl (w.heap.size + 1) wr).setCell (p := ⟨bb, i, none⟩) hbb (.int .u64 (l1 : Int))) (by omega)
            have HS : Hid _ := hstep
            have HD : Hid _ := hdrop'
            have HYS : Hid _ := hys
            clear hstep heq hdrop hdrop' hys hrow hR htake htakex hl1 hh1 hm hq hxs hyx hyB hy
            have c1 : i < cc := by omega
            go_wp2_with (go_at_call 104; refine CM.mono ?_; rintro e w' ⟨rfl, hw⟩; subst hw)
            refine ⟨⟨i + 1, h1, ys.set i l1, by go_num, by omega, rfl, hhi, by rw [List.length_set]; exact hyl, fun y' hy' => ?_, hrow'.out, HS.out, HD.out, hR'.out⟩, by simp [intOf]; omega⟩
            rcases List.mem_or_eq_of_mem_set hy' with h | h
            · exact HYS.out y' h
            · rw [h]; exact hlo
/-- What is written there, of a number's text of at most 1001 bytes. -/
theorem value_any (w : World) (s : ByteArray) (hV : _root_.Rad.Valid s.data.toList) (hs : s.size ≤ 1001) (z : Int) (hz : z = _root_.Rad.val s.data.toList) :
    Calls Tryz.prog 65 #[.string s] w fun e w' => ∃ v, e = .returned v ∧ Below w.heap.size w w' ∧ IsInt w' v z := by
  have h0 : 0 < s.size := by
    rcases Nat.eq_zero_or_pos s.size with h | h
    · have h1 := hV.2
      rw [List.eq_nil_of_length_eq_zero (by rw [ba_size]; exact h : s.data.toList.length = 0)] at h1
      exact absurd rfl h1
    · exact h
  rcases Nat.lt_or_ge 18 (_root_.Rad.digs s.data.toList).length with h | h
  · exact value_long w s hV hs h h0 z hz
  · refine value_short w s hV hs h z hz ?_ h0
    have h1 : z.natAbs = _root_.Rad.dval (_root_.Rad.digs s.data.toList) := by rw [hz]; exact _root_.Rad.Valid.val_abs
    have h2 := _root_.Rad.dval_lt hV.digits
    have h3 : 10 ^ (_root_.Rad.digs s.data.toList).length ≤ 10 ^ 18 := Nat.pow_le_pow_right (by decide) h
    have h4 := Nat.lt_of_lt_of_le h2 h3
    omega
end Go.Proofs.YtjlkplidpdhgbaaGreatDoor

namespace Go.Proofs.YtjlkplidpdhgbaaGreatDoor
open Go Go.Proofs Go.RowKit Go.Rad

def pcode (l : List UInt8) : Int := if _root_.Rad.Valid l then (if 1000 < (_root_.Rad.digs l).length then 2 else 0) else 1
def pat (l : List UInt8) : Int := if _root_.Rad.Valid l then 0 else (_root_.Rad.wlen l : Nat)
def pval (l : List UInt8) : Int := if _root_.Rad.Valid l ∧ (_root_.Rad.digs l).length ≤ 1000 then _root_.Rad.val l else 0
def flt (c t : Int) : Value := .agg #[.int .i64 c, .int .i64 t]

theorem runD_le' (l : List UInt8) : _root_.Rad.runD l ≤ l.length := _root_.Rad.runD_le l
theorem wlen_le (l : List UInt8) : _root_.Rad.wlen l ≤ l.length := by
  cases l with
  | nil => exact Nat.le_refl _
  | cons b r =>
    by_cases hb : b = 45
    · subst hb; rw [_root_.Rad.wlen_neg]; have := _root_.Rad.runD_le r; simp only [List.length_cons]; split <;> omega
    · by_cases h0 : b = 48
      · subst h0; rw [_root_.Rad.wlen_zero]; simp
      · rw [_root_.Rad.wlen_pos hb h0]; exact _root_.Rad.runD_le _
theorem digs_len (l : List UInt8) : (_root_.Rad.digs l).length ≤ l.length ∧ l.length ≤ (_root_.Rad.digs l).length + 1 := by
  cases l with
  | nil => simp [_root_.Rad.digs]
  | cons b r =>
    by_cases hb : b = 45
    · subst hb; rw [_root_.Rad.digs_neg]; simp
    · rw [_root_.Rad.digs_pos hb]; simp

/-- The two boxes of Parse's results. -/
theorem Res.mk1 (w : World) (X : Obj) : Res w ((w.alloc (Obj.cells #[Value.int IntKind.i64 0, Value.slice none 0 0] 24)).alloc X) w.heap.size :=
  (Res.mk0 w).step (bel1 _ _) (by simp)

/-- A result of type Fault that has its variable in block b, not yet written. -/
structure Fbx (w1 : World) (b : Nat) : Prop where
  lt : b < w1.heap.size
  c0 : w1.cell? ⟨b, 0, none⟩ = some (.int .i64 0)
  c1 : w1.cell? ⟨b, 1, none⟩ = some (.int .i64 0)
  f0 : w1.frozen? ⟨b, 0, none⟩ = false
  f1 : w1.frozen? ⟨b, 1, none⟩ = false
theorem Fbx.step {w1 w2 : World} {b B : Nat} (h : Fbx w1 b) (hb : Below B w1 w2) (hB : b < B) : Fbx w2 b :=
  ⟨Nat.lt_of_lt_of_le h.lt hb.size, (World.cell?_of_block (hb.block b hB)).trans h.c0, (World.cell?_of_block (hb.block b hB)).trans h.c1,
    (World.frozen?_of_block (hb.block b hB)).trans h.f0, (World.frozen?_of_block (hb.block b hB)).trans h.f1⟩
theorem IsInt.flt {w : World} {v : Value} {z : Int} {b : Nat} (h : IsInt w v z) (hf : Fbx w b) (u1 u2 : Value) : IsInt ((w.setCell ⟨b, 0, none⟩ u1).setCell ⟨b, 1, none⟩ u2) v z :=
  h.stored hf.c0 hf.c1 (by intro q; simp)
/-- Both results written. -/
theorem Res.done2 {w w1 : World} {b f : Nat} (h : Res w w1 b) (hf : Fbx w1 f) (hbf : b < f) {s : Int} {a : Option Addr} {n c : Nat} {z : Int} (hI : IsInt w1 (.agg #[.int .i64 s, .slice a n c]) z) (x y : Int) :
    Below w.heap.size w ((((w1.setCell ⟨b, 0, none⟩ (.int .i64 s)).setCell ⟨b, 1, none⟩ (.slice a n c)).setCell ⟨f, 0, none⟩ (.int .i64 x)).setCell ⟨f, 1, none⟩ (.int .i64 y)) ∧
      IsInt ((((w1.setCell ⟨b, 0, none⟩ (.int .i64 s)).setCell ⟨b, 1, none⟩ (.slice a n c)).setCell ⟨f, 0, none⟩ (.int .i64 x)).setCell ⟨f, 1, none⟩ (.int .i64 y)) (.agg #[.int .i64 s, .slice a n c]) z := by
  obtain ⟨h1, h2⟩ := h.done hI
  have hg := h.ge
  refine ⟨(h1.setCell (p := ⟨f, 0, none⟩) (by show w.heap.size ≤ f; omega) _).setCell (p := ⟨f, 1, none⟩) (by show w.heap.size ≤ f; omega) _, h2.stored (x := 0) (y := .int .i64 0) ?_ ?_ (by intro q; simp)⟩
  · rw [cell_other (by omega), cell_other (by omega)]; exact hf.c0
  · rw [cell_other (by omega), cell_other (by omega)]; exact hf.c1

set_option maxRecDepth 10000 in
set_option maxHeartbeats 1000000 in
theorem parse_any (w : World) (s : ByteArray) (hs : s.size ≤ 9223372036854775806) :
    Calls Tryz.prog 9 #[.string s] w fun e w' => ∃ v, e = .returned (.tuple #[v, flt (pcode s.data.toList) (pat s.data.toList)]) ∧ Below w.heap.size w w' ∧ IsInt w' v (pval s.data.toList) := by
  obtain ⟨n, hn⟩ : ∃ n, _root_.Rad.wlen s.data.toList = n := ⟨_, rfl⟩
  have hnl : n ≤ s.size := by rw [← hn, ← ba_size]; exact wlen_le _
  have R := Res.mk1 w (Obj.cells #[Value.int IntKind.i64 0, Value.int IntKind.i64 0] 26)
  have F0' : Fbx ((w.alloc (Obj.cells #[Value.int IntKind.i64 0, Value.slice none 0 0] 24)).alloc (Obj.cells #[Value.int IntKind.i64 0, Value.int IntKind.i64 0] 26)) (w.heap.size + 1) := ⟨by simp, by simp [go_sem], by simp [go_sem], by simp [go_sem], by simp [go_sem]⟩
  have HF : Hid _ := F0'
  clear F0'
  have F0 : ((w.alloc (Obj.cells #[Value.int IntKind.i64 0, Value.slice none 0 0] 24)).alloc (Obj.cells #[Value.int IntKind.i64 0, Value.int IntKind.i64 0] 26)).cell? ⟨w.heap.size + 1, 0, none⟩ = some (.int .i64 0) := by simp [go_sem]
  have HR : Hid _ := R
  by_cases h1 : n < s.size
  · have h1' : (n : Int) < (s.size : Int) := by omega
    have hV : ¬ _root_.Rad.Valid s.data.toList := fun h => by have := h.1; rw [hn, ba_size] at this; omega
    have p1 : pcode s.data.toList = 1 := by unfold pcode; rw [if_neg hV]
    have p2 : pat s.data.toList = (n : Int) := by unfold pat; rw [if_neg hV, hn]
    have p3 : pval s.data.toList = 0 := by unfold pval; rw [if_neg (fun h => hV h.1)]
    have CN := numberLen_any ((w.alloc (Obj.cells #[Value.int IntKind.i64 0, Value.slice none 0 0] 24)).alloc (Obj.cells #[Value.int IntKind.i64 0, Value.int IntKind.i64 0] 26)) s hs n hn
    rw [p1, p2, p3]
    clear p1 p2 p3 hV hn R
    go_enter Tryz.func9, Tryz.ntmps9
    go_wp2_with (go_at_call 62; fail)
    refine CN.mono ?_
    rintro e w' ⟨rfl, hw⟩
    subst hw
    clear CN
    go_wp2
    refine bodyPost_ret (v := .tuple #[.agg #[.int .i64 0, .slice none 0 0], flt 1 n]) (by simp [results, go_sem, loadVar, World.cell?_setCell_same, *]; rfl) rfl ?_
    refine ⟨_, rfl, ?_, isInt_small _ 0 (by decide) (by decide)⟩
    exact bel2 _ _ _
  · have hne : n = s.size := by omega
    have h1' : ¬ (n : Int) < (s.size : Int) := by omega
    have CN := numberLen_any ((w.alloc (Obj.cells #[Value.int IntKind.i64 0, Value.slice none 0 0] 24)).alloc (Obj.cells #[Value.int IntKind.i64 0, Value.int IntKind.i64 0] 26)) s hs n hn
    by_cases hd : _root_.Rad.digs s.data.toList = []
    · have hV : ¬ _root_.Rad.Valid s.data.toList := fun h => h.2 hd
      have p1 : pcode s.data.toList = 1 := by unfold pcode; rw [if_neg hV]
      have p2 : pat s.data.toList = (n : Int) := by unfold pat; rw [if_neg hV, hn]
      have p3 : pval s.data.toList = 0 := by unfold pval; rw [if_neg (fun h => hV h.1)]
      have CE := fun w => endsInDigit_any w s false (by simp [hd])
      rw [p1, p2, p3]
      clear p1 p2 p3 hV hn R hd hne
      go_enter Tryz.func9, Tryz.ntmps9
      go_wp2_with (go_at_call 62; fail)
      refine CN.mono ?_
      rintro e w' ⟨rfl, hw⟩
      subst hw
      clear CN
      go_wp2_with (go_at_call 63; refine (CE _).mono ?_; rintro e w' ⟨rfl, hw⟩; subst hw)
      refine bodyPost_ret (v := .tuple #[.agg #[.int .i64 0, .slice none 0 0], flt 1 n]) (by simp [results, go_sem, loadVar, World.cell?_setCell_same, *]; rfl) rfl ?_
      refine ⟨_, rfl, ?_, isInt_small _ 0 (by decide) (by decide)⟩
      exact bel2 _ _ _
    · have hV : _root_.Rad.Valid s.data.toList := ⟨by rw [hn, ba_size]; exact hne, hd⟩
      have hs0 : 0 < s.size := by
        rcases Nat.eq_zero_or_pos s.size with h | h
        · rw [List.eq_nil_of_length_eq_zero (by rw [ba_size]; exact h : s.data.toList.length = 0)] at hd
          exact absurd rfl hd
        · exact h
      have p2 : pat s.data.toList = 0 := by unfold pat; rw [if_pos hV]
      have CE := fun w => endsInDigit_any w s true (by simp [hd])
      by_cases hl : 1000 < (_root_.Rad.digs s.data.toList).length
      · have p1 : pcode s.data.toList = 2 := by unfold pcode; rw [if_pos hV, if_pos hl]
        have p3 : pval s.data.toList = 0 := by unfold pval; rw [if_neg (fun h => by have := h.2; omega)]
        have CT := fun w => tooLong_any w s hs hs0 true (by simpa using hl)
        rw [p1, p2, p3]
        clear p1 p2 p3 hV hn R hd hl
        go_enter Tryz.func9, Tryz.ntmps9
        go_wp2_with (go_at_call 62; fail)
        refine CN.mono ?_
        rintro e w' ⟨rfl, hw⟩
        subst hw
        clear CN
        go_wp2_with (go_at_call 63; refine (CE _).mono ?_; rintro e w' ⟨rfl, hw⟩; subst hw)
        refine (CT _).mono ?_
        rintro e w5 ⟨rfl, n5, hw⟩
        subst hw
        go_wp2
        refine bodyPost_ret (v := .tuple #[.agg #[.int .i64 0, .slice none 0 0], flt 2 0]) (by simp [results, go_sem, loadVar, World.cell?_setCell_same, *]; rfl) rfl ?_
        refine ⟨_, rfl, ?_, isInt_small _ 0 (by decide) (by decide)⟩
        exact (((((bel2 w _ _).trans (below_drewN _ _ _)).setCell (p := ⟨w.heap.size, 0, none⟩) (by simp) _).setCell (p := ⟨w.heap.size, 1, none⟩) (by simp) _).setCell (p := ⟨w.heap.size + 1, 0, none⟩) (by simp) _).setCell (p := ⟨w.heap.size + 1, 1, none⟩) (by simp) _
      · have p1 : pcode s.data.toList = 0 := by unfold pcode; rw [if_pos hV, if_neg hl]
        have p3 : pval s.data.toList = _root_.Rad.val s.data.toList := by unfold pval; rw [if_pos ⟨hV, by omega⟩]
        have CT := fun w => tooLong_any w s hs hs0 false (by simpa using hl)
        obtain ⟨z, hz⟩ : ∃ z, z = _root_.Rad.val s.data.toList := ⟨_, rfl⟩
        have CV := fun w => value_any w s hV (by have := digs_len s.data.toList; rw [ba_size] at this; omega) z hz
        rw [p1, p2, p3, ← hz]
        clear p1 p2 p3 hV hn R hd hl hz
        go_enter Tryz.func9, Tryz.ntmps9
        go_wp2_with (go_at_call 62; fail)
        refine CN.mono ?_
        rintro e w' ⟨rfl, hw⟩
        subst hw
        clear CN
        go_wp2_with (go_at_call 63; refine (CE _).mono ?_; rintro e w' ⟨rfl, hw⟩; subst hw)
        refine (CT _).mono ?_
        rintro e w5 ⟨rfl, n5, hw⟩
        have R5 : Res w w5 w.heap.size := HR.out.step (B := w.heap.size + 1) (by rw [hw]; exact below_drewN _ _ _) (by omega)
        have F5 : Fbx w5 (w.heap.size + 1) := HF.out.step (B := w.heap.size + 2) (by rw [hw]; exact below_drewN _ _ _) (by omega)
        clear hw HR HF CT CE F0
        go_wp2_with (go_at_call 65; fail)
        refine (CV _).mono ?_
        rintro e w6 ⟨v6, rfl, hb6, hI⟩
        have R6 := R5.step hb6 R5.lt
        have F6 := F5.step hb6 F5.lt
        clear CV R5 F5 hb6
        obtain ⟨s5, a5, n5, c5, rfl⟩ := hI.form
        obtain ⟨HE, HI⟩ := R6.done2 F6 (by omega) hI 0 0
        have HE' : Hid _ := HE
        have HI' : Hid _ := HI
        obtain ⟨-, -, lt, k0, k1, f0, f1⟩ := R6
        obtain ⟨lt2, j0, j1, g0, g1⟩ := F6
        clear HE HI hI
        go_wp2
        refine bodyPost_ret (v := .tuple #[.agg #[.int .i64 s5, .slice a5 n5 c5], flt 0 0]) (by simp [results, go_sem, loadVar, World.cell?_setCell_same, *]; rfl) rfl ?_
        exact ⟨_, rfl, HE'.out, HI'.out⟩
end Go.Proofs.YtjlkplidpdhgbaaGreatDoor

namespace Rad
open Go
theorem runD_take : ∀ l : List UInt8, runD (l.take (runD l)) = runD l
  | [] => rfl
  | b :: r => by
    by_cases hb : IsDg b
    · have e : runD (b :: r) = runD r + 1 := by rw [runD, if_pos hb]
      rw [e, List.take_succ_cons, runD, if_pos hb, runD_take r]
    · have e : runD (b :: r) = 0 := by rw [runD, if_neg hb]
      rw [e]; rfl
theorem wlen_le_len (l : List UInt8) : wlen l ≤ l.length := by
  cases l with
  | nil => exact Nat.le_refl _
  | cons b r =>
    by_cases hb : b = 45
    · subst hb; rw [wlen_neg]; have := runD_le r; simp only [List.length_cons]; split <;> omega
    · by_cases h0 : b = 48
      · subst h0; rw [wlen_zero]; simp
      · rw [wlen_pos hb h0]; exact runD_le _
theorem is48 : IsDg 48 := by decide
theorem wlen_take (l : List UInt8) : wlen (l.take (wlen l)) = wlen l := by
  cases l with
  | nil => rfl
  | cons b r =>
    by_cases hb : b = 45
    · subst hb
      rw [wlen_neg]
      by_cases h : r.head? = some 48
      · rw [if_pos h]; rfl
      · rw [if_neg h, Nat.add_comm, List.take_succ_cons, wlen_neg, runD_take, if_neg, Nat.add_comm]
        cases r with
        | nil => simp
        | cons c r =>
          cases hm : runD (c :: r) with
          | zero => simp
          | succ m => simpa using h
    · by_cases h0 : b = 48
      · subst h0; rw [wlen_zero]; rfl
      · rw [wlen_pos hb h0]
        by_cases hd : IsDg b
        · have e : runD (b :: r) = runD r + 1 := by rw [runD, if_pos hd]
          rw [e, List.take_succ_cons, wlen_pos hb h0, runD, if_pos hd, runD_take]
        · have e : runD (b :: r) = 0 := by rw [runD, if_neg hd]
          rw [e]; rfl
theorem valid_take (l : List UInt8) : Valid (l.take (wlen l)) ↔ digs (l.take (wlen l)) ≠ [] := by
  unfold Valid
  rw [wlen_take, List.length_take, Nat.min_eq_left (wlen_le_len l)]
  simp
theorem valid_take_nil : ¬ Valid (([] : List UInt8).take (wlen [])) := by rw [valid_take]; simp [digs]
theorem valid_take_neg (r : List UInt8) : Valid ((45 :: r).take (wlen (45 :: r))) ↔ (¬ r.head? = some 48 ∧ 0 < runD r) := by
  rw [valid_take, wlen_neg]
  by_cases h : r.head? = some 48
  · rw [if_pos h]; simp [digs, h]
  · rw [if_neg h, Nat.add_comm, List.take_succ_cons, digs_neg]
    simp only [h, not_false_eq_true, true_and, ne_eq, List.take_eq_nil_iff]
    constructor
    · intro h2; omega
    · intro h2 h3
      rcases h3 with h3 | h3
      · omega
      · subst h3; simp [runD] at h2
theorem valid_take_zero (r : List UInt8) : Valid ((48 :: r).take (wlen (48 :: r))) := by rw [valid_take, wlen_zero]; simp [digs]
theorem valid_take_pos {b : UInt8} (hb : b ≠ 45) (h0 : b ≠ 48) (r : List UInt8) : Valid ((b :: r).take (wlen (b :: r))) ↔ 0 < runD (b :: r) := by
  rw [valid_take, wlen_pos hb h0]
  by_cases hd : IsDg b
  · have e : runD (b :: r) = runD r + 1 := by rw [runD, if_pos hd]
    rw [e, List.take_succ_cons, digs_pos hb]; simp
  · have e : runD (b :: r) = 0 := by rw [runD, if_neg hd]
    rw [e]; simp [digs]
end Rad

namespace Rad
open Go
theorem dval_snoc (l : List UInt8) (b : UInt8) : dval (l ++ [b]) = dval l * 10 + (b.toNat - 48) := by
  rw [dval_append, List.length_singleton, Nat.pow_one]; simp [dval, dvalF]
/-- Four digits more, from the end. -/
theorem four_step (t : List UInt8) {I : Nat} (hI : I ≤ t.length) : dval (t.drop (I - 4)) = dval ((t.drop (I - 4)).take (I - (I - 4))) * 10 ^ (t.length - I) + dval (t.drop I) := by
  have e : t.drop (I - 4) = (t.drop (I - 4)).take (I - (I - 4)) ++ t.drop I := by
    have h := List.take_append_drop (I - (I - 4)) (t.drop (I - 4))
    rw [List.drop_drop, show I - 4 + (I - (I - 4)) = I by omega] at h
    exact h.symm
  conv => lhs; rw [e]
  rw [dval_append, List.length_drop]
theorem take_step {t : List UInt8} {a x : Nat} (ha : a ≤ x) (hx : x < t.length) : (t.drop a).take (x + 1 - a) = (t.drop a).take (x - a) ++ [t[x]] := by
  have h1 : x - a < (t.drop a).length := by rw [List.length_drop]; omega
  rw [show x + 1 - a = (x - a) + 1 by omega, List.take_succ_eq_append_getElem h1, List.getElem_drop]
  congr 2
  simp only [show a + (x - a) = x by omega]
end Rad
