/- A part of the proof: R3, R4. -/
import Derived.Test.YtjlkplidpdhgbaaGreatDoorP27
set_option linter.all false

namespace Go.Proofs.YtjlkplidpdhgbaaGreatDoor
open Go Go.Proofs Go.RowKit Go.Rad

theorem info3 : (Tryz.prog.info? 3).map (fun i => (i.zero, i.size, i.bytes)) = some (some (.int .i64 0), 1, 8) := by kernel_rfl

set_option maxRecDepth 10000 in
set_option maxHeartbeats 4000000 in
theorem zread_neg (w : World) (s t : ByteArray) (hp : 0 < s.size) (h1 : s[0]'hp = 45) (ht : s.extract 1 s.size = t) (hdg : ∀ c ∈ t.data.toList, _root_.Rad.IsDg c) (hs : s.size ≤ 1001) (z : Int) (hz : z = sgn true (_root_.Rad.dval t.data.toList)) :
    Calls Tryz.prog 68 #[.string s] w fun e w' => ∃ v, e = .returned v ∧ Below w.heap.size w w' ∧ IsZ w' v z := by
  have HR : Hid (Rez w (w.alloc (Obj.cells #[Value.bool false, Value.slice none 0 0] 31)) w.heap.size) := Rez.mk0 w
  have c0 : (0 : Int) < (s.size : Int) := by omega
  obtain ⟨L, hL⟩ : ∃ L, t.size = L := ⟨_, rfl⟩
  have hL1 : L ≤ 1001 := by rw [← hL, ← ht]; simp; omega
  have hLi : (t.size : Int) = (L : Int) := by omega
  have HL : Hid _ := hL
  have HZ : Hid _ := hz
  have HDG : Hid _ := hdg
  clear hL hz hdg
  have e3 : (s[0].toNat : Int) = 45 := by rw [h1]; rfl
  go_enter Tryz.func68, Tryz.ntmps68
  go_wp2
  refine wp_world (fun w1 => Rez w w1 w.heap.size) HR.out ?_
  clear HR
  rintro w1 R1
  have HR1 : Hid _ := R1
  clear R1
  go_loopw [4, 5] (fun s4 s5 wr => ∃ (j : Nat) (xs : List Nat), s5 = .int .i64 ((L : Int) - 4 * (j : Int)) ∧ xs.length = j ∧ j ≤ L ∧ RowN .i64 3 wr (w.heap.size + 1) s4 xs ∧ (∀ x ∈ xs, x < 10000) ∧ lv 10000 xs = _root_.Rad.dval (t.data.toList.drop (L - 4 * j)) ∧ Rez w wr w.heap.size)
    (fun _ s5 _ => (intOf s5).toNat)
  case atStart => exact ⟨0, [], by simp, rfl, by omega, RowN.nil _ _ _ _, by simp, by rw [List.drop_of_length_le (by rw [ba_size, HL.out]; omega)]; rfl, HR1.out⟩
  case round =>
    obtain ⟨j, xs, rfl, hxl, hjL, hrow, hxs, hlv, hR⟩ := hrel
    clear HR1
    have hRl := hR.lt
    by_cases hj : L ≤ 4 * j
    · have c1 : ¬ (0 : Int) < (L : Int) - 4 * (j : Int) := by omega
      rw [show L - 4 * j = 0 by omega, List.drop_zero] at hlv
      subst hxl
      obtain ⟨ao, bb, cc, rfl, hsl, hc, hcm, harr, hnum, hfree, _, _⟩ := hrow.arr hxs
      have CZ := zmade_any wr true ao bb 0 xs.length cc _ hsl hc hcm harr (hnum.trans hlv)
      have HRR : Hid _ := hR
      clear hrow hnum hsl harr hfree hlv hxs hR hc
      go_wp2_with (go_at_call 73; fail)
      refine CZ.mono ?_
      rintro e w4 ⟨v4, rfl, hb4, hI⟩
      have R5 := HRR.out.step hb4 HRR.out.lt
      clear CZ HRR
      obtain ⟨s5, a5, n5, c5, rfl⟩ := hI.form
      obtain ⟨HE, HI⟩ := R5.done hI
      have HE' : Hid _ := HE
      have HI' : Hid _ := HI
      obtain ⟨-, -, lt, k0, k1, f0, f1⟩ := R5
      clear HE HI hI hb4
      go_wp2
      refine bodyPost_ret (v := .agg #[.bool s5, .slice a5 n5 c5]) (by simp [results, go_sem, loadVar, World.cell?_setCell_same, *]) rfl ?_
      exact ⟨_, rfl, HE'.out, by rw [HZ.out]; exact HI'.out⟩
    · obtain ⟨I, hI⟩ : ∃ I : Nat, I = L - 4 * j := ⟨_, rfl⟩
      have eI : (L : Int) - 4 * (j : Int) = (I : Int) := by omega
      have hI0 : 0 < I := by omega
      have hIL : I ≤ L := by omega
      have eJ : L - 4 * (j + 1) = I - 4 := by omega
      rw [eI]
      rw [← hI] at hlv
      have eI2 : (I : Int) - 4 = (L : Int) - 4 * ((j + 1 : Nat) : Int) := by omega
      have EI2 : Hid _ := eI2
      have hm : 10 ^ (t.data.toList.length - I) = 10000 ^ j := by
        rw [ba_size, HL.out, show L - I = 4 * j by omega, Nat.pow_mul]
      have hfour := _root_.Rad.four_step t.data.toList (I := I) (by rw [ba_size, HL.out]; exact hIL)
      rw [hm, ← hlv] at hfour
      have HFOUR : Hid _ := hfour
      have EJ : Hid _ := eJ
      have HROW := hrow.hid
      have HXS : Hid _ := hxs
      have HR1 : Hid _ := hR
      have HXL : Hid _ := hxl
      clear eI hI hlv hm hfour eJ eI2 hrow hxs hR hxl
      go_wp2
      go_loop [6, 7] (fun s6 s7 => ∃ k : Nat, k ≤ 4 ∧ s7 = .int .i64 ((I : Int) - 4 + (k : Int)) ∧ s6 = .int .i64 (_root_.Rad.dval ((t.data.toList.drop (I - 4)).take (I + k - 4 - (I - 4))) : Nat)) (fun _ s7 => (4 + (I : Int) - 4 - intOf s7).toNat)
      case atStart => exact ⟨0, by omega, by simp, by rw [show I + 0 - 4 - (I - 4) = 0 by omega]; rfl⟩
      case round =>
        obtain ⟨k, hk, rfl, rfl⟩ := hrel
        by_cases hk4 : k = 4
        · subst hk4
          have e4 : (I : Int) - 4 + ((4 : Nat) : Int) = (I : Int) := by omega
          rw [e4]
          have e5 : I + 4 - 4 - (I - 4) = I - (I - 4) := by omega
          rw [e5]
          obtain ⟨n, hn⟩ : ∃ n, _root_.Rad.dval ((t.data.toList.drop (I - 4)).take (I - (I - 4))) = n := ⟨_, rfl⟩
          have hn4 : n < 10000 := by
            have h1 : n < 10 ^ ((t.data.toList.drop (I - 4)).take (I - (I - 4))).length := by rw [← hn]; exact _root_.Rad.dval_lt fun c hc => HDG.out c (List.mem_of_mem_drop (List.mem_of_mem_take hc))
            have h2 : 10 ^ ((t.data.toList.drop (I - 4)).take (I - (I - 4))).length ≤ 10 ^ 4 := Nat.pow_le_pow_right (by decide) (by rw [List.length_take]; omega)
            omega
          have hF := HFOUR.out
          rw [hn] at hF ⊢
          have HF2 : Hid _ := hF
          have HROW2 := (HROW.out.below (bel1 wr (Obj.cells #[Value.int IntKind.i64 (n : Int)] 3))).hid
          have HC2 : Hid ((wr.alloc (Obj.cells #[Value.int IntKind.i64 (n : Int)] 3)).cell? ⟨wr.heap.size, 0, none⟩ = some (.int .i64 (n : Int))) := by show _ = _; simp [go_sem]
          have HB2 := bel1 wr (Obj.cells #[Value.int IntKind.i64 (n : Int)] 3)
          have HS2 : Hid (w.heap.size + 1 ≤ (wr.alloc (Obj.cells #[Value.int IntKind.i64 (n : Int)] 3)).heap.size) := by show _ ≤ _; simp; omega
          clear hn hF HFOUR
          go_wp2_with (at_builtin; refine wpList_appendN .i64 3 rfl _ _ 29 rfl Tryz.underlying29 8 info3 (by decide) (w.heap.size + 1) _ xs rfl HROW2.out wr.heap.size 1 n rfl HC2.out (by rw [HXL.out]; omega) HS2.out ?_; intro v6 w6 row6 hb6 hor6 hg6)
          have R6 := (HR1.out.step HB2 hRl).step hb6 (by omega)
          refine ⟨⟨j + 1, xs ++ [n], ?_, by simp [HXL.out], by omega, row6, ?_, ?_, R6⟩, ?_⟩
          · rw [EI2.out]
          · intro x hx
            rcases List.mem_append.1 hx with h | h
            · exact HXS.out x h
            · rw [List.mem_singleton.1 h]; exact hn4
          · rw [lv_snoc, EJ.out, HF2.out, HXL.out, Nat.add_comm, Nat.mul_comm]
          · simp [intOf]; omega
        · have c1 : (I : Int) - 4 + (k : Int) < (I : Int) := by omega
          by_cases hneg : I + k < 4
          · have c2 : ¬ (0 : Int) ≤ (I : Int) - 4 + (k : Int) := by omega
            have e6 : I + (k + 1) - 4 - (I - 4) = I + k - 4 - (I - 4) := by omega
            go_wp2
            refine ⟨⟨k + 1, by omega, by go_num, by rw [e6]⟩, by simp [intOf]; omega⟩
          · obtain ⟨x, hx⟩ : ∃ x : Nat, x = I + k - 4 := ⟨_, rfl⟩
            have ex : (I : Int) - 4 + (k : Int) = (x : Int) := by omega
            have exx : (x : Int) + 1 = (I : Int) - 4 + ((k + 1 : Nat) : Int) := by omega
            rw [ex] at c1 ⊢
            have hxt : x < t.size := by rw [HL.out]; omega
            have hxt' : x < t.data.toList.length := by rw [ba_size]; exact hxt
            have hstep := _root_.Rad.take_step (t := t.data.toList) (a := I - 4) (x := x) (by omega) hxt'
            have hdx := HDG.out t[x] (by show t.data.toList[x] ∈ _; exact List.getElem_mem hxt')
            obtain ⟨d, hd⟩ : ∃ d : Nat, t[x].toNat = 48 + d := ⟨t[x].toNat - 48, by unfold _root_.Rad.IsDg at hdx; omega⟩
            have hd9 : d ≤ 9 := by unfold _root_.Rad.IsDg at hdx; omega
            have hdi : (t[x].toNat : Int) = 48 + (d : Int) := by omega
            rw [← hx]
            obtain ⟨n, hn⟩ : ∃ n, _root_.Rad.dval ((t.data.toList.drop (I - 4)).take (x - (I - 4))) = n := ⟨_, rfl⟩
            have hn4 : n < 10000 := by
              have h1 : n < 10 ^ ((t.data.toList.drop (I - 4)).take (x - (I - 4))).length := by rw [← hn]; exact _root_.Rad.dval_lt fun c hc => HDG.out c (List.mem_of_mem_drop (List.mem_of_mem_take hc))
              have h2 : 10 ^ ((t.data.toList.drop (I - 4)).take (x - (I - 4))).length ≤ 10 ^ 4 := Nat.pow_le_pow_right (by decide) (by rw [List.length_take]; omega)
              omega
            have hN : _root_.Rad.dval ((t.data.toList.drop (I - 4)).take (I + (k + 1) - 4 - (I - 4))) = n * 10 + d := by
              rw [show I + (k + 1) - 4 - (I - 4) = x + 1 - (I - 4) by omega, hstep, _root_.Rad.dval_snoc, hn]
              have e : (t.data.toList[x]).toNat = 48 + d := hd
              rw [e]; omega
            rw [hn]
            have HN : Hid _ := hN
            have EXX : Hid _ := exx
            have c3 : (0 : Int) ≤ (x : Int) := by omega
            clear hn hN hstep hdx hd hx ex exx HFOUR
            go_wp2
            refine ⟨⟨k + 1, by omega, by rw [EXX.out], by rw [HN.out]; go_num⟩, by simp [intOf]; omega⟩
set_option maxRecDepth 10000 in
set_option maxHeartbeats 4000000 in
theorem zread_pos (w : World) (s t : ByteArray) (hp : 0 < s.size) (h1 : ¬ s[0]'hp = 45) (ht : s = t) (hdg : ∀ c ∈ t.data.toList, _root_.Rad.IsDg c) (hs : s.size ≤ 1001) (z : Int) (hz : z = sgn false (_root_.Rad.dval t.data.toList)) :
    Calls Tryz.prog 68 #[.string s] w fun e w' => ∃ v, e = .returned v ∧ Below w.heap.size w w' ∧ IsZ w' v z := by
  have HR : Hid (Rez w (w.alloc (Obj.cells #[Value.bool false, Value.slice none 0 0] 31)) w.heap.size) := Rez.mk0 w
  have c0 : (0 : Int) < (s.size : Int) := by omega
  obtain ⟨L, hL⟩ : ∃ L, t.size = L := ⟨_, rfl⟩
  have hL1 : L ≤ 1001 := by rw [← hL, ← ht]; exact hs
  have hLi : (t.size : Int) = (L : Int) := by omega
  have HL : Hid _ := hL
  have HZ : Hid _ := hz
  have HDG : Hid _ := hdg
  clear hL hz hdg
  have e3 : ¬ (s[0].toNat : Int) = 45 := u8_ne (n := 45) (by decide) h1
  have f3 : (((s[0].toNat : Nat) : Int) == 45) = false := by simpa using e3
  subst ht
  go_enter Tryz.func68, Tryz.ntmps68
  go_wp2
  refine wp_world (fun w1 => Rez w w1 w.heap.size) HR.out ?_
  clear HR
  rintro w1 R1
  have HR1 : Hid _ := R1
  clear R1
  go_loopw [4, 5] (fun s4 s5 wr => ∃ (j : Nat) (xs : List Nat), s5 = .int .i64 ((L : Int) - 4 * (j : Int)) ∧ xs.length = j ∧ j ≤ L ∧ RowN .i64 3 wr (w.heap.size + 1) s4 xs ∧ (∀ x ∈ xs, x < 10000) ∧ lv 10000 xs = _root_.Rad.dval (s.data.toList.drop (L - 4 * j)) ∧ Rez w wr w.heap.size)
    (fun _ s5 _ => (intOf s5).toNat)
  case atStart => exact ⟨0, [], by simp, rfl, by omega, RowN.nil _ _ _ _, by simp, by rw [List.drop_of_length_le (by rw [ba_size, HL.out]; omega)]; rfl, HR1.out⟩
  case round =>
    obtain ⟨j, xs, rfl, hxl, hjL, hrow, hxs, hlv, hR⟩ := hrel
    clear HR1
    have hRl := hR.lt
    by_cases hj : L ≤ 4 * j
    · have c1 : ¬ (0 : Int) < (L : Int) - 4 * (j : Int) := by omega
      rw [show L - 4 * j = 0 by omega, List.drop_zero] at hlv
      subst hxl
      obtain ⟨ao, bb, cc, rfl, hsl, hc, hcm, harr, hnum, hfree, _, _⟩ := hrow.arr hxs
      have CZ := zmade_any wr false ao bb 0 xs.length cc _ hsl hc hcm harr (hnum.trans hlv)
      have HRR : Hid _ := hR
      clear hrow hnum hsl harr hfree hlv hxs hR hc
      go_wp2_with (go_at_call 73; fail)
      refine CZ.mono ?_
      rintro e w4 ⟨v4, rfl, hb4, hI⟩
      have R5 := HRR.out.step hb4 HRR.out.lt
      clear CZ HRR
      obtain ⟨s5, a5, n5, c5, rfl⟩ := hI.form
      obtain ⟨HE, HI⟩ := R5.done hI
      have HE' : Hid _ := HE
      have HI' : Hid _ := HI
      obtain ⟨-, -, lt, k0, k1, f0, f1⟩ := R5
      clear HE HI hI hb4
      go_wp2
      refine bodyPost_ret (v := .agg #[.bool s5, .slice a5 n5 c5]) (by simp [results, go_sem, loadVar, World.cell?_setCell_same, *]) rfl ?_
      exact ⟨_, rfl, HE'.out, by rw [HZ.out]; exact HI'.out⟩
    · obtain ⟨I, hI⟩ : ∃ I : Nat, I = L - 4 * j := ⟨_, rfl⟩
      have eI : (L : Int) - 4 * (j : Int) = (I : Int) := by omega
      have hI0 : 0 < I := by omega
      have hIL : I ≤ L := by omega
      have eJ : L - 4 * (j + 1) = I - 4 := by omega
      rw [eI]
      rw [← hI] at hlv
      have eI2 : (I : Int) - 4 = (L : Int) - 4 * ((j + 1 : Nat) : Int) := by omega
      have EI2 : Hid _ := eI2
      have hm : 10 ^ (s.data.toList.length - I) = 10000 ^ j := by
        rw [ba_size, HL.out, show L - I = 4 * j by omega, Nat.pow_mul]
      have hfour := _root_.Rad.four_step s.data.toList (I := I) (by rw [ba_size, HL.out]; exact hIL)
      rw [hm, ← hlv] at hfour
      have HFOUR : Hid _ := hfour
      have EJ : Hid _ := eJ
      have HROW := hrow.hid
      have HXS : Hid _ := hxs
      have HR1 : Hid _ := hR
      have HXL : Hid _ := hxl
      clear eI hI hlv hm hfour eJ eI2 hrow hxs hR hxl
      go_wp2
      go_loop [6, 7] (fun s6 s7 => ∃ k : Nat, k ≤ 4 ∧ s7 = .int .i64 ((I : Int) - 4 + (k : Int)) ∧ s6 = .int .i64 (_root_.Rad.dval ((s.data.toList.drop (I - 4)).take (I + k - 4 - (I - 4))) : Nat)) (fun _ s7 => (4 + (I : Int) - 4 - intOf s7).toNat)
      case atStart => exact ⟨0, by omega, by simp, by rw [show I + 0 - 4 - (I - 4) = 0 by omega]; rfl⟩
      case round =>
        obtain ⟨k, hk, rfl, rfl⟩ := hrel
        by_cases hk4 : k = 4
        · subst hk4
          have e4 : (I : Int) - 4 + ((4 : Nat) : Int) = (I : Int) := by omega
          rw [e4]
          have e5 : I + 4 - 4 - (I - 4) = I - (I - 4) := by omega
          rw [e5]
          obtain ⟨n, hn⟩ : ∃ n, _root_.Rad.dval ((s.data.toList.drop (I - 4)).take (I - (I - 4))) = n := ⟨_, rfl⟩
          have hn4 : n < 10000 := by
            have h1 : n < 10 ^ ((s.data.toList.drop (I - 4)).take (I - (I - 4))).length := by rw [← hn]; exact _root_.Rad.dval_lt fun c hc => HDG.out c (List.mem_of_mem_drop (List.mem_of_mem_take hc))
            have h2 : 10 ^ ((s.data.toList.drop (I - 4)).take (I - (I - 4))).length ≤ 10 ^ 4 := Nat.pow_le_pow_right (by decide) (by rw [List.length_take]; omega)
            omega
          have hF := HFOUR.out
          rw [hn] at hF ⊢
          have HF2 : Hid _ := hF
          have HROW2 := (HROW.out.below (bel1 wr (Obj.cells #[Value.int IntKind.i64 (n : Int)] 3))).hid
          have HC2 : Hid ((wr.alloc (Obj.cells #[Value.int IntKind.i64 (n : Int)] 3)).cell? ⟨wr.heap.size, 0, none⟩ = some (.int .i64 (n : Int))) := by show _ = _; simp [go_sem]
          have HB2 := bel1 wr (Obj.cells #[Value.int IntKind.i64 (n : Int)] 3)
          have HS2 : Hid (w.heap.size + 1 ≤ (wr.alloc (Obj.cells #[Value.int IntKind.i64 (n : Int)] 3)).heap.size) := by show _ ≤ _; simp; omega
          clear hn hF HFOUR
          go_wp2_with (at_builtin; refine wpList_appendN .i64 3 rfl _ _ 29 rfl Tryz.underlying29 8 info3 (by decide) (w.heap.size + 1) _ xs rfl HROW2.out wr.heap.size 1 n rfl HC2.out (by rw [HXL.out]; omega) HS2.out ?_; intro v6 w6 row6 hb6 hor6 hg6)
          have R6 := (HR1.out.step HB2 hRl).step hb6 (by omega)
          refine ⟨⟨j + 1, xs ++ [n], ?_, by simp [HXL.out], by omega, row6, ?_, ?_, R6⟩, ?_⟩
          · rw [EI2.out]
          · intro x hx
            rcases List.mem_append.1 hx with h | h
            · exact HXS.out x h
            · rw [List.mem_singleton.1 h]; exact hn4
          · rw [lv_snoc, EJ.out, HF2.out, HXL.out, Nat.add_comm, Nat.mul_comm]
          · simp [intOf]; omega
        · have c1 : (I : Int) - 4 + (k : Int) < (I : Int) := by omega
          by_cases hneg : I + k < 4
          · have c2 : ¬ (0 : Int) ≤ (I : Int) - 4 + (k : Int) := by omega
            have e6 : I + (k + 1) - 4 - (I - 4) = I + k - 4 - (I - 4) := by omega
            go_wp2
            refine ⟨⟨k + 1, by omega, by go_num, by rw [e6]⟩, by simp [intOf]; omega⟩
          · obtain ⟨x, hx⟩ : ∃ x : Nat, x = I + k - 4 := ⟨_, rfl⟩
            have ex : (I : Int) - 4 + (k : Int) = (x : Int) := by omega
            have exx : (x : Int) + 1 = (I : Int) - 4 + ((k + 1 : Nat) : Int) := by omega
            rw [ex] at c1 ⊢
            have hxt : x < s.size := by rw [HL.out]; omega
            have hxt' : x < s.data.toList.length := by rw [ba_size]; exact hxt
            have hstep := _root_.Rad.take_step (t := s.data.toList) (a := I - 4) (x := x) (by omega) hxt'
            have hdx := HDG.out s[x] (by show s.data.toList[x] ∈ _; exact List.getElem_mem hxt')
            obtain ⟨d, hd⟩ : ∃ d : Nat, s[x].toNat = 48 + d := ⟨s[x].toNat - 48, by unfold _root_.Rad.IsDg at hdx; omega⟩
            have hd9 : d ≤ 9 := by unfold _root_.Rad.IsDg at hdx; omega
            have hdi : (s[x].toNat : Int) = 48 + (d : Int) := by omega
            rw [← hx]
            obtain ⟨n, hn⟩ : ∃ n, _root_.Rad.dval ((s.data.toList.drop (I - 4)).take (x - (I - 4))) = n := ⟨_, rfl⟩
            have hn4 : n < 10000 := by
              have h1 : n < 10 ^ ((s.data.toList.drop (I - 4)).take (x - (I - 4))).length := by rw [← hn]; exact _root_.Rad.dval_lt fun c hc => HDG.out c (List.mem_of_mem_drop (List.mem_of_mem_take hc))
              have h2 : 10 ^ ((s.data.toList.drop (I - 4)).take (x - (I - 4))).length ≤ 10 ^ 4 := Nat.pow_le_pow_right (by decide) (by rw [List.length_take]; omega)
              omega
            have hN : _root_.Rad.dval ((s.data.toList.drop (I - 4)).take (I + (k + 1) - 4 - (I - 4))) = n * 10 + d := by
              rw [show I + (k + 1) - 4 - (I - 4) = x + 1 - (I - 4) by omega, hstep, _root_.Rad.dval_snoc, hn]
              have e : (s.data.toList[x]).toNat = 48 + d := hd
              rw [e]; omega
            rw [hn]
            have HN : Hid _ := hN
            have EXX : Hid _ := exx
            have c3 : (0 : Int) ≤ (x : Int) := by omega
            clear hn hN hstep hdx hd hx ex exx HFOUR
            go_wp2
            refine ⟨⟨k + 1, by omega, by rw [EXX.out], by rw [HN.out]; go_num⟩, by simp [intOf]; omega⟩
theorem zread_any (w : World) (s : ByteArray) (hV : _root_.Rad.Valid s.data.toList) (hs : s.size ≤ 1001) (z : Int) (hz : z = _root_.Rad.val s.data.toList) :
    Calls Tryz.prog 68 #[.string s] w fun e w' => ∃ v, e = .returned v ∧ Below w.heap.size w w' ∧ IsZ w' v z := by
  have hp : 0 < s.size := by
    rcases Nat.eq_zero_or_pos s.size with h | h
    · have h1 := hV.2
      rw [List.eq_nil_of_length_eq_zero (by rw [ba_size]; exact h : s.data.toList.length = 0)] at h1
      exact absurd rfl h1
    · exact h
  have ec := ba_cons hp
  have hd := hV.digits
  by_cases h1 : s[0] = 45
  · have htd : (s.extract 1 s.size).data.toList = _root_.Rad.digs s.data.toList := by rw [ba_drop, ec, h1, _root_.Rad.digs_neg]; rfl
    refine zread_neg w s _ hp h1 rfl (by rw [htd]; exact hd) hs z ?_
    rw [hz, htd]; unfold _root_.Rad.val sgn
    rw [if_pos (by rw [ec, h1]; rfl), if_pos rfl]
  · have htd : s.data.toList = _root_.Rad.digs s.data.toList := by
      conv => rhs; rw [ec]
      rw [_root_.Rad.digs_pos h1]; exact ec
    refine zread_pos w s s hp h1 rfl (by rw [htd]; exact hd) hs z ?_
    rw [hz]; unfold _root_.Rad.val sgn
    rw [if_neg (by rw [ec]; intro h; exact h1 (Option.some.inj h)), if_neg (by simp), ← htd]
end Go.Proofs.YtjlkplidpdhgbaaGreatDoor

namespace Go.Proofs.YtjlkplidpdhgbaaGreatDoor
open Go Go.Proofs Go.RowKit Go.Rad

theorem cell_setSame {w : World} {b i : Nat} {u : Value} (h : w.cell? ⟨b, i, none⟩ = some u) (c j : Nat) : (w.setCell ⟨b, i, none⟩ u).cell? ⟨c, j, none⟩ = w.cell? ⟨c, j, none⟩ := by
  by_cases hc : c = b ∧ j = i
  · obtain ⟨rfl, rfl⟩ := hc
    rw [cell_same h, h]
  · exact cell_other (by omega)
theorem Dg.congr {w w' : World} {v : Value} {x n : Nat} (h : Dg w v x n) (hc : ∀ b i, w'.cell? ⟨b, i, none⟩ = w.cell? ⟨b, i, none⟩) : Dg w' v x n := by
  obtain ⟨ao, b, o, c, hv, hs, hcc, hcm, ha, hx, hn⟩ := h
  refine ⟨ao, b, o, c, hv, hs, hcc, hcm, fun i hi => ?_, ?_, ?_⟩
  · rw [hc, word_of_cell (hc b (o + i))]; exact ha i hi
  · rw [← hx]; exact num_congr fun i _ => word_of_cell (hc b (o + i))
  · rcases hn with h0 | h0
    · exact .inl h0
    · right; rw [word_of_cell (hc b _)]; exact h0
theorem IsZ.congr {w w' : World} {v : Value} {z : Int} (h : IsZ w v z) (hc : ∀ b i, w'.cell? ⟨b, i, none⟩ = w.cell? ⟨b, i, none⟩) : IsZ w' v z := by
  obtain ⟨dv, n, hv, hd⟩ := h
  exact ⟨dv, n, hv, hd.congr hc⟩
/-- A number and no fault stored. -/
theorem Rez.done2 {w w1 : World} {b f : Nat} (h : Rez w w1 b) (hf : Fbx w1 f) (hbf : b < f) {s : Bool} {a : Option Addr} {n c : Nat} {z : Int} (hI : IsZ w1 (.agg #[.bool s, .slice a n c]) z) :
    Below w.heap.size w ((((w1.setCell ⟨b, 0, none⟩ (.bool s)).setCell ⟨b, 1, none⟩ (.slice a n c)).setCell ⟨f, 0, none⟩ (.int .i64 0)).setCell ⟨f, 1, none⟩ (.int .i64 0)) ∧
      IsZ ((((w1.setCell ⟨b, 0, none⟩ (.bool s)).setCell ⟨b, 1, none⟩ (.slice a n c)).setCell ⟨f, 0, none⟩ (.int .i64 0)).setCell ⟨f, 1, none⟩ (.int .i64 0)) (.agg #[.bool s, .slice a n c]) z := by
  obtain ⟨h1, h2⟩ := h.done hI
  have hg := h.ge
  have c0 : ((w1.setCell ⟨b, 0, none⟩ (.bool s)).setCell ⟨b, 1, none⟩ (.slice a n c)).cell? ⟨f, 0, none⟩ = some (.int .i64 0) := by
    rw [cell_other (by omega), cell_other (by omega)]; exact hf.c0
  have c1 : (((w1.setCell ⟨b, 0, none⟩ (.bool s)).setCell ⟨b, 1, none⟩ (.slice a n c)).setCell ⟨f, 0, none⟩ (.int .i64 0)).cell? ⟨f, 1, none⟩ = some (.int .i64 0) := by
    rw [cell_other (by omega), cell_other (by omega), cell_other (by omega)]; exact hf.c1
  exact ⟨(h1.setCell (p := ⟨f, 0, none⟩) (by show w.heap.size ≤ f; omega) _).setCell (p := ⟨f, 1, none⟩) (by show w.heap.size ≤ f; omega) _, (h2.congr (cell_setSame c0)).congr (cell_setSame c1)⟩
theorem Rez.mk1 (w : World) (X : Obj) : Rez w ((w.alloc (Obj.cells #[Value.bool false, Value.slice none 0 0] 31)).alloc X) w.heap.size :=
  (Rez.mk0 w).step (bel1 _ _) (by simp)

set_option maxRecDepth 10000 in
set_option maxHeartbeats 2000000 in
theorem zparse_any (w : World) (s : ByteArray) (hs : s.size ≤ 9223372036854775806) :
    Calls Tryz.prog 10 #[.string s] w fun e w' => ∃ v, e = .returned (.tuple #[v, flt (pcode s.data.toList) (pat s.data.toList)]) ∧ Below w.heap.size w w' ∧ IsZ w' v (pval s.data.toList) := by
  obtain ⟨n, hn⟩ : ∃ n, n = _root_.Rad.wlen s.data.toList := ⟨_, rfl⟩
  have hnl : n ≤ s.size := by rw [hn, ← ba_size]; exact wlen_le _
  have HR : Hid _ := Rez.mk1 w (Obj.cells #[Value.int IntKind.i64 0, Value.int IntKind.i64 0] 26)
  have HF : Hid (Fbx ((w.alloc (Obj.cells #[Value.bool false, Value.slice none 0 0] 31)).alloc (Obj.cells #[Value.int IntKind.i64 0, Value.int IntKind.i64 0] 26)) (w.heap.size + 1)) := ⟨by simp, by simp [go_sem], by simp [go_sem], by simp [go_sem], by simp [go_sem]⟩
  have hlen : s.data.toList.length = s.size := ba_size s
  by_cases hV : _root_.Rad.Valid s.data.toList
  · have hne : n = s.size := by rw [hn, hV.1, ba_size]
    have h1' : ¬ (n : Int) < (s.size : Int) := by omega
    have CN := word_tt ((w.alloc (Obj.cells #[Value.bool false, Value.slice none 0 0] 31)).alloc (Obj.cells #[Value.int IntKind.i64 0, Value.int IntKind.i64 0] 26)) s hs n true hn (by rw [hV.1, List.take_length]; exact ⟨fun _ => hV, fun _ => rfl⟩)
    have hs0 : 0 < s.size := by
      rcases Nat.eq_zero_or_pos s.size with h | h
      · have hd := hV.2
        rw [List.eq_nil_of_length_eq_zero (by rw [ba_size]; exact h : s.data.toList.length = 0)] at hd
        exact absurd rfl hd
      · exact h
    have p2 : pat s.data.toList = 0 := by unfold pat; rw [if_pos hV]
    obtain ⟨r, hr⟩ : ∃ r, (_root_.Rad.digs s.data.toList).length = r := ⟨_, rfl⟩
    have CD := fun w => digitsOf_any w s hs0 hs r hr
    by_cases hl : 1000 < (_root_.Rad.digs s.data.toList).length
    · have p1 : pcode s.data.toList = 2 := by unfold pcode; rw [if_pos hV, if_pos hl]
      have p3 : pval s.data.toList = 0 := by unfold pval; rw [if_neg (fun h => by have := h.2; omega)]
      have c1 : (1000 : Int) < (r : Int) := by omega
      rw [p1, p2, p3]
      clear p1 p2 p3 hV hn hl hr hlen
      go_enter Tryz.func10, Tryz.ntmps10
      go_wp2_with (go_at_call 66; fail)
      refine CN.mono ?_
      rintro e w' ⟨rfl, hw⟩
      subst hw
      clear CN
      go_wp2_with (go_at_call 67; refine (CD _).mono ?_; rintro e w' ⟨rfl, hw⟩; subst hw)
      refine bodyPost_ret (v := .tuple #[.agg #[.bool false, .slice none 0 0], flt 2 0]) (by simp [results, go_sem, loadVar, World.cell?_setCell_same, *]; rfl) rfl ?_
      exact ⟨_, rfl, bel2 _ _ _, isZ_zero _⟩
    · have p1 : pcode s.data.toList = 0 := by unfold pcode; rw [if_pos hV, if_neg hl]
      have p3 : pval s.data.toList = _root_.Rad.val s.data.toList := by unfold pval; rw [if_pos ⟨hV, by omega⟩]
      obtain ⟨z, hz⟩ : ∃ z, z = _root_.Rad.val s.data.toList := ⟨_, rfl⟩
      have CV := fun w => zread_any w s hV (by have := digs_len s.data.toList; rw [ba_size] at this; omega) z hz
      have c1 : ¬ (1000 : Int) < (r : Int) := by omega
      rw [p1, p2, p3, ← hz]
      clear p1 p2 p3 hV hn hl hz hr hlen
      go_enter Tryz.func10, Tryz.ntmps10
      go_wp2_with (go_at_call 66; fail)
      refine CN.mono ?_
      rintro e w' ⟨rfl, hw⟩
      subst hw
      clear CN
      go_wp2_with (go_at_call 67; refine (CD _).mono ?_; rintro e w' ⟨rfl, hw⟩; subst hw)
      have R5 := HR.out
      have F5 := HF.out
      clear HR HF CD
      refine (CV _).mono ?_
      rintro e w6 ⟨v6, rfl, hb6, hI⟩
      have R6 := R5.step hb6 R5.lt
      have F6 := F5.step hb6 F5.lt
      clear CV R5 F5 hb6
      obtain ⟨s5, a5, n5, c5, rfl⟩ := hI.form
      obtain ⟨HE, HI⟩ := R6.done2 F6 (by omega) hI
      have HE' : Hid _ := HE
      have HI' : Hid _ := HI
      obtain ⟨-, -, lt, k0, k1, f0, f1⟩ := R6
      obtain ⟨lt2, j0, j1, g0, g1⟩ := F6
      clear HE HI hI
      go_wp2
      refine bodyPost_ret (v := .tuple #[.agg #[.bool s5, .slice a5 n5 c5], flt 0 0]) (by simp [results, go_sem, loadVar, World.cell?_setCell_same, *]; rfl) rfl ?_
      exact ⟨_, rfl, HE'.out, HI'.out⟩
  · have p1 : pcode s.data.toList = 1 := by unfold pcode; rw [if_neg hV]
    have p2 : pat s.data.toList = (n : Int) := by unfold pat; rw [if_neg hV, hn]
    have p3 : pval s.data.toList = 0 := by unfold pval; rw [if_neg (fun h => hV h.1)]
    by_cases h1 : n < s.size
    · have h1' : (n : Int) < (s.size : Int) := by omega
      obtain ⟨ok, hok⟩ : ∃ ok : Bool, ok = true ↔ _root_.Rad.Valid (s.data.toList.take (_root_.Rad.wlen s.data.toList)) := ⟨decide (_root_.Rad.Valid (s.data.toList.take (_root_.Rad.wlen s.data.toList))), decide_eq_true_iff⟩
      have CN := word_tt ((w.alloc (Obj.cells #[Value.bool false, Value.slice none 0 0] 31)).alloc (Obj.cells #[Value.int IntKind.i64 0, Value.int IntKind.i64 0] 26)) s hs n ok hn hok
      rw [p1, p2, p3]
      clear p1 p2 p3 hV hn hok hlen
      cases ok
      all_goals
        go_enter Tryz.func10, Tryz.ntmps10
        go_wp2_with (go_at_call 66; fail)
        refine CN.mono ?_
        rintro e w' ⟨rfl, hw⟩
        subst hw
        clear CN
        go_wp2
        refine bodyPost_ret (v := .tuple #[.agg #[.bool false, .slice none 0 0], flt 1 n]) (by simp [results, go_sem, loadVar, World.cell?_setCell_same, *]; rfl) rfl ?_
        exact ⟨_, rfl, bel2 _ _ _, isZ_zero _⟩
    · have hne : n = s.size := by omega
      have CN := word_tt ((w.alloc (Obj.cells #[Value.bool false, Value.slice none 0 0] 31)).alloc (Obj.cells #[Value.int IntKind.i64 0, Value.int IntKind.i64 0] 26)) s hs n false hn (by rw [← hn, hne, ← hlen, List.take_length]; exact ⟨fun h => (by cases h), fun h => absurd h hV⟩)
      rw [p1, p2, p3]
      clear p1 p2 p3 hV hn hlen
      go_enter Tryz.func10, Tryz.ntmps10
      go_wp2_with (go_at_call 66; fail)
      refine CN.mono ?_
      rintro e w' ⟨rfl, hw⟩
      subst hw
      clear CN
      go_wp2
      refine bodyPost_ret (v := .tuple #[.agg #[.bool false, .slice none 0 0], flt 1 n]) (by simp [results, go_sem, loadVar, World.cell?_setCell_same, *]; rfl) rfl ?_
      exact ⟨_, rfl, bel2 _ _ _, isZ_zero _⟩
end Go.Proofs.YtjlkplidpdhgbaaGreatDoor
