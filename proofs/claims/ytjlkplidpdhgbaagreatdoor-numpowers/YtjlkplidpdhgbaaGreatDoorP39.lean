/- A part of the proof: R14. -/
import Derived.Test.YtjlkplidpdhgbaaGreatDoorP33
import Derived.Test.YtjlkplidpdhgbaaGreatDoorP34
import Derived.Test.YtjlkplidpdhgbaaGreatDoorP38
set_option linter.all false

namespace Go.Proofs.YtjlkplidpdhgbaaGreatDoor
open Go Go.Proofs Go.RowKit Go.Rad


theorem wi {x K : Nat} (h : x ≤ K) (hK : K ≤ 9999 := by decide) : IntKind.i64.wrap (x : Int) = (x : Int) := by rw [IntKind.wrap_i64]; omega
theorem tm {x y : Nat} (h : (x : Int) % 10 = (y : Int)) : (x : Int).tmod 10 = (y : Int) := by rw [Int.tmod_eq_emod_of_nonneg (by omega)]; exact h
theorem wi48 {x : Nat} (h : x ≤ 9) : IntKind.i64.wrap (48 + (x : Int)) = 48 + (x : Int) := by rw [IntKind.wrap_i64]; omega
theorem wu48 {x : Nat} (h : x ≤ 9) : IntKind.u8.wrap (48 + (x : Int)) = 48 + (x : Int) := by rw [IntKind.wrap_u8]; omega
theorem ba_app (s t : ByteArray) : (s ++ t).data.toList = s.data.toList ++ t.data.toList := by
  rw [ByteArray.data_append, Array.toList_append]
theorem ba_mk (l : List UInt8) : (⟨l.toArray⟩ : ByteArray).data.toList = l := rfl
theorem ba_eq {s : ByteArray} {l : List UInt8} (h : s.data.toList = l) : s = ⟨l.toArray⟩ := by
  apply ByteArray.ext
  apply Array.toList_inj.1
  rw [h]

/-- What has been written when places from k on have been. -/
def tpart (neg : Bool) (H : Nat) (k n : Nat) : List UInt8 := (if neg then [45] else []) ++ (if k = n then [] else Lib.decDigits H)
/-- The places from j on: the ones above them first. -/
theorem tpart_step {neg : Bool} {n j H G y d0 d1 d2 d3 F : Nat} (hj : j < n) (hG : G = y + 10000 * H) (hy : y = 1000 * d0 + 100 * d1 + 10 * d2 + d3) (h0 : d0 ≤ 9) (h1 : d1 ≤ 9) (h2 : d2 ≤ 9) (h3 : d3 ≤ 9)
    (hF : (j + 1 = n → H = 0 ∧ F = _root_.Rad.lead d0 d1 d2) ∧ (j + 1 ≠ n → 0 < H ∧ F = 0)) :
    tpart neg H (j + 1) n ++ (_root_.Rad.four d0 d1 d2 d3).drop F = tpart neg G j n := by
  unfold tpart
  rw [if_neg (show ¬ j = n by omega), List.append_assoc]
  congr 1
  by_cases ht : j + 1 = n
  · obtain ⟨hH, hf⟩ := hF.1 ht
    rw [if_pos ht, List.nil_append, hf, ← _root_.Rad.dec_lead h0 h1 h2 h3, hG, hH, hy]; rfl
  · obtain ⟨hH, hf⟩ := hF.2 ht
    rw [if_neg ht, hf, List.drop_zero, hG, hy, _root_.Rad.dec_four hH h0 h1 h2 h3]

set_option maxRecDepth 10000 in
set_option maxHeartbeats 4000000 in
theorem zText_pos (w : World) (v : Value) (z : Int) (LX : Nat) (hx : IsZ w v z) (hbx : z.natAbs < 10000 ^ LX) (hL : LX ≤ 1073741824) (hz0 : z ≠ 0) :
    Calls Tryz.prog 15 #[v] w fun e w' => e = .returned (.string ⟨(txt z).toArray⟩) ∧ Below w.heap.size w w' := by
  obtain ⟨sx, a, n, c, rfl⟩ := hx.form
  obtain ⟨hsx, hd⟩ := hx.dg
  have hnL : n ≤ 1073741824 := Nat.le_trans (hd.len_le hbx) hL
  have hzi := hd.zero_iff
  obtain ⟨ao, b, o, c', he, hs, hc, hcm, ha, hnum, htop⟩ := hd
  simp only [Value.slice.injEq] at he
  obtain ⟨rfl, -, rfl⟩ := he
  have hn0 : 0 < n := by omega
  obtain rfl := hs hn0
  have hbl0 : b < w.heap.size := ha.lt hn0
  have htxt : txt z = tpart sx z.natAbs 0 n := by
    unfold tpart
    rw [if_neg (show ¬ 0 = n by omega), hsx]
    unfold txt
    by_cases h : z < 0
    · have e : z = -((z.natAbs : Nat) : Int) := by omega
      rw [decide_eq_true h]
      conv => lhs; rw [e]
      rw [Lib.itoa_neg _ (by omega)]; rfl
    · have e : z = ((z.natAbs : Nat) : Int) := by omega
      rw [decide_eq_false h]
      conv => lhs; rw [e]
      rw [Lib.itoa_nonneg]; rfl
  have HTXT : Hid _ := htxt
  have HA : Hid (Arr .i64 10000 w b o n) := ha
  have HN : Hid (num 10000 w b o n = z.natAbs) := hnum
  have htop' : word w b (o + (n - 1)) ≠ 0 := by rcases htop with h | h; omega; exact h
  have HTOP : Hid _ := htop'
  have c0 : ¬ (n : Int) = 0 := by omega
  clear hx hsx ha hnum htop htop' hzi hs htxt
  have HSG : Hid (tpart sx 0 n n = if sx then [45] else []) := by
    show tpart sx 0 n n = _
    unfold tpart; rw [if_pos rfl, List.append_nil]
  cases sx
  · go_enter Tryz.func15, Tryz.ntmps15
    go_wp2
    refine wp_world (fun w1 => Below w.heap.size w w1 ∧ w.heap.size < w1.heap.size ∧ w1.cell? ⟨w.heap.size, 1, none⟩ = some (.slice (some ⟨b, o, none⟩) n c)) ⟨bel1 _ _, by simp, by simp [go_sem]⟩ ?_
    rintro w1 ⟨hB1, hl1, hk1⟩
    have HB1 : Hid _ := hB1
    have HK1 : Hid _ := hk1
    have HL1 : Hid _ := hl1
    clear hB1 hk1 hl1
    go_loopw [3, 4] (fun s3 s4 wr => ∃ (k : Nat) (s : ByteArray), k ≤ n ∧ s4 = .int .i64 ((k : Int) - 1) ∧ s3 = .string s ∧ s.data.toList = tpart false (num 10000 w b (o + k) (n - k)) k n ∧ s.size ≤ 4 * (n - k) + 1 ∧
        Below w.heap.size w wr ∧ w.heap.size < wr.heap.size ∧ wr.cell? ⟨w.heap.size, 1, none⟩ = some (.slice (some ⟨b, o, none⟩) n c)) (fun _ s4 _ => (intOf s4 + 1).toNat)
    case atStart =>
      refine ⟨n, _, Nat.le_refl _, by go_num, rfl, ?_, ?_, HB1.out, HL1.out, HK1.out⟩
      · rw [Nat.sub_self, num_zero, HSG.out]; rfl
      · first | exact Nat.zero_le _ | (show (1 : Nat) ≤ _; omega)
    case round =>
      obtain ⟨k, s, hk, rfl, rfl, hsd, hsz, hB1, hl, k01⟩ := hrel
      clear HB1 HK1 HL1
      by_cases hk0 : k = 0
      · subst hk0
        rw [Nat.add_zero, Nat.sub_zero, HN.out, ← HTXT.out] at hsd
        obtain rfl := ba_eq hsd
        have HB : Hid _ := hB1
        clear hsd hB1 HTXT
        go_wp2
        go_ret
        exact ⟨rfl, HB.out⟩
      · obtain ⟨j, rfl⟩ : ∃ j, k = j + 1 := ⟨k - 1, by omega⟩
        have he : ((j + 1 : Nat) : Int) - 1 = (j : Int) := by omega
        rw [he]
        have hcell0 := arr_cell HA.out (i := j) (by omega)
        have hlt := arr_lt HA.out (i := j) (by omega)
        have hbl : b < wr.heap.size := Nat.lt_trans hbl0 hl
        have hcell := (hB1.cell (p := ⟨b, o + j, none⟩) hbl0).trans hcell0
        have hst := high_step (w := w) (b := b) (o := o) (n := n) (j := j) (by omega)
        obtain ⟨y, hy⟩ : ∃ y, word w b (o + j) = y := ⟨_, rfl⟩
        obtain ⟨H, hH⟩ : ∃ H, num 10000 w b (o + (j + 1)) (n - (j + 1)) = H := ⟨_, rfl⟩
        obtain ⟨G, hG⟩ : ∃ G, num 10000 w b (o + j) (n - j) = G := ⟨_, rfl⟩
        rw [hy] at hcell hlt
        rw [hG, hy, hH] at hst
        rw [hH] at hsd
        obtain ⟨d0, hd0⟩ : ∃ d, d = y / 1000 := ⟨_, rfl⟩
        obtain ⟨p1, hp1⟩ : ∃ d, d = y / 100 := ⟨_, rfl⟩
        obtain ⟨d1, hd1⟩ : ∃ d, d = p1 % 10 := ⟨_, rfl⟩
        obtain ⟨p2, hp2⟩ : ∃ d, d = y / 10 := ⟨_, rfl⟩
        obtain ⟨d2, hd2⟩ : ∃ d, d = p2 % 10 := ⟨_, rfl⟩
        obtain ⟨d3, hd3⟩ : ∃ d, d = y % 10 := ⟨_, rfl⟩
        have e0 : (y : Int) / 1000 = (d0 : Int) := by omega
        have e1 : (y : Int) / 100 = (p1 : Int) := by omega
        have e2 : (p1 : Int) % 10 = (d1 : Int) := by omega
        have e3 : (y : Int) / 10 = (p2 : Int) := by omega
        have e4 : (p2 : Int) % 10 = (d2 : Int) := by omega
        have e5 : (y : Int) % 10 = (d3 : Int) := by omega
        have b0 : d0 ≤ 9 := by omega
        have b1 : d1 ≤ 9 := by omega
        have b2 : d2 ≤ 9 := by omega
        have b3 : d3 ≤ 9 := by omega
        have bp1 : p1 ≤ 9999 := by omega
        have bp2 : p2 ≤ 9999 := by omega
        have hy4 : y = 1000 * d0 + 100 * d1 + 10 * d2 + d3 := by omega
        have hHt : j + 1 = n → H = 0 := fun h => by rw [← hH, h, Nat.sub_self]; rfl
        have hHp : j + 1 ≠ n → 0 < H := fun h => by
          rw [← hH]
          have h1 : 10000 ^ (n - (j + 1) - 1) ≤ num 10000 w b (o + (j + 1)) (n - (j + 1)) := _root_.Rad.vs_ge (by omega) (by rw [show o + (j + 1) + (n - (j + 1) - 1) = o + (n - 1) by omega]; exact HTOP.out)
          exact Nat.lt_of_lt_of_le (Nat.pow_pos (by decide)) h1
        obtain ⟨F, hF⟩ : ∃ F, F = (if j + 1 = n then _root_.Rad.lead d0 d1 d2 else 0) := ⟨_, rfl⟩
        have hFF : (j + 1 = n → H = 0 ∧ F = _root_.Rad.lead d0 d1 d2) ∧ (j + 1 ≠ n → 0 < H ∧ F = 0) := ⟨fun h => ⟨hHt h, by rw [hF, if_pos h]⟩, fun h => ⟨hHp h, by rw [hF, if_neg h]⟩⟩
        have hF3 : F ≤ 3 := by rw [hF]; split; exact _root_.Rad.lead_le _ _ _; omega
        have hnext := tpart_step (neg := false) (show j < n by omega) hst hy4 b0 b1 b2 b3 hFF
        rw [← hsd] at hnext
        have HNEXT : Hid _ := hnext
        have HGG : Hid _ := hG
        have HFF : Hid _ := hFF
        have hcn : j < n := by omega
        have hcc : j < c := by omega
        clear hcell0 hst hy hH hG hsd hd0 hp1 hd1 hp2 hd2 hd3 hHt hHp hF hnext hFF hy4 he
        go_wp2
        refine wp_world (fun w1 => w1 = wr) rfl ?_
        rintro w1 rfl
        refine wp_drawn mixed [⟨21, [], [], [1]⟩, ⟨22, [0], [0], []⟩, ⟨23, [], [], [4]⟩, ⟨24, [1, 2], [0, 1, 2], []⟩, ⟨25, [3], [0, 1, 2, 3], []⟩, ⟨26, [4], [0, 1, 2, 3, 4], []⟩, ⟨27, [5], [0, 1, 2, 3, 4, 5], []⟩, ⟨28, [6], [0, 1, 2, 3, 4, 5, 6], []⟩, ⟨29, [], [], [1]⟩, ⟨30, [8], [8], []⟩, ⟨31, [], [], [4]⟩, ⟨32, [9, 10], [8, 9, 10], []⟩, ⟨33, [11], [8, 9, 10, 11], []⟩, ⟨34, [12], [8, 9, 10, 11, 12], []⟩, ⟨35, [13], [8, 9, 10, 11, 12, 13], []⟩, ⟨36, [14], [8, 9, 10, 11, 12, 13, 14], []⟩, ⟨37, [15], [8, 9, 10, 11, 12, 13, 14, 15], []⟩, ⟨38, [], [], [1]⟩, ⟨39, [17], [17], []⟩, ⟨40, [], [], [4]⟩, ⟨41, [18, 19], [17, 18, 19], []⟩, ⟨42, [20], [17, 18, 19, 20], []⟩, ⟨43, [21], [17, 18, 19, 20, 21], []⟩, ⟨44, [22], [17, 18, 19, 20, 21, 22], []⟩, ⟨45, [23], [17, 18, 19, 20, 21, 22, 23], []⟩, ⟨46, [24], [17, 18, 19, 20, 21, 22, 23, 24], []⟩, ⟨47, [], [], [1]⟩, ⟨48, [26], [26], []⟩, ⟨49, [], [], [4]⟩, ⟨50, [27, 28], [26, 27, 28], []⟩, ⟨51, [29], [26, 27, 28, 29], []⟩, ⟨52, [30], [26, 27, 28, 29, 30], []⟩, ⟨53, [31], [26, 27, 28, 29, 30, 31], []⟩, ⟨54, [32], [26, 27, 28, 29, 30, 31, 32], []⟩] [] (by kernel_rfl) 82 rfl (by kernel_rfl) (fun (i : Nat) (v : Value) (wq : World) => match i with | 0 => v = .pointer (some ⟨w.heap.size, 1, none⟩) | 1 => v = .slice (some ⟨b, o, none⟩) (n) (c) | 2 => v = .int .i64 (j) | 3 => v = .pointer (some ⟨b, o + j, none⟩) | 4 => v = .int .i64 (y) | 5 => v = .int .i64 (d0) | 6 => v = .int .i64 (48 + (d0 : Int)) | 7 => v = .int .u8 (48 + (d0 : Int)) | 8 => v = .pointer (some ⟨w.heap.size, 1, none⟩) | 9 => v = .slice (some ⟨b, o, none⟩) (n) (c) | 10 => v = .int .i64 (j) | 11 => v = .pointer (some ⟨b, o + j, none⟩) | 12 => v = .int .i64 (y) | 13 => v = .int .i64 (p1) | 14 => v = .int .i64 (d1) | 15 => v = .int .i64 (48 + (d1 : Int)) | 16 => v = .int .u8 (48 + (d1 : Int)) | 17 => v = .pointer (some ⟨w.heap.size, 1, none⟩) | 18 => v = .slice (some ⟨b, o, none⟩) (n) (c) | 19 => v = .int .i64 (j) | 20 => v = .pointer (some ⟨b, o + j, none⟩) | 21 => v = .int .i64 (y) | 22 => v = .int .i64 (p2) | 23 => v = .int .i64 (d2) | 24 => v = .int .i64 (48 + (d2 : Int)) | 25 => v = .int .u8 (48 + (d2 : Int)) | 26 => v = .pointer (some ⟨w.heap.size, 1, none⟩) | 27 => v = .slice (some ⟨b, o, none⟩) (n) (c) | 28 => v = .int .i64 (j) | 29 => v = .pointer (some ⟨b, o + j, none⟩) | 30 => v = .int .i64 (y) | 31 => v = .int .i64 (d3) | 32 => v = .int .i64 (48 + (d3 : Int)) | 33 => v = .int .u8 (48 + (d3 : Int)) | _ => True) (fun _ wq => Below w1.heap.size w1 wq) (fun wx wy => Below wx.heap.size wx wy) (Below.refl _ _).drew (fun i v wx wy h hx => match i, h with | 0, h => h | 1, h => h | 2, h => h | 3, h => h | 4, h => h | 5, h => h | 6, h => h | 7, h => h | 8, h => h | 9, h => h | 10, h => h | 11, h => h | 12, h => h | 13, h => h | 14, h => h | 15, h => h | 16, h => h | 17, h => h | 18, h => h | 19, h => h | 20, h => h | 21, h => h | 22, h => h | 23, h => h | 24, h => h | 25, h => h | 26, h => h | 27, h => h | 28, h => h | 29, h => h | 30, h => h | 31, h => h | 32, h => h | 33, h => h  | n + 34, _ => trivial) ?_ ?_
        · intro i o r ho hr L fr wx hW hL hpr hds hdef hpre hfree
          clear hL hpr hds hdef
          match i, ho, hr with
          | 0, ho, hr =>
            obtain rfl := Option.some.inj ho; obtain rfl := Option.some.inj hr
            have t1 := ev_tmp (show fr.eval (.tmp 1) = .pointer (some ⟨w.heap.size, 0, none⟩) from hfree 1 (by decide))
            clear hpre hfree
            refine stpK rfl rfl fun K hK => ?_
            go_simp
            exact hK _ _ ⟨rfl, hW, Below.refl _ _, fun h => (List.not_mem_nil h).elim⟩
          | 1, ho, hr =>
            obtain rfl := Option.some.inj ho; obtain rfl := Option.some.inj hr
            have e0 := ev_tmp (show fr.eval (.tmp 21) = .pointer (some ⟨w.heap.size, 1, none⟩) from hpre 0 (by decide) _ rfl)
            clear hpre hfree
            have c0 := (hW.cell (p := ⟨w.heap.size, 1, none⟩) hl).trans k01
            refine stpK rfl rfl fun K hK => ?_
            go_simp
            exact hK _ _ ⟨rfl, hW, Below.refl _ _, fun h => (List.not_mem_nil h).elim⟩
          | 2, ho, hr =>
            obtain rfl := Option.some.inj ho; obtain rfl := Option.some.inj hr
            have t4 := ev_tmp (show fr.eval (.tmp 4) = .int .i64 (j) from hfree 4 (by decide))
            clear hpre hfree
            refine stpK rfl rfl fun K hK => ?_
            go_simp
            exact hK _ _ ⟨rfl, hW, Below.refl _ _, fun h => (List.not_mem_nil h).elim⟩
          | 3, ho, hr =>
            obtain rfl := Option.some.inj ho; obtain rfl := Option.some.inj hr
            have e1 := ev_tmp (show fr.eval (.tmp 22) = .slice (some ⟨b, o, none⟩) (n) (c) from hpre 1 (by decide) _ rfl)
            have e2 := ev_tmp (show fr.eval (.tmp 23) = .int .i64 (j) from hpre 2 (by decide) _ rfl)
            clear hpre hfree
            refine stpK rfl rfl fun K hK => ?_
            go_simp
            exact hK _ _ ⟨rfl, hW, Below.refl _ _, fun h => (List.not_mem_nil h).elim⟩
          | 4, ho, hr =>
            obtain rfl := Option.some.inj ho; obtain rfl := Option.some.inj hr
            have e3 := ev_tmp (show fr.eval (.tmp 24) = .pointer (some ⟨b, o + j, none⟩) from hpre 3 (by decide) _ rfl)
            clear hpre hfree
            have c0 := (hW.cell (p := ⟨b, o + j, none⟩) hbl).trans hcell
            refine stpK rfl rfl fun K hK => ?_
            go_simp
            exact hK _ _ ⟨rfl, hW, Below.refl _ _, fun h => (List.not_mem_nil h).elim⟩
          | 5, ho, hr =>
            obtain rfl := Option.some.inj ho; obtain rfl := Option.some.inj hr
            have e4 := ev_tmp (show fr.eval (.tmp 25) = .int .i64 (y) from hpre 4 (by decide) _ rfl)
            clear hpre hfree
            refine stpK rfl rfl fun K hK => ?_
            go_simp
            exact hK _ _ ⟨(by first | rfl | exact congrArg (Value.int .i64) (wi b0)), hW, Below.refl _ _, fun h => (List.not_mem_nil h).elim⟩
          | 6, ho, hr =>
            obtain rfl := Option.some.inj ho; obtain rfl := Option.some.inj hr
            have e5 := ev_tmp (show fr.eval (.tmp 26) = .int .i64 (d0) from hpre 5 (by decide) _ rfl)
            clear hpre hfree
            refine stpK rfl rfl fun K hK => ?_
            go_simp
            exact hK _ _ ⟨(by first | rfl | exact congrArg (Value.int .i64) (wi48 b0)), hW, Below.refl _ _, fun h => (List.not_mem_nil h).elim⟩
          | 7, ho, hr =>
            obtain rfl := Option.some.inj ho; obtain rfl := Option.some.inj hr
            have e6 := ev_tmp (show fr.eval (.tmp 27) = .int .i64 (48 + (d0 : Int)) from hpre 6 (by decide) _ rfl)
            clear hpre hfree
            refine stpK rfl rfl fun K hK => ?_
            go_simp
            exact hK _ _ ⟨(by first | rfl | exact congrArg (Value.int .u8) (wu48 b0)), hW, Below.refl _ _, fun h => (List.not_mem_nil h).elim⟩
          | 8, ho, hr =>
            obtain rfl := Option.some.inj ho; obtain rfl := Option.some.inj hr
            have t1 := ev_tmp (show fr.eval (.tmp 1) = .pointer (some ⟨w.heap.size, 0, none⟩) from hfree 1 (by decide))
            clear hpre hfree
            refine stpK rfl rfl fun K hK => ?_
            go_simp
            exact hK _ _ ⟨rfl, hW, Below.refl _ _, fun h => (List.not_mem_nil h).elim⟩
          | 9, ho, hr =>
            obtain rfl := Option.some.inj ho; obtain rfl := Option.some.inj hr
            have e8 := ev_tmp (show fr.eval (.tmp 29) = .pointer (some ⟨w.heap.size, 1, none⟩) from hpre 8 (by decide) _ rfl)
            clear hpre hfree
            have c0 := (hW.cell (p := ⟨w.heap.size, 1, none⟩) hl).trans k01
            refine stpK rfl rfl fun K hK => ?_
            go_simp
            exact hK _ _ ⟨rfl, hW, Below.refl _ _, fun h => (List.not_mem_nil h).elim⟩
          | 10, ho, hr =>
            obtain rfl := Option.some.inj ho; obtain rfl := Option.some.inj hr
            have t4 := ev_tmp (show fr.eval (.tmp 4) = .int .i64 (j) from hfree 4 (by decide))
            clear hpre hfree
            refine stpK rfl rfl fun K hK => ?_
            go_simp
            exact hK _ _ ⟨rfl, hW, Below.refl _ _, fun h => (List.not_mem_nil h).elim⟩
          | 11, ho, hr =>
            obtain rfl := Option.some.inj ho; obtain rfl := Option.some.inj hr
            have e9 := ev_tmp (show fr.eval (.tmp 30) = .slice (some ⟨b, o, none⟩) (n) (c) from hpre 9 (by decide) _ rfl)
            have e10 := ev_tmp (show fr.eval (.tmp 31) = .int .i64 (j) from hpre 10 (by decide) _ rfl)
            clear hpre hfree
            refine stpK rfl rfl fun K hK => ?_
            go_simp
            exact hK _ _ ⟨rfl, hW, Below.refl _ _, fun h => (List.not_mem_nil h).elim⟩
          | 12, ho, hr =>
            obtain rfl := Option.some.inj ho; obtain rfl := Option.some.inj hr
            have e11 := ev_tmp (show fr.eval (.tmp 32) = .pointer (some ⟨b, o + j, none⟩) from hpre 11 (by decide) _ rfl)
            clear hpre hfree
            have c0 := (hW.cell (p := ⟨b, o + j, none⟩) hbl).trans hcell
            refine stpK rfl rfl fun K hK => ?_
            go_simp
            exact hK _ _ ⟨rfl, hW, Below.refl _ _, fun h => (List.not_mem_nil h).elim⟩
          | 13, ho, hr =>
            obtain rfl := Option.some.inj ho; obtain rfl := Option.some.inj hr
            have e12 := ev_tmp (show fr.eval (.tmp 33) = .int .i64 (y) from hpre 12 (by decide) _ rfl)
            clear hpre hfree
            refine stpK rfl rfl fun K hK => ?_
            go_simp
            exact hK _ _ ⟨(by first | rfl | exact congrArg (Value.int .i64) (wi bp1)), hW, Below.refl _ _, fun h => (List.not_mem_nil h).elim⟩
          | 14, ho, hr =>
            obtain rfl := Option.some.inj ho; obtain rfl := Option.some.inj hr
            have e13 := ev_tmp (show fr.eval (.tmp 34) = .int .i64 (p1) from hpre 13 (by decide) _ rfl)
            clear hpre hfree
            refine stpK rfl rfl fun K hK => ?_
            go_simp
            exact hK _ _ ⟨(by first | rfl | exact congrArg (Value.int .i64) (tm e2)), hW, Below.refl _ _, fun h => (List.not_mem_nil h).elim⟩
          | 15, ho, hr =>
            obtain rfl := Option.some.inj ho; obtain rfl := Option.some.inj hr
            have e14 := ev_tmp (show fr.eval (.tmp 35) = .int .i64 (d1) from hpre 14 (by decide) _ rfl)
            clear hpre hfree
            refine stpK rfl rfl fun K hK => ?_
            go_simp
            exact hK _ _ ⟨(by first | rfl | exact congrArg (Value.int .i64) (wi48 b1)), hW, Below.refl _ _, fun h => (List.not_mem_nil h).elim⟩
          | 16, ho, hr =>
            obtain rfl := Option.some.inj ho; obtain rfl := Option.some.inj hr
            have e15 := ev_tmp (show fr.eval (.tmp 36) = .int .i64 (48 + (d1 : Int)) from hpre 15 (by decide) _ rfl)
            clear hpre hfree
            refine stpK rfl rfl fun K hK => ?_
            go_simp
            exact hK _ _ ⟨(by first | rfl | exact congrArg (Value.int .u8) (wu48 b1)), hW, Below.refl _ _, fun h => (List.not_mem_nil h).elim⟩
          | 17, ho, hr =>
            obtain rfl := Option.some.inj ho; obtain rfl := Option.some.inj hr
            have t1 := ev_tmp (show fr.eval (.tmp 1) = .pointer (some ⟨w.heap.size, 0, none⟩) from hfree 1 (by decide))
            clear hpre hfree
            refine stpK rfl rfl fun K hK => ?_
            go_simp
            exact hK _ _ ⟨rfl, hW, Below.refl _ _, fun h => (List.not_mem_nil h).elim⟩
          | 18, ho, hr =>
            obtain rfl := Option.some.inj ho; obtain rfl := Option.some.inj hr
            have e17 := ev_tmp (show fr.eval (.tmp 38) = .pointer (some ⟨w.heap.size, 1, none⟩) from hpre 17 (by decide) _ rfl)
            clear hpre hfree
            have c0 := (hW.cell (p := ⟨w.heap.size, 1, none⟩) hl).trans k01
            refine stpK rfl rfl fun K hK => ?_
            go_simp
            exact hK _ _ ⟨rfl, hW, Below.refl _ _, fun h => (List.not_mem_nil h).elim⟩
          | 19, ho, hr =>
            obtain rfl := Option.some.inj ho; obtain rfl := Option.some.inj hr
            have t4 := ev_tmp (show fr.eval (.tmp 4) = .int .i64 (j) from hfree 4 (by decide))
            clear hpre hfree
            refine stpK rfl rfl fun K hK => ?_
            go_simp
            exact hK _ _ ⟨rfl, hW, Below.refl _ _, fun h => (List.not_mem_nil h).elim⟩
          | 20, ho, hr =>
            obtain rfl := Option.some.inj ho; obtain rfl := Option.some.inj hr
            have e18 := ev_tmp (show fr.eval (.tmp 39) = .slice (some ⟨b, o, none⟩) (n) (c) from hpre 18 (by decide) _ rfl)
            have e19 := ev_tmp (show fr.eval (.tmp 40) = .int .i64 (j) from hpre 19 (by decide) _ rfl)
            clear hpre hfree
            refine stpK rfl rfl fun K hK => ?_
            go_simp
            exact hK _ _ ⟨rfl, hW, Below.refl _ _, fun h => (List.not_mem_nil h).elim⟩
          | 21, ho, hr =>
            obtain rfl := Option.some.inj ho; obtain rfl := Option.some.inj hr
            have e20 := ev_tmp (show fr.eval (.tmp 41) = .pointer (some ⟨b, o + j, none⟩) from hpre 20 (by decide) _ rfl)
            clear hpre hfree
            have c0 := (hW.cell (p := ⟨b, o + j, none⟩) hbl).trans hcell
            refine stpK rfl rfl fun K hK => ?_
            go_simp
            exact hK _ _ ⟨rfl, hW, Below.refl _ _, fun h => (List.not_mem_nil h).elim⟩
          | 22, ho, hr =>
            obtain rfl := Option.some.inj ho; obtain rfl := Option.some.inj hr
            have e21 := ev_tmp (show fr.eval (.tmp 42) = .int .i64 (y) from hpre 21 (by decide) _ rfl)
            clear hpre hfree
            refine stpK rfl rfl fun K hK => ?_
            go_simp
            exact hK _ _ ⟨(by first | rfl | exact congrArg (Value.int .i64) (wi bp2)), hW, Below.refl _ _, fun h => (List.not_mem_nil h).elim⟩
          | 23, ho, hr =>
            obtain rfl := Option.some.inj ho; obtain rfl := Option.some.inj hr
            have e22 := ev_tmp (show fr.eval (.tmp 43) = .int .i64 (p2) from hpre 22 (by decide) _ rfl)
            clear hpre hfree
            refine stpK rfl rfl fun K hK => ?_
            go_simp
            exact hK _ _ ⟨(by first | rfl | exact congrArg (Value.int .i64) (tm e4)), hW, Below.refl _ _, fun h => (List.not_mem_nil h).elim⟩
          | 24, ho, hr =>
            obtain rfl := Option.some.inj ho; obtain rfl := Option.some.inj hr
            have e23 := ev_tmp (show fr.eval (.tmp 44) = .int .i64 (d2) from hpre 23 (by decide) _ rfl)
            clear hpre hfree
            refine stpK rfl rfl fun K hK => ?_
            go_simp
            exact hK _ _ ⟨(by first | rfl | exact congrArg (Value.int .i64) (wi48 b2)), hW, Below.refl _ _, fun h => (List.not_mem_nil h).elim⟩
          | 25, ho, hr =>
            obtain rfl := Option.some.inj ho; obtain rfl := Option.some.inj hr
            have e24 := ev_tmp (show fr.eval (.tmp 45) = .int .i64 (48 + (d2 : Int)) from hpre 24 (by decide) _ rfl)
            clear hpre hfree
            refine stpK rfl rfl fun K hK => ?_
            go_simp
            exact hK _ _ ⟨(by first | rfl | exact congrArg (Value.int .u8) (wu48 b2)), hW, Below.refl _ _, fun h => (List.not_mem_nil h).elim⟩
          | 26, ho, hr =>
            obtain rfl := Option.some.inj ho; obtain rfl := Option.some.inj hr
            have t1 := ev_tmp (show fr.eval (.tmp 1) = .pointer (some ⟨w.heap.size, 0, none⟩) from hfree 1 (by decide))
            clear hpre hfree
            refine stpK rfl rfl fun K hK => ?_
            go_simp
            exact hK _ _ ⟨rfl, hW, Below.refl _ _, fun h => (List.not_mem_nil h).elim⟩
          | 27, ho, hr =>
            obtain rfl := Option.some.inj ho; obtain rfl := Option.some.inj hr
            have e26 := ev_tmp (show fr.eval (.tmp 47) = .pointer (some ⟨w.heap.size, 1, none⟩) from hpre 26 (by decide) _ rfl)
            clear hpre hfree
            have c0 := (hW.cell (p := ⟨w.heap.size, 1, none⟩) hl).trans k01
            refine stpK rfl rfl fun K hK => ?_
            go_simp
            exact hK _ _ ⟨rfl, hW, Below.refl _ _, fun h => (List.not_mem_nil h).elim⟩
          | 28, ho, hr =>
            obtain rfl := Option.some.inj ho; obtain rfl := Option.some.inj hr
            have t4 := ev_tmp (show fr.eval (.tmp 4) = .int .i64 (j) from hfree 4 (by decide))
            clear hpre hfree
            refine stpK rfl rfl fun K hK => ?_
            go_simp
            exact hK _ _ ⟨rfl, hW, Below.refl _ _, fun h => (List.not_mem_nil h).elim⟩
          | 29, ho, hr =>
            obtain rfl := Option.some.inj ho; obtain rfl := Option.some.inj hr
            have e27 := ev_tmp (show fr.eval (.tmp 48) = .slice (some ⟨b, o, none⟩) (n) (c) from hpre 27 (by decide) _ rfl)
            have e28 := ev_tmp (show fr.eval (.tmp 49) = .int .i64 (j) from hpre 28 (by decide) _ rfl)
            clear hpre hfree
            refine stpK rfl rfl fun K hK => ?_
            go_simp
            exact hK _ _ ⟨rfl, hW, Below.refl _ _, fun h => (List.not_mem_nil h).elim⟩
          | 30, ho, hr =>
            obtain rfl := Option.some.inj ho; obtain rfl := Option.some.inj hr
            have e29 := ev_tmp (show fr.eval (.tmp 50) = .pointer (some ⟨b, o + j, none⟩) from hpre 29 (by decide) _ rfl)
            clear hpre hfree
            have c0 := (hW.cell (p := ⟨b, o + j, none⟩) hbl).trans hcell
            refine stpK rfl rfl fun K hK => ?_
            go_simp
            exact hK _ _ ⟨rfl, hW, Below.refl _ _, fun h => (List.not_mem_nil h).elim⟩
          | 31, ho, hr =>
            obtain rfl := Option.some.inj ho; obtain rfl := Option.some.inj hr
            have e30 := ev_tmp (show fr.eval (.tmp 51) = .int .i64 (y) from hpre 30 (by decide) _ rfl)
            clear hpre hfree
            refine stpK rfl rfl fun K hK => ?_
            go_simp
            exact hK _ _ ⟨(by first | rfl | exact congrArg (Value.int .i64) (tm e5)), hW, Below.refl _ _, fun h => (List.not_mem_nil h).elim⟩
          | 32, ho, hr =>
            obtain rfl := Option.some.inj ho; obtain rfl := Option.some.inj hr
            have e31 := ev_tmp (show fr.eval (.tmp 52) = .int .i64 (d3) from hpre 31 (by decide) _ rfl)
            clear hpre hfree
            refine stpK rfl rfl fun K hK => ?_
            go_simp
            exact hK _ _ ⟨(by first | rfl | exact congrArg (Value.int .i64) (wi48 b3)), hW, Below.refl _ _, fun h => (List.not_mem_nil h).elim⟩
          | 33, ho, hr =>
            obtain rfl := Option.some.inj ho; obtain rfl := Option.some.inj hr
            have e32 := ev_tmp (show fr.eval (.tmp 53) = .int .i64 (48 + (d3 : Int)) from hpre 32 (by decide) _ rfl)
            clear hpre hfree
            refine stpK rfl rfl fun K hK => ?_
            go_simp
            exact hK _ _ ⟨(by first | rfl | exact congrArg (Value.int .u8) (wu48 b3)), hW, Below.refl _ _, fun h => (List.not_mem_nil h).elim⟩
          | n + 34, ho, hr => exact absurd hr (by simp)
        · intro vs wn hvs hW1 hap0
          clear hap0
          have e0 : vs 0 = .pointer (some ⟨w.heap.size, 1, none⟩) := hvs 0 (by decide)
          have e1 : vs 1 = .slice (some ⟨b, o, none⟩) (n) (c) := hvs 1 (by decide)
          have e2 : vs 2 = .int .i64 (j) := hvs 2 (by decide)
          have e3 : vs 3 = .pointer (some ⟨b, o + j, none⟩) := hvs 3 (by decide)
          have e4 : vs 4 = .int .i64 (y) := hvs 4 (by decide)
          have e5 : vs 5 = .int .i64 (d0) := hvs 5 (by decide)
          have e6 : vs 6 = .int .i64 (48 + (d0 : Int)) := hvs 6 (by decide)
          have e7 : vs 7 = .int .u8 (48 + (d0 : Int)) := hvs 7 (by decide)
          have e8 : vs 8 = .pointer (some ⟨w.heap.size, 1, none⟩) := hvs 8 (by decide)
          have e9 : vs 9 = .slice (some ⟨b, o, none⟩) (n) (c) := hvs 9 (by decide)
          have e10 : vs 10 = .int .i64 (j) := hvs 10 (by decide)
          have e11 : vs 11 = .pointer (some ⟨b, o + j, none⟩) := hvs 11 (by decide)
          have e12 : vs 12 = .int .i64 (y) := hvs 12 (by decide)
          have e13 : vs 13 = .int .i64 (p1) := hvs 13 (by decide)
          have e14 : vs 14 = .int .i64 (d1) := hvs 14 (by decide)
          have e15 : vs 15 = .int .i64 (48 + (d1 : Int)) := hvs 15 (by decide)
          have e16 : vs 16 = .int .u8 (48 + (d1 : Int)) := hvs 16 (by decide)
          have e17 : vs 17 = .pointer (some ⟨w.heap.size, 1, none⟩) := hvs 17 (by decide)
          have e18 : vs 18 = .slice (some ⟨b, o, none⟩) (n) (c) := hvs 18 (by decide)
          have e19 : vs 19 = .int .i64 (j) := hvs 19 (by decide)
          have e20 : vs 20 = .pointer (some ⟨b, o + j, none⟩) := hvs 20 (by decide)
          have e21 : vs 21 = .int .i64 (y) := hvs 21 (by decide)
          have e22 : vs 22 = .int .i64 (p2) := hvs 22 (by decide)
          have e23 : vs 23 = .int .i64 (d2) := hvs 23 (by decide)
          have e24 : vs 24 = .int .i64 (48 + (d2 : Int)) := hvs 24 (by decide)
          have e25 : vs 25 = .int .u8 (48 + (d2 : Int)) := hvs 25 (by decide)
          have e26 : vs 26 = .pointer (some ⟨w.heap.size, 1, none⟩) := hvs 26 (by decide)
          have e27 : vs 27 = .slice (some ⟨b, o, none⟩) (n) (c) := hvs 27 (by decide)
          have e28 : vs 28 = .int .i64 (j) := hvs 28 (by decide)
          have e29 : vs 29 = .pointer (some ⟨b, o + j, none⟩) := hvs 29 (by decide)
          have e30 : vs 30 = .int .i64 (y) := hvs 30 (by decide)
          have e31 : vs 31 = .int .i64 (d3) := hvs 31 (by decide)
          have e32 : vs 32 = .int .i64 (48 + (d3 : Int)) := hvs 32 (by decide)
          have e33 : vs 33 = .int .u8 (48 + (d3 : Int)) := hvs 33 (by decide)
          simp only [puts, Nat.reduceAdd, e0, e1, e2, e3, e4, e5, e6, e7, e8, e9, e10, e11, e12, e13, e14, e15, e16, e17, e18, e19, e20, e21, e22, e23, e24, e25, e26, e27, e28, e29, e30, e31, e32, e33, Act.put, List.setIfInBounds_toArray, List.set_cons_zero, List.set_cons_succ, List.drop_succ_cons, List.drop_zero, List.length_cons, List.length_nil]
          clear hvs e0 e1 e2 e3 e4 e5 e6 e7 e8 e9 e10 e11 e12 e13 e14 e15 e16 e17 e18 e19 e20 e21 e22 e23 e24 e25 e26 e27 e28 e29 e30 e31 e32 e33
          have hB2 := hB1.trans (hW1.mono hB1.size)
          have hl2 := Nat.lt_of_lt_of_le hl hW1.size
          have k02 := (hW1.cell (p := ⟨w.heap.size, 1, none⟩) hl).trans k01
          clear hW1 hB1 k01 hcell hl hbl
          have HF5 : Hid (Below w.heap.size w (wn.alloc (Obj.cells #[Value.int .u8 (48 + (d0 : Int)), Value.int .u8 (48 + (d1 : Int)), Value.int .u8 (48 + (d2 : Int)), Value.int .u8 (48 + (d3 : Int))] 5)) ∧
              w.heap.size < (wn.alloc (Obj.cells #[Value.int .u8 (48 + (d0 : Int)), Value.int .u8 (48 + (d1 : Int)), Value.int .u8 (48 + (d2 : Int)), Value.int .u8 (48 + (d3 : Int))] 5)).heap.size ∧
              (wn.alloc (Obj.cells #[Value.int .u8 (48 + (d0 : Int)), Value.int .u8 (48 + (d1 : Int)), Value.int .u8 (48 + (d2 : Int)), Value.int .u8 (48 + (d3 : Int))] 5)).cell? ⟨w.heap.size, 1, none⟩ = some (.slice (some ⟨b, o, none⟩) n c) ∧
              ∀ i, i < 4 → (wn.alloc (Obj.cells #[Value.int .u8 (48 + (d0 : Int)), Value.int .u8 (48 + (d1 : Int)), Value.int .u8 (48 + (d2 : Int)), Value.int .u8 (48 + (d3 : Int))] 5)).cell? ⟨wn.heap.size, i, none⟩ = some (.int .u8 ((48 + _root_.Rad.pick4 d0 d1 d2 d3 i : Nat) : Int))) := by
            refine ⟨hB2.alloc (Nat.le_of_lt hl2) _, by simp; omega, ?_, fun i hi => ?_⟩
            · exact ((bel1 wn _).cell (p := ⟨w.heap.size, 1, none⟩) hl2).trans k02
            · rw [World.cell?_alloc_at (w := wn) _ _ wn.heap.size i rfl]
              unfold _root_.Rad.pick4
              match i, hi with
              | 0, _ => rfl
              | 1, _ => rfl
              | 2, _ => rfl
              | 3, _ => rfl
          clear hB2
          by_cases ht : j + 1 = n
          · have e7 : (n : Int) - 1 = (j : Int) := by omega
            have hFl := (HFF.out.1 ht).2
            have HFL : Hid _ := hFl
            clear hFl
            go_wp2
            refine wp_world (fun w5 => Below w.heap.size w w5 ∧ w.heap.size < w5.heap.size ∧ w5.cell? ⟨w.heap.size, 1, none⟩ = some (.slice (some ⟨b, o, none⟩) n c) ∧ ∀ i, i < 4 → w5.cell? ⟨wn.heap.size, i, none⟩ = some (.int .u8 ((48 + _root_.Rad.pick4 d0 d1 d2 d3 i : Nat) : Int))) HF5.out ?_
            obtain ⟨g, hg⟩ : ∃ g, wn.heap.size = g := ⟨_, rfl⟩
            rw [hg]
            rintro w5 ⟨hB5, hl5, k5, hc5⟩
            have HC5 : Hid _ := hc5
            clear HF5 k02 hl2 hg hc5
            go_loop [6] (fun s6 => ∃ f : Nat, f ≤ F ∧ s6 = .int .i64 (f : Int)) (fun s6 => F - (intOf s6).toNat)
            case atStart => exact ⟨0, by omega, rfl⟩
            case round =>
              obtain ⟨f, hf, rfl⟩ := hrel
              by_cases hfF : f = F
              · subst hfF
                by_cases hf3 : f = 3
                · subst hf3
                  have hconv := run_convert_bytes_back (P := Tryz.prog) w5 91 9 5 ⟨g, 3, none⟩ (4 - 3) ((_root_.Rad.four d0 d1 d2 d3).drop 3) underlying91 underlying5 underlying9 (fun q hq => by
                    rw [Lib.add_plain]
                    have hq4 : 3 + q < 4 := by rw [List.length_drop] at hq; simp [_root_.Rad.four] at hq; omega
                    rw [List.getElem_drop, _root_.Rad.four_at d0 d1 d2 d3 (by simpa [_root_.Rad.four] using hq4) b0 b1 b2 b3]
                    exact HC5.out _ hq4)
                  rw [show ((_root_.Rad.four d0 d1 d2 d3).drop 3).length = 4 - 3 by rw [List.length_drop]; rfl] at hconv
                  obtain ⟨l4, hl4⟩ : ∃ l4, (_root_.Rad.four d0 d1 d2 d3).drop 3 = l4 := ⟨_, rfl⟩
                  rw [hl4] at hconv
                  have HL4 : Hid _ := hl4
                  have hl4s : l4.length ≤ 4 := by rw [← hl4, List.length_drop]; simp [_root_.Rad.four]
                  have HBB : Hid _ := hB5
                  clear hl4 hB5
                  go_wp2
                  refine ⟨⟨j, s ++ ⟨l4.toArray⟩, by omega, by go_num, rfl, ?_, ?_, HBB.out, hl5, k5⟩, by simp [intOf]⟩
                  · rw [ba_app, ba_mk, ← HL4.out, HGG.out]; exact HNEXT.out
                  · rw [ByteArray.size_append]; show s.size + l4.length ≤ _; omega
                · have hcf := HC5.out f (by omega)
                  have hne := _root_.Rad.lead_stop (d0 := d0) (d1 := d1) (d2 := d2) (d3 := d3) (by rw [← HFL.out]; omega)
                  rw [← HFL.out] at hne
                  obtain ⟨p, hp⟩ : ∃ p, _root_.Rad.pick4 d0 d1 d2 d3 f = p := ⟨_, rfl⟩
                  rw [hp] at hcf hne
                  have hne' : ¬ ((48 + p : Nat) : Int) = 48 := by omega
                  have hne'' : ¬ (48 : Int) + (p : Int) = 48 := by omega
                  have hf3' : (f : Int) < 3 := by omega
                  have hf4 : f < 4 := by omega
                  clear hp
                  have hconv := run_convert_bytes_back (P := Tryz.prog) w5 91 9 5 ⟨g, f, none⟩ (4 - f) ((_root_.Rad.four d0 d1 d2 d3).drop f) underlying91 underlying5 underlying9 (fun q hq => by
                    rw [Lib.add_plain]
                    have hq4 : f + q < 4 := by rw [List.length_drop] at hq; simp [_root_.Rad.four] at hq; omega
                    rw [List.getElem_drop, _root_.Rad.four_at d0 d1 d2 d3 (by simpa [_root_.Rad.four] using hq4) b0 b1 b2 b3]
                    exact HC5.out _ hq4)
                  rw [show ((_root_.Rad.four d0 d1 d2 d3).drop f).length = 4 - f by rw [List.length_drop]; rfl] at hconv
                  obtain ⟨l4, hl4⟩ : ∃ l4, (_root_.Rad.four d0 d1 d2 d3).drop f = l4 := ⟨_, rfl⟩
                  rw [hl4] at hconv
                  have HL4 : Hid _ := hl4
                  have hl4s : l4.length ≤ 4 := by rw [← hl4, List.length_drop]; simp [_root_.Rad.four]
                  have HBB : Hid _ := hB5
                  clear hl4 hB5
                  go_wp2
                  refine ⟨⟨j, s ++ ⟨l4.toArray⟩, by omega, by go_num, rfl, ?_, ?_, HBB.out, hl5, k5⟩, by simp [intOf]⟩
                  · rw [ba_app, ba_mk, ← HL4.out, HGG.out]; exact HNEXT.out
                  · rw [ByteArray.size_append]; show s.size + l4.length ≤ _; omega
              · have hcf := HC5.out f (by omega)
                have hz := _root_.Rad.lead_zero (d0 := d0) (d1 := d1) (d2 := d2) (d3 := d3) (i := f) (by rw [← HFL.out]; omega)
                rw [hz] at hcf
                have hf3' : (f : Int) < 3 := by omega
                have hf4 : f < 4 := by omega
                clear hz
                go_wp2
                exact ⟨⟨f + 1, by omega, by go_num⟩, by simp [intOf]; omega⟩
          · have e7 : ¬ (j : Int) = (n : Int) - 1 := by omega
            have hF0 := (HFF.out.2 ht).2
            subst hF0
            go_wp2
            refine wp_world (fun w5 => Below w.heap.size w w5 ∧ w.heap.size < w5.heap.size ∧ w5.cell? ⟨w.heap.size, 1, none⟩ = some (.slice (some ⟨b, o, none⟩) n c) ∧ ∀ i, i < 4 → w5.cell? ⟨wn.heap.size, i, none⟩ = some (.int .u8 ((48 + _root_.Rad.pick4 d0 d1 d2 d3 i : Nat) : Int))) HF5.out ?_
            obtain ⟨g, hg⟩ : ∃ g, wn.heap.size = g := ⟨_, rfl⟩
            rw [hg]
            rintro w5 ⟨hB5, hl5, k5, hc5⟩
            have HC5 : Hid _ := hc5
            clear HF5 k02 hl2 hg hc5
            go_loop [6] (fun s6 => s6 = .int .i64 0) (fun s6 => 0)
            case atStart => rfl
            case round =>
              obtain rfl := hrel
              have hconv := run_convert_bytes_back (P := Tryz.prog) w5 91 9 5 ⟨g, 0, none⟩ (4 - 0) ((_root_.Rad.four d0 d1 d2 d3).drop 0) underlying91 underlying5 underlying9 (fun q hq => by
                rw [Lib.add_plain]
                have hq4 : 0 + q < 4 := by rw [List.length_drop] at hq; simp [_root_.Rad.four] at hq; omega
                rw [List.getElem_drop, _root_.Rad.four_at d0 d1 d2 d3 (by simpa [_root_.Rad.four] using hq4) b0 b1 b2 b3]
                exact HC5.out _ hq4)
              rw [show ((_root_.Rad.four d0 d1 d2 d3).drop 0).length = 4 - 0 by rw [List.length_drop]; rfl] at hconv
              obtain ⟨l4, hl4⟩ : ∃ l4, (_root_.Rad.four d0 d1 d2 d3).drop 0 = l4 := ⟨_, rfl⟩
              rw [hl4] at hconv
              have HL4 : Hid _ := hl4
              have hl4s : l4.length ≤ 4 := by rw [← hl4, List.length_drop]; simp [_root_.Rad.four]
              have HBB : Hid _ := hB5
              clear hl4 hB5
              go_wp2
              refine ⟨⟨j, by omega, rfl, ?_, ?_, HBB.out⟩, by simp [intOf]; omega⟩
              · rw [← HL4.out, HGG.out]; exact HNEXT.out
              · omega

  · go_enter Tryz.func15, Tryz.ntmps15
    go_wp2
    refine wp_world (fun w1 => Below w.heap.size w w1 ∧ w.heap.size < w1.heap.size ∧ w1.cell? ⟨w.heap.size, 1, none⟩ = some (.slice (some ⟨b, o, none⟩) n c)) ⟨bel1 _ _, by simp, by simp [go_sem]⟩ ?_
    rintro w1 ⟨hB1, hl1, hk1⟩
    have HB1 : Hid _ := hB1
    have HK1 : Hid _ := hk1
    have HL1 : Hid _ := hl1
    clear hB1 hk1 hl1
    go_loopw [3, 4] (fun s3 s4 wr => ∃ (k : Nat) (s : ByteArray), k ≤ n ∧ s4 = .int .i64 ((k : Int) - 1) ∧ s3 = .string s ∧ s.data.toList = tpart true (num 10000 w b (o + k) (n - k)) k n ∧ s.size ≤ 4 * (n - k) + 1 ∧
        Below w.heap.size w wr ∧ w.heap.size < wr.heap.size ∧ wr.cell? ⟨w.heap.size, 1, none⟩ = some (.slice (some ⟨b, o, none⟩) n c)) (fun _ s4 _ => (intOf s4 + 1).toNat)
    case atStart =>
      refine ⟨n, _, Nat.le_refl _, by go_num, rfl, ?_, ?_, HB1.out, HL1.out, HK1.out⟩
      · rw [Nat.sub_self, num_zero, HSG.out]; rfl
      · first | exact Nat.zero_le _ | (show (1 : Nat) ≤ _; omega)
    case round =>
      obtain ⟨k, s, hk, rfl, rfl, hsd, hsz, hB1, hl, k01⟩ := hrel
      clear HB1 HK1 HL1
      by_cases hk0 : k = 0
      · subst hk0
        rw [Nat.add_zero, Nat.sub_zero, HN.out, ← HTXT.out] at hsd
        obtain rfl := ba_eq hsd
        have HB : Hid _ := hB1
        clear hsd hB1 HTXT
        go_wp2
        go_ret
        exact ⟨rfl, HB.out⟩
      · obtain ⟨j, rfl⟩ : ∃ j, k = j + 1 := ⟨k - 1, by omega⟩
        have he : ((j + 1 : Nat) : Int) - 1 = (j : Int) := by omega
        rw [he]
        have hcell0 := arr_cell HA.out (i := j) (by omega)
        have hlt := arr_lt HA.out (i := j) (by omega)
        have hbl : b < wr.heap.size := Nat.lt_trans hbl0 hl
        have hcell := (hB1.cell (p := ⟨b, o + j, none⟩) hbl0).trans hcell0
        have hst := high_step (w := w) (b := b) (o := o) (n := n) (j := j) (by omega)
        obtain ⟨y, hy⟩ : ∃ y, word w b (o + j) = y := ⟨_, rfl⟩
        obtain ⟨H, hH⟩ : ∃ H, num 10000 w b (o + (j + 1)) (n - (j + 1)) = H := ⟨_, rfl⟩
        obtain ⟨G, hG⟩ : ∃ G, num 10000 w b (o + j) (n - j) = G := ⟨_, rfl⟩
        rw [hy] at hcell hlt
        rw [hG, hy, hH] at hst
        rw [hH] at hsd
        obtain ⟨d0, hd0⟩ : ∃ d, d = y / 1000 := ⟨_, rfl⟩
        obtain ⟨p1, hp1⟩ : ∃ d, d = y / 100 := ⟨_, rfl⟩
        obtain ⟨d1, hd1⟩ : ∃ d, d = p1 % 10 := ⟨_, rfl⟩
        obtain ⟨p2, hp2⟩ : ∃ d, d = y / 10 := ⟨_, rfl⟩
        obtain ⟨d2, hd2⟩ : ∃ d, d = p2 % 10 := ⟨_, rfl⟩
        obtain ⟨d3, hd3⟩ : ∃ d, d = y % 10 := ⟨_, rfl⟩
        have e0 : (y : Int) / 1000 = (d0 : Int) := by omega
        have e1 : (y : Int) / 100 = (p1 : Int) := by omega
        have e2 : (p1 : Int) % 10 = (d1 : Int) := by omega
        have e3 : (y : Int) / 10 = (p2 : Int) := by omega
        have e4 : (p2 : Int) % 10 = (d2 : Int) := by omega
        have e5 : (y : Int) % 10 = (d3 : Int) := by omega
        have b0 : d0 ≤ 9 := by omega
        have b1 : d1 ≤ 9 := by omega
        have b2 : d2 ≤ 9 := by omega
        have b3 : d3 ≤ 9 := by omega
        have bp1 : p1 ≤ 9999 := by omega
        have bp2 : p2 ≤ 9999 := by omega
        have hy4 : y = 1000 * d0 + 100 * d1 + 10 * d2 + d3 := by omega
        have hHt : j + 1 = n → H = 0 := fun h => by rw [← hH, h, Nat.sub_self]; rfl
        have hHp : j + 1 ≠ n → 0 < H := fun h => by
          rw [← hH]
          have h1 : 10000 ^ (n - (j + 1) - 1) ≤ num 10000 w b (o + (j + 1)) (n - (j + 1)) := _root_.Rad.vs_ge (by omega) (by rw [show o + (j + 1) + (n - (j + 1) - 1) = o + (n - 1) by omega]; exact HTOP.out)
          exact Nat.lt_of_lt_of_le (Nat.pow_pos (by decide)) h1
        obtain ⟨F, hF⟩ : ∃ F, F = (if j + 1 = n then _root_.Rad.lead d0 d1 d2 else 0) := ⟨_, rfl⟩
        have hFF : (j + 1 = n → H = 0 ∧ F = _root_.Rad.lead d0 d1 d2) ∧ (j + 1 ≠ n → 0 < H ∧ F = 0) := ⟨fun h => ⟨hHt h, by rw [hF, if_pos h]⟩, fun h => ⟨hHp h, by rw [hF, if_neg h]⟩⟩
        have hF3 : F ≤ 3 := by rw [hF]; split; exact _root_.Rad.lead_le _ _ _; omega
        have hnext := tpart_step (neg := true) (show j < n by omega) hst hy4 b0 b1 b2 b3 hFF
        rw [← hsd] at hnext
        have HNEXT : Hid _ := hnext
        have HGG : Hid _ := hG
        have HFF : Hid _ := hFF
        have hcn : j < n := by omega
        have hcc : j < c := by omega
        clear hcell0 hst hy hH hG hsd hd0 hp1 hd1 hp2 hd2 hd3 hHt hHp hF hnext hFF hy4 he
        go_wp2
        refine wp_world (fun w1 => w1 = wr) rfl ?_
        rintro w1 rfl
        refine wp_drawn mixed [⟨21, [], [], [1]⟩, ⟨22, [0], [0], []⟩, ⟨23, [], [], [4]⟩, ⟨24, [1, 2], [0, 1, 2], []⟩, ⟨25, [3], [0, 1, 2, 3], []⟩, ⟨26, [4], [0, 1, 2, 3, 4], []⟩, ⟨27, [5], [0, 1, 2, 3, 4, 5], []⟩, ⟨28, [6], [0, 1, 2, 3, 4, 5, 6], []⟩, ⟨29, [], [], [1]⟩, ⟨30, [8], [8], []⟩, ⟨31, [], [], [4]⟩, ⟨32, [9, 10], [8, 9, 10], []⟩, ⟨33, [11], [8, 9, 10, 11], []⟩, ⟨34, [12], [8, 9, 10, 11, 12], []⟩, ⟨35, [13], [8, 9, 10, 11, 12, 13], []⟩, ⟨36, [14], [8, 9, 10, 11, 12, 13, 14], []⟩, ⟨37, [15], [8, 9, 10, 11, 12, 13, 14, 15], []⟩, ⟨38, [], [], [1]⟩, ⟨39, [17], [17], []⟩, ⟨40, [], [], [4]⟩, ⟨41, [18, 19], [17, 18, 19], []⟩, ⟨42, [20], [17, 18, 19, 20], []⟩, ⟨43, [21], [17, 18, 19, 20, 21], []⟩, ⟨44, [22], [17, 18, 19, 20, 21, 22], []⟩, ⟨45, [23], [17, 18, 19, 20, 21, 22, 23], []⟩, ⟨46, [24], [17, 18, 19, 20, 21, 22, 23, 24], []⟩, ⟨47, [], [], [1]⟩, ⟨48, [26], [26], []⟩, ⟨49, [], [], [4]⟩, ⟨50, [27, 28], [26, 27, 28], []⟩, ⟨51, [29], [26, 27, 28, 29], []⟩, ⟨52, [30], [26, 27, 28, 29, 30], []⟩, ⟨53, [31], [26, 27, 28, 29, 30, 31], []⟩, ⟨54, [32], [26, 27, 28, 29, 30, 31, 32], []⟩] [] (by kernel_rfl) 82 rfl (by kernel_rfl) (fun (i : Nat) (v : Value) (wq : World) => match i with | 0 => v = .pointer (some ⟨w.heap.size, 1, none⟩) | 1 => v = .slice (some ⟨b, o, none⟩) (n) (c) | 2 => v = .int .i64 (j) | 3 => v = .pointer (some ⟨b, o + j, none⟩) | 4 => v = .int .i64 (y) | 5 => v = .int .i64 (d0) | 6 => v = .int .i64 (48 + (d0 : Int)) | 7 => v = .int .u8 (48 + (d0 : Int)) | 8 => v = .pointer (some ⟨w.heap.size, 1, none⟩) | 9 => v = .slice (some ⟨b, o, none⟩) (n) (c) | 10 => v = .int .i64 (j) | 11 => v = .pointer (some ⟨b, o + j, none⟩) | 12 => v = .int .i64 (y) | 13 => v = .int .i64 (p1) | 14 => v = .int .i64 (d1) | 15 => v = .int .i64 (48 + (d1 : Int)) | 16 => v = .int .u8 (48 + (d1 : Int)) | 17 => v = .pointer (some ⟨w.heap.size, 1, none⟩) | 18 => v = .slice (some ⟨b, o, none⟩) (n) (c) | 19 => v = .int .i64 (j) | 20 => v = .pointer (some ⟨b, o + j, none⟩) | 21 => v = .int .i64 (y) | 22 => v = .int .i64 (p2) | 23 => v = .int .i64 (d2) | 24 => v = .int .i64 (48 + (d2 : Int)) | 25 => v = .int .u8 (48 + (d2 : Int)) | 26 => v = .pointer (some ⟨w.heap.size, 1, none⟩) | 27 => v = .slice (some ⟨b, o, none⟩) (n) (c) | 28 => v = .int .i64 (j) | 29 => v = .pointer (some ⟨b, o + j, none⟩) | 30 => v = .int .i64 (y) | 31 => v = .int .i64 (d3) | 32 => v = .int .i64 (48 + (d3 : Int)) | 33 => v = .int .u8 (48 + (d3 : Int)) | _ => True) (fun _ wq => Below w1.heap.size w1 wq) (fun wx wy => Below wx.heap.size wx wy) (Below.refl _ _).drew (fun i v wx wy h hx => match i, h with | 0, h => h | 1, h => h | 2, h => h | 3, h => h | 4, h => h | 5, h => h | 6, h => h | 7, h => h | 8, h => h | 9, h => h | 10, h => h | 11, h => h | 12, h => h | 13, h => h | 14, h => h | 15, h => h | 16, h => h | 17, h => h | 18, h => h | 19, h => h | 20, h => h | 21, h => h | 22, h => h | 23, h => h | 24, h => h | 25, h => h | 26, h => h | 27, h => h | 28, h => h | 29, h => h | 30, h => h | 31, h => h | 32, h => h | 33, h => h  | n + 34, _ => trivial) ?_ ?_
        · intro i o r ho hr L fr wx hW hL hpr hds hdef hpre hfree
          clear hL hpr hds hdef
          match i, ho, hr with
          | 0, ho, hr =>
            obtain rfl := Option.some.inj ho; obtain rfl := Option.some.inj hr
            have t1 := ev_tmp (show fr.eval (.tmp 1) = .pointer (some ⟨w.heap.size, 0, none⟩) from hfree 1 (by decide))
            clear hpre hfree
            refine stpK rfl rfl fun K hK => ?_
            go_simp
            exact hK _ _ ⟨rfl, hW, Below.refl _ _, fun h => (List.not_mem_nil h).elim⟩
          | 1, ho, hr =>
            obtain rfl := Option.some.inj ho; obtain rfl := Option.some.inj hr
            have e0 := ev_tmp (show fr.eval (.tmp 21) = .pointer (some ⟨w.heap.size, 1, none⟩) from hpre 0 (by decide) _ rfl)
            clear hpre hfree
            have c0 := (hW.cell (p := ⟨w.heap.size, 1, none⟩) hl).trans k01
            refine stpK rfl rfl fun K hK => ?_
            go_simp
            exact hK _ _ ⟨rfl, hW, Below.refl _ _, fun h => (List.not_mem_nil h).elim⟩
          | 2, ho, hr =>
            obtain rfl := Option.some.inj ho; obtain rfl := Option.some.inj hr
            have t4 := ev_tmp (show fr.eval (.tmp 4) = .int .i64 (j) from hfree 4 (by decide))
            clear hpre hfree
            refine stpK rfl rfl fun K hK => ?_
            go_simp
            exact hK _ _ ⟨rfl, hW, Below.refl _ _, fun h => (List.not_mem_nil h).elim⟩
          | 3, ho, hr =>
            obtain rfl := Option.some.inj ho; obtain rfl := Option.some.inj hr
            have e1 := ev_tmp (show fr.eval (.tmp 22) = .slice (some ⟨b, o, none⟩) (n) (c) from hpre 1 (by decide) _ rfl)
            have e2 := ev_tmp (show fr.eval (.tmp 23) = .int .i64 (j) from hpre 2 (by decide) _ rfl)
            clear hpre hfree
            refine stpK rfl rfl fun K hK => ?_
            go_simp
            exact hK _ _ ⟨rfl, hW, Below.refl _ _, fun h => (List.not_mem_nil h).elim⟩
          | 4, ho, hr =>
            obtain rfl := Option.some.inj ho; obtain rfl := Option.some.inj hr
            have e3 := ev_tmp (show fr.eval (.tmp 24) = .pointer (some ⟨b, o + j, none⟩) from hpre 3 (by decide) _ rfl)
            clear hpre hfree
            have c0 := (hW.cell (p := ⟨b, o + j, none⟩) hbl).trans hcell
            refine stpK rfl rfl fun K hK => ?_
            go_simp
            exact hK _ _ ⟨rfl, hW, Below.refl _ _, fun h => (List.not_mem_nil h).elim⟩
          | 5, ho, hr =>
            obtain rfl := Option.some.inj ho; obtain rfl := Option.some.inj hr
            have e4 := ev_tmp (show fr.eval (.tmp 25) = .int .i64 (y) from hpre 4 (by decide) _ rfl)
            clear hpre hfree
            refine stpK rfl rfl fun K hK => ?_
            go_simp
            exact hK _ _ ⟨(by first | rfl | exact congrArg (Value.int .i64) (wi b0)), hW, Below.refl _ _, fun h => (List.not_mem_nil h).elim⟩
          | 6, ho, hr =>
            obtain rfl := Option.some.inj ho; obtain rfl := Option.some.inj hr
            have e5 := ev_tmp (show fr.eval (.tmp 26) = .int .i64 (d0) from hpre 5 (by decide) _ rfl)
            clear hpre hfree
            refine stpK rfl rfl fun K hK => ?_
            go_simp
            exact hK _ _ ⟨(by first | rfl | exact congrArg (Value.int .i64) (wi48 b0)), hW, Below.refl _ _, fun h => (List.not_mem_nil h).elim⟩
          | 7, ho, hr =>
            obtain rfl := Option.some.inj ho; obtain rfl := Option.some.inj hr
            have e6 := ev_tmp (show fr.eval (.tmp 27) = .int .i64 (48 + (d0 : Int)) from hpre 6 (by decide) _ rfl)
            clear hpre hfree
            refine stpK rfl rfl fun K hK => ?_
            go_simp
            exact hK _ _ ⟨(by first | rfl | exact congrArg (Value.int .u8) (wu48 b0)), hW, Below.refl _ _, fun h => (List.not_mem_nil h).elim⟩
          | 8, ho, hr =>
            obtain rfl := Option.some.inj ho; obtain rfl := Option.some.inj hr
            have t1 := ev_tmp (show fr.eval (.tmp 1) = .pointer (some ⟨w.heap.size, 0, none⟩) from hfree 1 (by decide))
            clear hpre hfree
            refine stpK rfl rfl fun K hK => ?_
            go_simp
            exact hK _ _ ⟨rfl, hW, Below.refl _ _, fun h => (List.not_mem_nil h).elim⟩
          | 9, ho, hr =>
            obtain rfl := Option.some.inj ho; obtain rfl := Option.some.inj hr
            have e8 := ev_tmp (show fr.eval (.tmp 29) = .pointer (some ⟨w.heap.size, 1, none⟩) from hpre 8 (by decide) _ rfl)
            clear hpre hfree
            have c0 := (hW.cell (p := ⟨w.heap.size, 1, none⟩) hl).trans k01
            refine stpK rfl rfl fun K hK => ?_
            go_simp
            exact hK _ _ ⟨rfl, hW, Below.refl _ _, fun h => (List.not_mem_nil h).elim⟩
          | 10, ho, hr =>
            obtain rfl := Option.some.inj ho; obtain rfl := Option.some.inj hr
            have t4 := ev_tmp (show fr.eval (.tmp 4) = .int .i64 (j) from hfree 4 (by decide))
            clear hpre hfree
            refine stpK rfl rfl fun K hK => ?_
            go_simp
            exact hK _ _ ⟨rfl, hW, Below.refl _ _, fun h => (List.not_mem_nil h).elim⟩
          | 11, ho, hr =>
            obtain rfl := Option.some.inj ho; obtain rfl := Option.some.inj hr
            have e9 := ev_tmp (show fr.eval (.tmp 30) = .slice (some ⟨b, o, none⟩) (n) (c) from hpre 9 (by decide) _ rfl)
            have e10 := ev_tmp (show fr.eval (.tmp 31) = .int .i64 (j) from hpre 10 (by decide) _ rfl)
            clear hpre hfree
            refine stpK rfl rfl fun K hK => ?_
            go_simp
            exact hK _ _ ⟨rfl, hW, Below.refl _ _, fun h => (List.not_mem_nil h).elim⟩
          | 12, ho, hr =>
            obtain rfl := Option.some.inj ho; obtain rfl := Option.some.inj hr
            have e11 := ev_tmp (show fr.eval (.tmp 32) = .pointer (some ⟨b, o + j, none⟩) from hpre 11 (by decide) _ rfl)
            clear hpre hfree
            have c0 := (hW.cell (p := ⟨b, o + j, none⟩) hbl).trans hcell
            refine stpK rfl rfl fun K hK => ?_
            go_simp
            exact hK _ _ ⟨rfl, hW, Below.refl _ _, fun h => (List.not_mem_nil h).elim⟩
          | 13, ho, hr =>
            obtain rfl := Option.some.inj ho; obtain rfl := Option.some.inj hr
            have e12 := ev_tmp (show fr.eval (.tmp 33) = .int .i64 (y) from hpre 12 (by decide) _ rfl)
            clear hpre hfree
            refine stpK rfl rfl fun K hK => ?_
            go_simp
            exact hK _ _ ⟨(by first | rfl | exact congrArg (Value.int .i64) (wi bp1)), hW, Below.refl _ _, fun h => (List.not_mem_nil h).elim⟩
          | 14, ho, hr =>
            obtain rfl := Option.some.inj ho; obtain rfl := Option.some.inj hr
            have e13 := ev_tmp (show fr.eval (.tmp 34) = .int .i64 (p1) from hpre 13 (by decide) _ rfl)
            clear hpre hfree
            refine stpK rfl rfl fun K hK => ?_
            go_simp
            exact hK _ _ ⟨(by first | rfl | exact congrArg (Value.int .i64) (tm e2)), hW, Below.refl _ _, fun h => (List.not_mem_nil h).elim⟩
          | 15, ho, hr =>
            obtain rfl := Option.some.inj ho; obtain rfl := Option.some.inj hr
            have e14 := ev_tmp (show fr.eval (.tmp 35) = .int .i64 (d1) from hpre 14 (by decide) _ rfl)
            clear hpre hfree
            refine stpK rfl rfl fun K hK => ?_
            go_simp
            exact hK _ _ ⟨(by first | rfl | exact congrArg (Value.int .i64) (wi48 b1)), hW, Below.refl _ _, fun h => (List.not_mem_nil h).elim⟩
          | 16, ho, hr =>
            obtain rfl := Option.some.inj ho; obtain rfl := Option.some.inj hr
            have e15 := ev_tmp (show fr.eval (.tmp 36) = .int .i64 (48 + (d1 : Int)) from hpre 15 (by decide) _ rfl)
            clear hpre hfree
            refine stpK rfl rfl fun K hK => ?_
            go_simp
            exact hK _ _ ⟨(by first | rfl | exact congrArg (Value.int .u8) (wu48 b1)), hW, Below.refl _ _, fun h => (List.not_mem_nil h).elim⟩
          | 17, ho, hr =>
            obtain rfl := Option.some.inj ho; obtain rfl := Option.some.inj hr
            have t1 := ev_tmp (show fr.eval (.tmp 1) = .pointer (some ⟨w.heap.size, 0, none⟩) from hfree 1 (by decide))
            clear hpre hfree
            refine stpK rfl rfl fun K hK => ?_
            go_simp
            exact hK _ _ ⟨rfl, hW, Below.refl _ _, fun h => (List.not_mem_nil h).elim⟩
          | 18, ho, hr =>
            obtain rfl := Option.some.inj ho; obtain rfl := Option.some.inj hr
            have e17 := ev_tmp (show fr.eval (.tmp 38) = .pointer (some ⟨w.heap.size, 1, none⟩) from hpre 17 (by decide) _ rfl)
            clear hpre hfree
            have c0 := (hW.cell (p := ⟨w.heap.size, 1, none⟩) hl).trans k01
            refine stpK rfl rfl fun K hK => ?_
            go_simp
            exact hK _ _ ⟨rfl, hW, Below.refl _ _, fun h => (List.not_mem_nil h).elim⟩
          | 19, ho, hr =>
            obtain rfl := Option.some.inj ho; obtain rfl := Option.some.inj hr
            have t4 := ev_tmp (show fr.eval (.tmp 4) = .int .i64 (j) from hfree 4 (by decide))
            clear hpre hfree
            refine stpK rfl rfl fun K hK => ?_
            go_simp
            exact hK _ _ ⟨rfl, hW, Below.refl _ _, fun h => (List.not_mem_nil h).elim⟩
          | 20, ho, hr =>
            obtain rfl := Option.some.inj ho; obtain rfl := Option.some.inj hr
            have e18 := ev_tmp (show fr.eval (.tmp 39) = .slice (some ⟨b, o, none⟩) (n) (c) from hpre 18 (by decide) _ rfl)
            have e19 := ev_tmp (show fr.eval (.tmp 40) = .int .i64 (j) from hpre 19 (by decide) _ rfl)
            clear hpre hfree
            refine stpK rfl rfl fun K hK => ?_
            go_simp
            exact hK _ _ ⟨rfl, hW, Below.refl _ _, fun h => (List.not_mem_nil h).elim⟩
          | 21, ho, hr =>
            obtain rfl := Option.some.inj ho; obtain rfl := Option.some.inj hr
            have e20 := ev_tmp (show fr.eval (.tmp 41) = .pointer (some ⟨b, o + j, none⟩) from hpre 20 (by decide) _ rfl)
            clear hpre hfree
            have c0 := (hW.cell (p := ⟨b, o + j, none⟩) hbl).trans hcell
            refine stpK rfl rfl fun K hK => ?_
            go_simp
            exact hK _ _ ⟨rfl, hW, Below.refl _ _, fun h => (List.not_mem_nil h).elim⟩
          | 22, ho, hr =>
            obtain rfl := Option.some.inj ho; obtain rfl := Option.some.inj hr
            have e21 := ev_tmp (show fr.eval (.tmp 42) = .int .i64 (y) from hpre 21 (by decide) _ rfl)
            clear hpre hfree
            refine stpK rfl rfl fun K hK => ?_
            go_simp
            exact hK _ _ ⟨(by first | rfl | exact congrArg (Value.int .i64) (wi bp2)), hW, Below.refl _ _, fun h => (List.not_mem_nil h).elim⟩
          | 23, ho, hr =>
            obtain rfl := Option.some.inj ho; obtain rfl := Option.some.inj hr
            have e22 := ev_tmp (show fr.eval (.tmp 43) = .int .i64 (p2) from hpre 22 (by decide) _ rfl)
            clear hpre hfree
            refine stpK rfl rfl fun K hK => ?_
            go_simp
            exact hK _ _ ⟨(by first | rfl | exact congrArg (Value.int .i64) (tm e4)), hW, Below.refl _ _, fun h => (List.not_mem_nil h).elim⟩
          | 24, ho, hr =>
            obtain rfl := Option.some.inj ho; obtain rfl := Option.some.inj hr
            have e23 := ev_tmp (show fr.eval (.tmp 44) = .int .i64 (d2) from hpre 23 (by decide) _ rfl)
            clear hpre hfree
            refine stpK rfl rfl fun K hK => ?_
            go_simp
            exact hK _ _ ⟨(by first | rfl | exact congrArg (Value.int .i64) (wi48 b2)), hW, Below.refl _ _, fun h => (List.not_mem_nil h).elim⟩
          | 25, ho, hr =>
            obtain rfl := Option.some.inj ho; obtain rfl := Option.some.inj hr
            have e24 := ev_tmp (show fr.eval (.tmp 45) = .int .i64 (48 + (d2 : Int)) from hpre 24 (by decide) _ rfl)
            clear hpre hfree
            refine stpK rfl rfl fun K hK => ?_
            go_simp
            exact hK _ _ ⟨(by first | rfl | exact congrArg (Value.int .u8) (wu48 b2)), hW, Below.refl _ _, fun h => (List.not_mem_nil h).elim⟩
          | 26, ho, hr =>
            obtain rfl := Option.some.inj ho; obtain rfl := Option.some.inj hr
            have t1 := ev_tmp (show fr.eval (.tmp 1) = .pointer (some ⟨w.heap.size, 0, none⟩) from hfree 1 (by decide))
            clear hpre hfree
            refine stpK rfl rfl fun K hK => ?_
            go_simp
            exact hK _ _ ⟨rfl, hW, Below.refl _ _, fun h => (List.not_mem_nil h).elim⟩
          | 27, ho, hr =>
            obtain rfl := Option.some.inj ho; obtain rfl := Option.some.inj hr
            have e26 := ev_tmp (show fr.eval (.tmp 47) = .pointer (some ⟨w.heap.size, 1, none⟩) from hpre 26 (by decide) _ rfl)
            clear hpre hfree
            have c0 := (hW.cell (p := ⟨w.heap.size, 1, none⟩) hl).trans k01
            refine stpK rfl rfl fun K hK => ?_
            go_simp
            exact hK _ _ ⟨rfl, hW, Below.refl _ _, fun h => (List.not_mem_nil h).elim⟩
          | 28, ho, hr =>
            obtain rfl := Option.some.inj ho; obtain rfl := Option.some.inj hr
            have t4 := ev_tmp (show fr.eval (.tmp 4) = .int .i64 (j) from hfree 4 (by decide))
            clear hpre hfree
            refine stpK rfl rfl fun K hK => ?_
            go_simp
            exact hK _ _ ⟨rfl, hW, Below.refl _ _, fun h => (List.not_mem_nil h).elim⟩
          | 29, ho, hr =>
            obtain rfl := Option.some.inj ho; obtain rfl := Option.some.inj hr
            have e27 := ev_tmp (show fr.eval (.tmp 48) = .slice (some ⟨b, o, none⟩) (n) (c) from hpre 27 (by decide) _ rfl)
            have e28 := ev_tmp (show fr.eval (.tmp 49) = .int .i64 (j) from hpre 28 (by decide) _ rfl)
            clear hpre hfree
            refine stpK rfl rfl fun K hK => ?_
            go_simp
            exact hK _ _ ⟨rfl, hW, Below.refl _ _, fun h => (List.not_mem_nil h).elim⟩
          | 30, ho, hr =>
            obtain rfl := Option.some.inj ho; obtain rfl := Option.some.inj hr
            have e29 := ev_tmp (show fr.eval (.tmp 50) = .pointer (some ⟨b, o + j, none⟩) from hpre 29 (by decide) _ rfl)
            clear hpre hfree
            have c0 := (hW.cell (p := ⟨b, o + j, none⟩) hbl).trans hcell
            refine stpK rfl rfl fun K hK => ?_
            go_simp
            exact hK _ _ ⟨rfl, hW, Below.refl _ _, fun h => (List.not_mem_nil h).elim⟩
          | 31, ho, hr =>
            obtain rfl := Option.some.inj ho; obtain rfl := Option.some.inj hr
            have e30 := ev_tmp (show fr.eval (.tmp 51) = .int .i64 (y) from hpre 30 (by decide) _ rfl)
            clear hpre hfree
            refine stpK rfl rfl fun K hK => ?_
            go_simp
            exact hK _ _ ⟨(by first | rfl | exact congrArg (Value.int .i64) (tm e5)), hW, Below.refl _ _, fun h => (List.not_mem_nil h).elim⟩
          | 32, ho, hr =>
            obtain rfl := Option.some.inj ho; obtain rfl := Option.some.inj hr
            have e31 := ev_tmp (show fr.eval (.tmp 52) = .int .i64 (d3) from hpre 31 (by decide) _ rfl)
            clear hpre hfree
            refine stpK rfl rfl fun K hK => ?_
            go_simp
            exact hK _ _ ⟨(by first | rfl | exact congrArg (Value.int .i64) (wi48 b3)), hW, Below.refl _ _, fun h => (List.not_mem_nil h).elim⟩
          | 33, ho, hr =>
            obtain rfl := Option.some.inj ho; obtain rfl := Option.some.inj hr
            have e32 := ev_tmp (show fr.eval (.tmp 53) = .int .i64 (48 + (d3 : Int)) from hpre 32 (by decide) _ rfl)
            clear hpre hfree
            refine stpK rfl rfl fun K hK => ?_
            go_simp
            exact hK _ _ ⟨(by first | rfl | exact congrArg (Value.int .u8) (wu48 b3)), hW, Below.refl _ _, fun h => (List.not_mem_nil h).elim⟩
          | n + 34, ho, hr => exact absurd hr (by simp)
        · intro vs wn hvs hW1 hap0
          clear hap0
          have e0 : vs 0 = .pointer (some ⟨w.heap.size, 1, none⟩) := hvs 0 (by decide)
          have e1 : vs 1 = .slice (some ⟨b, o, none⟩) (n) (c) := hvs 1 (by decide)
          have e2 : vs 2 = .int .i64 (j) := hvs 2 (by decide)
          have e3 : vs 3 = .pointer (some ⟨b, o + j, none⟩) := hvs 3 (by decide)
          have e4 : vs 4 = .int .i64 (y) := hvs 4 (by decide)
          have e5 : vs 5 = .int .i64 (d0) := hvs 5 (by decide)
          have e6 : vs 6 = .int .i64 (48 + (d0 : Int)) := hvs 6 (by decide)
          have e7 : vs 7 = .int .u8 (48 + (d0 : Int)) := hvs 7 (by decide)
          have e8 : vs 8 = .pointer (some ⟨w.heap.size, 1, none⟩) := hvs 8 (by decide)
          have e9 : vs 9 = .slice (some ⟨b, o, none⟩) (n) (c) := hvs 9 (by decide)
          have e10 : vs 10 = .int .i64 (j) := hvs 10 (by decide)
          have e11 : vs 11 = .pointer (some ⟨b, o + j, none⟩) := hvs 11 (by decide)
          have e12 : vs 12 = .int .i64 (y) := hvs 12 (by decide)
          have e13 : vs 13 = .int .i64 (p1) := hvs 13 (by decide)
          have e14 : vs 14 = .int .i64 (d1) := hvs 14 (by decide)
          have e15 : vs 15 = .int .i64 (48 + (d1 : Int)) := hvs 15 (by decide)
          have e16 : vs 16 = .int .u8 (48 + (d1 : Int)) := hvs 16 (by decide)
          have e17 : vs 17 = .pointer (some ⟨w.heap.size, 1, none⟩) := hvs 17 (by decide)
          have e18 : vs 18 = .slice (some ⟨b, o, none⟩) (n) (c) := hvs 18 (by decide)
          have e19 : vs 19 = .int .i64 (j) := hvs 19 (by decide)
          have e20 : vs 20 = .pointer (some ⟨b, o + j, none⟩) := hvs 20 (by decide)
          have e21 : vs 21 = .int .i64 (y) := hvs 21 (by decide)
          have e22 : vs 22 = .int .i64 (p2) := hvs 22 (by decide)
          have e23 : vs 23 = .int .i64 (d2) := hvs 23 (by decide)
          have e24 : vs 24 = .int .i64 (48 + (d2 : Int)) := hvs 24 (by decide)
          have e25 : vs 25 = .int .u8 (48 + (d2 : Int)) := hvs 25 (by decide)
          have e26 : vs 26 = .pointer (some ⟨w.heap.size, 1, none⟩) := hvs 26 (by decide)
          have e27 : vs 27 = .slice (some ⟨b, o, none⟩) (n) (c) := hvs 27 (by decide)
          have e28 : vs 28 = .int .i64 (j) := hvs 28 (by decide)
          have e29 : vs 29 = .pointer (some ⟨b, o + j, none⟩) := hvs 29 (by decide)
          have e30 : vs 30 = .int .i64 (y) := hvs 30 (by decide)
          have e31 : vs 31 = .int .i64 (d3) := hvs 31 (by decide)
          have e32 : vs 32 = .int .i64 (48 + (d3 : Int)) := hvs 32 (by decide)
          have e33 : vs 33 = .int .u8 (48 + (d3 : Int)) := hvs 33 (by decide)
          simp only [puts, Nat.reduceAdd, e0, e1, e2, e3, e4, e5, e6, e7, e8, e9, e10, e11, e12, e13, e14, e15, e16, e17, e18, e19, e20, e21, e22, e23, e24, e25, e26, e27, e28, e29, e30, e31, e32, e33, Act.put, List.setIfInBounds_toArray, List.set_cons_zero, List.set_cons_succ, List.drop_succ_cons, List.drop_zero, List.length_cons, List.length_nil]
          clear hvs e0 e1 e2 e3 e4 e5 e6 e7 e8 e9 e10 e11 e12 e13 e14 e15 e16 e17 e18 e19 e20 e21 e22 e23 e24 e25 e26 e27 e28 e29 e30 e31 e32 e33
          have hB2 := hB1.trans (hW1.mono hB1.size)
          have hl2 := Nat.lt_of_lt_of_le hl hW1.size
          have k02 := (hW1.cell (p := ⟨w.heap.size, 1, none⟩) hl).trans k01
          clear hW1 hB1 k01 hcell hl hbl
          have HF5 : Hid (Below w.heap.size w (wn.alloc (Obj.cells #[Value.int .u8 (48 + (d0 : Int)), Value.int .u8 (48 + (d1 : Int)), Value.int .u8 (48 + (d2 : Int)), Value.int .u8 (48 + (d3 : Int))] 5)) ∧
              w.heap.size < (wn.alloc (Obj.cells #[Value.int .u8 (48 + (d0 : Int)), Value.int .u8 (48 + (d1 : Int)), Value.int .u8 (48 + (d2 : Int)), Value.int .u8 (48 + (d3 : Int))] 5)).heap.size ∧
              (wn.alloc (Obj.cells #[Value.int .u8 (48 + (d0 : Int)), Value.int .u8 (48 + (d1 : Int)), Value.int .u8 (48 + (d2 : Int)), Value.int .u8 (48 + (d3 : Int))] 5)).cell? ⟨w.heap.size, 1, none⟩ = some (.slice (some ⟨b, o, none⟩) n c) ∧
              ∀ i, i < 4 → (wn.alloc (Obj.cells #[Value.int .u8 (48 + (d0 : Int)), Value.int .u8 (48 + (d1 : Int)), Value.int .u8 (48 + (d2 : Int)), Value.int .u8 (48 + (d3 : Int))] 5)).cell? ⟨wn.heap.size, i, none⟩ = some (.int .u8 ((48 + _root_.Rad.pick4 d0 d1 d2 d3 i : Nat) : Int))) := by
            refine ⟨hB2.alloc (Nat.le_of_lt hl2) _, by simp; omega, ?_, fun i hi => ?_⟩
            · exact ((bel1 wn _).cell (p := ⟨w.heap.size, 1, none⟩) hl2).trans k02
            · rw [World.cell?_alloc_at (w := wn) _ _ wn.heap.size i rfl]
              unfold _root_.Rad.pick4
              match i, hi with
              | 0, _ => rfl
              | 1, _ => rfl
              | 2, _ => rfl
              | 3, _ => rfl
          clear hB2
          by_cases ht : j + 1 = n
          · have e7 : (n : Int) - 1 = (j : Int) := by omega
            have hFl := (HFF.out.1 ht).2
            have HFL : Hid _ := hFl
            clear hFl
            go_wp2
            refine wp_world (fun w5 => Below w.heap.size w w5 ∧ w.heap.size < w5.heap.size ∧ w5.cell? ⟨w.heap.size, 1, none⟩ = some (.slice (some ⟨b, o, none⟩) n c) ∧ ∀ i, i < 4 → w5.cell? ⟨wn.heap.size, i, none⟩ = some (.int .u8 ((48 + _root_.Rad.pick4 d0 d1 d2 d3 i : Nat) : Int))) HF5.out ?_
            obtain ⟨g, hg⟩ : ∃ g, wn.heap.size = g := ⟨_, rfl⟩
            rw [hg]
            rintro w5 ⟨hB5, hl5, k5, hc5⟩
            have HC5 : Hid _ := hc5
            clear HF5 k02 hl2 hg hc5
            go_loop [6] (fun s6 => ∃ f : Nat, f ≤ F ∧ s6 = .int .i64 (f : Int)) (fun s6 => F - (intOf s6).toNat)
            case atStart => exact ⟨0, by omega, rfl⟩
            case round =>
              obtain ⟨f, hf, rfl⟩ := hrel
              by_cases hfF : f = F
              · subst hfF
                by_cases hf3 : f = 3
                · subst hf3
                  have hconv := run_convert_bytes_back (P := Tryz.prog) w5 91 9 5 ⟨g, 3, none⟩ (4 - 3) ((_root_.Rad.four d0 d1 d2 d3).drop 3) underlying91 underlying5 underlying9 (fun q hq => by
                    rw [Lib.add_plain]
                    have hq4 : 3 + q < 4 := by rw [List.length_drop] at hq; simp [_root_.Rad.four] at hq; omega
                    rw [List.getElem_drop, _root_.Rad.four_at d0 d1 d2 d3 (by simpa [_root_.Rad.four] using hq4) b0 b1 b2 b3]
                    exact HC5.out _ hq4)
                  rw [show ((_root_.Rad.four d0 d1 d2 d3).drop 3).length = 4 - 3 by rw [List.length_drop]; rfl] at hconv
                  obtain ⟨l4, hl4⟩ : ∃ l4, (_root_.Rad.four d0 d1 d2 d3).drop 3 = l4 := ⟨_, rfl⟩
                  rw [hl4] at hconv
                  have HL4 : Hid _ := hl4
                  have hl4s : l4.length ≤ 4 := by rw [← hl4, List.length_drop]; simp [_root_.Rad.four]
                  have HBB : Hid _ := hB5
                  clear hl4 hB5
                  go_wp2
                  refine ⟨⟨j, s ++ ⟨l4.toArray⟩, by omega, by go_num, rfl, ?_, ?_, HBB.out, hl5, k5⟩, by simp [intOf]⟩
                  · rw [ba_app, ba_mk, ← HL4.out, HGG.out]; exact HNEXT.out
                  · rw [ByteArray.size_append]; show s.size + l4.length ≤ _; omega
                · have hcf := HC5.out f (by omega)
                  have hne := _root_.Rad.lead_stop (d0 := d0) (d1 := d1) (d2 := d2) (d3 := d3) (by rw [← HFL.out]; omega)
                  rw [← HFL.out] at hne
                  obtain ⟨p, hp⟩ : ∃ p, _root_.Rad.pick4 d0 d1 d2 d3 f = p := ⟨_, rfl⟩
                  rw [hp] at hcf hne
                  have hne' : ¬ ((48 + p : Nat) : Int) = 48 := by omega
                  have hne'' : ¬ (48 : Int) + (p : Int) = 48 := by omega
                  have hf3' : (f : Int) < 3 := by omega
                  have hf4 : f < 4 := by omega
                  clear hp
                  have hconv := run_convert_bytes_back (P := Tryz.prog) w5 91 9 5 ⟨g, f, none⟩ (4 - f) ((_root_.Rad.four d0 d1 d2 d3).drop f) underlying91 underlying5 underlying9 (fun q hq => by
                    rw [Lib.add_plain]
                    have hq4 : f + q < 4 := by rw [List.length_drop] at hq; simp [_root_.Rad.four] at hq; omega
                    rw [List.getElem_drop, _root_.Rad.four_at d0 d1 d2 d3 (by simpa [_root_.Rad.four] using hq4) b0 b1 b2 b3]
                    exact HC5.out _ hq4)
                  rw [show ((_root_.Rad.four d0 d1 d2 d3).drop f).length = 4 - f by rw [List.length_drop]; rfl] at hconv
                  obtain ⟨l4, hl4⟩ : ∃ l4, (_root_.Rad.four d0 d1 d2 d3).drop f = l4 := ⟨_, rfl⟩
                  rw [hl4] at hconv
                  have HL4 : Hid _ := hl4
                  have hl4s : l4.length ≤ 4 := by rw [← hl4, List.length_drop]; simp [_root_.Rad.four]
                  have HBB : Hid _ := hB5
                  clear hl4 hB5
                  go_wp2
                  refine ⟨⟨j, s ++ ⟨l4.toArray⟩, by omega, by go_num, rfl, ?_, ?_, HBB.out, hl5, k5⟩, by simp [intOf]⟩
                  · rw [ba_app, ba_mk, ← HL4.out, HGG.out]; exact HNEXT.out
                  · rw [ByteArray.size_append]; show s.size + l4.length ≤ _; omega
              · have hcf := HC5.out f (by omega)
                have hz := _root_.Rad.lead_zero (d0 := d0) (d1 := d1) (d2 := d2) (d3 := d3) (i := f) (by rw [← HFL.out]; omega)
                rw [hz] at hcf
                have hf3' : (f : Int) < 3 := by omega
                have hf4 : f < 4 := by omega
                clear hz
                go_wp2
                exact ⟨⟨f + 1, by omega, by go_num⟩, by simp [intOf]; omega⟩
          · have e7 : ¬ (j : Int) = (n : Int) - 1 := by omega
            have hF0 := (HFF.out.2 ht).2
            subst hF0
            go_wp2
            refine wp_world (fun w5 => Below w.heap.size w w5 ∧ w.heap.size < w5.heap.size ∧ w5.cell? ⟨w.heap.size, 1, none⟩ = some (.slice (some ⟨b, o, none⟩) n c) ∧ ∀ i, i < 4 → w5.cell? ⟨wn.heap.size, i, none⟩ = some (.int .u8 ((48 + _root_.Rad.pick4 d0 d1 d2 d3 i : Nat) : Int))) HF5.out ?_
            obtain ⟨g, hg⟩ : ∃ g, wn.heap.size = g := ⟨_, rfl⟩
            rw [hg]
            rintro w5 ⟨hB5, hl5, k5, hc5⟩
            have HC5 : Hid _ := hc5
            clear HF5 k02 hl2 hg hc5
            go_loop [6] (fun s6 => s6 = .int .i64 0) (fun s6 => 0)
            case atStart => rfl
            case round =>
              obtain rfl := hrel
              have hconv := run_convert_bytes_back (P := Tryz.prog) w5 91 9 5 ⟨g, 0, none⟩ (4 - 0) ((_root_.Rad.four d0 d1 d2 d3).drop 0) underlying91 underlying5 underlying9 (fun q hq => by
                rw [Lib.add_plain]
                have hq4 : 0 + q < 4 := by rw [List.length_drop] at hq; simp [_root_.Rad.four] at hq; omega
                rw [List.getElem_drop, _root_.Rad.four_at d0 d1 d2 d3 (by simpa [_root_.Rad.four] using hq4) b0 b1 b2 b3]
                exact HC5.out _ hq4)
              rw [show ((_root_.Rad.four d0 d1 d2 d3).drop 0).length = 4 - 0 by rw [List.length_drop]; rfl] at hconv
              obtain ⟨l4, hl4⟩ : ∃ l4, (_root_.Rad.four d0 d1 d2 d3).drop 0 = l4 := ⟨_, rfl⟩
              rw [hl4] at hconv
              have HL4 : Hid _ := hl4
              have hl4s : l4.length ≤ 4 := by rw [← hl4, List.length_drop]; simp [_root_.Rad.four]
              have HBB : Hid _ := hB5
              clear hl4 hB5
              go_wp2
              refine ⟨⟨j, s ++ ⟨l4.toArray⟩, by omega, by go_num, rfl, ?_, ?_, HBB.out, hl5, k5⟩, by simp [intOf]⟩
              · rw [ba_app, ba_mk, ← HL4.out, HGG.out]; exact HNEXT.out
              · rw [ByteArray.size_append]; show s.size + l4.length ≤ _; omega



set_option maxRecDepth 10000 in
theorem zText_any (w : World) (v : Value) (z : Int) (LX : Nat) (hx : IsZ w v z) (hbx : z.natAbs < 10000 ^ LX) (hL : LX ≤ 1073741824) :
    Calls Tryz.prog 15 #[v] w fun e w' => e = .returned (.string ⟨(txt z).toArray⟩) ∧ Below w.heap.size w w' := by
  by_cases hz0 : z = 0
  · obtain ⟨sx, a, n, c, rfl⟩ := hx.form
    obtain ⟨hsx, hd⟩ := hx.dg
    have hn : n = 0 := hd.zero_iff.1 (by rw [hz0]; rfl)
    subst hz0 hn
    have ht : txt 0 = [48] := by
      unfold txt
      rw [show (0 : Int) = ((0 : Nat) : Int) from rfl, Lib.itoa_nonneg, Lib.decDigits_one (by decide)]; rfl
    rw [ht]
    clear hx hd hbx hsx
    go_enter Tryz.func15, Tryz.ntmps15
    go_wp2
    go_ret
    exact ⟨rfl, bel1 _ _⟩
  · exact zText_pos w v z LX hx hbx hL hz0
end Go.Proofs.YtjlkplidpdhgbaaGreatDoor
