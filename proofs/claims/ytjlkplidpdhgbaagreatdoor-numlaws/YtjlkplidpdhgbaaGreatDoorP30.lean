/- A part of the proof: W31, W32. -/
import Derived.Test.YtjlkplidpdhgbaaGreatDoorP29
import Derived.Test.YtjlkplidpdhgbaaGreatDoorP06
import Derived.Deep.RegionHeld
import Derived.Lib.MakeNoZero
import Derived.Deep.RegionHeld3
set_option linter.all false

namespace Go.Proofs.YtjlkplidpdhgbaaGreatDoor
open Go Go.Proofs Go.RowKit Go.Rad


theorem Mag.chg8 {w w' : World} {v : Value} {x n b lo hi : Nat} (h : Mag w v x n) (hc : Chg w w' b lo hi) (h8 : ∀ i, lo ≤ i → i < hi → ∃ y, w.cell? ⟨b, i, none⟩ = some (.int .u8 y)) : Mag w' v x n := by
  obtain ⟨ao, b', o', c', hv, hs, hcc, ha, hx, hr⟩ := h
  have hap : ∀ i, i < n → b' ≠ b ∨ o' + i < lo ∨ hi ≤ o' + i := fun i hi' => by
    by_cases h1 : b' = b
    · subst h1
      refine .inr (Classical.byContradiction fun hcon => ?_)
      obtain ⟨y, hy⟩ := h8 (o' + i) (by omega) (by omega)
      rw [(ha i hi').1] at hy
      simp at hy
    · exact .inl h1
  have hcell : ∀ i, i < n → w'.cell? ⟨b', o' + i, none⟩ = w.cell? ⟨b', o' + i, none⟩ := fun i hi' => hc.cellAt (ha.lt (by omega)) (hap i hi')
  refine ⟨ao, b', o', c', hv, hs, hcc, fun i hi' => ?_, (num_congr fun i hi' => word_of_cell (hcell i hi')).trans hx, ?_⟩
  · rw [word_of_cell (hcell i hi'), hcell i hi']; exact ha i hi'
  · rcases hr with hr | hr
    · exact .inl hr
    · by_cases h0 : n = 0
      · exact .inl h0
      · right; rw [word_of_cell (hcell (n - 1) (by omega))]; exact hr
theorem Dig.bytes {w : World} {b o n m x : Nat} (h : Dig w b o n m x) (hm : m ≤ n) : ∀ i, o + (n - m) ≤ i → i < o + n → ∃ y, w.cell? ⟨b, i, none⟩ = some (.int .u8 y) := fun i h1 h2 => by
  have := h (o + n - 1 - i) (by omega)
  rw [show o + (n - 1 - (o + n - 1 - i)) = i by omega] at this
  exact ⟨_, this⟩
/-- The ladder's powers: the i-th is 10 to the D 2^i. -/
def Lad (w : World) (bp op D K : Nat) : Prop := ∀ i, i < K → ∃ v n, w.cell? ⟨bp, op + i, none⟩ = some v ∧ Mag w v (10 ^ (D * 2 ^ i)) n ∧ n ≤ 35184372088832
theorem Lad.below {w w' : World} {bp op D K : Nat} (h : Lad w bp op D K) (hb : Below w.heap.size w w') : Lad w' bp op D K := fun i hi => by
  obtain ⟨v, n, h1, h2, h3⟩ := h i hi
  exact ⟨v, n, (hb.cell (p := ⟨bp, op + i, none⟩) (block_lt h1)).trans h1, h2.below hb, h3⟩
theorem Lad.chg8 {w w' : World} {bp op D K b lo hi : Nat} (h : Lad w bp op D K) (hc : Chg w w' b lo hi) (h8 : ∀ i, lo ≤ i → i < hi → ∃ y, w.cell? ⟨b, i, none⟩ = some (.int .u8 y)) : Lad w' bp op D K := fun i hi' => by
  obtain ⟨v, n, h1, h2, h3⟩ := h i hi'
  refine ⟨v, n, ?_, h2.chg8 hc h8, h3⟩
  rw [hc.cellAt (block_lt h1) ?_]; · exact h1
  by_cases hb : bp = b
  · subst hb
    refine .inr (Classical.byContradiction fun hcon => ?_)
    obtain ⟨y, hy⟩ := h8 (op + i) (by omega) (by omega)
    rw [h1] at hy
    obtain rfl := Option.some.inj hy
    obtain ⟨ao, b', o', c', hv, _⟩ := h2
    exact Value.noConfusion hv
  · exact .inl hb
/-- What a change of the text leaves of digits elsewhere in it. -/
theorem Dig.chg {w w' : World} {b o n m x lo hi : Nat} (h : Dig w b o n m x) (hc : Chg w w' b lo hi) (hd : ∀ i, i < m → o + (n - 1 - i) < lo ∨ hi ≤ o + (n - 1 - i)) : Dig w' b o n m x := fun i hi' => by
  rw [hc.cell _ (hd i hi')]; exact h i hi'

/-- A new block first, then a change. -/
theorem chg_first {w w1 w' : World} {b lo hi : Nat} (h : Below w.heap.size w w1) (k : Chg w1 w' b lo hi) (hb : b < w.heap.size) : Chg w w' b lo hi := (chg_below h hb).trans k

/-- What write is asked, and what it leaves. -/
def WriteOk (K k : Nat) : Prop :=
  ∀ (w : World) (ap : Option Addr) (kp cp bp op D b o n c m : Nat) (v : Value) (x nx : Nat), Sl ap bp op kp → k ≤ K → K ≤ kp → kp ≤ 35184372088832 → kp ≤ cp → Lad w bp op D K → 0 < D → D * 2 ^ K ≤ 1099511627776 →
    0 < n → m ≤ n → n ≤ 1099511627776 → n ≤ c → c ≤ 9223372036854775807 → Dig w b o n m 0 → Free w b o n → Mag w v x nx → nx < 160 → x < 10 ^ m → b < w.heap.size →
    Calls Tryz.prog 72 #[.agg #[.int .i64 D, .slice ap kp cp], .slice (some ⟨b, o, none⟩) n c, v, .int .i64 k] w fun e w' => e = .returned (.tuple #[]) ∧ Chg w w' b (o + (n - m)) (o + n) ∧ Dig w' b o n m x

set_option maxRecDepth 10000 in
set_option maxHeartbeats 1000000 in
theorem write_zero (K : Nat) : WriteOk K 0 := by
  intro w ap kp cp bp op D b o n c m v x nx hs hk hK hkp hcp hL hD0 hD hn0 hm hn hnc hcm hz hf hx hnx hxm hb
  have B1 := bel1 w (Obj.cells #[Value.int IntKind.i64 D, Value.slice ap kp cp] 95)
  have CW := writeChunks_any (w.alloc (Obj.cells #[Value.int IntKind.i64 D, Value.slice ap kp cp] 95)) b o n c m v x nx hn0 hm hn
    (fun i hi => (B1.cell (p := ⟨b, o + (n - 1 - i), none⟩) hb).trans (hz i hi)) (free_below hf B1 hb) (hx.below B1) (by omega) hxm (by simp; omega) hnc
  have HB : Hid (b < w.heap.size) := hb
  clear hz hf hx hb hL
  go_enter Tryz.func72, Tryz.ntmps72
  go_wp2_with (go_at_call 108; fail)
  refine CW.mono ?_
  rintro e w1 ⟨rfl, h1, h2⟩
  clear CW
  go_wp2
  refine bodyPost_ret (results_none rfl _ _ _) rfl ?_
  exact ⟨rfl, chg_first B1 h1 HB.out, h2⟩

theorem digit_low {x e i : Nat} (hi : i < e) : x % 10 ^ e / 10 ^ i % 10 = x / 10 ^ i % 10 := by
  have e1 : (10 : Nat) ^ e = 10 ^ i * 10 ^ (e - i) := by rw [← Nat.pow_add]; congr 1; omega
  rw [e1, Nat.mod_mul_right_div_self]
  obtain ⟨k, hk⟩ : ∃ k, e - i = k + 1 := ⟨e - i - 1, by omega⟩
  rw [hk, Nat.pow_succ, Nat.mul_comm]
  exact Nat.mod_mod_of_dvd _ ⟨_, rfl⟩
theorem digit_high {x e i : Nat} (hi : e ≤ i) : x / 10 ^ e / 10 ^ (i - e) % 10 = x / 10 ^ i % 10 := by
  rw [Nat.div_div_eq_div_mul, ← Nat.pow_add, show e + (i - e) = i by omega]

set_option maxRecDepth 10000 in
set_option maxHeartbeats 2000000 in
theorem write_step (K k : Nat) (ih : WriteOk K k) (hkK : k + 1 ≤ K) : WriteOk K (k + 1) := by
  intro w ap kp cp bp op D b o n c m v x nx hs hk hK hkp hcp hL hD0 hD hn0 hm hn hnc hcm hz hf hx hnx hxm hb
  obtain rfl := hs (by omega)
  obtain ⟨DD, hDD⟩ : ∃ e, D * 2 ^ k = e := ⟨_, rfl⟩
  have hDle : DD ≤ 1099511627776 := by
    rw [← hDD]
    exact Nat.le_trans (Nat.mul_le_mul_left D (Nat.pow_le_pow_right (by decide) (by omega))) hD
  have hDpos : 0 < DD := by rw [← hDD]; exact Nat.mul_pos hD0 (Nat.pow_pos (by decide))
  have B1 := bel1 w (Obj.cells #[Value.int IntKind.i64 D, Value.slice (some ⟨bp, op, none⟩) kp cp] 95)
  have hsz1 : (w.alloc (Obj.cells #[Value.int IntKind.i64 D, Value.slice (some ⟨bp, op, none⟩) kp cp] 95)).heap.size = w.heap.size + 1 := by simp
  obtain ⟨pv, pn, hpc, hpm, hpn⟩ := (hL.below B1) k (by omega)
  rw [hDD] at hpm
  have hPpos : 0 < 10 ^ DD := Nat.pow_pos (by decide)
  have hpn0 : 0 < pn := by
    rcases Nat.eq_zero_or_pos pn with h | h
    · have := hpm.zero_iff.2 h; omega
    · exact h
  have CD := divWords_any _ v pv x (10 ^ DD) nx pn (hx.below B1) hpm hpn0 hnx hpn
  have HX : Hid _ := hx
  have HL : Hid _ := hL
  have HZ : Hid _ := hz
  have HF : Hid _ := hf
  have HB : Hid (b < w.heap.size) := hb
  have HPM : Hid _ := hpm
  have e1 : ((k + 1 : Nat) : Int) - 1 = (k : Int) := by omega
  have hkk : (k : Int) < (kp : Int) := by omega
  have hk0 : ¬ ((k + 1 : Nat) : Int) = 0 := by omega
  have BB1 : Hid _ := B1
  clear hx hL hz hf hb hpm B1
  go_enter Tryz.func72, Tryz.ntmps72
  go_wp2_with (go_at_call 109; fail)
  refine CD.mono ?_
  rintro e w2 ⟨vq, vr, nq, nr, rfl, hb2, hmq, hmr⟩
  clear CD
  obtain ⟨qa, qb, qo, qc, rfl, _⟩ := id hmq
  have B2 : Below w.heap.size w w2 := BB1.out.trans (hb2.mono (by rw [hsz1]; omega))
  have k0 := (hb2.cell (p := ⟨w.heap.size, 0, none⟩) (by rw [hsz1]; show w.heap.size < _; omega)).trans (by simp [go_sem] : _ = some (.int .i64 (D : Int)))
  have k1 := (hb2.cell (p := ⟨w.heap.size, 1, none⟩) (by rw [hsz1]; show w.heap.size < _; omega)).trans (by simp [go_sem] : _ = some (.slice (some ⟨bp, op, none⟩) kp cp))
  have L2 : Lad w2 bp op D K := Lad.below HL.out B2
  have Z2 : Dig w2 b o n m 0 := fun i hi => (B2.cell (p := ⟨b, o + (n - 1 - i), none⟩) HB.out).trans (HZ.out i hi)
  have F2 := free_below HF.out B2 HB.out
  have lb2 : b < w2.heap.size := Nat.lt_of_lt_of_le HB.out B2.size
  have l2 : w.heap.size < w2.heap.size := Nat.lt_of_lt_of_le (by rw [hsz1]; omega) hb2.size
  have HB2 : Hid _ := B2
  have HD2 : Hid _ := hDD
  clear hb2 hpc B2 hsz1 hDD
  by_cases hq0 : nq = 0
  · subst hq0
    have hx0 : x / 10 ^ DD = 0 := hmq.zero_iff.2 rfl
    have hxlt : x < 10 ^ DD := (Nat.div_eq_zero_iff_lt hPpos).1 hx0
    rw [Nat.mod_eq_of_lt hxlt] at hmr
    have hnr : nr < 160 := Nat.lt_of_le_of_lt (hmr.len_le (Mag.lt HX.out)) hnx
    have CW := ih w2 (some ⟨bp, op, none⟩) kp cp bp op D b o n c m vr x nr (Sl.mk _ _ _) (by omega) hK hkp hcp L2 hD0 hD hn0 hm hn hnc hcm Z2 F2 hmr hnr hxm lb2
    have HK : Hid _ := And.intro k0 k1
    clear L2 Z2 F2 hmq hmr
    go_wp2_with (go_at_call 72; fail)
    refine CW.mono ?_
    rintro e w3 ⟨rfl, h1, h2⟩
    clear CW
    go_wp2
    go_end0
    exact ⟨rfl, chg_first HB2.out h1 HB.out, h2⟩
  · have hqp := hmq.pos (by omega)
    have hPx : 10 ^ DD ≤ x := by
      refine Nat.le_of_not_lt fun h => ?_
      rw [Nat.div_eq_of_lt h] at hqp; omega
    have hDm : DD < m := (Nat.pow_lt_pow_iff_right (by decide : 1 < 10)).1 (Nat.lt_of_le_of_lt hPx hxm)
    have hnq : nq < 160 := Nat.lt_of_le_of_lt (hmq.len_le (Nat.lt_of_le_of_lt (Nat.div_le_self _ _) (Mag.lt HX.out))) hnx
    have hnr : nr < 160 := Nat.lt_of_le_of_lt (hmr.len_le (Nat.lt_of_le_of_lt (Nat.mod_le _ _) (Mag.lt HX.out))) hnx
    have hxq : x / 10 ^ DD < 10 ^ (m - DD) := by
      refine Nat.div_lt_of_lt_mul ?_
      rw [← Nat.pow_add, show DD + (m - DD) = m by omega]; exact hxm
    have Zq : Dig w2 b o (n - DD) (m - DD) 0 := fun i hi => by
      have := Z2 (i + DD) (by omega)
      rw [Nat.zero_div, Nat.zero_mod] at this ⊢
      rw [show o + (n - DD - 1 - i) = o + (n - 1 - (i + DD)) by omega]; exact this
    have hnq0 : (0 : Int) < (nq : Int) := by omega
    have e2 : IntKind.i64.wrap ((D : Int) * 2 ^ k) = (DD : Int) := by
      rw [show (D : Int) * 2 ^ k = ((D * 2 ^ k : Nat) : Int) by rw [Int.natCast_mul, Int.natCast_pow]; rfl, HD2.out, IntKind.wrap_i64]; omega
    have hcd : ¬ c = n - DD := by omega
    have hk40 : k < 41 := by
      refine (Nat.pow_lt_pow_iff_right (by decide : 1 < 2)).1 ?_
      have h1 := Nat.le_mul_of_pos_left (2 ^ k) hD0
      rw [HD2.out] at h1
      exact Nat.lt_of_le_of_lt h1 (by omega)
    have hmin : min k 64 = k := by omega
    have i0 : IntKind.i64.wrap (k : Int) = (k : Int) := by rw [IntKind.wrap_i64]; omega
    have i4 : IntKind.i64.wrap ((n : Int) - (DD : Int)) = (n : Int) - (DD : Int) := by rw [IntKind.wrap_i64]; omega
    have i5 : DD ≤ n := by omega
    have i1 : (0 : Int) ≤ (n : Int) - (DD : Int) := by omega
    have i2 : (n : Int) - (DD : Int) ≤ (c : Int) := by omega
    have i3 : ((n : Int) - (DD : Int)).toNat = n - DD := by omega
    have hMR : Hid _ := hmr
    have hMQ : Hid _ := hmq
    clear hmr hmq
    go_wp2
    refine wp_world (fun w1 => w1 = w2) rfl ?_
    rintro w1 rfl
    refine wp_drawn mixed [⟨29, [], [], [4]⟩, ⟨30, [], [], [1]⟩, ⟨31, [], [], [1]⟩, ⟨32, [2], [2], []⟩, ⟨33, [], [], [4]⟩, ⟨34, [4], [4], []⟩, ⟨35, [], [], [3]⟩, ⟨36, [6], [6], []⟩, ⟨37, [5, 7], [4, 5, 6, 7], []⟩, ⟨38, [3, 8], [2, 3, 4, 5, 6, 7, 8], []⟩, ⟨39, [1, 9], [1, 2, 3, 4, 5, 6, 7, 8, 9], []⟩, ⟨40, [], [], [8]⟩, ⟨41, [], [], [3]⟩, ⟨42, [12], [12], []⟩] [] (by kernel_rfl) 50 rfl (by kernel_rfl) (fun (i : Nat) (v : Value) (wq : World) => match i with | 0 => v = .agg #[.int .i64 ((D : Int)), .slice (some ⟨bp, op, none⟩) (kp) (cp)] | 1 => v = .slice (some ⟨b, o, none⟩) (n) (c) | 2 => v = .slice (some ⟨b, o, none⟩) (n) (c) | 3 => v = .int .i64 ((n : Int)) | 4 => v = .pointer (some ⟨w.heap.size, 0, none⟩) | 5 => v = .int .i64 ((D : Int)) | 6 => v = .int .i64 (((k + 1 : Nat) : Int)) | 7 => v = .int .i64 ((k : Int)) | 8 => v = .int .i64 ((DD : Int)) | 9 => v = .int .i64 ((n : Int) - (DD : Int)) | 10 => v = .slice (some ⟨b, o, none⟩) (n - DD) (c) | 11 => v = .slice qa (nq) (qc) | 12 => v = .int .i64 (((k + 1 : Nat) : Int)) | 13 => v = .int .i64 ((k : Int)) | _ => True) (fun _ wq => Below w1.heap.size w1 wq) (fun wx wy => Below wx.heap.size wx wy) (Below.refl _ _).drew (fun i v wx wy h hx => match i, h with | 0, h => h | 1, h => h | 2, h => h | 3, h => h | 4, h => h | 5, h => h | 6, h => h | 7, h => h | 8, h => h | 9, h => h | 10, h => h | 11, h => h | 12, h => h | 13, h => h  | n + 14, _ => trivial) ?_ ?_
    · intro i o r ho hr L fr wx hW hL hpr hds hdef hpre hfree
      clear hL hpr hds hdef
      match i, ho, hr with
      | 0, ho, hr =>
        obtain rfl := Option.some.inj ho; obtain rfl := Option.some.inj hr
        have t4 := ev_tmp (show fr.eval (.tmp 4) = .pointer (some ⟨w.heap.size, 0, none⟩) from hfree 4 (by decide))
        clear hpre hfree
        have c0 := (hW.cell (p := ⟨w.heap.size, 0, none⟩) l2).trans k0
        have c1 := (hW.cell (p := ⟨w.heap.size, 1, none⟩) l2).trans k1
        refine stpK rfl rfl fun K hK => ?_
        go_simp
        exact hK _ _ ⟨rfl, hW, Below.refl _ _, fun h => (List.not_mem_nil h).elim⟩
      | 1, ho, hr =>
        obtain rfl := Option.some.inj ho; obtain rfl := Option.some.inj hr
        have t1 := ev_tmp (show fr.eval (.tmp 1) = .slice (some ⟨b, o, none⟩) (n) (c) from hfree 1 (by decide))
        clear hpre hfree
        refine stpK rfl rfl fun K hK => ?_
        go_simp
        exact hK _ _ ⟨rfl, hW, Below.refl _ _, fun h => (List.not_mem_nil h).elim⟩
      | 2, ho, hr =>
        obtain rfl := Option.some.inj ho; obtain rfl := Option.some.inj hr
        have t1 := ev_tmp (show fr.eval (.tmp 1) = .slice (some ⟨b, o, none⟩) (n) (c) from hfree 1 (by decide))
        clear hpre hfree
        refine stpK rfl rfl fun K hK => ?_
        go_simp
        exact hK _ _ ⟨rfl, hW, Below.refl _ _, fun h => (List.not_mem_nil h).elim⟩
      | 3, ho, hr =>
        obtain rfl := Option.some.inj ho; obtain rfl := Option.some.inj hr
        have e2 := ev_tmp (show fr.eval (.tmp 31) = .slice (some ⟨b, o, none⟩) (n) (c) from hpre 2 (by decide) _ rfl)
        clear hpre hfree
        refine stpK rfl rfl fun K hK => ?_
        go_simp
        exact hK _ _ ⟨rfl, hW, Below.refl _ _, fun h => (List.not_mem_nil h).elim⟩
      | 4, ho, hr =>
        obtain rfl := Option.some.inj ho; obtain rfl := Option.some.inj hr
        have t4 := ev_tmp (show fr.eval (.tmp 4) = .pointer (some ⟨w.heap.size, 0, none⟩) from hfree 4 (by decide))
        clear hpre hfree
        refine stpK rfl rfl fun K hK => ?_
        go_simp
        exact hK _ _ ⟨rfl, hW, Below.refl _ _, fun h => (List.not_mem_nil h).elim⟩
      | 5, ho, hr =>
        obtain rfl := Option.some.inj ho; obtain rfl := Option.some.inj hr
        have e4 := ev_tmp (show fr.eval (.tmp 33) = .pointer (some ⟨w.heap.size, 0, none⟩) from hpre 4 (by decide) _ rfl)
        clear hpre hfree
        have c0 := (hW.cell (p := ⟨w.heap.size, 0, none⟩) l2).trans k0
        refine stpK rfl rfl fun K hK => ?_
        go_simp
        exact hK _ _ ⟨rfl, hW, Below.refl _ _, fun h => (List.not_mem_nil h).elim⟩
      | 6, ho, hr =>
        obtain rfl := Option.some.inj ho; obtain rfl := Option.some.inj hr
        have t3 := ev_tmp (show fr.eval (.tmp 3) = .int .i64 (((k + 1 : Nat) : Int)) from hfree 3 (by decide))
        clear hpre hfree
        refine stpK rfl rfl fun K hK => ?_
        go_simp
        exact hK _ _ ⟨rfl, hW, Below.refl _ _, fun h => (List.not_mem_nil h).elim⟩
      | 7, ho, hr =>
        obtain rfl := Option.some.inj ho; obtain rfl := Option.some.inj hr
        have e6 := ev_tmp (show fr.eval (.tmp 35) = .int .i64 (((k + 1 : Nat) : Int)) from hpre 6 (by decide) _ rfl)
        clear hpre hfree
        refine stpK rfl rfl fun K hK => ?_
        go_simp
        exact hK _ _ ⟨rfl, hW, Below.refl _ _, fun h => (List.not_mem_nil h).elim⟩
      | 8, ho, hr =>
        obtain rfl := Option.some.inj ho; obtain rfl := Option.some.inj hr
        have e5 := ev_tmp (show fr.eval (.tmp 34) = .int .i64 ((D : Int)) from hpre 5 (by decide) _ rfl)
        have e7 := ev_tmp (show fr.eval (.tmp 36) = .int .i64 ((k : Int)) from hpre 7 (by decide) _ rfl)
        clear hpre hfree
        refine stpK rfl rfl fun K hK => ?_
        go_simp
        exact hK _ _ ⟨rfl, hW, Below.refl _ _, fun h => (List.not_mem_nil h).elim⟩
      | 9, ho, hr =>
        obtain rfl := Option.some.inj ho; obtain rfl := Option.some.inj hr
        have e3 := ev_tmp (show fr.eval (.tmp 32) = .int .i64 ((n : Int)) from hpre 3 (by decide) _ rfl)
        have e8 := ev_tmp (show fr.eval (.tmp 37) = .int .i64 ((DD : Int)) from hpre 8 (by decide) _ rfl)
        clear hpre hfree
        refine stpK rfl rfl fun K hK => ?_
        go_simp
        exact hK _ _ ⟨rfl, hW, Below.refl _ _, fun h => (List.not_mem_nil h).elim⟩
      | 10, ho, hr =>
        obtain rfl := Option.some.inj ho; obtain rfl := Option.some.inj hr
        have e1 := ev_tmp (show fr.eval (.tmp 30) = .slice (some ⟨b, o, none⟩) (n) (c) from hpre 1 (by decide) _ rfl)
        have e9 := ev_tmp (show fr.eval (.tmp 38) = .int .i64 ((n : Int) - (DD : Int)) from hpre 9 (by decide) _ rfl)
        clear hpre hfree
        refine stpK rfl rfl fun K hK => ?_
        go_simp
        exact hK _ _ ⟨rfl, hW, Below.refl _ _, fun h => (List.not_mem_nil h).elim⟩
      | 11, ho, hr =>
        obtain rfl := Option.some.inj ho; obtain rfl := Option.some.inj hr
        have t8 := ev_tmp (show fr.eval (.tmp 8) = .slice qa (nq) (qc) from hfree 8 (by decide))
        clear hpre hfree
        refine stpK rfl rfl fun K hK => ?_
        go_simp
        exact hK _ _ ⟨rfl, hW, Below.refl _ _, fun h => (List.not_mem_nil h).elim⟩
      | 12, ho, hr =>
        obtain rfl := Option.some.inj ho; obtain rfl := Option.some.inj hr
        have t3 := ev_tmp (show fr.eval (.tmp 3) = .int .i64 (((k + 1 : Nat) : Int)) from hfree 3 (by decide))
        clear hpre hfree
        refine stpK rfl rfl fun K hK => ?_
        go_simp
        exact hK _ _ ⟨rfl, hW, Below.refl _ _, fun h => (List.not_mem_nil h).elim⟩
      | 13, ho, hr =>
        obtain rfl := Option.some.inj ho; obtain rfl := Option.some.inj hr
        have e12 := ev_tmp (show fr.eval (.tmp 41) = .int .i64 (((k + 1 : Nat) : Int)) from hpre 12 (by decide) _ rfl)
        clear hpre hfree
        refine stpK rfl rfl fun K hK => ?_
        go_simp
        exact hK _ _ ⟨rfl, hW, Below.refl _ _, fun h => (List.not_mem_nil h).elim⟩
      | n + 14, ho, hr => exact absurd hr (by simp)
    · intro vs wn hvs hW1 hap0
      clear hap0
      have e0 : vs 0 = .agg #[.int .i64 ((D : Int)), .slice (some ⟨bp, op, none⟩) (kp) (cp)] := hvs 0 (by decide)
      have e1 : vs 1 = .slice (some ⟨b, o, none⟩) (n) (c) := hvs 1 (by decide)
      have e2 : vs 2 = .slice (some ⟨b, o, none⟩) (n) (c) := hvs 2 (by decide)
      have e3 : vs 3 = .int .i64 ((n : Int)) := hvs 3 (by decide)
      have e4 : vs 4 = .pointer (some ⟨w.heap.size, 0, none⟩) := hvs 4 (by decide)
      have e5 : vs 5 = .int .i64 ((D : Int)) := hvs 5 (by decide)
      have e6 : vs 6 = .int .i64 (((k + 1 : Nat) : Int)) := hvs 6 (by decide)
      have e7 : vs 7 = .int .i64 ((k : Int)) := hvs 7 (by decide)
      have e8 : vs 8 = .int .i64 ((DD : Int)) := hvs 8 (by decide)
      have e9 : vs 9 = .int .i64 ((n : Int) - (DD : Int)) := hvs 9 (by decide)
      have e10 : vs 10 = .slice (some ⟨b, o, none⟩) (n - DD) (c) := hvs 10 (by decide)
      have e11 : vs 11 = .slice qa (nq) (qc) := hvs 11 (by decide)
      have e12 : vs 12 = .int .i64 (((k + 1 : Nat) : Int)) := hvs 12 (by decide)
      have e13 : vs 13 = .int .i64 ((k : Int)) := hvs 13 (by decide)
      simp only [puts, Nat.reduceAdd, e0, e1, e2, e3, e4, e5, e6, e7, e8, e9, e10, e11, e12, e13, Act.put, List.setIfInBounds_toArray, List.set_cons_zero, List.set_cons_succ, List.drop_succ_cons, List.drop_zero, List.length_cons, List.length_nil]
      clear hvs e0 e1 e2 e3 e4 e5 e6 e7 e8 e9 e10 e11 e12 e13
      have k0n := (hW1.cell (p := ⟨w.heap.size, 0, none⟩) l2).trans k0
      have k1n := (hW1.cell (p := ⟨w.heap.size, 1, none⟩) l2).trans k1
      have Zqn : Dig wn b o (n - DD) (m - DD) 0 := fun i hi => (hW1.cell (p := ⟨b, o + (n - DD - 1 - i), none⟩) lb2).trans (Zq i hi)
      have Zn : Dig wn b o n m 0 := fun i hi => (hW1.cell (p := ⟨b, o + (n - 1 - i), none⟩) lb2).trans (Z2 i hi)
      have Fn := free_below F2 hW1 lb2
      have lbn : b < wn.heap.size := Nat.lt_of_lt_of_le lb2 hW1.size
      have ln : w.heap.size < wn.heap.size := Nat.lt_of_lt_of_le l2 hW1.size
      have Ln := L2.below hW1
      have CQ := ih wn (some ⟨bp, op, none⟩) kp cp bp op D b o (n - DD) c (m - DD) _ (x / 10 ^ DD) nq (Sl.mk _ _ _) (by omega) hK hkp hcp Ln hD0 hD (by omega) (by omega) (by omega) (by omega) hcm Zqn (free_sub0 Fn (by omega)) (Mag.below hMQ.out hW1) hnq hxq lbn
      have hMRn : Hid _ := Mag.below hMR.out hW1
      have HBn : Hid (Below w.heap.size w wn) := HB2.out.trans (hW1.mono HB2.out.size)
      have HZn : Hid _ := Zn
      have HFn : Hid _ := Fn
      have HLn : Hid _ := Ln
      clear k0 k1 Zq Z2 F2 L2 Zqn Zn Fn Ln hW1 hMR
      go_wp2_with (go_at_call 72; fail)
      refine CQ.mono ?_
      rintro e w3 ⟨rfl, hc3, hd3⟩
      clear CQ
      have hby : ∀ i, o + (n - DD - (m - DD)) ≤ i → i < o + (n - DD) → ∃ y, wn.cell? ⟨b, i, none⟩ = some (.int .u8 y) := fun i h1 h2 => Dig.bytes HZn.out hm i (by omega) (by omega)
      have bx : ∀ y, wn.cell? ⟨w.heap.size, 0, none⟩ ≠ some (.int .u8 y) := by rw [k0n]; intro y; simp
      have k03 := (hc3.cellAt ln (.inl (by have := HB.out; omega)) : w3.cell? ⟨w.heap.size, 0, none⟩ = _).trans k0n
      have k13 := (hc3.cellAt ln (.inl (by have := HB.out; omega)) : w3.cell? ⟨w.heap.size, 1, none⟩ = _).trans k1n
      have MR3 := Mag.chg8 hMRn.out hc3 hby
      have L3 := Lad.chg8 HLn.out hc3 hby
      have Z3 : Dig w3 b o n DD 0 := fun i hi => (hc3.cell _ (.inr (by omega))).trans (HZn.out i (by omega))
      have F3 := hc3.free HFn.out (fun _ => lbn)
      have lb3 : b < w3.heap.size := Nat.lt_of_lt_of_le lbn hc3.size
      have CR := ih w3 (some ⟨bp, op, none⟩) kp cp bp op D b o n c DD vr (x % 10 ^ DD) nr (Sl.mk _ _ _) (by omega) hK hkp hcp L3 hD0 hD hn0 (by omega) hn hnc hcm Z3 F3 MR3 hnr (Nat.mod_lt _ hPpos) lb3
      have HC3 : Hid (Chg w w3 b (o + (n - m)) (o + n)) := chg_first HBn.out (hc3.mono (by omega) (by omega)) HB.out
      have HD3 : Hid _ := hd3
      clear hby bx MR3 L3 Z3 F3 hc3 hd3 k0n k1n
      go_wp2_with (go_at_call 72; fail)
      refine CR.mono ?_
      rintro e w4 ⟨rfl, hc4, hd4⟩
      clear CR
      have HC4 : Hid (Chg w w4 b (o + (n - m)) (o + n)) := HC3.out.trans (hc4.mono (by omega) (by omega))
      have HD4 : Hid (Dig w4 b o n m x) := fun i hi => by
        by_cases h1 : i < DD
        · rw [hd4 i h1, digit_low h1]
        · have h3 := HD3.out (i - DD) (by omega)
          rw [show o + (n - DD - 1 - (i - DD)) = o + (n - 1 - i) by omega, digit_high (by omega)] at h3
          exact (hc4.cell (o + (n - 1 - i)) (.inl (by omega))).trans h3
      clear hc4 hd4
      go_wp2
      go_end0
      exact ⟨rfl, HC4.out, HD4.out⟩
theorem write_any (K : Nat) : ∀ k, k ≤ K → WriteOk K k
  | 0, _ => write_zero K
  | k + 1, h => write_step K k (write_any K k (by omega)) h
end Go.Proofs.YtjlkplidpdhgbaaGreatDoor

namespace Go.Proofs.YtjlkplidpdhgbaaGreatDoor
open Go Go.Proofs Go.RowKit Go.Rad

theorem underlying91 : Tryz.prog.underlying 91 = some (.slice 5) := by kernel_rfl
theorem size5 : (Tryz.prog.info? 5).map (·.size) = some 1 := by kernel_rfl

/-- Cells are there. -/
def Cells (w : World) (b o n : Nat) : Prop := ∀ i, i < n → (w.cell? ⟨b, o + i, none⟩).isSome = true
theorem cells_of_arr {k : IntKind} {β : Nat} {w : World} {b o n : Nat} (h : Arr k β w b o n) : Cells w b o n := fun i hi => by rw [arr_cell h hi]; rfl
theorem run_copyRow {P : Program} {w : World} (k : IntKind) (β : Nat) (dT sT ty : TypeId)
    (elem : TypeId) (hu : P.underlying dT = some (.slice elem)) (hsz : (P.info? elem).map (·.size) = some 1)
    (dp sp : Option Addr) (nd cd ns cs : Nat) (bd od bs os : Nat)
    (hdp : Sl dp bd od nd) (hsp : Sl sp bs os ns) (had : Cells w bd od nd) (hfd : Free w bd od nd) (has : Arr k β w bs os ns) :
    ∃ w', (Builtin.copy_ #[dT, sT] ty #[.slice dp nd cd, .slice sp ns cs]).run P w = .ok (.int .i64 (min ns nd : Nat)) w' ∧ Copied k β w w' bd od (min ns nd) bs os := by
  have hmin : Nat.min ns nd = min ns nd := rfl
  by_cases hn : min ns nd = 0
  · have hrun := run_copy_none (P := P) w dT sT ty elem dp sp nd cd ns cs hu hsz hn
    refine ⟨w, by rw [hn]; exact hrun, Chg.refl _ _ _ _, by rw [hn]; intro i hi; omega, by rw [hn]; intro i hi; omega⟩
  · obtain rfl := hdp (by omega)
    obtain rfl := hsp (by omega)
    have hrun := run_copy_cells (P := P) w dT sT ty elem bd od nd cd ⟨bs, os, none⟩ ns cs ((List.range (min ns nd)).map fun i => Value.int k ((word w bs (os + i) : Nat) : Int)) hu hsz
      (by simp [hmin]) (cells_list has (by omega)) (fun j hj => had j (by simp at hj; omega)) (fun j hj => hfd j (by simp at hj; omega))
      (fun v hv => by obtain ⟨_, _, rfl⟩ := List.mem_map.1 hv; rfl)
    simp only [List.length_map, List.length_range] at hrun
    have hcell : ∀ i, i < min ns nd → (w.setCells bd od ((List.range (min ns nd)).map fun i => Value.int k ((word w bs (os + i) : Nat) : Int))).cell? ⟨bd, od + i, none⟩ = some (.int k ((word w bs (os + i) : Nat) : Int)) := by
      intro i hi
      rw [World.cell?_setCells_in bd _ od w (fun j hj => had j (by simp at hj; omega)) i (by simpa using hi)]
      simp
    have hword : ∀ i, i < min ns nd → word (w.setCells bd od ((List.range (min ns nd)).map fun i => Value.int k ((word w bs (os + i) : Nat) : Int))) bd (od + i) = word w bs (os + i) :=
      fun i hi => word_eq (hcell i hi)
    refine ⟨_, hrun, ?_, fun i hi => ?_, hword⟩
    · have := setCells_chg bd ((List.range (min ns nd)).map fun i => Value.int k ((word w bs (os + i) : Nat) : Int)) od w
      simpa using this
    · rw [hword i hi]
      exact ⟨hcell i hi, arr_lt has (by omega)⟩
theorem step_copyRow {P : Program} {w : World} {ops : Array Oper} {o : Oper} {a : Act} {K : Act → World → Prop} {Q : Exit → Act → World → Prop} {E : Prop} (k : IntKind) (β : Nat)
    (hgd : o.guard = none) (d s : Operand) (dT sT : TypeId) (ho : o.op = .call { callee := .builtin .copy, args := #[d, s], argTypes := #[dT, sT] })
    (elem : TypeId) (hu : P.underlying dT = some (.slice elem)) (hsz : (P.info? elem).map (·.size) = some 1)
    (dp sp : Option Addr) (nd cd ns cs : Nat) (hd : a.eval d = .slice dp nd cd) (hs : a.eval s = .slice sp ns cs) (bd od bs os : Nat)
    (hdp : Sl dp bd od nd) (hsp : Sl sp bs os ns) (had : Cells w bd od nd) (hfd : Free w bd od nd) (has : Arr k β w bs os ns)
    (tt : Option Tmp) (htt : o.dst = tt) (h : ∀ w', Copied k β w w' bd od (min ns nd) bs os → K (a.put tt (.int .i64 (min ns nd : Nat))) w') :
    if Region.wanted o (yielded ops a.tmps) = true then Oper.wp P o a w K Q else E := by
  have hw : Region.wanted o (yielded ops a.tmps) = true := by simp [Region.wanted, hgd]
  rw [if_pos hw]
  obtain ⟨w', hr, hc⟩ := run_copyRow (P := P) (w := w) k β dT sT o.type elem hu hsz dp sp nd cd ns cs bd od bs os hdp hsp had hfd has
  unfold Oper.wp execOp
  simp only [ho, resolve, invoke, builtin, Sem.run_bind, Sem.run_pure, Result.andThen_ok, List.map_toArray, List.map_cons, List.map_nil, hd, hs, hr]
  subst htt
  exact h w' hc

theorem made_bytes {w : World} {cs : Array Value} {n : Nat} (hn : n ≤ cs.size) :
    Cells (w.alloc (.cells cs 5)) w.heap.size 0 n ∧ Free (w.alloc (.cells cs 5)) w.heap.size 0 n := by
  refine ⟨fun i hi => ?_, fun i hi => ?_⟩
  · rw [Nat.zero_add, World.cell?_alloc_at (w := w) cs 5 w.heap.size i rfl, Array.getElem?_eq_getElem (by omega)]; rfl
  · rw [Nat.zero_add]; exact World.frozen?_alloc_at (w := w) cs 5 w.heap.size i rfl

set_option maxRecDepth 10000 in
theorem bitsMul_any (x y : Nat) (hx : x < B) (hy : y < B) (w : World) : Calls Tryz.prog 106 #[.int .u64 x, .int .u64 y] w fun e w' => e = .returned (.tuple #[.int .u64 (hi (x * y) : Nat), .int .u64 (lo (x * y) : Nat)]) ∧ w' = w := by
  have l1 := lo_lt (x * y)
  have l2 := hi_lt (Nat.mul_lt_mul'' hx hy)
  unfold B at l1 l2
  go_enter Tryz.func106, Tryz.ntmps106
  go_wp2_with (go_at_call 85; refine (mul64 x y hx hy _).mono ?_; rintro e w' ⟨rfl, hw⟩; subst hw)
  go_ret2
  exact ⟨rfl, rfl⟩
end Go.Proofs.YtjlkplidpdhgbaaGreatDoor
