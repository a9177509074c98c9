/- A part of the proof: Kar2. -/
import Derived.Test.YtjlkplidpdhgbaaGreatDoorP03
import Derived.Test.YtjlkplidpdhgbaaGreatDoorP04
import Derived.Test.YtjlkplidpdhgbaaGreatDoorP05
set_option linter.all false

namespace Go.Proofs.YtjlkplidpdhgbaaGreatDoor
open Go Go.Proofs Go.RowKit Go.Rad

theorem mixed : Tryz.prog.follows .mixedOrders = true := by kernel_rfl

theorem enough_le : ∀ (f n m r : Nat), m ≤ n → enough f n r → enough f m r
  | 0, _, _, _, h, h1 => by unfold enough at *; omega
  | f + 1, n, m, r, h, h1 => by
    rcases h1 with h1 | ⟨h1, h2⟩
    · exact .inl (by omega)
    · by_cases h48 : m < 48
      · exact .inl h48
      · exact .inr ⟨by omega, enough_mono f _ _ _ (by omega) (enough_le f _ _ _ (by omega) h2)⟩

def R2 (bz zl zh br rl rh : Nat) : Nat → Nat → Prop := fun k i => (k = bz ∧ zl ≤ i ∧ i < zh) ∨ (k = br ∧ rl ≤ i ∧ i < rh)
/-- Two rows share no cell. -/
def Dj (b o n c p m : Nat) : Prop := 0 < n → 0 < m → b ≠ c ∨ o + n ≤ p ∨ p + m ≤ o

theorem row_sub0 {k : IntKind} {β : Nat} {w : World} {b o n m : Nat} (h : Arr k β w b o n) (hm : m ≤ n) : Arr k β w b o m := fun i hi => h i (by omega)
theorem free_sub0 {w : World} {b o n m : Nat} (h : Free w b o n) (hm : m ≤ n) : Free w b o m := fun i hi => h i (by omega)
theorem chgS_undrew {w w' : World} {S : Nat → Nat → Prop} (h : ChgS w.drew w' S) : ChgS w w' S := ⟨h.os, h.tape, h.output, h.size, h.block, h.cell, h.froz⟩
theorem chg_undrew {w w' : World} {b lo hi : Nat} (h : Chg w.drew w' b lo hi) : Chg w w' b lo hi := ⟨h.os, h.tape, h.output, h.size, h.block, h.cell, h.froz⟩
theorem not_R2 {bz zl zh br rl rh c i : Nat} (h1 : c ≠ bz ∨ i < zl ∨ zh ≤ i) (h2 : c ≠ br ∨ i < rl ∨ rh ≤ i) : ¬ R2 bz zl zh br rl rh c i := by
  unfold R2; omega

/-- What mulHalves is asked, and what it leaves. -/
def MulHalves (f n : Nat) : Prop :=
  ∀ (w : World) (bz oz cz bx ox cx byy oy cy br orr r cr : Nat), n ≤ 35184372088832 → 0 < n → enough f n r →
    2 * n ≤ cz → n ≤ cx → n ≤ cy → r ≤ cr → cr ≤ maxLen → cz ≤ maxLen →
    Arr .u64 B w bz oz (2 * n) → Free w bz oz (2 * n) → Arr .u64 B w bx ox n → Arr .u64 B w byy oy n → Arr .u64 B w br orr r → Free w br orr r →
    Dj bz oz (2 * n) bx ox n → Dj bz oz (2 * n) byy oy n → Dj bz oz (2 * n) br orr r → Dj br orr r bx ox n → Dj br orr r byy oy n →
    ∀ ar, Sl ar br orr r →
    Calls Tryz.prog 145 #[.slice (some ⟨bz, oz, none⟩) (2 * n) cz, .slice (some ⟨bx, ox, none⟩) n cx, .slice (some ⟨byy, oy, none⟩) n cy, .slice ar r cr] w fun e w' =>
      e = .returned (.tuple #[]) ∧ ChgS w w' (R2 bz oz (oz + 2 * n) br orr (orr + r)) ∧ Arr .u64 B w' bz oz (2 * n) ∧ Arr .u64 B w' br orr r ∧
      num B w' bz oz (2 * n) = num B w bx ox n * num B w byy oy n

theorem R2_mono {bz zl zh br rl rh zl' zh' rl' rh' : Nat} (h1 : zl' ≤ zl) (h2 : zh ≤ zh') (h3 : rl' ≤ rl) (h4 : rh ≤ rh') : ∀ k i, R2 bz zl zh br rl rh k i → R2 bz zl' zh' br rl' rh' k i := by
  intro k i h
  unfold R2 at *
  omega
theorem prod_lt {a b q : Nat} (ha : a < B ^ q) (hb : b < B ^ q) : a * b < B ^ (2 * q) := by
  have := _root_.Rad.mul_lt_pow ha hb
  rwa [← Nat.two_mul] at this
/-- A cleared row with a number copied to its low end. -/
theorem row_filled {w1 w2 : World} {b o n m c p : Nat} (ha : Arr .u64 B w1 b o n) (hz : ∀ i, i < n → word w1 b (o + i) = 0) (hmn : m ≤ n) (hc : Copied .u64 B w1 w2 b o m c p) :
    Arr .u64 B w2 b o n ∧ num B w2 b o n = num B w1 c p m := by
  have hhigh : ∀ i, m ≤ i → w2.cell? ⟨b, o + i, none⟩ = w1.cell? ⟨b, o + i, none⟩ := fun i hi => hc.chg.cell _ (by omega)
  refine ⟨fun i hi => ?_, ?_⟩
  · by_cases him : i < m
    · exact hc.arr i him
    · have e := hhigh i (by omega)
      rw [word_of_cell e, e]; exact ha i hi
  · have h1 : num B w2 b o n = num B w2 b o m := _root_.Rad.vs_top hmn fun i h1 h2 => by
      rw [word_of_cell (hhigh i h1)]; exact hz i h2
    rw [h1]
    exact num_congr hc.same

set_option maxRecDepth 10000 in
set_option maxHeartbeats 8000000 in
theorem mulHalves_step (f : Nat) (ih : ∀ n, MulHalves f n) (n : Nat) (h48 : ¬ n < 48) : MulHalves (f + 1) n := by
  intro w bz oz cz bx ox cx byy oy cy br orr r cr hn hpos hen hcz hcx hcy hcr hcm hczm haz hfz hax hay har hfr d1 d2 d3 d4 d5 ar hsr
  rcases hen with hen | ⟨hr, hen⟩
  · omega
  have hcm' : cr ≤ 9223372036854775807 := hcm
  obtain ⟨q, hq⟩ : ∃ q, q = (n + 1) / 2 := ⟨_, rfl⟩
  rw [← hq] at hr hen
  have e2 : ((n : Int) + 1).tdiv 2 = (q : Int) := by rw [Int.tdiv_eq_ediv_of_nonneg (by omega)]; omega
  have e1 : ((n : Int) + 1) / 2 = (q : Int) := by omega
  have q1 : 2 * q ≤ n + 1 := by omega
  have q2 : n ≤ 2 * q := by omega
  have q3 : 24 ≤ q := by omega
  clear hq
  obtain rfl := hsr (by omega)
  -- what is asked of the calls
  have D1 := d1 (by omega) (by omega)
  have D2 := d2 (by omega) (by omega)
  have D3 := d3 (by omega) (by omega)
  have D4 := d4 (by omega) (by omega)
  have D5 := d5 (by omega) (by omega)
  clear d1 d2 d3 d4 d5
  have hbz : bz < w.heap.size := haz.lt (by omega)
  have hbr : br < w.heap.size := har.lt (by omega)
  obtain ⟨P1, hP1⟩ : ∃ P : World → Prop, Hid (P = fun w' => ChgS w w' (R2 bz oz (oz + 2 * q) br orr (orr + r)) ∧ Arr .u64 B w' bz oz (2 * q) ∧ Arr .u64 B w' br orr r ∧
      num B w' bz oz (2 * q) = num B w bx ox q * num B w byy oy q) := ⟨_, rfl⟩
  have C1 : Calls Tryz.prog 145 #[.slice (some ⟨bz, oz, none⟩) (2 * q) (2 * q), .slice (some ⟨bx, ox, none⟩) (q) (q), .slice (some ⟨byy, oy, none⟩) (q) (q), .slice (some ⟨br, orr, none⟩) (r) (cr)] w.drew fun e w' => e = .returned (.tuple #[]) ∧ P1 w' := by
    refine (ih q w.drew bz oz (2 * q) bx ox q byy oy q br orr r cr (by omega) (by omega) (enough_mono _ _ _ _ (by omega) hen) (Nat.le_refl _) (Nat.le_refl _) (Nat.le_refl _) hcr hcm (by unfold maxLen; omega)
      (row_sub0 haz (by omega)) (free_sub0 hfz (by omega)) (row_sub0 hax (by omega)) (row_sub0 hay (by omega)) har hfr
      (fun a b => by omega) (fun a b => by omega) (fun a b => by omega) (fun a b => by omega) (fun a b => by omega) _ hsr).mono ?_
    rintro e w' ⟨rfl, g1, g2, g3, g4⟩
    refine ⟨rfl, ?_⟩
    rw [hP1.out]
    exact ⟨chgS_undrew g1, g2, g3, g4⟩
  have z1 : ¬ q = 0 := by omega
  have z2 : ¬ 2 * q = 0 := by omega
  have z3 : ¬ cz = 2 * q := by omega
  have z4 : ¬ cx = q := by omega
  have z5 : ¬ cy = q := by omega
  have z6 : 2 * n - 2 * q = 2 * (n - q) := by omega
  have z7 : 2 * q - q = q := by omega
  have z8 : 4 * q - 2 * q = 2 * q := by omega
  have z9 : ¬ 2 * q = q := by omega
  have z10 : ¬ 4 * q = 2 * q := by omega
  have i0 : (0 : Int) ≤ (q : Int) := by omega
  have i1 : (0 : Int) ≤ 2 * (q : Int) := by omega
  have i2 : 2 * (q : Int) ≤ (cz : Int) := by omega
  have i3 : (q : Int) ≤ (cx : Int) := by omega
  have i4 : (q : Int) ≤ (cy : Int) := by omega
  have i5 : (q : Int) ≤ (n : Int) := by omega
  have i6 : 2 * (q : Int) ≤ 2 * (n : Int) := by omega
  have i7 : (q : Int) ≤ 2 * (q : Int) := by omega
  have i8 : 2 * (q : Int) ≤ (cr : Int) := by omega
  have i9 : 4 * (q : Int) ≤ (cr : Int) := by omega
  have i10 : (q : Int) ≤ (cr : Int) := by omega
  have i11 : 2 * (q : Int) ≤ 4 * (q : Int) := by omega
  have i12 : (0 : Int) ≤ 4 * (q : Int) := by omega
  have s1 : IntKind.i64.wrap (2 * (q : Int)) = 2 * (q : Int) := by rw [IntKind.wrap_i64]; omega
  have s2 : IntKind.i64.wrap (4 * (q : Int)) = 4 * (q : Int) := by rw [IntKind.wrap_i64]; omega
  have t1 : (2 * (q : Int)).toNat = 2 * q := by omega
  have t2 : (4 * (q : Int)).toNat = 4 * q := by omega
  have t3 : (6 * (q : Int) + 1).toNat = 6 * q + 1 := by omega
  have HS : Hid (Sl (some ⟨br, orr, none⟩) br orr r) := hsr
  clear hsr
  go_enter Tryz.func145, Tryz.ntmps145
  go_wp2
  refine wp_drawn mixed [⟨27, [], [], [0]⟩, ⟨28, [], [], [9]⟩, ⟨29, [1], [1], []⟩, ⟨30, [], [], [9]⟩, ⟨31, [3], [3], []⟩, ⟨32, [0, 2, 4], [0, 1, 2, 3, 4], []⟩, ⟨33, [], [], [1]⟩, ⟨34, [], [], [9]⟩, ⟨35, [], [], [9]⟩, ⟨36, [6, 7, 8], [6, 7, 8], []⟩, ⟨37, [], [], [2]⟩, ⟨38, [], [], [9]⟩, ⟨39, [], [], [9]⟩, ⟨40, [10, 11, 12], [10, 11, 12], []⟩, ⟨41, [], [], [3]⟩, ⟨42, [5, 9, 13, 14], [0, 1, 2, 3, 4, 5, 6, 7, 8, 9, 10, 11, 12, 13, 14], []⟩] [] (by kernel_rfl) 139 rfl (by kernel_rfl) (fun (i : Nat) (v : Value) (wq : World) => match i with | 0 => v = .slice (some ⟨bz, oz, none⟩) (2 * n) (cz) | 1 => v = .int .i64 ((q : Int)) | 2 => v = .int .i64 (2 * (q : Int)) | 3 => v = .int .i64 ((q : Int)) | 4 => v = .int .i64 (2 * (q : Int)) | 5 => v = .slice (some ⟨bz, oz, none⟩) (2 * q) (2 * q) | 6 => v = .slice (some ⟨bx, ox, none⟩) (n) (cx) | 7 => v = .int .i64 ((q : Int)) | 8 => v = .int .i64 ((q : Int)) | 9 => v = .slice (some ⟨bx, ox, none⟩) (q) (q) | 10 => v = .slice (some ⟨byy, oy, none⟩) (n) (cy) | 11 => v = .int .i64 ((q : Int)) | 12 => v = .int .i64 ((q : Int)) | 13 => v = .slice (some ⟨byy, oy, none⟩) (q) (q) | 14 => v = .slice (some ⟨br, orr, none⟩) (r) (cr) | 15 => v = .tuple #[] | _ => True) (fun L w' => (L 15 = false → w' = w.drew) ∧ (L 15 = true → P1 w')) (fun _ _ => True) ⟨fun _ => rfl, (fun h => Bool.noConfusion h)⟩ (fun _ _ _ _ h _ => h) ?_ ?_
  · intro i o r ho hr L a wx hW hL hpr hds hdef hpre hfree
    match i, ho, hr with
    | 0, ho, hr =>
      obtain rfl := Option.some.inj ho
      obtain rfl := Option.some.inj hr
      have t0 := ev_tmp (show a.eval (.tmp 0) = .slice (some ⟨bz, oz, none⟩) (2 * n) (cz) from hfree 0 (by decide))
      clear hpre hfree hdef
      refine stpK rfl rfl fun K hK => ?_
      go_simp
      exact hK _ _ ⟨rfl, ⟨fun h => hW.1 (by simpa using h), fun h => hW.2 (by simpa using h)⟩, trivial, fun h => (List.not_mem_nil h).elim⟩
    | 1, ho, hr =>
      obtain rfl := Option.some.inj ho
      obtain rfl := Option.some.inj hr
      have t9 := ev_tmp (show a.eval (.tmp 9) = .int .i64 ((q : Int)) from hfree 9 (by decide))
      clear hpre hfree hdef
      refine stpK rfl rfl fun K hK => ?_
      go_simp
      exact hK _ _ ⟨rfl, ⟨fun h => hW.1 (by simpa using h), fun h => hW.2 (by simpa using h)⟩, trivial, fun h => (List.not_mem_nil h).elim⟩
    | 2, ho, hr =>
      obtain rfl := Option.some.inj ho
      obtain rfl := Option.some.inj hr
      have e1 := ev_tmp (show a.eval (.tmp 28) = .int .i64 ((q : Int)) from hpre 1 (by decide) _ rfl)
      clear hpre hfree hdef
      refine stpK rfl rfl fun K hK => ?_
      go_simp
      exact hK _ _ ⟨rfl, ⟨fun h => hW.1 (by simpa using h), fun h => hW.2 (by simpa using h)⟩, trivial, fun h => (List.not_mem_nil h).elim⟩
    | 3, ho, hr =>
      obtain rfl := Option.some.inj ho
      obtain rfl := Option.some.inj hr
      have t9 := ev_tmp (show a.eval (.tmp 9) = .int .i64 ((q : Int)) from hfree 9 (by decide))
      clear hpre hfree hdef
      refine stpK rfl rfl fun K hK => ?_
      go_simp
      exact hK _ _ ⟨rfl, ⟨fun h => hW.1 (by simpa using h), fun h => hW.2 (by simpa using h)⟩, trivial, fun h => (List.not_mem_nil h).elim⟩
    | 4, ho, hr =>
      obtain rfl := Option.some.inj ho
      obtain rfl := Option.some.inj hr
      have e3 := ev_tmp (show a.eval (.tmp 30) = .int .i64 ((q : Int)) from hpre 3 (by decide) _ rfl)
      clear hpre hfree hdef
      refine stpK rfl rfl fun K hK => ?_
      go_simp
      exact hK _ _ ⟨rfl, ⟨fun h => hW.1 (by simpa using h), fun h => hW.2 (by simpa using h)⟩, trivial, fun h => (List.not_mem_nil h).elim⟩
    | 5, ho, hr =>
      obtain rfl := Option.some.inj ho
      obtain rfl := Option.some.inj hr
      have e0 := ev_tmp (show a.eval (.tmp 27) = .slice (some ⟨bz, oz, none⟩) (2 * n) (cz) from hpre 0 (by decide) _ rfl)
      have e2 := ev_tmp (show a.eval (.tmp 29) = .int .i64 (2 * (q : Int)) from hpre 2 (by decide) _ rfl)
      have e4 := ev_tmp (show a.eval (.tmp 31) = .int .i64 (2 * (q : Int)) from hpre 4 (by decide) _ rfl)
      clear hpre hfree hdef
      refine stpK rfl rfl fun K hK => ?_
      go_simp
      exact hK _ _ ⟨rfl, ⟨fun h => hW.1 (by simpa using h), fun h => hW.2 (by simpa using h)⟩, trivial, fun h => (List.not_mem_nil h).elim⟩
    | 6, ho, hr =>
      obtain rfl := Option.some.inj ho
      obtain rfl := Option.some.inj hr
      have t1 := ev_tmp (show a.eval (.tmp 1) = .slice (some ⟨bx, ox, none⟩) (n) (cx) from hfree 1 (by decide))
      clear hpre hfree hdef
      refine stpK rfl rfl fun K hK => ?_
      go_simp
      exact hK _ _ ⟨rfl, ⟨fun h => hW.1 (by simpa using h), fun h => hW.2 (by simpa using h)⟩, trivial, fun h => (List.not_mem_nil h).elim⟩
    | 7, ho, hr =>
      obtain rfl := Option.some.inj ho
      obtain rfl := Option.some.inj hr
      have t9 := ev_tmp (show a.eval (.tmp 9) = .int .i64 ((q : Int)) from hfree 9 (by decide))
      clear hpre hfree hdef
      refine stpK rfl rfl fun K hK => ?_
      go_simp
      exact hK _ _ ⟨rfl, ⟨fun h => hW.1 (by simpa using h), fun h => hW.2 (by simpa using h)⟩, trivial, fun h => (List.not_mem_nil h).elim⟩
    | 8, ho, hr =>
      obtain rfl := Option.some.inj ho
      obtain rfl := Option.some.inj hr
      have t9 := ev_tmp (show a.eval (.tmp 9) = .int .i64 ((q : Int)) from hfree 9 (by decide))
      clear hpre hfree hdef
      refine stpK rfl rfl fun K hK => ?_
      go_simp
      exact hK _ _ ⟨rfl, ⟨fun h => hW.1 (by simpa using h), fun h => hW.2 (by simpa using h)⟩, trivial, fun h => (List.not_mem_nil h).elim⟩
    | 9, ho, hr =>
      obtain rfl := Option.some.inj ho
      obtain rfl := Option.some.inj hr
      have e6 := ev_tmp (show a.eval (.tmp 33) = .slice (some ⟨bx, ox, none⟩) (n) (cx) from hpre 6 (by decide) _ rfl)
      have e7 := ev_tmp (show a.eval (.tmp 34) = .int .i64 ((q : Int)) from hpre 7 (by decide) _ rfl)
      have e8 := ev_tmp (show a.eval (.tmp 35) = .int .i64 ((q : Int)) from hpre 8 (by decide) _ rfl)
      clear hpre hfree hdef
      refine stpK rfl rfl fun K hK => ?_
      go_simp
      exact hK _ _ ⟨rfl, ⟨fun h => hW.1 (by simpa using h), fun h => hW.2 (by simpa using h)⟩, trivial, fun h => (List.not_mem_nil h).elim⟩
    | 10, ho, hr =>
      obtain rfl := Option.some.inj ho
      obtain rfl := Option.some.inj hr
      have t2 := ev_tmp (show a.eval (.tmp 2) = .slice (some ⟨byy, oy, none⟩) (n) (cy) from hfree 2 (by decide))
      clear hpre hfree hdef
      refine stpK rfl rfl fun K hK => ?_
      go_simp
      exact hK _ _ ⟨rfl, ⟨fun h => hW.1 (by simpa using h), fun h => hW.2 (by simpa using h)⟩, trivial, fun h => (List.not_mem_nil h).elim⟩
    | 11, ho, hr =>
      obtain rfl := Option.some.inj ho
      obtain rfl := Option.some.inj hr
      have t9 := ev_tmp (show a.eval (.tmp 9) = .int .i64 ((q : Int)) from hfree 9 (by decide))
      clear hpre hfree hdef
      refine stpK rfl rfl fun K hK => ?_
      go_simp
      exact hK _ _ ⟨rfl, ⟨fun h => hW.1 (by simpa using h), fun h => hW.2 (by simpa using h)⟩, trivial, fun h => (List.not_mem_nil h).elim⟩
    | 12, ho, hr =>
      obtain rfl := Option.some.inj ho
      obtain rfl := Option.some.inj hr
      have t9 := ev_tmp (show a.eval (.tmp 9) = .int .i64 ((q : Int)) from hfree 9 (by decide))
      clear hpre hfree hdef
      refine stpK rfl rfl fun K hK => ?_
      go_simp
      exact hK _ _ ⟨rfl, ⟨fun h => hW.1 (by simpa using h), fun h => hW.2 (by simpa using h)⟩, trivial, fun h => (List.not_mem_nil h).elim⟩
    | 13, ho, hr =>
      obtain rfl := Option.some.inj ho
      obtain rfl := Option.some.inj hr
      have e10 := ev_tmp (show a.eval (.tmp 37) = .slice (some ⟨byy, oy, none⟩) (n) (cy) from hpre 10 (by decide) _ rfl)
      have e11 := ev_tmp (show a.eval (.tmp 38) = .int .i64 ((q : Int)) from hpre 11 (by decide) _ rfl)
      have e12 := ev_tmp (show a.eval (.tmp 39) = .int .i64 ((q : Int)) from hpre 12 (by decide) _ rfl)
      clear hpre hfree hdef
      refine stpK rfl rfl fun K hK => ?_
      go_simp
      exact hK _ _ ⟨rfl, ⟨fun h => hW.1 (by simpa using h), fun h => hW.2 (by simpa using h)⟩, trivial, fun h => (List.not_mem_nil h).elim⟩
    | 14, ho, hr =>
      obtain rfl := Option.some.inj ho
      obtain rfl := Option.some.inj hr
      have t3 := ev_tmp (show a.eval (.tmp 3) = .slice (some ⟨br, orr, none⟩) (r) (cr) from hfree 3 (by decide))
      clear hpre hfree hdef
      refine stpK rfl rfl fun K hK => ?_
      go_simp
      exact hK _ _ ⟨rfl, ⟨fun h => hW.1 (by simpa using h), fun h => hW.2 (by simpa using h)⟩, trivial, fun h => (List.not_mem_nil h).elim⟩
    | 15, ho, hr =>
      obtain rfl := Option.some.inj ho
      obtain rfl := Option.some.inj hr
      have e5 := ev_tmp (show a.eval (.tmp 32) = .slice (some ⟨bz, oz, none⟩) (2 * q) (2 * q) from hpre 5 (by decide) _ rfl)
      have e9 := ev_tmp (show a.eval (.tmp 36) = .slice (some ⟨bx, ox, none⟩) (q) (q) from hpre 9 (by decide) _ rfl)
      have e13 := ev_tmp (show a.eval (.tmp 40) = .slice (some ⟨byy, oy, none⟩) (q) (q) from hpre 13 (by decide) _ rfl)
      have e14 := ev_tmp (show a.eval (.tmp 41) = .slice (some ⟨br, orr, none⟩) (r) (cr) from hpre 14 (by decide) _ rfl)
      clear hpre hfree hdef
      refine stpK rfl rfl fun K hK => ?_
      obtain rfl := hW.1 hL
      go_simp
      refine (C1).mono ?_
      rintro e w'' ⟨rfl, hpost⟩
      exact hK _ _ ⟨rfl, ⟨fun h => by simp at h, fun _ => hpost⟩, trivial, fun h => (List.not_mem_nil h).elim⟩
    | n + 16, ho, hr => exact absurd hr (by simp)
  · intro vs w1 hvs hW1 hap0
    clear hap0
    have e0 : vs 0 = .slice (some ⟨bz, oz, none⟩) (2 * n) (cz) := hvs 0 (by decide)
    have e1 : vs 1 = .int .i64 ((q : Int)) := hvs 1 (by decide)
    have e2 : vs 2 = .int .i64 (2 * (q : Int)) := hvs 2 (by decide)
    have e3 : vs 3 = .int .i64 ((q : Int)) := hvs 3 (by decide)
    have e4 : vs 4 = .int .i64 (2 * (q : Int)) := hvs 4 (by decide)
    have e5 : vs 5 = .slice (some ⟨bz, oz, none⟩) (2 * q) (2 * q) := hvs 5 (by decide)
    have e6 : vs 6 = .slice (some ⟨bx, ox, none⟩) (n) (cx) := hvs 6 (by decide)
    have e7 : vs 7 = .int .i64 ((q : Int)) := hvs 7 (by decide)
    have e8 : vs 8 = .int .i64 ((q : Int)) := hvs 8 (by decide)
    have e9 : vs 9 = .slice (some ⟨bx, ox, none⟩) (q) (q) := hvs 9 (by decide)
    have e10 : vs 10 = .slice (some ⟨byy, oy, none⟩) (n) (cy) := hvs 10 (by decide)
    have e11 : vs 11 = .int .i64 ((q : Int)) := hvs 11 (by decide)
    have e12 : vs 12 = .int .i64 ((q : Int)) := hvs 12 (by decide)
    have e13 : vs 13 = .slice (some ⟨byy, oy, none⟩) (q) (q) := hvs 13 (by decide)
    have e14 : vs 14 = .slice (some ⟨br, orr, none⟩) (r) (cr) := hvs 14 (by decide)
    have e15 : vs 15 = .tuple #[] := hvs 15 (by decide)
    simp only [puts, Nat.reduceAdd, e0, e1, e2, e3, e4, e5, e6, e7, e8, e9, e10, e11, e12, e13, e14, e15, Act.put, List.setIfInBounds_toArray, List.set_cons_zero, List.set_cons_succ, List.drop_succ_cons, List.drop_zero, List.length_cons, List.length_nil]
    clear hvs e0 e1 e2 e3 e4 e5 e6 e7 e8 e9 e10 e11 e12 e13 e14 e15
    have p1 := hW1.2 rfl
    rw [hP1.out] at p1
    obtain ⟨g1, g2, g3, g4⟩ := p1
    clear hW1 C1 hP1 P1
    have Z1a : Arr .u64 B w1 bz (oz + 2 * q) (2 * (n - q)) := g1.arr (haz.sub (by omega)) (fun i hi => not_R2 (by omega) (by omega))
    have X1a : Arr .u64 B w1 bx ox n := g1.arr hax (fun i hi => not_R2 (by omega) (by omega))
    have Y1a : Arr .u64 B w1 byy oy n := g1.arr hay (fun i hi => not_R2 (by omega) (by omega))
    have X1n : num B w1 bx (ox + q) (n - q) = num B w bx (ox + q) (n - q) := g1.num (hax.sub (by omega)) (fun i hi => not_R2 (by omega) (by omega))
    have Y1n : num B w1 byy (oy + q) (n - q) = num B w byy (oy + q) (n - q) := g1.num (hay.sub (by omega)) (fun i hi => not_R2 (by omega) (by omega))
    have F1z : Free w1 bz (oz + 2 * q) (2 * (n - q)) := g1.free (hfz.sub (by omega)) (fun _ => hbz)
    have F1r : Free w1 br orr r := g1.free hfr (fun _ => hbr)
    obtain ⟨P2, hP2⟩ : ∃ P : World → Prop, Hid (P = fun w' => ChgS w1 w' (R2 bz (oz + 2 * q) (oz + 2 * n) br orr (orr + r)) ∧ Arr .u64 B w' bz (oz + 2 * q) (2 * (n - q)) ∧ Arr .u64 B w' br orr r ∧
      num B w' bz (oz + 2 * q) (2 * (n - q)) = num B w bx (ox + q) (n - q) * num B w byy (oy + q) (n - q)) := ⟨_, rfl⟩
    have C2 : Calls Tryz.prog 145 #[.slice (some ⟨bz, oz + 2 * q, none⟩) (2 * (n - q)) (cz - 2 * q), .slice (some ⟨bx, ox + q, none⟩) (n - q) (cx - q), .slice (some ⟨byy, oy + q, none⟩) (n - q) (cy - q), .slice (some ⟨br, orr, none⟩) (r) (cr)] w1.drew fun e w' => e = .returned (.tuple #[]) ∧ P2 w' := by
      refine (ih (n - q) w1.drew bz (oz + 2 * q) (cz - 2 * q) bx (ox + q) (cx - q) byy (oy + q) (cy - q) br orr r cr (by omega) (by omega) (enough_le _ q _ _ (by omega) (enough_mono _ _ _ _ (by omega) hen)) (by omega) (by omega) (by omega) hcr hcm (by unfold maxLen at *; omega)
        Z1a F1z (X1a.sub (by omega)) (Y1a.sub (by omega)) g3 F1r
        (fun a b => by omega) (fun a b => by omega) (fun a b => by omega) (fun a b => by omega) (fun a b => by omega) _ HS.out).mono ?_
      rintro e w' ⟨rfl, f1, f2, f3, f4⟩
      refine ⟨rfl, ?_⟩
      rw [hP2.out]
      refine ⟨?_, f2, f3, ?_⟩
      · have := chgS_undrew f1
        rwa [show oz + 2 * q + 2 * (n - q) = oz + 2 * n by omega] at this
      · rw [f4]
        show num B w1 bx (ox + q) (n - q) * num B w1 byy (oy + q) (n - q) = _
        rw [X1n, Y1n]
    have G1 : Hid _ := g1
    have G4 : Hid _ := g4
    clear g1 g4 Z1a X1a Y1a X1n Y1n F1z
    go_wp2
    refine wp_drawn mixed [⟨43, [], [], [0]⟩, ⟨44, [], [], [9]⟩, ⟨45, [1], [1], []⟩, ⟨46, [0, 2], [0, 1, 2], []⟩, ⟨47, [], [], [1]⟩, ⟨48, [], [], [9]⟩, ⟨49, [4, 5], [4, 5], []⟩, ⟨50, [], [], [2]⟩, ⟨51, [], [], [9]⟩, ⟨52, [7, 8], [7, 8], []⟩, ⟨53, [], [], [3]⟩, ⟨54, [3, 6, 9, 10], [0, 1, 2, 3, 4, 5, 6, 7, 8, 9, 10], []⟩] [] (by kernel_rfl) 139 rfl (by kernel_rfl) (fun (i : Nat) (v : Value) (wq : World) => match i with | 0 => v = .slice (some ⟨bz, oz, none⟩) (2 * n) (cz) | 1 => v = .int .i64 ((q : Int)) | 2 => v = .int .i64 (2 * (q : Int)) | 3 => v = .slice (some ⟨bz, oz + 2 * q, none⟩) (2 * (n - q)) (cz - 2 * q) | 4 => v = .slice (some ⟨bx, ox, none⟩) (n) (cx) | 5 => v = .int .i64 ((q : Int)) | 6 => v = .slice (some ⟨bx, ox + q, none⟩) (n - q) (cx - q) | 7 => v = .slice (some ⟨byy, oy, none⟩) (n) (cy) | 8 => v = .int .i64 ((q : Int)) | 9 => v = .slice (some ⟨byy, oy + q, none⟩) (n - q) (cy - q) | 10 => v = .slice (some ⟨br, orr, none⟩) (r) (cr) | 11 => v = .tuple #[] | _ => True) (fun L w' => (L 11 = false → w' = w1.drew) ∧ (L 11 = true → P2 w')) (fun _ _ => True) ⟨fun _ => rfl, (fun h => Bool.noConfusion h)⟩ (fun _ _ _ _ h _ => h) ?_ ?_
    · intro i o r ho hr L a wx hW hL hpr hds hdef hpre hfree
      match i, ho, hr with
      | 0, ho, hr =>
        obtain rfl := Option.some.inj ho
        obtain rfl := Option.some.inj hr
        have t0 := ev_tmp (show a.eval (.tmp 0) = .slice (some ⟨bz, oz, none⟩) (2 * n) (cz) from hfree 0 (by decide))
        clear hpre hfree hdef
        refine stpK rfl rfl fun K hK => ?_
        go_simp
        exact hK _ _ ⟨rfl, ⟨fun h => hW.1 (by simpa using h), fun h => hW.2 (by simpa using h)⟩, trivial, fun h => (List.not_mem_nil h).elim⟩
      | 1, ho, hr =>
        obtain rfl := Option.some.inj ho
        obtain rfl := Option.some.inj hr
        have t9 := ev_tmp (show a.eval (.tmp 9) = .int .i64 ((q : Int)) from hfree 9 (by decide))
        clear hpre hfree hdef
        refine stpK rfl rfl fun K hK => ?_
        go_simp
        exact hK _ _ ⟨rfl, ⟨fun h => hW.1 (by simpa using h), fun h => hW.2 (by simpa using h)⟩, trivial, fun h => (List.not_mem_nil h).elim⟩
      | 2, ho, hr =>
        obtain rfl := Option.some.inj ho
        obtain rfl := Option.some.inj hr
        have e1 := ev_tmp (show a.eval (.tmp 44) = .int .i64 ((q : Int)) from hpre 1 (by decide) _ rfl)
        clear hpre hfree hdef
        refine stpK rfl rfl fun K hK => ?_
        go_simp
        exact hK _ _ ⟨rfl, ⟨fun h => hW.1 (by simpa using h), fun h => hW.2 (by simpa using h)⟩, trivial, fun h => (List.not_mem_nil h).elim⟩
      | 3, ho, hr =>
        obtain rfl := Option.some.inj ho
        obtain rfl := Option.some.inj hr
        have e0 := ev_tmp (show a.eval (.tmp 43) = .slice (some ⟨bz, oz, none⟩) (2 * n) (cz) from hpre 0 (by decide) _ rfl)
        have e2 := ev_tmp (show a.eval (.tmp 45) = .int .i64 (2 * (q : Int)) from hpre 2 (by decide) _ rfl)
        clear hpre hfree hdef
        refine stpK rfl rfl fun K hK => ?_
        go_simp
        exact hK _ _ ⟨rfl, ⟨fun h => hW.1 (by simpa using h), fun h => hW.2 (by simpa using h)⟩, trivial, fun h => (List.not_mem_nil h).elim⟩
      | 4, ho, hr =>
        obtain rfl := Option.some.inj ho
        obtain rfl := Option.some.inj hr
        have t1 := ev_tmp (show a.eval (.tmp 1) = .slice (some ⟨bx, ox, none⟩) (n) (cx) from hfree 1 (by decide))
        clear hpre hfree hdef
        refine stpK rfl rfl fun K hK => ?_
        go_simp
        exact hK _ _ ⟨rfl, ⟨fun h => hW.1 (by simpa using h), fun h => hW.2 (by simpa using h)⟩, trivial, fun h => (List.not_mem_nil h).elim⟩
      | 5, ho, hr =>
        obtain rfl := Option.some.inj ho
        obtain rfl := Option.some.inj hr
        have t9 := ev_tmp (show a.eval (.tmp 9) = .int .i64 ((q : Int)) from hfree 9 (by decide))
        clear hpre hfree hdef
        refine stpK rfl rfl fun K hK => ?_
        go_simp
        exact hK _ _ ⟨rfl, ⟨fun h => hW.1 (by simpa using h), fun h => hW.2 (by simpa using h)⟩, trivial, fun h => (List.not_mem_nil h).elim⟩
      | 6, ho, hr =>
        obtain rfl := Option.some.inj ho
        obtain rfl := Option.some.inj hr
        have e4 := ev_tmp (show a.eval (.tmp 47) = .slice (some ⟨bx, ox, none⟩) (n) (cx) from hpre 4 (by decide) _ rfl)
        have e5 := ev_tmp (show a.eval (.tmp 48) = .int .i64 ((q : Int)) from hpre 5 (by decide) _ rfl)
        clear hpre hfree hdef
        refine stpK rfl rfl fun K hK => ?_
        go_simp
        exact hK _ _ ⟨rfl, ⟨fun h => hW.1 (by simpa using h), fun h => hW.2 (by simpa using h)⟩, trivial, fun h => (List.not_mem_nil h).elim⟩
      | 7, ho, hr =>
        obtain rfl := Option.some.inj ho
        obtain rfl := Option.some.inj hr
        have t2 := ev_tmp (show a.eval (.tmp 2) = .slice (some ⟨byy, oy, none⟩) (n) (cy) from hfree 2 (by decide))
        clear hpre hfree hdef
        refine stpK rfl rfl fun K hK => ?_
        go_simp
        exact hK _ _ ⟨rfl, ⟨fun h => hW.1 (by simpa using h), fun h => hW.2 (by simpa using h)⟩, trivial, fun h => (List.not_mem_nil h).elim⟩
      | 8, ho, hr =>
        obtain rfl := Option.some.inj ho
        obtain rfl := Option.some.inj hr
        have t9 := ev_tmp (show a.eval (.tmp 9) = .int .i64 ((q : Int)) from hfree 9 (by decide))
        clear hpre hfree hdef
        refine stpK rfl rfl fun K hK => ?_
        go_simp
        exact hK _ _ ⟨rfl, ⟨fun h => hW.1 (by simpa using h), fun h => hW.2 (by simpa using h)⟩, trivial, fun h => (List.not_mem_nil h).elim⟩
      | 9, ho, hr =>
        obtain rfl := Option.some.inj ho
        obtain rfl := Option.some.inj hr
        have e7 := ev_tmp (show a.eval (.tmp 50) = .slice (some ⟨byy, oy, none⟩) (n) (cy) from hpre 7 (by decide) _ rfl)
        have e8 := ev_tmp (show a.eval (.tmp 51) = .int .i64 ((q : Int)) from hpre 8 (by decide) _ rfl)
        clear hpre hfree hdef
        refine stpK rfl rfl fun K hK => ?_
        go_simp
        exact hK _ _ ⟨rfl, ⟨fun h => hW.1 (by simpa using h), fun h => hW.2 (by simpa using h)⟩, trivial, fun h => (List.not_mem_nil h).elim⟩
      | 10, ho, hr =>
        obtain rfl := Option.some.inj ho
        obtain rfl := Option.some.inj hr
        have t3 := ev_tmp (show a.eval (.tmp 3) = .slice (some ⟨br, orr, none⟩) (r) (cr) from hfree 3 (by decide))
        clear hpre hfree hdef
        refine stpK rfl rfl fun K hK => ?_
        go_simp
        exact hK _ _ ⟨rfl, ⟨fun h => hW.1 (by simpa using h), fun h => hW.2 (by simpa using h)⟩, trivial, fun h => (List.not_mem_nil h).elim⟩
      | 11, ho, hr =>
        obtain rfl := Option.some.inj ho
        obtain rfl := Option.some.inj hr
        have e3 := ev_tmp (show a.eval (.tmp 46) = .slice (some ⟨bz, oz + 2 * q, none⟩) (2 * (n - q)) (cz - 2 * q) from hpre 3 (by decide) _ rfl)
        have e6 := ev_tmp (show a.eval (.tmp 49) = .slice (some ⟨bx, ox + q, none⟩) (n - q) (cx - q) from hpre 6 (by decide) _ rfl)
        have e9 := ev_tmp (show a.eval (.tmp 52) = .slice (some ⟨byy, oy + q, none⟩) (n - q) (cy - q) from hpre 9 (by decide) _ rfl)
        have e10 := ev_tmp (show a.eval (.tmp 53) = .slice (some ⟨br, orr, none⟩) (r) (cr) from hpre 10 (by decide) _ rfl)
        clear hpre hfree hdef
        refine stpK rfl rfl fun K hK => ?_
        obtain rfl := hW.1 hL
        go_simp
        refine (C2).mono ?_
        rintro e w'' ⟨rfl, hpost⟩
        exact hK _ _ ⟨rfl, ⟨fun h => by simp at h, fun _ => hpost⟩, trivial, fun h => (List.not_mem_nil h).elim⟩
      | n + 12, ho, hr => exact absurd hr (by simp)
    · intro vs w2 hvs hW1 hap0
      clear hap0
      have e0 : vs 0 = .slice (some ⟨bz, oz, none⟩) (2 * n) (cz) := hvs 0 (by decide)
      have e1 : vs 1 = .int .i64 ((q : Int)) := hvs 1 (by decide)
      have e2 : vs 2 = .int .i64 (2 * (q : Int)) := hvs 2 (by decide)
      have e3 : vs 3 = .slice (some ⟨bz, oz + 2 * q, none⟩) (2 * (n - q)) (cz - 2 * q) := hvs 3 (by decide)
      have e4 : vs 4 = .slice (some ⟨bx, ox, none⟩) (n) (cx) := hvs 4 (by decide)
      have e5 : vs 5 = .int .i64 ((q : Int)) := hvs 5 (by decide)
      have e6 : vs 6 = .slice (some ⟨bx, ox + q, none⟩) (n - q) (cx - q) := hvs 6 (by decide)
      have e7 : vs 7 = .slice (some ⟨byy, oy, none⟩) (n) (cy) := hvs 7 (by decide)
      have e8 : vs 8 = .int .i64 ((q : Int)) := hvs 8 (by decide)
      have e9 : vs 9 = .slice (some ⟨byy, oy + q, none⟩) (n - q) (cy - q) := hvs 9 (by decide)
      have e10 : vs 10 = .slice (some ⟨br, orr, none⟩) (r) (cr) := hvs 10 (by decide)
      have e11 : vs 11 = .tuple #[] := hvs 11 (by decide)
      simp only [puts, Nat.reduceAdd, e0, e1, e2, e3, e4, e5, e6, e7, e8, e9, e10, e11, Act.put, List.setIfInBounds_toArray, List.set_cons_zero, List.set_cons_succ, List.drop_succ_cons, List.drop_zero, List.length_cons, List.length_nil]
      clear hvs e0 e1 e2 e3 e4 e5 e6 e7 e8 e9 e10 e11
      have p2 := hW1.2 rfl
      rw [hP2.out] at p2
      obtain ⟨f1, f2, f3, f4⟩ := p2
      clear hW1 C2 hP2 P2
      have H2 : ChgS w w2 (R2 bz oz (oz + 2 * n) br orr (orr + r)) :=
        (G1.out.mono fun k i _ h => R2_mono (Nat.le_refl _) (by omega) (Nat.le_refl _) (Nat.le_refl _) k i h).trans (f1.mono fun k i _ h => R2_mono (by omega) (Nat.le_refl _) (Nat.le_refl _) (Nat.le_refl _) k i h)
      have A2z0 : Arr .u64 B w2 bz oz (2 * q) := f1.arr g2 (fun i hi => not_R2 (by omega) (by omega))
      have N2z0 : num B w2 bz oz (2 * q) = num B w bx ox q * num B w byy oy q := (f1.num g2 (fun i hi => not_R2 (by omega) (by omega))).trans G4.out
      have F2r : Free w2 br orr r := H2.free hfr (fun _ => hbr)
      have F2z : Free w2 bz oz (2 * n) := H2.free hfz (fun _ => hbz)
      have A2x : Arr .u64 B w2 bx ox n := H2.arr hax (fun i hi => not_R2 (by omega) (by omega))
      have A2y : Arr .u64 B w2 byy oy n := H2.arr hay (fun i hi => not_R2 (by omega) (by omega))
      have N2x0 : num B w2 bx ox q = num B w bx ox q := H2.num (row_sub0 hax (by omega)) (fun i hi => not_R2 (by omega) (by omega))
      have N2y0 : num B w2 byy oy q = num B w byy oy q := H2.num (row_sub0 hay (by omega)) (fun i hi => not_R2 (by omega) (by omega))
      have N2x1 : num B w2 bx (ox + q) (n - q) = num B w bx (ox + q) (n - q) := H2.num (hax.sub (by omega)) (fun i hi => not_R2 (by omega) (by omega))
      have N2y1 : num B w2 byy (oy + q) (n - q) = num B w byy (oy + q) (n - q) := H2.num (hay.sub (by omega)) (fun i hi => not_R2 (by omega) (by omega))
      have b2r : br < w2.heap.size := Nat.lt_of_lt_of_le hbr H2.size
      have b2z : bz < w2.heap.size := Nat.lt_of_lt_of_le hbz H2.size
      obtain ⟨P3, hP3⟩ : ∃ P : World → Prop, Hid (P = fun w' => Chg w2 w' br orr (orr + q) ∧ Arr .u64 B w' br orr q ∧ num B w' br orr q = adiff (num B w bx ox q) (num B w bx (ox + q) (n - q))) := ⟨_, rfl⟩
      obtain ⟨P4, hP4⟩ : ∃ P : World → Prop, Hid (P = fun w' => ∃ wm, (Chg w2 wm br orr (orr + q) ∧ Arr .u64 B wm br orr q ∧ num B wm br orr q = adiff (num B w bx ox q) (num B w bx (ox + q) (n - q))) ∧
        Chg wm w' br (orr + q) (orr + q + q) ∧ Arr .u64 B w' br (orr + q) q ∧ num B w' br (orr + q) q = adiff (num B w byy oy q) (num B w byy (oy + q) (n - q))) := ⟨_, rfl⟩
      have C3 : Calls Tryz.prog 171 #[.slice (some ⟨br, orr, none⟩) (q) (q), .slice (some ⟨bx, ox, none⟩) (q) (q), .slice (some ⟨bx, ox + q, none⟩) (n - q) (cx - q)] w2.drew.drew fun e w' => e = .returned (.bool (ltB (num B w bx ox q) (num B w bx (ox + q) (n - q)))) ∧ P3 w' := by
        refine (distance_any w2.drew.drew _ _ _ br orr q q bx ox q q bx (ox + q) (n - q) (cx - q) (Sl.mk _ _ _) (Sl.mk _ _ _) (Sl.mk _ _ _) (row_sub0 f3 (by omega)) (free_sub0 F2r (by omega))
          (row_sub0 A2x (by omega)) (A2x.sub (by omega)) rfl (by omega) (by unfold maxLen; omega) (fun _ => by omega)).mono ?_
        rintro e w' ⟨rfl, c1, c2, c3⟩
        rw [← N2x0, ← N2x1, hP3.out, ← N2x0, ← N2x1]
        exact ⟨rfl, chg_undrew (chg_undrew c1), c2, c3⟩
      have C4 : ∀ wx, P3 wx → Calls Tryz.prog 171 #[.slice (some ⟨br, orr + q, none⟩) (q) (q), .slice (some ⟨byy, oy, none⟩) (q) (q), .slice (some ⟨byy, oy + q, none⟩) (n - q) (cy - q)] wx fun e w' => e = .returned (.bool (ltB (num B w byy oy q) (num B w byy (oy + q) (n - q)))) ∧ P4 w' := by
        intro wx hp
        rw [hP3.out] at hp
        obtain ⟨k1, k2, k3⟩ := hp
        refine (distance_any wx _ _ _ br (orr + q) q q byy oy q q byy (oy + q) (n - q) (cy - q) (Sl.mk _ _ _) (Sl.mk _ _ _) (Sl.mk _ _ _)
          (k1.arr (f3.sub (by omega)) (fun _ => b2r) (fun _ => by omega)) (k1.free (F2r.sub (by omega)) (fun _ => b2r))
          (k1.arr (row_sub0 A2y (by omega)) (row_sub0 A2y (show q ≤ n by omega)).lt (fun _ => by omega)) (k1.arr (A2y.sub (by omega)) (A2y.sub (d := q) (m := n - q) (by omega)).lt (fun _ => by omega)) rfl (by omega) (by unfold maxLen; omega) (fun _ => by omega)).mono ?_
        rintro e w' ⟨rfl, c1, c2, c3⟩
        have e1 : num B wx byy oy q = num B w byy oy q := (k1.num (row_sub0 A2y (show q ≤ n by omega)).lt (fun _ => by omega)).trans N2y0
        have e2 : num B wx byy (oy + q) (n - q) = num B w byy (oy + q) (n - q) := (k1.num (A2y.sub (d := q) (m := n - q) (by omega)).lt (fun _ => by omega)).trans N2y1
        rw [e1, e2] at c3
        rw [e1, e2, hP4.out]
        exact ⟨rfl, wx, ⟨k1, k2, k3⟩, c1, c2, c3⟩
      have HN : Hid _ := N2z0
      have HF4 : Hid _ := f4
      clear N2x0 N2x1 N2y0 N2y1 N2z0 f4 A2x A2y f1 G1 G4 g2 g3 F1r
      go_wp2
      refine wp_drawn mixed [⟨55, [], [], [3]⟩, ⟨56, [], [], [9]⟩, ⟨57, [], [], [9]⟩, ⟨58, [0, 1, 2], [0, 1, 2], []⟩, ⟨59, [], [], [3]⟩, ⟨60, [], [], [9]⟩, ⟨61, [], [], [9]⟩, ⟨62, [6], [6], []⟩, ⟨63, [], [], [9]⟩, ⟨64, [8], [8], []⟩, ⟨65, [4, 5, 7, 9], [4, 5, 6, 7, 8, 9], []⟩, ⟨66, [], [], [3]⟩, ⟨67, [], [], [9]⟩, ⟨68, [12], [12], []⟩, ⟨69, [], [], [9]⟩, ⟨70, [14], [14], []⟩, ⟨71, [], [], [9]⟩, ⟨72, [16], [16], []⟩, ⟨73, [11, 13, 15, 17], [11, 12, 13, 14, 15, 16, 17], []⟩, ⟨10, [0, 1, 2, 3], [0, 1, 2, 3], []⟩, ⟨11, [0, 1, 2, 3, 4, 5, 6, 7, 8, 9, 10, 19], [0, 1, 2, 3, 4, 5, 6, 7, 8, 9, 10, 19], []⟩, ⟨12, [0, 1, 2, 3, 4, 5, 6, 7, 8, 9, 10, 11, 12, 13, 14, 15, 16, 17, 18, 19, 20], [0, 1, 2, 3, 4, 5, 6, 7, 8, 9, 10, 11, 12, 13, 14, 15, 16, 17, 18, 19, 20], []⟩] [] (by kernel_rfl) 139 rfl (by kernel_rfl) (fun (i : Nat) (v : Value) (wq : World) => match i with | 0 => v = .slice (some ⟨br, orr, none⟩) (r) (cr) | 1 => v = .int .i64 ((q : Int)) | 2 => v = .int .i64 ((q : Int)) | 3 => v = .slice (some ⟨br, orr, none⟩) (q) (q) | 4 => v = .slice (some ⟨br, orr, none⟩) (r) (cr) | 5 => v = .int .i64 ((q : Int)) | 6 => v = .int .i64 ((q : Int)) | 7 => v = .int .i64 (2 * (q : Int)) | 8 => v = .int .i64 ((q : Int)) | 9 => v = .int .i64 (2 * (q : Int)) | 10 => v = .slice (some ⟨br, orr + q, none⟩) (q) (q) | 11 => v = .slice (some ⟨br, orr, none⟩) (r) (cr) | 12 => v = .int .i64 ((q : Int)) | 13 => v = .int .i64 (2 * (q : Int)) | 14 => v = .int .i64 ((q : Int)) | 15 => v = .int .i64 (4 * (q : Int)) | 16 => v = .int .i64 ((q : Int)) | 17 => v = .int .i64 (4 * (q : Int)) | 18 => v = .slice (some ⟨br, orr + 2 * q, none⟩) (2 * q) (2 * q) | 19 => v = .slice (some ⟨br, orr, none⟩) (q) (q) | 20 => v = .slice (some ⟨br, orr + q, none⟩) (q) (q) | 21 => v = .slice (some ⟨br, orr + 2 * q, none⟩) (2 * q) (2 * q) | _ => True) (fun _ w' => w' = w2.drew) (fun _ _ => True) rfl (fun _ _ _ _ h _ => h) ?_ ?_
      · intro i o r ho hr L a wx hW hL hpr hds hdef hpre hfree
        match i, ho, hr with
        | 0, ho, hr =>
          obtain rfl := Option.some.inj ho
          obtain rfl := Option.some.inj hr
          have t3 := ev_tmp (show a.eval (.tmp 3) = .slice (some ⟨br, orr, none⟩) (r) (cr) from hfree 3 (by decide))
          clear hpre hfree hdef
          obtain rfl := hW
          refine stpK rfl rfl fun K hK => ?_
          go_simp
          exact hK _ _ ⟨rfl, rfl, trivial, fun h => (List.not_mem_nil h).elim⟩
        | 1, ho, hr =>
          obtain rfl := Option.some.inj ho
          obtain rfl := Option.some.inj hr
          have t9 := ev_tmp (show a.eval (.tmp 9) = .int .i64 ((q : Int)) from hfree 9 (by decide))
          clear hpre hfree hdef
          obtain rfl := hW
          refine stpK rfl rfl fun K hK => ?_
          go_simp
          exact hK _ _ ⟨rfl, rfl, trivial, fun h => (List.not_mem_nil h).elim⟩
        | 2, ho, hr =>
          obtain rfl := Option.some.inj ho
          obtain rfl := Option.some.inj hr
          have t9 := ev_tmp (show a.eval (.tmp 9) = .int .i64 ((q : Int)) from hfree 9 (by decide))
          clear hpre hfree hdef
          obtain rfl := hW
          refine stpK rfl rfl fun K hK => ?_
          go_simp
          exact hK _ _ ⟨rfl, rfl, trivial, fun h => (List.not_mem_nil h).elim⟩
        | 3, ho, hr =>
          obtain rfl := Option.some.inj ho
          obtain rfl := Option.some.inj hr
          have e0 := ev_tmp (show a.eval (.tmp 55) = .slice (some ⟨br, orr, none⟩) (r) (cr) from hpre 0 (by decide) _ rfl)
          have e1 := ev_tmp (show a.eval (.tmp 56) = .int .i64 ((q : Int)) from hpre 1 (by decide) _ rfl)
          have e2 := ev_tmp (show a.eval (.tmp 57) = .int .i64 ((q : Int)) from hpre 2 (by decide) _ rfl)
          clear hpre hfree hdef
          obtain rfl := hW
          refine stpK rfl rfl fun K hK => ?_
          go_simp
          exact hK _ _ ⟨rfl, rfl, trivial, fun h => (List.not_mem_nil h).elim⟩
        | 4, ho, hr =>
          obtain rfl := Option.some.inj ho
          obtain rfl := Option.some.inj hr
          have t3 := ev_tmp (show a.eval (.tmp 3) = .slice (some ⟨br, orr, none⟩) (r) (cr) from hfree 3 (by decide))
          clear hpre hfree hdef
          obtain rfl := hW
          refine stpK rfl rfl fun K hK => ?_
          go_simp
          exact hK _ _ ⟨rfl, rfl, trivial, fun h => (List.not_mem_nil h).elim⟩
        | 5, ho, hr =>
          obtain rfl := Option.some.inj ho
          obtain rfl := Option.some.inj hr
          have t9 := ev_tmp (show a.eval (.tmp 9) = .int .i64 ((q : Int)) from hfree 9 (by decide))
          clear hpre hfree hdef
          obtain rfl := hW
          refine stpK rfl rfl fun K hK => ?_
          go_simp
          exact hK _ _ ⟨rfl, rfl, trivial, fun h => (List.not_mem_nil h).elim⟩
        | 6, ho, hr =>
          obtain rfl := Option.some.inj ho
          obtain rfl := Option.some.inj hr
          have t9 := ev_tmp (show a.eval (.tmp 9) = .int .i64 ((q : Int)) from hfree 9 (by decide))
          clear hpre hfree hdef
          obtain rfl := hW
          refine stpK rfl rfl fun K hK => ?_
          go_simp
          exact hK _ _ ⟨rfl, rfl, trivial, fun h => (List.not_mem_nil h).elim⟩
        | 7, ho, hr =>
          obtain rfl := Option.some.inj ho
          obtain rfl := Option.some.inj hr
          have e6 := ev_tmp (show a.eval (.tmp 61) = .int .i64 ((q : Int)) from hpre 6 (by decide) _ rfl)
          clear hpre hfree hdef
          obtain rfl := hW
          refine stpK rfl rfl fun K hK => ?_
          go_simp
          exact hK _ _ ⟨rfl, rfl, trivial, fun h => (List.not_mem_nil h).elim⟩
        | 8, ho, hr =>
          obtain rfl := Option.some.inj ho
          obtain rfl := Option.some.inj hr
          have t9 := ev_tmp (show a.eval (.tmp 9) = .int .i64 ((q : Int)) from hfree 9 (by decide))
          clear hpre hfree hdef
          obtain rfl := hW
          refine stpK rfl rfl fun K hK => ?_
          go_simp
          exact hK _ _ ⟨rfl, rfl, trivial, fun h => (List.not_mem_nil h).elim⟩
        | 9, ho, hr =>
          obtain rfl := Option.some.inj ho
          obtain rfl := Option.some.inj hr
          have e8 := ev_tmp (show a.eval (.tmp 63) = .int .i64 ((q : Int)) from hpre 8 (by decide) _ rfl)
          clear hpre hfree hdef
          obtain rfl := hW
          refine stpK rfl rfl fun K hK => ?_
          go_simp
          exact hK _ _ ⟨rfl, rfl, trivial, fun h => (List.not_mem_nil h).elim⟩
        | 10, ho, hr =>
          obtain rfl := Option.some.inj ho
          obtain rfl := Option.some.inj hr
          have e4 := ev_tmp (show a.eval (.tmp 59) = .slice (some ⟨br, orr, none⟩) (r) (cr) from hpre 4 (by decide) _ rfl)
          have e5 := ev_tmp (show a.eval (.tmp 60) = .int .i64 ((q : Int)) from hpre 5 (by decide) _ rfl)
          have e7 := ev_tmp (show a.eval (.tmp 62) = .int .i64 (2 * (q : Int)) from hpre 7 (by decide) _ rfl)
          have e9 := ev_tmp (show a.eval (.tmp 64) = .int .i64 (2 * (q : Int)) from hpre 9 (by decide) _ rfl)
          clear hpre hfree hdef
          obtain rfl := hW
          refine stpK rfl rfl fun K hK => ?_
          go_simp
          exact hK _ _ ⟨rfl, rfl, trivial, fun h => (List.not_mem_nil h).elim⟩
        | 11, ho, hr =>
          obtain rfl := Option.some.inj ho
          obtain rfl := Option.some.inj hr
          have t3 := ev_tmp (show a.eval (.tmp 3) = .slice (some ⟨br, orr, none⟩) (r) (cr) from hfree 3 (by decide))
          clear hpre hfree hdef
          obtain rfl := hW
          refine stpK rfl rfl fun K hK => ?_
          go_simp
          exact hK _ _ ⟨rfl, rfl, trivial, fun h => (List.not_mem_nil h).elim⟩
        | 12, ho, hr =>
          obtain rfl := Option.some.inj ho
          obtain rfl := Option.some.inj hr
          have t9 := ev_tmp (show a.eval (.tmp 9) = .int .i64 ((q : Int)) from hfree 9 (by decide))
          clear hpre hfree hdef
          obtain rfl := hW
          refine stpK rfl rfl fun K hK => ?_
          go_simp
          exact hK _ _ ⟨rfl, rfl, trivial, fun h => (List.not_mem_nil h).elim⟩
        | 13, ho, hr =>
          obtain rfl := Option.some.inj ho
          obtain rfl := Option.some.inj hr
          have e12 := ev_tmp (show a.eval (.tmp 67) = .int .i64 ((q : Int)) from hpre 12 (by decide) _ rfl)
          clear hpre hfree hdef
          obtain rfl := hW
          refine stpK rfl rfl fun K hK => ?_
          go_simp
          exact hK _ _ ⟨rfl, rfl, trivial, fun h => (List.not_mem_nil h).elim⟩
        | 14, ho, hr =>
          obtain rfl := Option.some.inj ho
          obtain rfl := Option.some.inj hr
          have t9 := ev_tmp (show a.eval (.tmp 9) = .int .i64 ((q : Int)) from hfree 9 (by decide))
          clear hpre hfree hdef
          obtain rfl := hW
          refine stpK rfl rfl fun K hK => ?_
          go_simp
          exact hK _ _ ⟨rfl, rfl, trivial, fun h => (List.not_mem_nil h).elim⟩
        | 15, ho, hr =>
          obtain rfl := Option.some.inj ho
          obtain rfl := Option.some.inj hr
          have e14 := ev_tmp (show a.eval (.tmp 69) = .int .i64 ((q : Int)) from hpre 14 (by decide) _ rfl)
          clear hpre hfree hdef
          obtain rfl := hW
          refine stpK rfl rfl fun K hK => ?_
          go_simp
          exact hK _ _ ⟨rfl, rfl, trivial, fun h => (List.not_mem_nil h).elim⟩
        | 16, ho, hr =>
          obtain rfl := Option.some.inj ho
          obtain rfl := Option.some.inj hr
          have t9 := ev_tmp (show a.eval (.tmp 9) = .int .i64 ((q : Int)) from hfree 9 (by decide))
          clear hpre hfree hdef
          obtain rfl := hW
          refine stpK rfl rfl fun K hK => ?_
          go_simp
          exact hK _ _ ⟨rfl, rfl, trivial, fun h => (List.not_mem_nil h).elim⟩
        | 17, ho, hr =>
          obtain rfl := Option.some.inj ho
          obtain rfl := Option.some.inj hr
          have e16 := ev_tmp (show a.eval (.tmp 71) = .int .i64 ((q : Int)) from hpre 16 (by decide) _ rfl)
          clear hpre hfree hdef
          obtain rfl := hW
          refine stpK rfl rfl fun K hK => ?_
          go_simp
          exact hK _ _ ⟨rfl, rfl, trivial, fun h => (List.not_mem_nil h).elim⟩
        | 18, ho, hr =>
          obtain rfl := Option.some.inj ho
          obtain rfl := Option.some.inj hr
          have e11 := ev_tmp (show a.eval (.tmp 66) = .slice (some ⟨br, orr, none⟩) (r) (cr) from hpre 11 (by decide) _ rfl)
          have e13 := ev_tmp (show a.eval (.tmp 68) = .int .i64 (2 * (q : Int)) from hpre 13 (by decide) _ rfl)
          have e15 := ev_tmp (show a.eval (.tmp 70) = .int .i64 (4 * (q : Int)) from hpre 15 (by decide) _ rfl)
          have e17 := ev_tmp (show a.eval (.tmp 72) = .int .i64 (4 * (q : Int)) from hpre 17 (by decide) _ rfl)
          clear hpre hfree hdef
          obtain rfl := hW
          refine stpK rfl rfl fun K hK => ?_
          go_simp
          exact hK _ _ ⟨rfl, rfl, trivial, fun h => (List.not_mem_nil h).elim⟩
        | 19, ho, hr =>
          obtain rfl := Option.some.inj ho
          obtain rfl := Option.some.inj hr
          have e3 := ev_tmp (show a.eval (.tmp 58) = .slice (some ⟨br, orr, none⟩) (q) (q) from hpre 3 (by decide) _ rfl)
          clear hpre hfree hdef
          obtain rfl := hW
          refine stpK rfl rfl fun K hK => ?_
          go_simp
          exact hK _ _ ⟨rfl, rfl, trivial, fun h => (List.not_mem_nil h).elim⟩
        | 20, ho, hr =>
          obtain rfl := Option.some.inj ho
          obtain rfl := Option.some.inj hr
          have e10 := ev_tmp (show a.eval (.tmp 65) = .slice (some ⟨br, orr + q, none⟩) (q) (q) from hpre 10 (by decide) _ rfl)
          clear hpre hfree hdef
          obtain rfl := hW
          refine stpK rfl rfl fun K hK => ?_
          go_simp
          exact hK _ _ ⟨rfl, rfl, trivial, fun h => (List.not_mem_nil h).elim⟩
        | 21, ho, hr =>
          obtain rfl := Option.some.inj ho
          obtain rfl := Option.some.inj hr
          have e18 := ev_tmp (show a.eval (.tmp 73) = .slice (some ⟨br, orr + 2 * q, none⟩) (2 * q) (2 * q) from hpre 18 (by decide) _ rfl)
          clear hpre hfree hdef
          obtain rfl := hW
          refine stpK rfl rfl fun K hK => ?_
          go_simp
          exact hK _ _ ⟨rfl, rfl, trivial, fun h => (List.not_mem_nil h).elim⟩
        | n + 22, ho, hr => exact absurd hr (by simp)
      · intro vs w3 hvs hW1 hap0
        clear hap0
        have e0 : vs 0 = .slice (some ⟨br, orr, none⟩) (r) (cr) := hvs 0 (by decide)
        have e1 : vs 1 = .int .i64 ((q : Int)) := hvs 1 (by decide)
        have e2 : vs 2 = .int .i64 ((q : Int)) := hvs 2 (by decide)
        have e3 : vs 3 = .slice (some ⟨br, orr, none⟩) (q) (q) := hvs 3 (by decide)
        have e4 : vs 4 = .slice (some ⟨br, orr, none⟩) (r) (cr) := hvs 4 (by decide)
        have e5 : vs 5 = .int .i64 ((q : Int)) := hvs 5 (by decide)
        have e6 : vs 6 = .int .i64 ((q : Int)) := hvs 6 (by decide)
        have e7 : vs 7 = .int .i64 (2 * (q : Int)) := hvs 7 (by decide)
        have e8 : vs 8 = .int .i64 ((q : Int)) := hvs 8 (by decide)
        have e9 : vs 9 = .int .i64 (2 * (q : Int)) := hvs 9 (by decide)
        have e10 : vs 10 = .slice (some ⟨br, orr + q, none⟩) (q) (q) := hvs 10 (by decide)
        have e11 : vs 11 = .slice (some ⟨br, orr, none⟩) (r) (cr) := hvs 11 (by decide)
        have e12 : vs 12 = .int .i64 ((q : Int)) := hvs 12 (by decide)
        have e13 : vs 13 = .int .i64 (2 * (q : Int)) := hvs 13 (by decide)
        have e14 : vs 14 = .int .i64 ((q : Int)) := hvs 14 (by decide)
        have e15 : vs 15 = .int .i64 (4 * (q : Int)) := hvs 15 (by decide)
        have e16 : vs 16 = .int .i64 ((q : Int)) := hvs 16 (by decide)
        have e17 : vs 17 = .int .i64 (4 * (q : Int)) := hvs 17 (by decide)
        have e18 : vs 18 = .slice (some ⟨br, orr + 2 * q, none⟩) (2 * q) (2 * q) := hvs 18 (by decide)
        have e19 : vs 19 = .slice (some ⟨br, orr, none⟩) (q) (q) := hvs 19 (by decide)
        have e20 : vs 20 = .slice (some ⟨br, orr + q, none⟩) (q) (q) := hvs 20 (by decide)
        have e21 : vs 21 = .slice (some ⟨br, orr + 2 * q, none⟩) (2 * q) (2 * q) := hvs 21 (by decide)
        simp only [puts, Nat.reduceAdd, e0, e1, e2, e3, e4, e5, e6, e7, e8, e9, e10, e11, e12, e13, e14, e15, e16, e17, e18, e19, e20, e21, Act.put, List.setIfInBounds_toArray, List.set_cons_zero, List.set_cons_succ, List.drop_succ_cons, List.drop_zero, List.length_cons, List.length_nil]
        clear hvs e0 e1 e2 e3 e4 e5 e6 e7 e8 e9 e10 e11 e12 e13 e14 e15 e16 e17 e18 e19 e20 e21
        obtain rfl := hW1
        go_wp2
        refine wp_drawn mixed [⟨74, [], [], [10]⟩, ⟨75, [], [], [1]⟩, ⟨76, [], [], [9]⟩, ⟨77, [], [], [9]⟩, ⟨78, [1, 2, 3], [1, 2, 3], []⟩, ⟨79, [], [], [1]⟩, ⟨80, [], [], [9]⟩, ⟨81, [5, 6], [5, 6], []⟩, ⟨82, [0, 4, 7], [0, 1, 2, 3, 4, 5, 6, 7], []⟩, ⟨83, [], [], [11]⟩, ⟨84, [], [], [2]⟩, ⟨85, [], [], [9]⟩, ⟨86, [], [], [9]⟩, ⟨87, [10, 11, 12], [10, 11, 12], []⟩, ⟨88, [], [], [2]⟩, ⟨89, [], [], [9]⟩, ⟨90, [14, 15], [14, 15], []⟩, ⟨91, [8, 9, 13, 16], [0, 1, 2, 3, 4, 5, 6, 7, 8, 9, 10, 11, 12, 13, 14, 15, 16], []⟩, ⟨92, [8, 17], [0, 1, 2, 3, 4, 5, 6, 7, 8, 9, 10, 11, 12, 13, 14, 15, 16, 17], []⟩, ⟨13, [0, 1, 2, 3, 4, 5, 6, 7, 8, 9, 10, 11, 12, 13, 14, 15, 16, 17, 18], [0, 1, 2, 3, 4, 5, 6, 7, 8, 9, 10, 11, 12, 13, 14, 15, 16, 17, 18], []⟩] [] (by kernel_rfl) 139 rfl (by kernel_rfl) (fun (i : Nat) (v : Value) (wq : World) => match i with | 0 => v = .slice (some ⟨br, orr, none⟩) (q) (q) | 1 => v = .slice (some ⟨bx, ox, none⟩) (n) (cx) | 2 => v = .int .i64 ((q : Int)) | 3 => v = .int .i64 ((q : Int)) | 4 => v = .slice (some ⟨bx, ox, none⟩) (q) (q) | 5 => v = .slice (some ⟨bx, ox, none⟩) (n) (cx) | 6 => v = .int .i64 ((q : Int)) | 7 => v = .slice (some ⟨bx, ox + q, none⟩) (n - q) (cx - q) | 8 => v = .bool (ltB (num B w bx ox q) (num B w bx (ox + q) (n - q))) | 9 => v = .slice (some ⟨br, orr + q, none⟩) (q) (q) | 10 => v = .slice (some ⟨byy, oy, none⟩) (n) (cy) | 11 => v = .int .i64 ((q : Int)) | 12 => v = .int .i64 ((q : Int)) | 13 => v = .slice (some ⟨byy, oy, none⟩) (q) (q) | 14 => v = .slice (some ⟨byy, oy, none⟩) (n) (cy) | 15 => v = .int .i64 ((q : Int)) | 16 => v = .slice (some ⟨byy, oy + q, none⟩) (n - q) (cy - q) | 17 => v = .bool (ltB (num B w byy oy q) (num B w byy (oy + q) (n - q))) | 18 => v = .bool ((ltB (num B w bx ox q) (num B w bx (ox + q) (n - q))) != (ltB (num B w byy oy q) (num B w byy (oy + q) (n - q)))) | 19 => v = .bool ((ltB (num B w bx ox q) (num B w bx (ox + q) (n - q))) != (ltB (num B w byy oy q) (num B w byy (oy + q) (n - q)))) | _ => True) (fun L w' => (L 8 = false → w' = w2.drew.drew) ∧ (L 8 = true → L 17 = false → P3 w') ∧ (L 17 = true → P4 w')) (fun _ _ => True) ⟨fun _ => rfl, (fun h => Bool.noConfusion h), (fun h => Bool.noConfusion h)⟩ (fun _ _ _ _ h _ => h) ?_ ?_
        · intro i o r ho hr L a wx hW hL hpr hds hdef hpre hfree
          match i, ho, hr with
          | 0, ho, hr =>
            obtain rfl := Option.some.inj ho
            obtain rfl := Option.some.inj hr
            have t10 := ev_tmp (show a.eval (.tmp 10) = .slice (some ⟨br, orr, none⟩) (q) (q) from hfree 10 (by decide))
            clear hpre hfree hdef
            refine stpK rfl rfl fun K hK => ?_
            go_simp
            exact hK _ _ ⟨rfl, ⟨fun h => hW.1 (by simpa using h), fun h1 h2 => hW.2.1 (by simpa using h1) (by simpa using h2), fun h => hW.2.2 (by simpa using h)⟩, trivial, fun h => (List.not_mem_nil h).elim⟩
          | 1, ho, hr =>
            obtain rfl := Option.some.inj ho
            obtain rfl := Option.some.inj hr
            have t1 := ev_tmp (show a.eval (.tmp 1) = .slice (some ⟨bx, ox, none⟩) (n) (cx) from hfree 1 (by decide))
            clear hpre hfree hdef
            refine stpK rfl rfl fun K hK => ?_
            go_simp
            exact hK _ _ ⟨rfl, ⟨fun h => hW.1 (by simpa using h), fun h1 h2 => hW.2.1 (by simpa using h1) (by simpa using h2), fun h => hW.2.2 (by simpa using h)⟩, trivial, fun h => (List.not_mem_nil h).elim⟩
          | 2, ho, hr =>
            obtain rfl := Option.some.inj ho
            obtain rfl := Option.some.inj hr
            have t9 := ev_tmp (show a.eval (.tmp 9) = .int .i64 ((q : Int)) from hfree 9 (by decide))
            clear hpre hfree hdef
            refine stpK rfl rfl fun K hK => ?_
            go_simp
            exact hK _ _ ⟨rfl, ⟨fun h => hW.1 (by simpa using h), fun h1 h2 => hW.2.1 (by simpa using h1) (by simpa using h2), fun h => hW.2.2 (by simpa using h)⟩, trivial, fun h => (List.not_mem_nil h).elim⟩
          | 3, ho, hr =>
            obtain rfl := Option.some.inj ho
            obtain rfl := Option.some.inj hr
            have t9 := ev_tmp (show a.eval (.tmp 9) = .int .i64 ((q : Int)) from hfree 9 (by decide))
            clear hpre hfree hdef
            refine stpK rfl rfl fun K hK => ?_
            go_simp
            exact hK _ _ ⟨rfl, ⟨fun h => hW.1 (by simpa using h), fun h1 h2 => hW.2.1 (by simpa using h1) (by simpa using h2), fun h => hW.2.2 (by simpa using h)⟩, trivial, fun h => (List.not_mem_nil h).elim⟩
          | 4, ho, hr =>
            obtain rfl := Option.some.inj ho
            obtain rfl := Option.some.inj hr
            have e1 := ev_tmp (show a.eval (.tmp 75) = .slice (some ⟨bx, ox, none⟩) (n) (cx) from hpre 1 (by decide) _ rfl)
            have e2 := ev_tmp (show a.eval (.tmp 76) = .int .i64 ((q : Int)) from hpre 2 (by decide) _ rfl)
            have e3 := ev_tmp (show a.eval (.tmp 77) = .int .i64 ((q : Int)) from hpre 3 (by decide) _ rfl)
            clear hpre hfree hdef
            refine stpK rfl rfl fun K hK => ?_
            go_simp
            exact hK _ _ ⟨rfl, ⟨fun h => hW.1 (by simpa using h), fun h1 h2 => hW.2.1 (by simpa using h1) (by simpa using h2), fun h => hW.2.2 (by simpa using h)⟩, trivial, fun h => (List.not_mem_nil h).elim⟩
          | 5, ho, hr =>
            obtain rfl := Option.some.inj ho
            obtain rfl := Option.some.inj hr
            have t1 := ev_tmp (show a.eval (.tmp 1) = .slice (some ⟨bx, ox, none⟩) (n) (cx) from hfree 1 (by decide))
            clear hpre hfree hdef
            refine stpK rfl rfl fun K hK => ?_
            go_simp
            exact hK _ _ ⟨rfl, ⟨fun h => hW.1 (by simpa using h), fun h1 h2 => hW.2.1 (by simpa using h1) (by simpa using h2), fun h => hW.2.2 (by simpa using h)⟩, trivial, fun h => (List.not_mem_nil h).elim⟩
          | 6, ho, hr =>
            obtain rfl := Option.some.inj ho
            obtain rfl := Option.some.inj hr
            have t9 := ev_tmp (show a.eval (.tmp 9) = .int .i64 ((q : Int)) from hfree 9 (by decide))
            clear hpre hfree hdef
            refine stpK rfl rfl fun K hK => ?_
            go_simp
            exact hK _ _ ⟨rfl, ⟨fun h => hW.1 (by simpa using h), fun h1 h2 => hW.2.1 (by simpa using h1) (by simpa using h2), fun h => hW.2.2 (by simpa using h)⟩, trivial, fun h => (List.not_mem_nil h).elim⟩
          | 7, ho, hr =>
            obtain rfl := Option.some.inj ho
            obtain rfl := Option.some.inj hr
            have e5 := ev_tmp (show a.eval (.tmp 79) = .slice (some ⟨bx, ox, none⟩) (n) (cx) from hpre 5 (by decide) _ rfl)
            have e6 := ev_tmp (show a.eval (.tmp 80) = .int .i64 ((q : Int)) from hpre 6 (by decide) _ rfl)
            clear hpre hfree hdef
            refine stpK rfl rfl fun K hK => ?_
            go_simp
            exact hK _ _ ⟨rfl, ⟨fun h => hW.1 (by simpa using h), fun h1 h2 => hW.2.1 (by simpa using h1) (by simpa using h2), fun h => hW.2.2 (by simpa using h)⟩, trivial, fun h => (List.not_mem_nil h).elim⟩
          | 8, ho, hr =>
            obtain rfl := Option.some.inj ho
            obtain rfl := Option.some.inj hr
            have e0 := ev_tmp (show a.eval (.tmp 74) = .slice (some ⟨br, orr, none⟩) (q) (q) from hpre 0 (by decide) _ rfl)
            have e4 := ev_tmp (show a.eval (.tmp 78) = .slice (some ⟨bx, ox, none⟩) (q) (q) from hpre 4 (by decide) _ rfl)
            have e7 := ev_tmp (show a.eval (.tmp 81) = .slice (some ⟨bx, ox + q, none⟩) (n - q) (cx - q) from hpre 7 (by decide) _ rfl)
            clear hpre hfree hdef
            refine stpK rfl rfl fun K hK => ?_
            obtain rfl := hW.1 hL
            go_simp
            refine C3.mono ?_
            rintro e w'' ⟨rfl, hpost⟩
            have hL17 : L 17 = false := hds 17 (by decide)
            exact hK _ _ ⟨rfl, ⟨fun h => by simp at h, fun _ _ => hpost, fun h => by simp [hL17] at h⟩, trivial, fun h => (List.not_mem_nil h).elim⟩
          | 9, ho, hr =>
            obtain rfl := Option.some.inj ho
            obtain rfl := Option.some.inj hr
            have t11 := ev_tmp (show a.eval (.tmp 11) = .slice (some ⟨br, orr + q, none⟩) (q) (q) from hfree 11 (by decide))
            clear hpre hfree hdef
            refine stpK rfl rfl fun K hK => ?_
            go_simp
            exact hK _ _ ⟨rfl, ⟨fun h => hW.1 (by simpa using h), fun h1 h2 => hW.2.1 (by simpa using h1) (by simpa using h2), fun h => hW.2.2 (by simpa using h)⟩, trivial, fun h => (List.not_mem_nil h).elim⟩
          | 10, ho, hr =>
            obtain rfl := Option.some.inj ho
            obtain rfl := Option.some.inj hr
            have t2 := ev_tmp (show a.eval (.tmp 2) = .slice (some ⟨byy, oy, none⟩) (n) (cy) from hfree 2 (by decide))
            clear hpre hfree hdef
            refine stpK rfl rfl fun K hK => ?_
            go_simp
            exact hK _ _ ⟨rfl, ⟨fun h => hW.1 (by simpa using h), fun h1 h2 => hW.2.1 (by simpa using h1) (by simpa using h2), fun h => hW.2.2 (by simpa using h)⟩, trivial, fun h => (List.not_mem_nil h).elim⟩
          | 11, ho, hr =>
            obtain rfl := Option.some.inj ho
            obtain rfl := Option.some.inj hr
            have t9 := ev_tmp (show a.eval (.tmp 9) = .int .i64 ((q : Int)) from hfree 9 (by decide))
            clear hpre hfree hdef
            refine stpK rfl rfl fun K hK => ?_
            go_simp
            exact hK _ _ ⟨rfl, ⟨fun h => hW.1 (by simpa using h), fun h1 h2 => hW.2.1 (by simpa using h1) (by simpa using h2), fun h => hW.2.2 (by simpa using h)⟩, trivial, fun h => (List.not_mem_nil h).elim⟩
          | 12, ho, hr =>
            obtain rfl := Option.some.inj ho
            obtain rfl := Option.some.inj hr
            have t9 := ev_tmp (show a.eval (.tmp 9) = .int .i64 ((q : Int)) from hfree 9 (by decide))
            clear hpre hfree hdef
            refine stpK rfl rfl fun K hK => ?_
            go_simp
            exact hK _ _ ⟨rfl, ⟨fun h => hW.1 (by simpa using h), fun h1 h2 => hW.2.1 (by simpa using h1) (by simpa using h2), fun h => hW.2.2 (by simpa using h)⟩, trivial, fun h => (List.not_mem_nil h).elim⟩
          | 13, ho, hr =>
            obtain rfl := Option.some.inj ho
            obtain rfl := Option.some.inj hr
            have e10 := ev_tmp (show a.eval (.tmp 84) = .slice (some ⟨byy, oy, none⟩) (n) (cy) from hpre 10 (by decide) _ rfl)
            have e11 := ev_tmp (show a.eval (.tmp 85) = .int .i64 ((q : Int)) from hpre 11 (by decide) _ rfl)
            have e12 := ev_tmp (show a.eval (.tmp 86) = .int .i64 ((q : Int)) from hpre 12 (by decide) _ rfl)
            clear hpre hfree hdef
            refine stpK rfl rfl fun K hK => ?_
            go_simp
            exact hK _ _ ⟨rfl, ⟨fun h => hW.1 (by simpa using h), fun h1 h2 => hW.2.1 (by simpa using h1) (by simpa using h2), fun h => hW.2.2 (by simpa using h)⟩, trivial, fun h => (List.not_mem_nil h).elim⟩
          | 14, ho, hr =>
            obtain rfl := Option.some.inj ho
            obtain rfl := Option.some.inj hr
            have t2 := ev_tmp (show a.eval (.tmp 2) = .slice (some ⟨byy, oy, none⟩) (n) (cy) from hfree 2 (by decide))
            clear hpre hfree hdef
            refine stpK rfl rfl fun K hK => ?_
            go_simp
            exact hK _ _ ⟨rfl, ⟨fun h => hW.1 (by simpa using h), fun h1 h2 => hW.2.1 (by simpa using h1) (by simpa using h2), fun h => hW.2.2 (by simpa using h)⟩, trivial, fun h => (List.not_mem_nil h).elim⟩
          | 15, ho, hr =>
            obtain rfl := Option.some.inj ho
            obtain rfl := Option.some.inj hr
            have t9 := ev_tmp (show a.eval (.tmp 9) = .int .i64 ((q : Int)) from hfree 9 (by decide))
            clear hpre hfree hdef
            refine stpK rfl rfl fun K hK => ?_
            go_simp
            exact hK _ _ ⟨rfl, ⟨fun h => hW.1 (by simpa using h), fun h1 h2 => hW.2.1 (by simpa using h1) (by simpa using h2), fun h => hW.2.2 (by simpa using h)⟩, trivial, fun h => (List.not_mem_nil h).elim⟩
          | 16, ho, hr =>
            obtain rfl := Option.some.inj ho
            obtain rfl := Option.some.inj hr
            have e14 := ev_tmp (show a.eval (.tmp 88) = .slice (some ⟨byy, oy, none⟩) (n) (cy) from hpre 14 (by decide) _ rfl)
            have e15 := ev_tmp (show a.eval (.tmp 89) = .int .i64 ((q : Int)) from hpre 15 (by decide) _ rfl)
            clear hpre hfree hdef
            refine stpK rfl rfl fun K hK => ?_
            go_simp
            exact hK _ _ ⟨rfl, ⟨fun h => hW.1 (by simpa using h), fun h1 h2 => hW.2.1 (by simpa using h1) (by simpa using h2), fun h => hW.2.2 (by simpa using h)⟩, trivial, fun h => (List.not_mem_nil h).elim⟩
          | 17, ho, hr =>
            obtain rfl := Option.some.inj ho
            obtain rfl := Option.some.inj hr
            have e9 := ev_tmp (show a.eval (.tmp 83) = .slice (some ⟨br, orr + q, none⟩) (q) (q) from hpre 9 (by decide) _ rfl)
            have e13 := ev_tmp (show a.eval (.tmp 87) = .slice (some ⟨byy, oy, none⟩) (q) (q) from hpre 13 (by decide) _ rfl)
            have e16 := ev_tmp (show a.eval (.tmp 90) = .slice (some ⟨byy, oy + q, none⟩) (n - q) (cy - q) from hpre 16 (by decide) _ rfl)
            clear hpre hfree hdef
            refine stpK rfl rfl fun K hK => ?_
            have hp3 := hW.2.1 (hpr 8 (by decide)) hL
            have hL8 : L 8 = true := hpr 8 (by decide)
            have CC := C4 wx hp3
            go_simp
            refine CC.mono ?_
            rintro e w'' ⟨rfl, hpost⟩
            exact hK _ _ ⟨rfl, ⟨fun h => by simp [hL8] at h, fun _ h => by simp at h, fun _ => hpost⟩, trivial, fun h => (List.not_mem_nil h).elim⟩
          | 18, ho, hr =>
            obtain rfl := Option.some.inj ho
            obtain rfl := Option.some.inj hr
            have e8 := ev_tmp (show a.eval (.tmp 82) = .bool (ltB (num B w bx ox q) (num B w bx (ox + q) (n - q))) from hpre 8 (by decide) _ rfl)
            have e17 := ev_tmp (show a.eval (.tmp 91) = .bool (ltB (num B w byy oy q) (num B w byy (oy + q) (n - q))) from hpre 17 (by decide) _ rfl)
            clear hpre hfree hdef
            refine stpK rfl rfl fun K hK => ?_
            go_simp
            exact hK _ _ ⟨rfl, ⟨fun h => hW.1 (by simpa using h), fun h1 h2 => hW.2.1 (by simpa using h1) (by simpa using h2), fun h => hW.2.2 (by simpa using h)⟩, trivial, fun h => (List.not_mem_nil h).elim⟩
          | 19, ho, hr =>
            obtain rfl := Option.some.inj ho
            obtain rfl := Option.some.inj hr
            have e18 := ev_tmp (show a.eval (.tmp 92) = .bool ((ltB (num B w bx ox q) (num B w bx (ox + q) (n - q))) != (ltB (num B w byy oy q) (num B w byy (oy + q) (n - q)))) from hpre 18 (by decide) _ rfl)
            clear hpre hfree hdef
            refine stpK rfl rfl fun K hK => ?_
            go_simp
            exact hK _ _ ⟨rfl, ⟨fun h => hW.1 (by simpa using h), fun h1 h2 => hW.2.1 (by simpa using h1) (by simpa using h2), fun h => hW.2.2 (by simpa using h)⟩, trivial, fun h => (List.not_mem_nil h).elim⟩
          | n + 20, ho, hr => exact absurd hr (by simp)
        · intro vs w4 hvs hW1 hap0
          clear hap0
          have e0 : vs 0 = .slice (some ⟨br, orr, none⟩) (q) (q) := hvs 0 (by decide)
          have e1 : vs 1 = .slice (some ⟨bx, ox, none⟩) (n) (cx) := hvs 1 (by decide)
          have e2 : vs 2 = .int .i64 ((q : Int)) := hvs 2 (by decide)
          have e3 : vs 3 = .int .i64 ((q : Int)) := hvs 3 (by decide)
          have e4 : vs 4 = .slice (some ⟨bx, ox, none⟩) (q) (q) := hvs 4 (by decide)
          have e5 : vs 5 = .slice (some ⟨bx, ox, none⟩) (n) (cx) := hvs 5 (by decide)
          have e6 : vs 6 = .int .i64 ((q : Int)) := hvs 6 (by decide)
          have e7 : vs 7 = .slice (some ⟨bx, ox + q, none⟩) (n - q) (cx - q) := hvs 7 (by decide)
          have e8 : vs 8 = .bool (ltB (num B w bx ox q) (num B w bx (ox + q) (n - q))) := hvs 8 (by decide)
          have e9 : vs 9 = .slice (some ⟨br, orr + q, none⟩) (q) (q) := hvs 9 (by decide)
          have e10 : vs 10 = .slice (some ⟨byy, oy, none⟩) (n) (cy) := hvs 10 (by decide)
          have e11 : vs 11 = .int .i64 ((q : Int)) := hvs 11 (by decide)
          have e12 : vs 12 = .int .i64 ((q : Int)) := hvs 12 (by decide)
          have e13 : vs 13 = .slice (some ⟨byy, oy, none⟩) (q) (q) := hvs 13 (by decide)
          have e14 : vs 14 = .slice (some ⟨byy, oy, none⟩) (n) (cy) := hvs 14 (by decide)
          have e15 : vs 15 = .int .i64 ((q : Int)) := hvs 15 (by decide)
          have e16 : vs 16 = .slice (some ⟨byy, oy + q, none⟩) (n - q) (cy - q) := hvs 16 (by decide)
          have e17 : vs 17 = .bool (ltB (num B w byy oy q) (num B w byy (oy + q) (n - q))) := hvs 17 (by decide)
          have e18 : vs 18 = .bool ((ltB (num B w bx ox q) (num B w bx (ox + q) (n - q))) != (ltB (num B w byy oy q) (num B w byy (oy + q) (n - q)))) := hvs 18 (by decide)
          have e19 : vs 19 = .bool ((ltB (num B w bx ox q) (num B w bx (ox + q) (n - q))) != (ltB (num B w byy oy q) (num B w byy (oy + q) (n - q)))) := hvs 19 (by decide)
          simp only [puts, Nat.reduceAdd, e0, e1, e2, e3, e4, e5, e6, e7, e8, e9, e10, e11, e12, e13, e14, e15, e16, e17, e18, e19, Act.put, List.setIfInBounds_toArray, List.set_cons_zero, List.set_cons_succ, List.drop_succ_cons, List.drop_zero, List.length_cons, List.length_nil]
          clear hvs e0 e1 e2 e3 e4 e5 e6 e7 e8 e9 e10 e11 e12 e13 e14 e15 e16 e17 e18 e19
          have p4 := hW1.2.2 rfl
          rw [hP4.out] at p4
          obtain ⟨wm, ⟨k1, k2, k3⟩, k4, k5, k6⟩ := p4
          clear hW1 C3 C4 hP3 hP4 P3 P4
          have K4 : Chg w2 w4 br orr (orr + 2 * q) := (k1.mono (Nat.le_refl _) (by omega)).trans (k4.mono (by omega) (by omega))
          have A4a : Arr .u64 B w4 br orr q := k4.arr k2 k2.lt (fun _ => by omega)
          have N4a : num B w4 br orr q = adiff (num B w bx ox q) (num B w bx (ox + q) (n - q)) := (k4.num k2.lt (fun _ => by omega)).trans k3
          have A4c : Arr .u64 B w4 br (orr + 2 * q) (2 * q) := K4.arr (f3.sub (by omega)) (fun _ => b2r) (fun _ => by omega)
          have A4m : Arr .u64 B w4 br (orr + 4 * q) (r - 4 * q) := K4.arr (f3.sub (by omega)) (fun _ => b2r) (fun _ => by omega)
          have F4r : Free w4 br orr r := K4.free F2r (fun _ => b2r)
          have A4z0 : Arr .u64 B w4 bz oz (2 * q) := K4.arr A2z0 (fun _ => b2z) (fun _ => by omega)
          have N4z0 : num B w4 bz oz (2 * q) = num B w bx ox q * num B w byy oy q := (K4.num (fun _ => b2z) (fun _ => by omega)).trans HN.out
          have A4z1 : Arr .u64 B w4 bz (oz + 2 * q) (2 * (n - q)) := K4.arr f2 (fun _ => b2z) (fun _ => by omega)
          have N4z1 : num B w4 bz (oz + 2 * q) (2 * (n - q)) = num B w bx (ox + q) (n - q) * num B w byy (oy + q) (n - q) := (K4.num (fun _ => b2z) (fun _ => by omega)).trans HF4.out
          have b4r : br < w4.heap.size := Nat.lt_of_lt_of_le b2r K4.size
          have b4z : bz < w4.heap.size := Nat.lt_of_lt_of_le b2z K4.size
          have H4 : ChgS w w4 (R2 bz oz (oz + 2 * n) br orr (orr + r)) := H2.trans ((K4.toS (by omega)).mono fun k i _ h => by unfold R2; omega)
          have C5 := ih q w4 br (orr + 2 * q) (2 * q) br orr q br (orr + q) q br (orr + 4 * q) (r - 4 * q) (cr - 4 * q) (by omega) (by omega) hen (Nat.le_refl _) (Nat.le_refl _) (Nat.le_refl _) (by omega) (by unfold maxLen; omega) (by unfold maxLen; omega)
            A4c (F4r.sub (by omega)) A4a k5 A4m (F4r.sub (by omega)) (fun _ _ => by omega) (fun _ _ => by omega) (fun _ _ => by omega) (fun _ _ => by omega) (fun _ _ => by omega) _ (Sl.mk _ _ _)
          rw [N4a, k6] at C5
          have z11 : ¬ cr = 4 * q := by omega
          have i13 : 4 * (q : Int) ≤ (r : Int) := by omega
          have AR4 : Arr .u64 B w4 br orr r := fun i hi => by
            by_cases y1 : i < q
            · exact A4a i y1
            · by_cases y2 : i < 2 * q
              · obtain ⟨j, rfl⟩ := Nat.exists_eq_add_of_le (Nat.le_of_not_lt y1)
                have := k5 j (by omega)
                rwa [Nat.add_assoc] at this
              · have e := K4.cell (orr + i) (by omega)
                rw [word_of_cell e, e]; exact f3 i hi
          have HC5 : Hid _ := C5
          have HN0 : Hid _ := N4z0
          have HN1 : Hid _ := N4z1
          clear C5 N4z0 N4z1 N4a k1 k2 k3 k4 k5 k6 A4a A4c A4m HN HF4 K4 f2 f3 F2r F2z A2z0 H2
          go_wp2_with (go_at_call 145; fail)
          refine Calls.mono HC5.out ?_
          rintro e w5 ⟨rfl, g1, g2, g3, g4⟩
          have A5z0 : Arr .u64 B w5 bz oz (2 * q) := g1.arr A4z0 (fun i hi => not_R2 (by omega) (by omega))
          have N5z0 : num B w5 bz oz (2 * q) = num B w bx ox q * num B w byy oy q := (g1.num A4z0 (fun i hi => not_R2 (by omega) (by omega))).trans HN0.out
          have A5z1 : Arr .u64 B w5 bz (oz + 2 * q) (2 * (n - q)) := g1.arr A4z1 (fun i hi => not_R2 (by omega) (by omega))
          have N5z1 : num B w5 bz (oz + 2 * q) (2 * (n - q)) = num B w bx (ox + q) (n - q) * num B w byy (oy + q) (n - q) := (g1.num A4z1 (fun i hi => not_R2 (by omega) (by omega))).trans HN1.out
          have A5m : Arr .u64 B w5 br (orr + 4 * q) (2 * q + 1) := row_sub0 g3 (by omega)
          have AR5 : Arr .u64 B w5 br orr r := fun i hi => by
            by_cases y1 : i < 2 * q
            · have e := g1.cell br (orr + i) b4r (not_R2 (by omega) (by omega))
              rw [word_of_cell e, e]; exact AR4 i hi
            · by_cases y2 : i < 4 * q
              · obtain ⟨j, rfl⟩ := Nat.exists_eq_add_of_le (Nat.le_of_not_lt y1)
                have := g2 j (by omega)
                rwa [Nat.add_assoc] at this
              · obtain ⟨j, rfl⟩ := Nat.exists_eq_add_of_le (Nat.le_of_not_lt y2)
                have := g3 j (by omega)
                rwa [Nat.add_assoc] at this
          have F5m : Free w5 br (orr + 4 * q) (2 * q + 1) := g1.free (F4r.sub (by omega)) (fun _ => b4r)
          have b5r : br < w5.heap.size := Nat.lt_of_lt_of_le b4r g1.size
          have b5z : bz < w5.heap.size := Nat.lt_of_lt_of_le b4z g1.size
          have H5 : ChgS w w5 (R2 bz oz (oz + 2 * n) br orr (orr + r)) := H4.trans (g1.mono fun k i _ h => by unfold R2 at *; omega)
          have s3 : IntKind.i64.wrap (6 * (q : Int)) = 6 * (q : Int) := by rw [IntKind.wrap_i64]; omega
          have s4 : IntKind.i64.wrap (6 * (q : Int) + 1) = 6 * (q : Int) + 1 := by rw [IntKind.wrap_i64]; omega
          have i14 : 6 * (q : Int) + 1 ≤ (cr : Int) := by omega
          have i15 : 4 * (q : Int) ≤ 6 * (q : Int) + 1 := by omega
          have z12 : 6 * q + 1 - 4 * q = 2 * q + 1 := by omega
          have z13 : ¬ 6 * q + 1 = 4 * q := by omega
          obtain ⟨i98, hi0, hz0, hz1, hz2⟩ := info_parts info98
          have G4 : Hid _ := g4
          have HN50 : Hid _ := N5z0
          have HN51 : Hid _ := N5z1
          have HN50x : Hid _ := N5z0
          have HN51x : Hid _ := N5z1
          clear AR4 g4 g1 g3 HC5 HN0 HN1 A4z0 A4z1 H4 F4r N5z0 N5z1
          go_wp2_with (first
            | (refine wpList_clearRow .u64 B B_pos rfl _ 22 rfl 98 i98 Tryz.underlying22 hi0 hz0 _ _ _ rfl br (orr + 4 * q) (Sl.mk _ _ _) A5m F5m ?_; intro w6 hcl)
            | (refine wpList_copyRow .u64 B rfl _ _ 22 22 rfl 98 Tryz.underlying22 size98 _ _ _ _ _ _ rfl rfl br (orr + 4 * q) bz oz (Sl.mk _ _ _) (Sl.mk _ _ _) hcl.arr (hcl.chg.free F5m (fun _ => b5r)) (hcl.chg.arr A5z0 (fun _ => b5z) (fun _ => by omega)) ?_; intro w7 hcp))
          rw [Nat.min_eq_left (by omega)] at hcp
          obtain ⟨A7m, N7m⟩ := row_filled hcl.arr hcl.zero (by omega) hcp
          have K7 : Chg w5 w7 br (orr + 4 * q) (orr + 4 * q + (2 * q + 1)) := hcl.chg.trans (hcp.chg.mono (Nat.le_refl _) (by omega))
          have N7m' : num B w7 br (orr + 4 * q) (2 * q + 1) = num B w bx ox q * num B w byy oy q := N7m.trans ((hcl.chg.num (fun _ => b5z) (fun _ => by omega)).trans HN50.out)
          have A7z1 : Arr .u64 B w7 bz (oz + 2 * q) (2 * (n - q)) := K7.arr A5z1 (fun _ => b5z) (fun _ => by omega)
          have N7z1 : num B w7 bz (oz + 2 * q) (2 * (n - q)) = num B w bx (ox + q) (n - q) * num B w byy (oy + q) (n - q) := (K7.num (fun _ => b5z) (fun _ => by omega)).trans HN51.out
          have A7c : Arr .u64 B w7 br (orr + 2 * q) (2 * q) := K7.arr g2 (fun _ => b5r) (fun _ => by omega)
          have N7c : num B w7 br (orr + 2 * q) (2 * q) = adiff (num B w bx ox q) (num B w bx (ox + q) (n - q)) * adiff (num B w byy oy q) (num B w byy (oy + q) (n - q)) := (K7.num (fun _ => b5r) (fun _ => by omega)).trans G4.out
          have F7m : Free w7 br (orr + 4 * q) (2 * q + 1) := K7.free F5m (fun _ => b5r)
          have b7r : br < w7.heap.size := Nat.lt_of_lt_of_le b5r K7.size
          have hx0 : num B w bx ox q < B ^ q := num_lt (row_sub0 hax (by omega))
          have hy0 : num B w byy oy q < B ^ q := num_lt (row_sub0 hay (by omega))
          have hx1 : num B w bx (ox + q) (n - q) < B ^ (n - q) := num_lt (hax.sub (by omega))
          have hy1 : num B w byy (oy + q) (n - q) < B ^ (n - q) := num_lt (hay.sub (by omega))
          have hle1 : B ^ (n - q) ≤ B ^ q := Nat.pow_le_pow_right B_pos (by omega)
          have BX : Hid (num B w bx ox q < B ^ q ∧ num B w byy oy q < B ^ q ∧ num B w bx (ox + q) (n - q) < B ^ (n - q) ∧ num B w byy (oy + q) (n - q) < B ^ (n - q) ∧ num B w bx (ox + q) (n - q) < B ^ q ∧ num B w byy (oy + q) (n - q) < B ^ q) :=
            ⟨hx0, hy0, hx1, hy1, Nat.lt_of_lt_of_le hx1 hle1, Nat.lt_of_lt_of_le hy1 hle1⟩
          clear hx0 hy0 hx1 hy1 hle1 N7m hcp hcl HN50 HN51 G4
          refine (addTo_any w7 _ _ br (orr + 4 * q) (2 * q + 1) (2 * q + 1) bz (oz + 2 * q) (2 * (n - q)) (cz - 2 * q) (Sl.mk _ _ _) (Sl.mk _ _ _) A7m F7m A7z1 (by omega) (fun _ => by omega) (by unfold maxLen; omega)).mono ?_
          rintro e w8 ⟨rfl, h1, h2, c, h3, h4⟩
          rw [N7m', N7z1] at h4
          have hM : num B w8 br (orr + 4 * q) (2 * q + 1) = num B w bx ox q * num B w byy oy q + num B w bx (ox + q) (n - q) * num B w byy (oy + q) (n - q) :=
            _root_.Rad.sum_fits two_le_B h4 (prod_lt BX.out.1 BX.out.2.1) (prod_lt BX.out.2.2.2.2.1 BX.out.2.2.2.2.2)
          have A8c : Arr .u64 B w8 br (orr + 2 * q) (2 * q) := h1.arr A7c (fun _ => b7r) (fun _ => by omega)
          have N8c : num B w8 br (orr + 2 * q) (2 * q) = adiff (num B w bx ox q) (num B w bx (ox + q) (n - q)) * adiff (num B w byy oy q) (num B w byy (oy + q) (n - q)) := (h1.num (fun _ => b7r) (fun _ => by omega)).trans N7c
          have F8m : Free w8 br (orr + 4 * q) (2 * q + 1) := h1.free F7m (fun _ => b7r)
          have K8 : Chg w5 w8 br (orr + 4 * q) (orr + 4 * q + (2 * q + 1)) := K7.trans h1
          have HM8 : Hid _ := hM
          have HN8c : Hid _ := N8c
          clear h4 h3 hM N8c N7c N7z1 N7m' A7c A7z1 A7m F7m K7 h1
          obtain ⟨MID, hMID⟩ : ∃ M, Hid (M = num B w bx ox q * num B w byy (oy + q) (n - q) + num B w bx (ox + q) (n - q) * num B w byy oy q) := ⟨_, rfl⟩
          cases hb : (ltB (num B w bx ox q) (num B w bx (ox + q) (n - q)) != ltB (num B w byy oy q) (num B w byy (oy + q) (n - q)))
          case' true =>
            have hsg : Hid ((num B w bx ox q < num B w bx (ox + q) (n - q) ∧ num B w byy (oy + q) (n - q) ≤ num B w byy oy q) ∨ (num B w bx (ox + q) (n - q) ≤ num B w bx ox q ∧ num B w byy oy q < num B w byy (oy + q) (n - q))) := by
              unfold ltB at hb
              show _ ∨ _
              by_cases p1 : num B w bx ox q < num B w bx (ox + q) (n - q) <;> by_cases p2 : num B w byy oy q < num B w byy (oy + q) (n - q) <;> simp [p1, p2] at hb <;> omega
            clear hb
            go_wp2_with (go_at_call 142; fail)
            refine (addTo_any w8 _ _ br (orr + 4 * q) (2 * q + 1) (2 * q + 1) br (orr + 2 * q) (2 * q) (2 * q) (Sl.mk _ _ _) (Sl.mk _ _ _) h2 F8m A8c (by omega) (fun _ => by omega) (by unfold maxLen; omega)).mono ?_
            rintro e w9 ⟨rfl, j1, j2, c', j3, j4⟩
            rw [HM8.out, HN8c.out, _root_.Rad.middle_add (a := adiff (num B w bx ox q) (num B w bx (ox + q) (n - q))) (b := adiff (num B w byy oy q) (num B w byy (oy + q) (n - q))) hsg.out rfl rfl] at j4
            have N9m : num B w9 br (orr + 4 * q) (2 * q + 1) = MID := by
              rw [hMID.out]
              exact _root_.Rad.sum_fits two_le_B j4 (prod_lt BX.out.1 BX.out.2.2.2.2.2) (prod_lt BX.out.2.2.2.2.1 BX.out.2.1)
            clear j3 j4 hsg
          case' false =>
            have hsg : Hid ((num B w bx ox q < num B w bx (ox + q) (n - q) ∧ num B w byy oy q < num B w byy (oy + q) (n - q)) ∨ (num B w bx (ox + q) (n - q) ≤ num B w bx ox q ∧ num B w byy (oy + q) (n - q) ≤ num B w byy oy q)) := by
              unfold ltB at hb
              show _ ∨ _
              by_cases p1 : num B w bx ox q < num B w bx (ox + q) (n - q) <;> by_cases p2 : num B w byy oy q < num B w byy (oy + q) (n - q) <;> simp [p1, p2] at hb <;> omega
            clear hb
            go_wp2_with (go_at_call 143; fail)
            refine (subFrom_any w8 _ _ br (orr + 4 * q) (2 * q + 1) (2 * q + 1) br (orr + 2 * q) (2 * q) (2 * q) (Sl.mk _ _ _) (Sl.mk _ _ _) h2 F8m A8c (by omega) (fun _ => by omega) (by unfold maxLen; omega)).mono ?_
            rintro e w9 ⟨c', rfl, j1, j2, j3, j4⟩
            rw [HM8.out, HN8c.out, _root_.Rad.middle_sub (a := adiff (num B w bx ox q) (num B w bx (ox + q) (n - q))) (b := adiff (num B w byy oy q) (num B w byy (oy + q) (n - q))) hsg.out rfl rfl] at j4
            have N9m : num B w9 br (orr + 4 * q) (2 * q + 1) = MID := by
              rw [hMID.out]
              have := _root_.Rad.diff_fits j4 (num_lt j2) (Nat.le_add_left _ _)
              rwa [Nat.add_sub_cancel] at this
            clear j3 j4 hsg
          all_goals
            have K9 : Chg w5 w9 br (orr + 4 * q) (orr + 4 * q + (2 * q + 1)) := K8.trans j1
            have A5z : Arr .u64 B w5 bz oz (2 * n) := fun i hi => by
              by_cases hiq : i < 2 * q
              · exact A5z0 i hiq
              · obtain ⟨j, rfl⟩ := Nat.exists_eq_add_of_le (Nat.le_of_not_lt hiq)
                have := A5z1 j (by omega)
                rwa [Nat.add_assoc] at this
            have A9z : Arr .u64 B w9 bz oz (2 * n) := K9.arr A5z (fun _ => b5z) (fun _ => by omega)
            have b9z : bz < w9.heap.size := Nat.lt_of_lt_of_le b5z K9.size
            have b9r : br < w9.heap.size := Nat.lt_of_lt_of_le b5r K9.size
            have H9 : ChgS w w9 (R2 bz oz (oz + 2 * n) br orr (orr + r)) := H5.trans ((K9.toS (by omega)).mono fun k i _ h => by unfold R2; omega)
            have F9z : Free w9 bz oz (2 * n) := H9.free hfz (fun _ => hbz)
            have hT : num B w9 bz oz q + B ^ q * num B w9 bz (oz + q) (2 * n - q) = num B w bx ox q * num B w byy oy q + B ^ (2 * q) * (num B w bx (ox + q) (n - q) * num B w byy (oy + q) (n - q)) := by
              rw [← num_add, show q + (2 * n - q) = 2 * q + 2 * (n - q) by omega, num_add, K9.num (fun _ => b5z) (fun _ => by omega), K9.num (fun _ => b5z) (fun _ => by omega), HN50x.out, HN51x.out]
            have AR9 : Arr .u64 B w9 br orr r := fun i hi => by
              by_cases y1 : 4 * q ≤ i ∧ i < 4 * q + (2 * q + 1)
              · obtain ⟨j, rfl⟩ := Nat.exists_eq_add_of_le y1.1
                have := j2 j (by omega)
                rwa [Nat.add_assoc] at this
              · have e := K9.cell (orr + i) (by omega)
                rw [word_of_cell e, e]; exact AR5 i hi
            have HT : Hid _ := hT
            have HN9 : Hid _ := N9m
            obtain ⟨P7, hP7⟩ : ∃ P : World → Prop, Hid (P = fun w' => Chg w9 w' bz (oz + q) (oz + 2 * n) ∧ Arr .u64 B w' bz (oz + q) (2 * n - q) ∧
              ∃ c, num B w' bz (oz + q) (2 * n - q) + B ^ (2 * n - q) * c = num B w9 bz (oz + q) (2 * n - q) + MID) := ⟨_, rfl⟩
            have C6 : Calls Tryz.prog 86 #[.slice (some ⟨br, orr + 4 * q, none⟩) (2 * q + 1) (2 * q + 1), .int .i64 (2 * (q : Int) + 1)] w9.drew fun e w' => ∃ k, e = .returned (.slice (some ⟨br, orr + 4 * q, none⟩) k k) ∧ w' = w9.drew ∧ k ≤ 2 * q + 1 ∧
                num B w9 br (orr + 4 * q) k = MID ∧ (k = 0 ∨ B ^ (k - 1) ≤ MID) := by
              rw [show (2 * (q : Int) + 1) = ((2 * q + 1 : Nat) : Int) by omega]
              refine (front_any w9.drew _ br (orr + 4 * q) (2 * q + 1) (2 * q + 1) (2 * q + 1) (Sl.mk _ _ _) (Nat.le_refl _) (by unfold maxLen; omega) (by unfold maxLen; omega) j2).mono ?_
              rintro e w' ⟨k, rfl, rfl, p1, p2, p3, p4⟩
              have hk : num B w9 br (orr + 4 * q) k = MID := by
                rw [← HN9.out]
                exact (_root_.Rad.vs_top p1 (fun i y1 y2 => p4 i y1 y2 y2)).symm
              refine ⟨k, rfl, rfl, p1, hk, ?_⟩
              rcases p3 with p3 | p3
              · exact .inl p3
              · rcases Nat.eq_zero_or_pos k with hk0 | hk0
                · exact .inl hk0
                · right; rw [← hk]; exact _root_.Rad.vs_ge hk0 p3
            have C7 : ∀ k : Nat, k ≤ 2 * q + 1 → num B w9 br (orr + 4 * q) k = MID → (k = 0 ∨ B ^ (k - 1) ≤ MID) →
                Calls Tryz.prog 142 #[.slice (some ⟨bz, oz + q, none⟩) (2 * n - q) (cz - q), .slice (some ⟨br, orr + 4 * q, none⟩) k k] w9.drew fun e w' => e = .returned (.tuple #[]) ∧ P7 w' := by
              intro k p1 p2 p3
              have hkn : k ≤ 2 * n - q := by
                have := _root_.Rad.middle_words two_le_B BX.out.1 BX.out.2.2.1 BX.out.2.1 BX.out.2.2.2.1 hMID.out p3
                omega
              refine (addTo_any w9.drew _ _ bz (oz + q) (2 * n - q) (cz - q) br (orr + 4 * q) k k (Sl.mk _ _ _) (Sl.mk _ _ _) (A9z.sub (by omega)) (F9z.sub (by omega)) (row_sub0 j2 p1) hkn (fun _ => by omega) (by unfold maxLen; omega)).mono ?_
              rintro e w' ⟨rfl, y1, y2, c', y3, y4⟩
              rw [hP7.out]
              refine ⟨rfl, ?_, y2, c', ?_⟩
              · have := chg_undrew y1
                rwa [show oz + q + (2 * n - q) = oz + 2 * n by omega] at this
              · rw [← p2]; exact y4
            have z14 : ¬ cz = q := by omega
            have i16 : (q : Int) ≤ 2 * (n : Int) := by omega
            have i17 : (q : Int) ≤ (cz : Int) := by omega
            clear AR5 hT N9m h2 K8 j1 A5z0 A5z1 A5z K9 H5 F5m g2
            go_wp2
            refine wp_drawn mixed [⟨131, [], [], [0]⟩, ⟨132, [], [], [9]⟩, ⟨133, [0, 1], [0, 1], []⟩, ⟨134, [], [], [14]⟩, ⟨135, [], [], [14]⟩, ⟨136, [4], [4], []⟩, ⟨137, [3, 5], [3, 4, 5], []⟩, ⟨138, [2, 6], [0, 1, 2, 3, 4, 5, 6], []⟩] [] (by kernel_rfl) 139 rfl (by kernel_rfl) (fun (i : Nat) (v : Value) (wq : World) => match i with | 0 => v = .slice (some ⟨bz, oz, none⟩) (2 * n) (cz) | 1 => v = .int .i64 ((q : Int)) | 2 => v = .slice (some ⟨bz, oz + q, none⟩) (2 * n - q) (cz - q) | 3 => v = .slice (some ⟨br, orr + 4 * q, none⟩) (2 * q + 1) (2 * q + 1) | 4 => v = .slice (some ⟨br, orr + 4 * q, none⟩) (2 * q + 1) (2 * q + 1) | 5 => v = .int .i64 (2 * (q : Int) + 1) | 6 => ∃ k : Nat, v = .slice (some ⟨br, orr + 4 * q, none⟩) k k ∧ k ≤ 2 * q + 1 ∧ num B w9 br (orr + 4 * q) k = MID ∧ (k = 0 ∨ B ^ (k - 1) ≤ MID) | 7 => v = .tuple #[] | _ => True) (fun L w' => (L 7 = false → w' = w9.drew) ∧ (L 7 = true → P7 w')) (fun _ _ => True) ⟨fun _ => rfl, (fun h => Bool.noConfusion h)⟩ (fun _ _ _ _ h _ => h) ?_ ?_
            · intro i o r ho hr L a wx hW hL hpr hds hdef hpre hfree
              match i, ho, hr with
              | 0, ho, hr =>
                obtain rfl := Option.some.inj ho
                obtain rfl := Option.some.inj hr
                have t0 := ev_tmp (show a.eval (.tmp 0) = .slice (some ⟨bz, oz, none⟩) (2 * n) (cz) from hfree 0 (by decide))
                clear hpre hfree hdef
                refine stpK rfl rfl fun K hK => ?_
                go_simp
                exact hK _ _ ⟨rfl, ⟨fun h => hW.1 (by simpa using h), fun h => hW.2 (by simpa using h)⟩, trivial, fun h => (List.not_mem_nil h).elim⟩
              | 1, ho, hr =>
                obtain rfl := Option.some.inj ho
                obtain rfl := Option.some.inj hr
                have t9 := ev_tmp (show a.eval (.tmp 9) = .int .i64 ((q : Int)) from hfree 9 (by decide))
                clear hpre hfree hdef
                refine stpK rfl rfl fun K hK => ?_
                go_simp
                exact hK _ _ ⟨rfl, ⟨fun h => hW.1 (by simpa using h), fun h => hW.2 (by simpa using h)⟩, trivial, fun h => (List.not_mem_nil h).elim⟩
              | 2, ho, hr =>
                obtain rfl := Option.some.inj ho
                obtain rfl := Option.some.inj hr
                have e0 := ev_tmp (show a.eval (.tmp 131) = .slice (some ⟨bz, oz, none⟩) (2 * n) (cz) from hpre 0 (by decide) _ rfl)
                have e1 := ev_tmp (show a.eval (.tmp 132) = .int .i64 ((q : Int)) from hpre 1 (by decide) _ rfl)
                clear hpre hfree hdef
                refine stpK rfl rfl fun K hK => ?_
                go_simp
                exact hK _ _ ⟨rfl, ⟨fun h => hW.1 (by simpa using h), fun h => hW.2 (by simpa using h)⟩, trivial, fun h => (List.not_mem_nil h).elim⟩
              | 3, ho, hr =>
                obtain rfl := Option.some.inj ho
                obtain rfl := Option.some.inj hr
                have t14 := ev_tmp (show a.eval (.tmp 14) = .slice (some ⟨br, orr + 4 * q, none⟩) (2 * q + 1) (2 * q + 1) from hfree 14 (by decide))
                clear hpre hfree hdef
                refine stpK rfl rfl fun K hK => ?_
                go_simp
                exact hK _ _ ⟨rfl, ⟨fun h => hW.1 (by simpa using h), fun h => hW.2 (by simpa using h)⟩, trivial, fun h => (List.not_mem_nil h).elim⟩
              | 4, ho, hr =>
                obtain rfl := Option.some.inj ho
                obtain rfl := Option.some.inj hr
                have t14 := ev_tmp (show a.eval (.tmp 14) = .slice (some ⟨br, orr + 4 * q, none⟩) (2 * q + 1) (2 * q + 1) from hfree 14 (by decide))
                clear hpre hfree hdef
                refine stpK rfl rfl fun K hK => ?_
                go_simp
                exact hK _ _ ⟨rfl, ⟨fun h => hW.1 (by simpa using h), fun h => hW.2 (by simpa using h)⟩, trivial, fun h => (List.not_mem_nil h).elim⟩
              | 5, ho, hr =>
                obtain rfl := Option.some.inj ho
                obtain rfl := Option.some.inj hr
                have e4 := ev_tmp (show a.eval (.tmp 135) = .slice (some ⟨br, orr + 4 * q, none⟩) (2 * q + 1) (2 * q + 1) from hpre 4 (by decide) _ rfl)
                clear hpre hfree hdef
                refine stpK rfl rfl fun K hK => ?_
                go_simp
                exact hK _ _ ⟨rfl, ⟨fun h => hW.1 (by simpa using h), fun h => hW.2 (by simpa using h)⟩, trivial, fun h => (List.not_mem_nil h).elim⟩
              | 6, ho, hr =>
                obtain rfl := Option.some.inj ho
                obtain rfl := Option.some.inj hr
                have e3 := ev_tmp (show a.eval (.tmp 134) = .slice (some ⟨br, orr + 4 * q, none⟩) (2 * q + 1) (2 * q + 1) from hpre 3 (by decide) _ rfl)
                have e5 := ev_tmp (show a.eval (.tmp 136) = .int .i64 (2 * (q : Int) + 1) from hpre 5 (by decide) _ rfl)
                clear hpre hfree hdef
                refine stpK rfl rfl fun K hK => ?_
                obtain rfl := hW.1 (hds 7 (by decide))
                go_simp
                refine C6.mono ?_
                rintro e w'' ⟨k, rfl, rfl, hk1, hk2, hk3⟩
                exact hK _ _ ⟨⟨k, rfl, hk1, hk2, hk3⟩, ⟨fun h => hW.1 (by simpa using h), fun h => hW.2 (by simpa using h)⟩, trivial, fun h => (List.not_mem_nil h).elim⟩
              | 7, ho, hr =>
                obtain rfl := Option.some.inj ho
                obtain rfl := Option.some.inj hr
                have e2 := ev_tmp (show a.eval (.tmp 133) = .slice (some ⟨bz, oz + q, none⟩) (2 * n - q) (cz - q) from hpre 2 (by decide) _ rfl)
                have e6 := hpre 6 (by decide) _ rfl
                clear hpre hfree hdef
                refine stpK rfl rfl fun K hK => ?_
                obtain rfl := hW.1 hL
                obtain ⟨k, hv6, hk1, hk2, hk3⟩ := e6
                have e6v := ev_tmp hv6
                clear hv6
                have C7k := C7 k hk1 hk2 hk3
                go_simp
                refine C7k.mono ?_
                rintro e w'' ⟨rfl, hpost⟩
                exact hK _ _ ⟨rfl, ⟨fun h => by simp at h, fun _ => hpost⟩, trivial, fun h => (List.not_mem_nil h).elim⟩
              | n + 8, ho, hr => exact absurd hr (by simp)
            · intro vs w10 hvs hW1 hap0
              clear hap0
              have e0 : vs 0 = .slice (some ⟨bz, oz, none⟩) (2 * n) (cz) := hvs 0 (by decide)
              have e1 : vs 1 = .int .i64 ((q : Int)) := hvs 1 (by decide)
              have e2 : vs 2 = .slice (some ⟨bz, oz + q, none⟩) (2 * n - q) (cz - q) := hvs 2 (by decide)
              have e3 : vs 3 = .slice (some ⟨br, orr + 4 * q, none⟩) (2 * q + 1) (2 * q + 1) := hvs 3 (by decide)
              have e4 : vs 4 = .slice (some ⟨br, orr + 4 * q, none⟩) (2 * q + 1) (2 * q + 1) := hvs 4 (by decide)
              have e5 : vs 5 = .int .i64 (2 * (q : Int) + 1) := hvs 5 (by decide)
              have e6 := hvs 6 (by decide)
              have e7 : vs 7 = .tuple #[] := hvs 7 (by decide)
              simp only [puts, Nat.reduceAdd, e0, e1, e2, e3, e4, e5, e7, Act.put, List.setIfInBounds_toArray, List.set_cons_zero, List.set_cons_succ, List.drop_succ_cons, List.drop_zero, List.length_cons, List.length_nil]
              clear hvs e0 e1 e2 e3 e4 e5 e7
              have p7 := hW1.2 rfl
              rw [hP7.out] at p7
              obtain ⟨y1, y2, c', y3⟩ := p7
              clear hW1 C6 C7 hP7 P7
              have hfin : num B w10 bz oz (2 * n) = num B w bx ox n * num B w byy oy n := by
                rw [show 2 * n = q + (2 * n - q) by omega, num_add, y1.num (fun _ => b9z) (fun _ => by omega),
                  show num B w bx ox n = num B w bx ox q + B ^ q * num B w bx (ox + q) (n - q) by rw [← num_add]; congr 1; omega,
                  show num B w byy oy n = num B w byy oy q + B ^ q * num B w byy (oy + q) (n - q) by rw [← num_add]; congr 1; omega]
                have e9 : 2 * n - q = q + 2 * (n - q) := by omega
                refine _root_.Rad.halves_sum BX.out.1 BX.out.2.2.1 BX.out.2.1 BX.out.2.2.2.1 hMID.out HT.out (c := c') ?_
                rw [← e9]; exact y3
              have hA : Arr .u64 B w10 bz oz (2 * n) := fun i hi => by
                by_cases hiq : i < q
                · have e := y1.cell (oz + i) (by omega)
                  rw [word_of_cell e, e]; exact A9z i hi
                · obtain ⟨j, rfl⟩ := Nat.exists_eq_add_of_le (Nat.le_of_not_lt hiq)
                  have := y2 j (by omega)
                  rwa [Nat.add_assoc] at this
              have H10 : ChgS w w10 (R2 bz oz (oz + 2 * n) br orr (orr + r)) := H9.trans ((y1.toS (by omega)).mono fun k i _ h => by unfold R2; omega)
              have hR : Arr .u64 B w10 br orr r := y1.arr AR9 (fun _ => b9r) (fun _ => by omega)
              have HF : Hid _ := hfin
              clear hfin
              go_wp2
              go_end0
              exact ⟨rfl, H10, hA, hR, HF.out⟩
end Go.Proofs.YtjlkplidpdhgbaaGreatDoor
