/- A part of the proof: G2. -/
import Derived.Test.YtjlkplidpdhgbaaGreatDoorP02
import Derived.Test.YtjlkplidpdhgbaaGreatDoorP07
import Derived.Test.YtjlkplidpdhgbaaGreatDoorP09
import Derived.Deep.Cut
import Derived.Deep.CutRange
set_option linter.all false

namespace Go.Proofs.YtjlkplidpdhgbaaGreatDoor
open Go Go.Proofs Go.RowKit Go.Rad

/-- A variable of type turn. -/
structure TB (w : World) (b p q r s : Nat) (odd : Bool) : Prop where
  lt : b < w.heap.size
  c0 : w.cell? ⟨b, 0, none⟩ = some (.int .u64 (p : Int))
  c1 : w.cell? ⟨b, 1, none⟩ = some (.int .u64 (q : Int))
  c2 : w.cell? ⟨b, 2, none⟩ = some (.int .u64 (r : Int))
  c3 : w.cell? ⟨b, 3, none⟩ = some (.int .u64 (s : Int))
  c4 : w.cell? ⟨b, 4, none⟩ = some (.bool odd)
  f0 : w.frozen? ⟨b, 0, none⟩ = false
  f1 : w.frozen? ⟨b, 1, none⟩ = false
  f2 : w.frozen? ⟨b, 2, none⟩ = false
  f3 : w.frozen? ⟨b, 3, none⟩ = false
  f4 : w.frozen? ⟨b, 4, none⟩ = false
theorem TB.mk0 (w : World) (p q r s : Nat) (odd : Bool) (T : TypeId) : TB (w.alloc (Obj.cells #[.int .u64 (p : Int), .int .u64 (q : Int), .int .u64 (r : Int), .int .u64 (s : Int), .bool odd] T)) w.heap.size p q r s odd :=
  ⟨by simp, by simp [go_sem], by simp [go_sem], by simp [go_sem], by simp [go_sem], by simp [go_sem], by simp [go_sem], by simp [go_sem], by simp [go_sem], by simp [go_sem], by simp [go_sem]⟩
theorem TB.below {w w' : World} {b C p q r s : Nat} {odd : Bool} (h : TB w b p q r s odd) (hb : Below C w w') (hC : b < C) : TB w' b p q r s odd := by
  obtain ⟨lt, c0, c1, c2, c3, c4, f0, f1, f2, f3, f4⟩ := h
  have e := hb.block b hC
  exact ⟨Nat.lt_of_lt_of_le lt hb.size, (World.cell?_of_block e).trans c0, (World.cell?_of_block e).trans c1, (World.cell?_of_block e).trans c2, (World.cell?_of_block e).trans c3, (World.cell?_of_block e).trans c4,
    (World.frozen?_of_block e).trans f0, (World.frozen?_of_block e).trans f1, (World.frozen?_of_block e).trans f2, (World.frozen?_of_block e).trans f3, (World.frozen?_of_block e).trans f4⟩

abbrev S2 (b c : Nat) : Nat → Nat → Prop := fun k _ => k = b ∨ k = c
theorem _root_.Go.Rad.ChgS.setB {a w : World} {b c : Nat} (h : ChgS a w (S2 b c)) {p i : Nat} (hp : p = b ∨ p = c) (v : Value) : ChgS a (w.setCell ⟨p, i, none⟩ v) (S2 b c) :=
  h.trans ⟨rfl, rfl, rfl, by simp, fun k _ hs => Below.heap_setCell _ _ _ _ (fun e => hs 0 (by subst e; exact hp)), fun k j _ hs => cell_other (.inl (fun e => hs (by subst e; exact hp))), fun _ _ _ => World.frozen?_setCell _ _ _ _⟩

theorem _root_.Go.Rad.ChgS.of_below {w w' : World} (h : Below w.heap.size w w') (S : Nat → Nat → Prop) : ChgS w w' S :=
  ⟨h.os, h.tape, h.output, h.size, fun k hk _ => h.block k hk, fun k i hk _ => World.cell?_of_block (h.block k hk), fun k i hk => World.frozen?_of_block (h.block k hk)⟩

/-- How far mix has come. -/
structure MixI (w wr : World) (bx ox by' oy n p q r s : Nat) (k px qy rx sy xc yc : Nat) : Prop where
  kn : k ≤ n
  lt : px < B ∧ qy < B ∧ rx < B ∧ sy < B
  c1 : xc ≤ 1
  c2 : yc ≤ 1
  chg : ChgS w wr (S2 bx by')
  ax : Arr .u64 B wr bx ox n
  ay : Arr .u64 B wr by' oy n
  ux : ∀ i, k ≤ i → word wr bx (ox + i) = word w bx (ox + i)
  uy : ∀ i, k ≤ i → word wr by' (oy + i) = word w by' (oy + i)
  ex : num B wr bx ox k + q * num B w by' oy k + B ^ k * px = p * num B w bx ox k + B ^ k * (qy + xc)
  ey : num B wr by' oy k + r * num B w bx ox k + B ^ k * sy = s * num B w by' oy k + B ^ k * (rx + yc)

theorem ma_eq (a b c : Nat) : lo (a * b + c) + B * hi (a * b + c) = a * b + c := lo_hi _
theorem mulAdd_lt {a b c : Nat} (ha : a < B) (hb : b < B) (hc : c < B) : hi (a * b + c) < B := (mulAdd_num ha hb hc).2.2.2
theorem MixI.step {w wr : World} {bx ox by' oy n p q r s k px qy rx sy xc yc : Nat} (h : MixI w wr bx ox by' oy n p q r s k px qy rx sy xc yc) (hb : bx ≠ by') (hk : k < n) (pB : p < B) (qB : q < B) (rB : r < B) (sB : s < B)
    {a b : Nat} (ha : a = word w bx (ox + k)) (hb' : b = word w by' (oy + k)) (aB : a < B) (bB : b < B) :
    MixI w ((wr.setCell ⟨bx, ox + k, none⟩ (.int .u64 (sb (lo (p * a + px)) (lo (q * b + qy)) xc : Nat))).setCell ⟨by', oy + k, none⟩ (.int .u64 (sb (lo (s * b + sy)) (lo (r * a + rx)) yc : Nat)))
      bx ox by' oy n p q r s (k + 1) (hi (p * a + px)) (hi (q * b + qy)) (hi (r * a + rx)) (hi (s * b + sy)) (bw (lo (p * a + px)) (lo (q * b + qy)) xc) (bw (lo (s * b + sy)) (lo (r * a + rx)) yc) := by
  obtain ⟨kn, ⟨l1, l2, l3, l4⟩, c1, c2, chg, ax, ay, ux, uy, ex, ey⟩ := h
  have hx := sb_lt (lo (p * a + px)) (lo (q * b + qy)) xc
  have hy := sb_lt (lo (s * b + sy)) (lo (r * a + rx)) yc
  have h3 := sb_bw (lo_lt (p * a + px)) (lo_lt (q * b + qy)) c1
  have h4 := sb_bw (lo_lt (s * b + sy)) (lo_lt (r * a + rx)) c2
  have ax1 := ax.set (i := k) hx
  have ay1 : Arr .u64 B (wr.setCell ⟨bx, ox + k, none⟩ (.int .u64 (sb (lo (p * a + px)) (lo (q * b + qy)) xc : Nat))) by' oy n := ay.set' (.inl hb)
  refine ⟨hk, ⟨mulAdd_lt pB aB l1, mulAdd_lt qB bB l2, mulAdd_lt rB aB l3, mulAdd_lt sB bB l4⟩, bw_le _ _ _, bw_le _ _ _, (chg.setB (.inl rfl) _).setB (.inr rfl) _, ax1.set' (.inl hb.symm), ay1.set hy, ?_, ?_, ?_, ?_⟩
  · intro i hi
    rw [word_set_other (.inl hb), word_set_other (.inr (by omega)), ux i (by omega)]
  · intro i hi
    rw [word_set_other (.inr (by omega)), word_set_other (.inl hb.symm), uy i (by omega)]
  · rw [num_set_other (.inl hb.symm), num_store ax hk, num_succ, num_succ, ← ha, ← hb', Nat.pow_succ]
    exact _root_.Rad.mix_word ex (ma_eq p a px) (ma_eq q b qy) h3
  · rw [num_store ay1 hk, num_set_other (.inl hb), num_succ, num_succ, ← ha, ← hb', Nat.pow_succ]
    exact _root_.Rad.mix_word ey (ma_eq s b sy) (ma_eq r a rx) h4
set_option maxRecDepth 10000 in
set_option maxHeartbeats 2000000 in
theorem mix_any (w : World) (bx ox cx by' oy cy n p q r s : Nat) (odd : Bool) (hx : Arr .u64 B w bx ox n) (hy : Arr .u64 B w by' oy n) (fx : Free w bx ox n) (fy : Free w by' oy n) (hb : bx ≠ by')
    (hcx : n ≤ cx) (hcy : n ≤ cy) (hcm : cy ≤ maxLen) (pB : p < B) (qB : q < B) (rB : r < B) (sB : s < B) (hn : 0 < n) :
    Calls Tryz.prog 173 #[.agg #[.int .u64 p, .int .u64 q, .int .u64 r, .int .u64 s, .bool odd], .slice (some ⟨bx, ox, none⟩) n cx, .slice (some ⟨by', oy, none⟩) n cy] w fun e w' => e = .returned (.tuple #[]) ∧
      ChgS w w' (S2 bx by') ∧ Arr .u64 B w' bx ox n ∧ Arr .u64 B w' by' oy n ∧
      (∀ z, p * num B w bx ox n = q * num B w by' oy n + z → z < B ^ n → num B w' bx ox n = z) ∧
      (∀ z, s * num B w by' oy n = r * num B w bx ox n + z → z < B ^ n → num B w' by' oy n = z) := by
  unfold maxLen at hcm
  have lx := hx.lt hn
  have ly := hy.lt hn
  go_enter Tryz.func173, Tryz.ntmps173
  go_upto_region 1 with fail
  refine wp_world (fun w1 => Below w.heap.size w w1 ∧ TB w1 w.heap.size p q r s odd) ⟨bel1 _ _, TB.mk0 _ _ _ _ _ _ _⟩ ?_
  rintro w1 ⟨hB1, T⟩
  have hx1 := arr_below hx hB1
  have hy1 := arr_below hy hB1
  have fx1 : Free w1 bx ox n := fun i hi => (World.frozen?_of_block (hB1.block bx lx)).trans (fx i hi)
  have fy1 : Free w1 by' oy n := fun i hi => (World.frozen?_of_block (hB1.block by' ly)).trans (fy i hi)
  have nx1 : num B w1 bx ox n = num B w bx ox n := num_below hx hB1
  have ny1 : num B w1 by' oy n = num B w by' oy n := num_below hy hB1
  have hs1 := hB1.size
  have HN : Hid (num B w1 bx ox n = num B w bx ox n ∧ num B w1 by' oy n = num B w by' oy n) := ⟨nx1, ny1⟩
  have HB1 : Hid (Below w.heap.size w w1) := hB1
  have tne : w.heap.size ≠ bx ∧ w.heap.size ≠ by' := by omega
  obtain ⟨bt, hbt⟩ : ∃ bt, w.heap.size = bt := ⟨_, rfl⟩
  rw [hbt] at T tne hs1 lx ly ⊢
  have HT : Hid (TB w1 bt p q r s odd) := T
  have Hw : Hid (w.heap.size = bt) := hbt
  clear hx hy fx fy nx1 ny1 hB1 hbt T
  go_wp2
  go_loopw [6, 7, 8, 9, 10, 11, 23] (fun a6 a7 a8 a9 a10 a11 i wr => ∃ px qy rx sy xc yc k : Nat, a6 = .int .u64 px ∧ a7 = .int .u64 qy ∧ a8 = .int .u64 rx ∧ a9 = .int .u64 sy ∧ a10 = .int .u64 xc ∧ a11 = .int .u64 yc ∧ i = .int .i64 k ∧
      MixI w1 wr bx ox by' oy n p q r s k px qy rx sy xc yc)
    (fun _ _ _ _ _ _ i _ => n - (intOf i).toNat)
  case atStart => exact ⟨0, 0, 0, 0, 0, 0, 0, rfl, rfl, rfl, rfl, rfl, rfl, rfl, by omega, ⟨B_pos, B_pos, B_pos, B_pos⟩, by omega, by omega, ChgS.refl _ _, hx1, hy1, fun _ _ => rfl, fun _ _ => rfl, by simp [num_zero], by simp [num_zero]⟩
  case round =>
    obtain ⟨px, qy, rx, sy, xc, yc, k, rfl, rfl, rfl, rfl, rfl, rfl, rfl, HI⟩ := hrel
    have hk := HI.kn
    by_cases hlt : k < n
    · have hxk := arr_cell HI.ax hlt
      have hyk := arr_cell HI.ay hlt
      have exk := HI.ux k (Nat.le_refl _)
      have eyk := HI.uy k (Nat.le_refl _)
      have aB := arr_lt HI.ax hlt
      have bB := arr_lt HI.ay hlt
      have hfx : wr.frozen? ⟨bx, ox + k, none⟩ = false := (HI.chg.free fx1 (fun _ => by omega)) k hlt
      have hfy : wr.frozen? ⟨by', oy + k, none⟩ = false := (HI.chg.free fy1 (fun _ => by omega)) k hlt
      rw [exk] at hxk aB
      rw [eyk] at hyk bB
      have hT : ∀ i, wr.cell? ⟨bt, i, none⟩ = w1.cell? ⟨bt, i, none⟩ := fun i => HI.chg.cell bt i HT.out.lt (by omega)
      have t0 := (hT 0).trans HT.out.c0
      have t1 := (hT 1).trans HT.out.c1
      have t2 := (hT 2).trans HT.out.c2
      have t3 := (hT 3).trans HT.out.c3
      obtain ⟨a, ha⟩ : ∃ a, word w1 bx (ox + k) = a := ⟨_, rfl⟩
      obtain ⟨b, hb'⟩ : ∃ b, word w1 by' (oy + k) = b := ⟨_, rfl⟩
      rw [ha] at hxk aB
      rw [hb'] at hyk bB
      obtain ⟨l1, l2, l3, l4⟩ := HI.lt
      have hc1 := HI.c1
      have hc2 := HI.c2
      have HS : Hid _ := HI.step hb hlt pB qB rB sB ha.symm hb'.symm aB bB
      have M1 := mulAdd_any p a px pB aB l1
      have M2 := mulAdd_any q b qy qB bB l2
      have M3 := mulAdd_any s b sy sB bB l4
      have M4 := mulAdd_any r a rx rB aB l3
      have U1 := fun w => sub64 (lo (p * a + px)) (lo (q * b + qy)) xc w hc1
      have U2 := fun w => sub64 (lo (s * b + sy)) (lo (r * a + rx)) yc w hc2
      have hne1 : bt ≠ bx := tne.1
      have hne2 : bt ≠ by' := tne.2
      clear HI exk eyk hT ha hb' l1 l2 l3 l4 hc1 hc2 aB bB fx1 fy1 hx1 hy1
      go_wp2_with (first
        | (go_at_call 104; refine (M1 _).mono ?_; rintro e w' ⟨rfl, hw⟩; subst w'; clear M1)
        | (go_at_call 104; refine (M2 _).mono ?_; rintro e w' ⟨rfl, hw⟩; subst w'; clear M2)
        | (go_at_call 104; refine (M3 _).mono ?_; rintro e w' ⟨rfl, hw⟩; subst w'; clear M3)
        | (go_at_call 104; refine (M4 _).mono ?_; rintro e w' ⟨rfl, hw⟩; subst w'; clear M4))
      go_roundw
      case rel => exact ⟨_, _, _, _, _, _, k + 1, rfl, rfl, rfl, rfl, rfl, rfl, by go_num, HS.out⟩
      case measure => simp [intOf]; omega
    · obtain rfl : k = n := by omega
      have HF : Hid _ := HI
      clear HI fx1 fy1 hx1 hy1
      go_wp2
      go_end0
      have H := HF.out
      obtain ⟨e1, e2⟩ := HN.out
      have hb1 : Below w.heap.size w w1 := HB1.out
      refine ⟨rfl, (ChgS.of_below hb1 _).trans H.chg, H.ax, H.ay, fun z hz hzl => ?_, fun z hz hzl => ?_⟩
      · have h := H.ex
        rw [e1, e2] at h
        exact _root_.Rad.mix_end h hz (num_lt H.ax) hzl
      · have h := H.ey
        rw [e1, e2] at h
        exact _root_.Rad.mix_end h hz (num_lt H.ay) hzl
end Go.Proofs.YtjlkplidpdhgbaaGreatDoor
