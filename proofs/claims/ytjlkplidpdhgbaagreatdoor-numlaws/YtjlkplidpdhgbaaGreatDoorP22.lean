/- A part of the proof: G5, G6. -/
import Derived.Test.YtjlkplidpdhgbaaGreatDoorP21
import Derived.Deep.LoopGhost
set_option linter.all false

namespace Go.Proofs.YtjlkplidpdhgbaaGreatDoor
open Go Go.Proofs Go.RowKit Go.Rad
open _root_.Rad (TurnOk)

theorem TB.chgS {w w' : World} {b p q r s c d : Nat} {odd : Bool} (h : TB w b p q r s odd) (hc : ChgS w w' (S2 c d)) (h1 : b ≠ c) (h2 : b ≠ d) : TB w' b p q r s odd := by
  obtain ⟨lt, c0, c1, c2, c3, c4, f0, f1, f2, f3, f4⟩ := h
  have e := hc.block b lt (fun i hi => by rcases hi with h | h <;> omega)
  exact ⟨Nat.lt_of_lt_of_le lt hc.size, (World.cell?_of_block e).trans c0, (World.cell?_of_block e).trans c1, (World.cell?_of_block e).trans c2, (World.cell?_of_block e).trans c3, (World.cell?_of_block e).trans c4,
    (World.frozen?_of_block e).trans f0, (World.frozen?_of_block e).trans f1, (World.frozen?_of_block e).trans f2, (World.frozen?_of_block e).trans f3, (World.frozen?_of_block e).trans f4⟩
theorem XY.oth {base : Nat} {w : World} {p n X Y bx cx by' cy c : Nat} (h : XY base w p n X Y bx cx by' cy) (hx : c ≠ bx) (hy : c ≠ by') (i : Nat) (v : Value) : XY base (w.setCell ⟨c, i, none⟩ v) p n X Y bx cx by' cy := by
  obtain ⟨h1, h2, h3, h4, h5, h6, ax, ay, fx, fy, ex, ey, n0, nm, g1, g2, g3, g4, le⟩ := h
  refine ⟨h1, h2, h3, h4, h5, h6, ax.set' (.inl hx), ay.set' (.inl hy), fun j hj => (World.frozen?_setCell _ _ _ _).trans (fx j hj), fun j hj => (World.frozen?_setCell _ _ _ _).trans (fy j hj), ?_, ?_, n0, nm, g1, g2, g3, g4, le⟩
  · rw [num_set_other (.inl hx)]; exact ex
  · rw [num_set_other (.inl hy)]; exact ey
/-- What a turn leaves. -/
inductive TurnDone (base : Nat) (w : World) (pc n X Y : Nat) (e : Ending) (w' : World) : Prop
  | mk (x y : Nat) (he : e = .returned (.tuple #[])) (hb : Below base w w') (hc : Ch base w' pc n x y) (hg : Nat.gcd x y = Nat.gcd X Y) (h0 : 0 < y) (h1 : y < x) (h2 : x ≤ Y)

set_option maxRecDepth 10000 in
set_option maxHeartbeats 4000000 in
theorem turn_any (base : Nat) (w : World) (pc n X Y p q r s : Nat) (odd : Bool) (hC : Ch base w pc n X Y) (ht : TurnOk X Y p q r s odd) (hq : 0 < q) (hbase : base ≤ w.heap.size) :
    Calls Tryz.prog 151 #[.pointer (some ⟨pc, 0, none⟩), .agg #[.int .u64 p, .int .u64 q, .int .u64 r, .int .u64 s, .bool odd]] w fun e w' => TurnDone base w pc n X Y e w' := by
  obtain ⟨bx, cx, by', cy, uv, vv, mi, C, R⟩ := hC
  rcases ht with h | ⟨_, hpq, x, y, he, ho, h0, h1, h2⟩
  · omega
  obtain ⟨p1, q1, r1, s1⟩ : p < B ∧ q < B ∧ r < B ∧ s < B := by unfold B; omega
  have HG : Hid (Nat.gcd x y = Nat.gcd X Y) := _root_.Rad.turn_gcd he ho
  have HXY : Hid (0 < y ∧ y < x ∧ x ≤ Y) := ⟨h0, h1, h2⟩
  have HE : Hid _ := he
  have HO : Hid _ := ho
  have HBS : Hid (base ≤ w.heap.size) := hbase
  clear he ho h0 h1 h2 hq hpq hbase
  go_enter Tryz.func151, Tryz.ntmps151
  go_upto_region 1 with fail
  refine wp_world (fun w1 => Below w.heap.size w w1 ∧ TB w1 w.heap.size p q r s odd) ⟨bel1 _ _, TB.mk0 _ _ _ _ _ _ _⟩ ?_
  rintro w1 ⟨hB1, T⟩
  have C1 := C.below hB1
  have R1 := R.below hB1
  have hl := C.lt
  have lx := R.ax.lt R.n0
  have ly := R.ay.lt R.n0
  have HB1 : Hid (Below base w w1) := hB1.mono HBS.out
  obtain ⟨bt, hbt⟩ : ∃ bt, w.heap.size = bt := ⟨_, rfl⟩
  have hbt' : base ≤ bt := by rw [← hbt]; exact HBS.out
  rw [hbt] at T hl lx ly
  have HBT : Hid (base ≤ bt) := hbt'
  have HT : Hid (TB w1 bt p q r s odd) := T
  have HC : Hid (ChC w1 pc (.slice (some ⟨bx, 0, none⟩) n cx) (.slice (some ⟨by', 0, none⟩) n cy) false uv vv mi) := C1
  have HR : Hid (XY base w1 pc n X Y bx cx by' cy) := R1
  obtain ⟨lp, k0, k1, k2, -, -, -, z0, z1, -, -, -, -⟩ := id C1
  obtain ⟨lt, t0, t1, t2, t3, t4, y0, y1, y2, y3, y4⟩ := id T
  rw [hbt]
  have HN : Hid (pc ≠ bt ∧ bx ≠ bt ∧ by' ≠ bt) := by show _ ∧ _ ∧ _; omega
  clear C R C1 R1 T hB1 hbt hbt' hl lx ly
  cases odd
  · have R := HR.out
    have CM := mix_any w1.drew bx 0 cx by' 0 cy n p q r s false (arr_below R.ax (bel_drew _)) (arr_below R.ay (bel_drew _)) R.fx R.fy R.xy R.cx1 R.cy1 (by have := R.cy2; unfold maxLen; omega) p1 q1 r1 s1 R.n0
    have FIN : ∀ w2, ChgS w1.drew w2 (S2 bx by') → Arr .u64 B w2 bx 0 n → Arr .u64 B w2 by' 0 n →
        (∀ z, p * num B w1.drew bx 0 n = q * num B w1.drew by' 0 n + z → z < B ^ n → num B w2 bx 0 n = z) →
        (∀ z, s * num B w1.drew by' 0 n = r * num B w1.drew bx 0 n + z → z < B ^ n → num B w2 by' 0 n = z) → TurnDone base w pc n X Y (.returned (.tuple #[])) w2 := by
      intro w2 hch ha hb hx hy
      have hch' : ChgS w1 w2 (S2 bx by') := (ChgS.refl w1 _).drew.trans hch
      have hX : num B w1.drew bx 0 n = X := R.ex
      have hY : num B w1.drew by' 0 n = Y := R.ey
      rw [hX, hY] at hx hy
      obtain ⟨g0, g1, g2⟩ := HXY.out
      obtain ⟨e1, e2, _⟩ := HE.out rfl
      have hYl : Y < B ^ n := by rw [← R.ey]; exact num_lt R.ay
      have fx := hx x e1 (by omega)
      have fy := hy y e2 (by omega)
      refine .mk x y rfl (HB1.out.trans (hch'.below (fun k i hk hs => ?_) (Nat.le_trans HBS.out HB1.out.size))) (.mk bx cx by' cy uv vv mi (HC.out.chgS hch' R.xp.symm R.yp.symm) ?_) HG.out g0 g1 g2
      · have := R.hx; have := R.hy
        rcases hs with h | h <;> omega
      · exact ⟨R.hp, R.hx, R.hy, R.xy, R.xp, R.yp, ha, hb, hch'.free R.fx (fun _ => R.ax.lt R.n0), hch'.free R.fy (fun _ => R.ay.lt R.n0), fx, fy, R.n0, R.nm, R.cx1, R.cy1, R.cx2, R.cy2, Nat.le_of_lt g1⟩
    have HFIN : Hid _ := FIN
    clear FIN R HO HE HXY HG HT HC HR HN HBT HBS HB1
    go_wp2
    go_region_with (go_at_call 173; refine CM.mono ?_; rintro e w2 ⟨rfl, hch, ha, hb, hx, hy⟩)
    all_goals
      have HF : Hid _ := HFIN.out w2 hch ha hb hx hy
      clear hch ha hb hx hy
      go_wp2
      go_end0
      exact HF.out
  · have CF := (((((((HC.out.set0 (.slice (some ⟨by', 0, none⟩) n cy)).set1 (.slice (some ⟨bx, 0, none⟩) n cx)).other HN.out.1 (.int .u64 (q : Int) : Value) (i := 0)).other HN.out.1 (.int .u64 (p : Int) : Value) (i := 1)).other HN.out.1 (.int .u64 (s : Int) : Value) (i := 2)).other HN.out.1 (.int .u64 (r : Int) : Value) (i := 3)).below (bel_drew _))
    have RF := (((((((HR.out.other 0 (.slice (some ⟨by', 0, none⟩) n cy)).other 1 (.slice (some ⟨bx, 0, none⟩) n cx)).oth HN.out.2.1.symm HN.out.2.2.symm 0 (.int .u64 (q : Int) : Value)).oth HN.out.2.1.symm HN.out.2.2.symm 1 (.int .u64 (p : Int) : Value)).oth HN.out.2.1.symm HN.out.2.2.symm 2 (.int .u64 (s : Int) : Value)).oth HN.out.2.1.symm HN.out.2.2.symm 3 (.int .u64 (r : Int) : Value)).below (bel_drew _))
    have TF := (((((((HT.out.other HN.out.1.symm (.slice (some ⟨by', 0, none⟩) n cy) (i := 0)).other HN.out.1.symm (.slice (some ⟨bx, 0, none⟩) n cx) (i := 1)).set0 q).set1 p).set2 s).set3 r).below (bel_drew _) (by simp; exact HT.out.lt))
    have BF := (((((((HB1.out.setCell (p := ⟨pc, 0, none⟩) HR.out.hp (.slice (some ⟨by', 0, none⟩) n cy)).setCell (p := ⟨pc, 1, none⟩) HR.out.hp (.slice (some ⟨bx, 0, none⟩) n cx)).setCell (p := ⟨bt, 0, none⟩) HBT.out (.int .u64 (q : Int) : Value)).setCell (p := ⟨bt, 1, none⟩) HBT.out (.int .u64 (p : Int) : Value)).setCell (p := ⟨bt, 2, none⟩) HBT.out (.int .u64 (s : Int) : Value)).setCell (p := ⟨bt, 3, none⟩) HBT.out (.int .u64 (r : Int) : Value)).drew)
    have HF : Hid _ := (⟨BF, CF, RF, TF⟩ : _ ∧ _ ∧ _ ∧ _)
    have hpt := HN.out.1
    have hxp := HN.out.1.symm
    clear CF RF TF BF HC HR HB1
    go_wp2
    go_region
    all_goals
      go_upto_region 9 with fail
      refine wp_world (fun w5 => Below base w w5 ∧ ChC w5 pc (.slice (some ⟨by', 0, none⟩) n cy) (.slice (some ⟨bx, 0, none⟩) n cx) false uv vv mi ∧ XY base w5 pc n X Y bx cx by' cy ∧ TB w5 bt q p s r true) HF.out ?_
      clear HF HT k0 k1 k2 z0 z1 t0 t1 t2 t3 t4 y0 y1 y2 y3 y4 lp lt w1
      rintro w5 ⟨B5, C5, R, T5⟩
      obtain ⟨lp, k0, k1, k2, -, -, -, z0, z1, -, -, -, -⟩ := id C5
      obtain ⟨lt, t0, t1, t2, t3, t4, y0, y1, y2, y3, y4⟩ := id T5
      have CM := mix_any w5.drew by' 0 cy bx 0 cx n q p s r true (arr_below R.ay (bel_drew _)) (arr_below R.ax (bel_drew _)) R.fy R.fx R.xy.symm R.cy1 R.cx1 (by have := R.cx2; unfold maxLen; omega) q1 p1 s1 r1 R.n0
      have FIN : ∀ w2, ChgS w5.drew w2 (S2 by' bx) → Arr .u64 B w2 by' 0 n → Arr .u64 B w2 bx 0 n →
          (∀ z, q * num B w5.drew by' 0 n = p * num B w5.drew bx 0 n + z → z < B ^ n → num B w2 by' 0 n = z) →
          (∀ z, r * num B w5.drew bx 0 n = s * num B w5.drew by' 0 n + z → z < B ^ n → num B w2 bx 0 n = z) → TurnDone base w pc n X Y (.returned (.tuple #[])) w2 := by
        intro w2 hch ha hb hx hy
        have hch' : ChgS w5 w2 (S2 by' bx) := (ChgS.refl w5 _).drew.trans hch
        have hX : num B w5.drew bx 0 n = X := R.ex
        have hY : num B w5.drew by' 0 n = Y := R.ey
        rw [hX, hY] at hx hy
        obtain ⟨g0, g1, g2⟩ := HXY.out
        obtain ⟨e1, e2, _⟩ := HO.out trivial
        have hYl : Y < B ^ n := by rw [← R.ey]; exact num_lt R.ay
        have fx := hx x e1 (by omega)
        have fy := hy y e2 (by omega)
        refine .mk x y rfl (B5.trans (hch'.below (fun k i hk hs => ?_) (Nat.le_trans HBS.out B5.size))) (.mk by' cy bx cx uv vv mi (C5.chgS hch' R.yp.symm R.xp.symm) ?_) HG.out g0 g1 g2
        · have := R.hx; have := R.hy
          rcases hs with h | h <;> omega
        · exact ⟨R.hp, R.hy, R.hx, R.xy.symm, R.yp, R.xp, ha, hb, hch'.free R.fy (fun _ => R.ay.lt R.n0), hch'.free R.fx (fun _ => R.ax.lt R.n0), fx, fy, R.n0, R.nm, R.cy1, R.cx1, R.cy2, R.cx2, Nat.le_of_lt g1⟩
      have HFIN : Hid _ := FIN
      clear FIN R HO HE HXY HG HN HBT HBS B5 C5 T5
      go_region_with (go_at_call 173; refine CM.mono ?_; rintro e w2 ⟨rfl, hch, ha, hb, hx, hy⟩)
      all_goals
        have HF : Hid _ := HFIN.out w2 hch ha hb hx hy
        clear hch ha hb hx hy
        go_wp2
        go_end0
        exact HF.out
end Go.Proofs.YtjlkplidpdhgbaaGreatDoor

namespace Go.Proofs.YtjlkplidpdhgbaaGreatDoor
open Go Go.Proofs Go.RowKit Go.Rad
open _root_.Rad (TurnOk)

theorem wcount {X n : Nat} (h0 : 0 < X) (h : X < B ^ n) : ∃ k, 0 < k ∧ k ≤ n ∧ B ^ (k - 1) ≤ X ∧ X < B ^ k := by
  induction n with
  | zero => rw [Nat.pow_zero] at h; omega
  | succ n ih =>
    by_cases h1 : X < B ^ n
    · obtain ⟨k, a, b, c, d⟩ := ih h1
      exact ⟨k, a, by omega, c, d⟩
    · exact ⟨n + 1, by omega, Nat.le_refl _, by rw [Nat.add_sub_cancel]; omega, h⟩
theorem Mag.count {w : World} {v : Value} {X k j : Nat} (h : Mag w v X j) (h0 : 0 < k) (h1 : B ^ (k - 1) ≤ X) (h2 : X < B ^ k) : j = k := by
  refine Nat.le_antisymm (h.len_le h2) (Nat.le_of_not_lt fun hc => ?_)
  have h3 := h.lt
  have h4 : B ^ j ≤ B ^ (k - 1) := Nat.pow_le_pow_right B_pos (by omega)
  omega
/-- front, of a row whose number is known. -/
theorem front_count (w : World) (b n c X k : Nat) (hc : n ≤ c) (hn : n < 160) (ha : Arr .u64 B w b 0 n) (hx : num B w b 0 n = X) (h0 : 0 < k) (h1 : B ^ (k - 1) ≤ X) (h2 : X < B ^ k) :
    Calls Tryz.prog 86 #[.slice (some ⟨b, 0, none⟩) n c, .int .i64 n] w fun e w' => e = .returned (.slice (some ⟨b, 0, none⟩) k k) ∧ w' = w := by
  refine (front_at w _ b 0 n c n (Sl.mk _ _ _) hc (by unfold maxLen; omega) (by unfold maxLen; omega) ha).mono ?_
  rintro e w' ⟨j, rfl, rfl, _, _, hm⟩
  rw [Nat.min_self, hx] at hm
  rw [hm.count h0 h1 h2]
  exact ⟨rfl, rfl⟩
theorem num_cut {w : World} {b n k X : Nat} (hx : num B w b 0 n = X) (hk : k ≤ n) (hX : X < B ^ k) : num B w b 0 k = X := by
  obtain ⟨d, rfl⟩ := Nat.exists_eq_add_of_le hk
  rw [num_add, Nat.zero_add] at hx
  have h0 : num B w b k d = 0 := by
    refine Nat.eq_zero_of_not_pos fun h => ?_
    have := Nat.le_mul_of_pos_right (B ^ k) h
    omega
  rw [h0] at hx
  omega
theorem top_ne {w : World} {b m X : Nat} (ha : Arr .u64 B w b 0 (m + 1)) (hx : num B w b 0 (m + 1) = X) (h : B ^ m ≤ X) : word w b (0 + m) ≠ 0 := by
  intro e
  rw [num_succ, e, Nat.mul_zero] at hx
  have : num B w b 0 m < B ^ m := num_lt (fun i hi => ha i (by omega))
  omega
theorem XY.cut {base : Nat} {w : World} {p n X Y bx cx by' cy k : Nat} (h : XY base w p n X Y bx cx by' cy) (h0 : 0 < k) (hk : k ≤ n) (hX : X < B ^ k) : XY base w p k X Y bx cx by' cy := by
  obtain ⟨h1, h2, h3, h4, h5, h6, ax, ay, fx, fy, ex, ey, n0, nm, g1, g2, g3, g4, le⟩ := h
  exact ⟨h1, h2, h3, h4, h5, h6, fun i hi => ax i (by omega), fun i hi => ay i (by omega), fun i hi => fx i (by omega), fun i hi => fy i (by omega), num_cut ex hk hX, num_cut ey hk (by omega), h0, by omega, by omega, by omega, g3, g4, le⟩
def Kp (w w' : World) : Prop := Below w.heap.size w w'
/-- What run leaves. -/
inductive RunDone (base : Nat) (w : World) (pc X Y : Nat) (e : Ending) (w' : World) : Prop
  | mk (n x y : Nat) (he : e = .returned (.tuple #[])) (hb : Below base w w') (hc : Ch base w' pc n x y) (hg : Nat.gcd x y = Nat.gcd X Y) (h0 : 0 < x) (hy : y < B)
/-- What holds ahead of a round of run. -/
inductive RunI (base : Nat) (w : World) (pc X Y g : Nat) (w' : World) : Prop
  | mk (n x y : Nat) (hb : Below base w w') (hc : Ch base w' pc n x y) (hg : Nat.gcd x y = Nat.gcd X Y) (h0 : 0 < x) (hm : x + y = g)

set_option maxRecDepth 10000 in
set_option maxHeartbeats 4000000 in
theorem run_any (base : Nat) (w : World) (pc n X Y : Nat) (hC : Ch base w pc n X Y) (hX : 0 < X) (hbase : base ≤ w.heap.size) :
    Calls Tryz.prog 124 #[.pointer (some ⟨pc, 0, none⟩)] w fun e w' => RunDone base w pc X Y e w' := by
  have HS : Hid (RunI base w pc X Y (X + Y) w) := .mk n X Y (Below.refl _ _) hC rfl hX rfl
  have HBS : Hid (base ≤ w.heap.size) := hbase
  clear hC hX hbase
  go_enter Tryz.func124, Tryz.ntmps124
  go_wp2
  go_loopg [] (X + Y) (fun g wr => Hid (RunI base w pc X Y g wr))
  case atStart => exact HS
  case round =>
    clear HS
    obtain ⟨n', x, y, hb, hC, hg, h0, hm⟩ := hrel.out
    obtain ⟨bx, cx, by', cy, uv, vv, mi, C, R⟩ := hC
    have hxl : x < B ^ n' := by rw [← R.ex]; exact num_lt R.ax
    obtain ⟨k, k0, kn, k1, k2⟩ := wcount h0 hxl
    have CF := fun nq => front_count (wr.drewN nq) bx n' cx x k R.cx1 R.nm R.ax R.ex k0 k1 k2
    have hn := R.nm
    have hcx := R.cx1
    have hcy := R.cy1
    have hcx2 := R.cx2
    have hcy2 := R.cy2
    have RC := R.cut k0 kn k2
    have HG : Hid (Nat.gcd x y = Nat.gcd X Y) := hg
    have HM : Hid (x + y = gk) := hm
    have HB : Hid (Below base w wr) := hb
    have HC : Hid (ChC wr pc (.slice (some ⟨bx, 0, none⟩) n' cx) (.slice (some ⟨by', 0, none⟩) n' cy) false uv vv mi) := C
    have HRC : Hid (XY base wr pc k x y bx cx by' cy) := RC
    have HK : Hid (B ^ (k - 1) ≤ x ∧ x < B ^ k ∧ 0 < x) := ⟨k1, k2, h0⟩
    obtain ⟨lp, c0, c1, c2, -, -, -, z0, z1, -, -, -, -⟩ := id C
    clear hrel hb C R RC hg hm hxl k1 k2 h0
    go_wp2
    go_quiet ((go_at_call 86; refine (CF _).mono ?_; rintro e w'' ⟨rfl, rfl⟩; exact ⟨rfl, _, rfl⟩))
    clear CF
    go_upto_region 1 with fail
    refine wp_world (fun w1 => Below base w w1 ∧ ChC w1 pc (.slice (some ⟨bx, 0, none⟩) n' cx) (.slice (some ⟨by', 0, none⟩) n' cy) false uv vv mi ∧ XY base w1 pc k x y bx cx by' cy)
      ⟨HB.out.trans (belN _ _ _), HC.out.below (belN _ _ _), HRC.out.below (belN _ _ _)⟩ ?_
    clear HB HC HRC lp c0 c1 c2 z0 z1
    rintro w1 ⟨B1, C1, R1⟩
    clear wr
    obtain ⟨lp, c0, c1, c2, -, -, -, z0, z1, -, -, -, -⟩ := id C1
    have HB : Hid _ := B1
    have HC : Hid (ChC w1 pc (.slice (some ⟨bx, 0, none⟩) n' cx) (.slice (some ⟨by', 0, none⟩) n' cy) false uv vv mi) := C1
    have HRC : Hid (XY base w1 pc k x y bx cx by' cy) := R1
    clear B1 C1 R1
    have hk1 : (0 : Int) ≤ (k : Int) ∧ (k : Int) ≤ (cx : Int) := by omega
    have hk2 : (k : Int) ≤ (cy : Int) := by omega
    go_region
    go_upto_region 2 with fail
    have HC2 : Hid (ChC (((w1.setCell ⟨pc, 0, none⟩ (.slice (some ⟨bx, 0, none⟩) k cx)).setCell ⟨pc, 1, none⟩ (.slice (some ⟨by', 0, none⟩) k cy)).drew) pc (.slice (some ⟨bx, 0, none⟩) k cx) (.slice (some ⟨by', 0, none⟩) k cy) false uv vv mi) :=
      ((HC.out.set0 _).set1 _).below (bel_drew _)
    refine wp_world (fun w2 => Below base w w2 ∧ ChC w2 pc (.slice (some ⟨bx, 0, none⟩) k cx) (.slice (some ⟨by', 0, none⟩) k cy) false uv vv mi ∧ XY base w2 pc k x y bx cx by' cy)
      ⟨((HB.out.setCell (p := ⟨pc, 0, none⟩) HRC.out.hp _).setCell (p := ⟨pc, 1, none⟩) HRC.out.hp _).drew, HC2.out, ((HRC.out.other 0 _).other 1 _).below (bel_drew _)⟩ ?_
    clear HB HC HRC lp c0 c1 c2 z0 z1 HC2 hk1 hk2
    rintro w2 ⟨B2, C2, R⟩
    clear w1
    obtain ⟨lp, c0, c1, c2, -, -, -, -, -, -, -, -, -⟩ := id C2
    have CF := front_at w2 (some ⟨by', 0, none⟩) by' 0 k cy k (Sl.mk _ _ _) R.cy1 (by unfold maxLen; omega) (by unfold maxLen; omega) R.ay
    rw [Nat.min_self, R.ey] at CF
    have HB : Hid _ := B2
    have HC : Hid (ChC w2 pc (.slice (some ⟨bx, 0, none⟩) k cx) (.slice (some ⟨by', 0, none⟩) k cy) false uv vv mi) := C2
    have HR : Hid (XY base w2 pc k x y bx cx by' cy) := R
    clear B2 C2 R
    go_wp2_with (go_at_call 86; fail)
    refine CF.mono ?_
    rintro e w3 ⟨j, rfl, hw, _, hjk, hm⟩
    subst w3
    clear CF
    by_cases hj : j < 2
    · have HY : Hid (y < B) := by
        have h1 := hm.lt
        have h2 : B ^ j ≤ B ^ 1 := Nat.pow_le_pow_right B_pos (by omega)
        rw [Nat.pow_one] at h2
        exact Nat.lt_of_lt_of_le h1 h2
      clear hm
      go_wp2
      refine bodyPost_ret (results_none rfl _ _ _) rfl ?_
      exact .mk k x y rfl HB.out (.mk _ _ _ _ _ _ _ HC.out HR.out) HG.out HK.out.2.2 HY.out
    · obtain ⟨m, rfl⟩ : ∃ m, k = m + 2 := ⟨k - 2, by omega⟩
      have R := HR.out
      have CT : ∀ wx, Below w2.heap.size w2 wx → Calls Tryz.prog 150 #[.slice (some ⟨bx, 0, none⟩) (m + 2) cx, .slice (some ⟨by', 0, none⟩) (m + 2) cy] wx fun e w' => TurnPost wx x y e w' := by
        intro wx h
        refine turnOf_any wx bx 0 cx by' 0 cy m x y (arr_below R.ax h) (arr_below R.ay h) ((num_below R.ax h).trans R.ex) ((num_below R.ay h).trans R.ey) ?_ R.le (by omega) R.cx1 R.cy1
        rw [word_below R.ax h (by omega)]
        exact top_ne R.ax R.ex HK.out.1
      have hy0 : Hid (0 < y) := by
        have := hm.pos (by omega)
        exact this
      have hj2 : ¬ ((j : Int) < 2) := by omega
      clear R hm hj
      go_wp2
      go_region_with (go_at_call 150; refine (CT _ (by first | exact (Below.refl _ _).drew | exact (((Below.refl _ _).drew).alloc (by simp) _) | exact (((Below.refl _ _).alloc (Nat.le_refl _) _).drew))).mono ?_; rintro e w3 ⟨p, q, r, s, odd, rfl, hb3, ht3⟩; first | (have T3 := ((TB.mk0 w2 0 0 0 0 false 152).below (bel_drew _) (by simp)).below hb3 (by simp); obtain ⟨lt, t0, t1, t2, t3, t4, y0, y1, y2, y3, y4⟩ := T3) | skip)
      all_goals
        go_upto_region 4 with fail
        first
          | (refine wp_world (fun w4 => Kp w2 w4 ∧ TB w4 w3.heap.size p q r s odd) ⟨((bel_drew w2).trans hb3).alloc hb3.size _, TB.mk0 w3 p q r s odd 152⟩ ?_
             clear hb3 CT
             obtain ⟨bt, hbt⟩ : ∃ bt, w3.heap.size = bt := ⟨_, rfl⟩
             rw [hbt]
             clear hbt)
          | (have hb4 : Below w2.heap.size w2 w3 := (((bel1 w2 _).trans ((bel_drew _).mono (by simp))).trans (hb3.mono (by simp)))
             have T4 := (((((((TB.mk0 w2 0 0 0 0 false 152).below (bel_drew _) (by simp)).below hb3 (by simp)).set0 p).set1 q).set2 r).set3 s).set4 odd
             refine wp_world (fun w4 => Kp w2 w4 ∧ TB w4 w2.heap.size p q r s odd)
               ⟨((((hb4.setCell (p := ⟨w2.heap.size, 0, none⟩) (Nat.le_refl _) _).setCell (p := ⟨w2.heap.size, 1, none⟩) (Nat.le_refl _) _).setCell (p := ⟨w2.heap.size, 2, none⟩) (Nat.le_refl _) _).setCell (p := ⟨w2.heap.size, 3, none⟩) (Nat.le_refl _) _).setCell (p := ⟨w2.heap.size, 4, none⟩) (Nat.le_refl _) _, T4⟩ ?_
             clear CT T4 hb4 hb3 lt t0 t1 t2 t3 t4 y0 y1 y2 y3 y4
             obtain ⟨bt, hbt⟩ : ∃ bt, w2.heap.size = bt := ⟨_, rfl⟩
             rw [hbt]
             clear hbt)
        clear c0 c1 c2 lp w3
        rintro w4 ⟨B4, T4⟩
        replace B4 : Below w2.heap.size w2 w4 := B4
        have R4 := HR.out.below B4
        have C4 : Ch base w4 pc (m + 2) x y := .mk _ _ _ _ _ _ _ (HC.out.below B4) R4
        have hle := R4.le
        have HB4 : Hid (Below base w w4) := HB.out.trans (B4.mono (Nat.le_trans HBS.out HB.out.size))
        have hb4 : base ≤ w4.heap.size := Nat.le_trans HBS.out HB4.out.size
        obtain ⟨lt, t0, t1, t2, t3, t4, y0, y1, y2, y3, y4⟩ := T4
        clear B4 HB HC HR R4
        by_cases hq : q = 0
        · subst hq
          have CS := step_any base w4 pc (m + 2) x y C4 hy0.out hb4
          have t1' : w4.cell? ⟨bt, 1, none⟩ = some (.int .u64 0) := t1
          clear C4 hb4 t1 ht3
          go_wp2_with (go_at_call 125; fail)
          refine CS.mono ?_
          rintro e w5 ⟨rfl, hb5, hc5⟩
          have HR5 : Hid (RunI base w pc X Y (y + x % y) w5) := by
            refine .mk (m + 2) y (x % y) (HB4.out.trans hb5) hc5 ?_ hy0.out rfl
            rw [← HG.out, Nat.gcd_comm x y, Nat.gcd_rec y x, Nat.gcd_comm]
          have HM5 : Hid (y + x % y < gk) := by
            have h1 := Nat.mod_lt x hy0.out
            have h2 := HM.out
            show y + x % y < gk
            omega
          clear CS hb5 hc5 HG HM HK HB4 hle
          go_wp2
          go_roundg (y + x % y)
          case measure => exact HM5.out
          case rel => exact HR5
        · have CS := turn_any base w4 pc (m + 2) x y p q r s odd C4 ht3 (by omega) hb4
          have hq1 : ¬ (q : Int) = 0 := by omega
          have hq2 : ((q : Int) == 0) = false := by simpa using hq1
          have HLE : Hid (y ≤ x) := hle
          clear C4 hb4 ht3 hq hle
          go_wp2_with (go_at_call 151; fail)
          refine CS.mono ?_
          rintro e w5 ⟨x', y', rfl, hb5, hc5, hg5, h0, h1, h2⟩
          have HR5 : Hid (RunI base w pc X Y (x' + y') w5) := .mk (m + 2) x' y' (HB4.out.trans hb5) hc5 (hg5.trans HG.out) (by omega) rfl
          have HM5 : Hid (x' + y' < gk) := by
            have h3 := HM.out
            have h4 := HLE.out
            show x' + y' < gk
            omega
          clear CS hb5 hc5 hg5 h0 h1 h2 HG HM HK HB4 HLE
          go_wp2
          go_roundg (x' + y')
          case measure => exact HM5.out
          case rel => exact HR5
end Go.Proofs.YtjlkplidpdhgbaaGreatDoor
