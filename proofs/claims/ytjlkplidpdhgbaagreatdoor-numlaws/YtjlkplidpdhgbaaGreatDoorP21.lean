/- A part of the proof: G4. -/
import Derived.Test.YtjlkplidpdhgbaaGreatDoorP16
import Derived.Test.YtjlkplidpdhgbaaGreatDoorP18
import Derived.Test.YtjlkplidpdhgbaaGreatDoorP20
set_option linter.all false

namespace Go.Proofs.YtjlkplidpdhgbaaGreatDoor
open Go Go.Proofs Go.RowKit Go.Rad
open _root_.Rad (TurnOk)

/-- The cells of a chase. -/
structure ChC (w : World) (p : Nat) (xv yv : Value) (full : Bool) (uv vv : Value) (mi : Bool) : Prop where
  lt : p < w.heap.size
  c0 : w.cell? ⟨p, 0, none⟩ = some xv
  c1 : w.cell? ⟨p, 1, none⟩ = some yv
  c2 : w.cell? ⟨p, 2, none⟩ = some (.bool full)
  c3 : w.cell? ⟨p, 3, none⟩ = some uv
  c4 : w.cell? ⟨p, 4, none⟩ = some vv
  c5 : w.cell? ⟨p, 5, none⟩ = some (.bool mi)
  f0 : w.frozen? ⟨p, 0, none⟩ = false
  f1 : w.frozen? ⟨p, 1, none⟩ = false
  f2 : w.frozen? ⟨p, 2, none⟩ = false
  f3 : w.frozen? ⟨p, 3, none⟩ = false
  f4 : w.frozen? ⟨p, 4, none⟩ = false
  f5 : w.frozen? ⟨p, 5, none⟩ = false
theorem ChC.block {w : World} {p : Nat} {xv yv : Value} {full : Bool} {uv vv : Value} {mi : Bool} {w' : World} (h : ChC w p xv yv full uv vv mi) (hs : w.heap.size ≤ w'.heap.size) (e : w'.heap[p]? = w.heap[p]?) : ChC w' p xv yv full uv vv mi :=
  ⟨Nat.lt_of_lt_of_le h.lt hs, (World.cell?_of_block e).trans h.c0, (World.cell?_of_block e).trans h.c1, (World.cell?_of_block e).trans h.c2, (World.cell?_of_block e).trans h.c3, (World.cell?_of_block e).trans h.c4, (World.cell?_of_block e).trans h.c5, (World.frozen?_of_block e).trans h.f0, (World.frozen?_of_block e).trans h.f1, (World.frozen?_of_block e).trans h.f2, (World.frozen?_of_block e).trans h.f3, (World.frozen?_of_block e).trans h.f4, (World.frozen?_of_block e).trans h.f5⟩
theorem ChC.below {w : World} {p : Nat} {xv yv : Value} {full : Bool} {uv vv : Value} {mi : Bool} {w' : World} (h : ChC w p xv yv full uv vv mi) (hb : Below w.heap.size w w') : ChC w' p xv yv full uv vv mi := h.block hb.size (hb.block p h.lt)
theorem ChC.chg {w : World} {p : Nat} {xv yv : Value} {full : Bool} {uv vv : Value} {mi : Bool} {w' : World} {b l r : Nat} (h : ChC w p xv yv full uv vv mi) (hc : Chg w w' b l r) (hb : p ≠ b) : ChC w' p xv yv full uv vv mi := h.block hc.size (hc.block p h.lt hb)
theorem ChC.chgS {w : World} {p : Nat} {xv yv : Value} {full : Bool} {uv vv : Value} {mi : Bool} {w' : World} {b c : Nat} (h : ChC w p xv yv full uv vv mi) (hc : ChgS w w' (S2 b c)) (hb : p ≠ b) (hc' : p ≠ c) : ChC w' p xv yv full uv vv mi := h.block hc.size (hc.block p h.lt (fun i hi => by rcases hi with h | h <;> omega))
theorem ChC.other {w : World} {p : Nat} {xv yv : Value} {full : Bool} {uv vv : Value} {mi : Bool} (h : ChC w p xv yv full uv vv mi) {c i : Nat} (hc : p ≠ c) (v : Value) : ChC (w.setCell ⟨c, i, none⟩ v) p xv yv full uv vv mi := h.block (by simp) (Below.heap_setCell _ _ _ _ hc)
theorem ChC.set0 {w : World} {p : Nat} {xv yv : Value} {full : Bool} {uv vv : Value} {mi : Bool} (h : ChC w p xv yv full uv vv mi) (a' : Value) : ChC (w.setCell ⟨p, 0, none⟩ a') p a' yv full uv vv mi :=
  ⟨by simp; exact h.lt, cell_same h.c0, (cell_other (.inr (by omega))).trans h.c1, (cell_other (.inr (by omega))).trans h.c2, (cell_other (.inr (by omega))).trans h.c3, (cell_other (.inr (by omega))).trans h.c4, (cell_other (.inr (by omega))).trans h.c5, (World.frozen?_setCell _ _ _ _).trans h.f0, (World.frozen?_setCell _ _ _ _).trans h.f1, (World.frozen?_setCell _ _ _ _).trans h.f2, (World.frozen?_setCell _ _ _ _).trans h.f3, (World.frozen?_setCell _ _ _ _).trans h.f4, (World.frozen?_setCell _ _ _ _).trans h.f5⟩
theorem ChC.set1 {w : World} {p : Nat} {xv yv : Value} {full : Bool} {uv vv : Value} {mi : Bool} (h : ChC w p xv yv full uv vv mi) (a' : Value) : ChC (w.setCell ⟨p, 1, none⟩ a') p xv a' full uv vv mi :=
  ⟨by simp; exact h.lt, (cell_other (.inr (by omega))).trans h.c0, cell_same h.c1, (cell_other (.inr (by omega))).trans h.c2, (cell_other (.inr (by omega))).trans h.c3, (cell_other (.inr (by omega))).trans h.c4, (cell_other (.inr (by omega))).trans h.c5, (World.frozen?_setCell _ _ _ _).trans h.f0, (World.frozen?_setCell _ _ _ _).trans h.f1, (World.frozen?_setCell _ _ _ _).trans h.f2, (World.frozen?_setCell _ _ _ _).trans h.f3, (World.frozen?_setCell _ _ _ _).trans h.f4, (World.frozen?_setCell _ _ _ _).trans h.f5⟩
theorem ChC.set3 {w : World} {p : Nat} {xv yv : Value} {full : Bool} {uv vv : Value} {mi : Bool} (h : ChC w p xv yv full uv vv mi) (a' : Value) : ChC (w.setCell ⟨p, 3, none⟩ a') p xv yv full a' vv mi :=
  ⟨by simp; exact h.lt, (cell_other (.inr (by omega))).trans h.c0, (cell_other (.inr (by omega))).trans h.c1, (cell_other (.inr (by omega))).trans h.c2, cell_same h.c3, (cell_other (.inr (by omega))).trans h.c4, (cell_other (.inr (by omega))).trans h.c5, (World.frozen?_setCell _ _ _ _).trans h.f0, (World.frozen?_setCell _ _ _ _).trans h.f1, (World.frozen?_setCell _ _ _ _).trans h.f2, (World.frozen?_setCell _ _ _ _).trans h.f3, (World.frozen?_setCell _ _ _ _).trans h.f4, (World.frozen?_setCell _ _ _ _).trans h.f5⟩
theorem ChC.set4 {w : World} {p : Nat} {xv yv : Value} {full : Bool} {uv vv : Value} {mi : Bool} (h : ChC w p xv yv full uv vv mi) (a' : Value) : ChC (w.setCell ⟨p, 4, none⟩ a') p xv yv full uv a' mi :=
  ⟨by simp; exact h.lt, (cell_other (.inr (by omega))).trans h.c0, (cell_other (.inr (by omega))).trans h.c1, (cell_other (.inr (by omega))).trans h.c2, (cell_other (.inr (by omega))).trans h.c3, cell_same h.c4, (cell_other (.inr (by omega))).trans h.c5, (World.frozen?_setCell _ _ _ _).trans h.f0, (World.frozen?_setCell _ _ _ _).trans h.f1, (World.frozen?_setCell _ _ _ _).trans h.f2, (World.frozen?_setCell _ _ _ _).trans h.f3, (World.frozen?_setCell _ _ _ _).trans h.f4, (World.frozen?_setCell _ _ _ _).trans h.f5⟩
theorem ChC.set5 {w : World} {p : Nat} {xv yv : Value} {full : Bool} {uv vv : Value} {mi : Bool} (h : ChC w p xv yv full uv vv mi) (a' : Bool) : ChC (w.setCell ⟨p, 5, none⟩ (.bool a')) p xv yv full uv vv a' :=
  ⟨by simp; exact h.lt, (cell_other (.inr (by omega))).trans h.c0, (cell_other (.inr (by omega))).trans h.c1, (cell_other (.inr (by omega))).trans h.c2, (cell_other (.inr (by omega))).trans h.c3, (cell_other (.inr (by omega))).trans h.c4, cell_same h.c5, (World.frozen?_setCell _ _ _ _).trans h.f0, (World.frozen?_setCell _ _ _ _).trans h.f1, (World.frozen?_setCell _ _ _ _).trans h.f2, (World.frozen?_setCell _ _ _ _).trans h.f3, (World.frozen?_setCell _ _ _ _).trans h.f4, (World.frozen?_setCell _ _ _ _).trans h.f5⟩

/-- The two rows of a chase: X and Y in n words each. -/
structure XY (base : Nat) (w : World) (p n X Y bx cx by' cy : Nat) : Prop where
  hp : base ≤ p
  hx : base ≤ bx
  hy : base ≤ by'
  xy : bx ≠ by'
  xp : bx ≠ p
  yp : by' ≠ p
  ax : Arr .u64 B w bx 0 n
  ay : Arr .u64 B w by' 0 n
  fx : Free w bx 0 n
  fy : Free w by' 0 n
  ex : num B w bx 0 n = X
  ey : num B w by' 0 n = Y
  n0 : 0 < n
  nm : n < 160
  cx1 : n ≤ cx
  cy1 : n ≤ cy
  cx2 : cx < 160
  cy2 : cy < 160
  le : Y ≤ X
theorem freeB {w w' : World} {b o n : Nat} (h : Free w b o n) (hl : b < w.heap.size) (hb : Below w.heap.size w w') : Free w' b o n := fun i hi => (World.frozen?_of_block (hb.block b hl)).trans (h i hi)
theorem XY.below {base : Nat} {w w' : World} {p n X Y bx cx by' cy : Nat} (h : XY base w p n X Y bx cx by' cy) (hb : Below w.heap.size w w') : XY base w' p n X Y bx cx by' cy := by
  obtain ⟨h1, h2, h3, h4, h5, h6, ax, ay, fx, fy, ex, ey, n0, nm, g1, g2, g3, g4, le⟩ := h
  exact ⟨h1, h2, h3, h4, h5, h6, arr_below ax hb, arr_below ay hb, freeB fx (ax.lt n0) hb, freeB fy (ay.lt n0) hb, (num_below ax hb).trans ex, (num_below ay hb).trans ey, n0, nm, g1, g2, g3, g4, le⟩
theorem XY.other {base : Nat} {w : World} {p n X Y bx cx by' cy : Nat} (h : XY base w p n X Y bx cx by' cy) (i : Nat) (v : Value) : XY base (w.setCell ⟨p, i, none⟩ v) p n X Y bx cx by' cy := by
  obtain ⟨h1, h2, h3, h4, h5, h6, ax, ay, fx, fy, ex, ey, n0, nm, g1, g2, g3, g4, le⟩ := h
  refine ⟨h1, h2, h3, h4, h5, h6, ax.set' (.inl h5.symm), ay.set' (.inl h6.symm), fun j hj => (World.frozen?_setCell _ _ _ _).trans (fx j hj), fun j hj => (World.frozen?_setCell _ _ _ _).trans (fy j hj), ?_, ?_, n0, nm, g1, g2, g3, g4, le⟩
  · rw [num_set_other (.inl h5.symm)]; exact ex
  · rw [num_set_other (.inl h6.symm)]; exact ey
/-- A chase that keeps nothing but the two rows. -/
inductive Ch (base : Nat) (w : World) (p n X Y : Nat) : Prop
  | mk (bx cx by' cy : Nat) (uv vv : Value) (mi : Bool) (c : ChC w p (.slice (some ⟨bx, 0, none⟩) n cx) (.slice (some ⟨by', 0, none⟩) n cy) false uv vv mi) (r : XY base w p n X Y bx cx by' cy)

theorem cleared_copied {w w1 w2 : World} {b o n m c p : Nat} (hc : Cleared .u64 B w w1 b o n) (hp : Copied .u64 B w1 w2 b o m c p) (hm : m ≤ n) :
    Arr .u64 B w2 b o n ∧ num B w2 b o n = num B w1 c p m ∧ Chg w w2 b o (o + n) := by
  have hhigh : ∀ i, m ≤ i → w2.cell? ⟨b, o + i, none⟩ = w1.cell? ⟨b, o + i, none⟩ := fun i hi => hp.chg.cell (o + i) (by omega)
  refine ⟨fun i hi => ?_, ?_, hc.chg.trans (hp.chg.mono (Nat.le_refl _) (by omega))⟩
  · by_cases him : i < m
    · exact hp.arr i him
    · have e := hhigh i (by omega)
      rw [word_of_cell e, e]
      exact hc.arr i hi
  · have h1 : num B w2 b o n = num B w2 b o m := _root_.Rad.vs_top hm fun i h1 h2 => by
      rw [word_of_cell (hhigh i h1)]
      exact hc.zero i h2
    rw [h1]
    exact num_congr hp.same

theorem Fr_mono {a b : Nat} {v : Value} (h : a ≤ b) (hf : Fr b v) : Fr a v := fun b' o n c e => Nat.le_trans h (hf b' o n c e)
set_option maxRecDepth 10000 in
set_option maxHeartbeats 4000000 in
theorem step_any (base : Nat) (w : World) (p n X Y : Nat) (hC : Ch base w p n X Y) (hY0 : 0 < Y) (hbase : base ≤ w.heap.size) :
    Calls Tryz.prog 125 #[.pointer (some ⟨p, 0, none⟩)] w fun e w' => e = .returned (.tuple #[]) ∧ Below base w w' ∧ Ch base w' p n Y (X % Y) := by
  obtain ⟨bx, cx, by', cy, uv, vv, mi, C, R⟩ := hC
  obtain ⟨i0, hi0, hz0, hz1, hz2⟩ := info_parts info98
  have HC : Hid (ChC w p (.slice (some ⟨bx, 0, none⟩) n cx) (.slice (some ⟨by', 0, none⟩) n cy) false uv vv mi) := C
  have HR : Hid (XY base w p n X Y bx cx by' cy) := R
  have HY0 : Hid (Y ≠ 0) := by show Y ≠ 0; omega
  have HLE : Hid (Y ≤ X) := R.le
  have HML : Hid (n ≤ maxLen) := by have := R.nm; show n ≤ maxLen; unfold maxLen; omega
  have hn := R.nm
  have hcx := R.cx1
  have hcy := R.cy1
  have HBS : Hid (base ≤ w.heap.size) := hbase
  have AX : ∀ wx, Below w.heap.size w wx → Arr .u64 B wx bx 0 n ∧ num B wx bx 0 n = X := fun wx h => ⟨arr_below R.ax h, (num_below R.ax h).trans R.ex⟩
  have AY : ∀ wx, Below w.heap.size w wx → Arr .u64 B wx by' 0 n ∧ num B wx by' 0 n = Y := fun wx h => ⟨arr_below R.ay h, (num_below R.ay h).trans R.ey⟩
  obtain ⟨lp, k0, k1, k2, k3, k4, -, -, -, -, -, -⟩ := id C
  clear C R hbase hY0
  go_enter Tryz.func125, Tryz.ntmps125
  go_wp2
  refine wp_world (fun w1 => w1 = w) rfl ?_
  rintro w1 rfl
  refine wp_drawn mixed [⟨6, [], [], [0]⟩, ⟨7, [0], [0], []⟩, ⟨8, [1], [0, 1], []⟩, ⟨9, [2], [0, 1, 2], []⟩, ⟨10, [], [], [0]⟩, ⟨11, [4], [4], []⟩, ⟨12, [5], [4, 5], []⟩, ⟨13, [6], [4, 5, 6], []⟩, ⟨14, [7], [4, 5, 6, 7], []⟩, ⟨15, [3, 8], [0, 1, 2, 3, 4, 5, 6, 7, 8], []⟩, ⟨16, [], [], [0]⟩, ⟨17, [10], [10], []⟩, ⟨18, [11], [10, 11], []⟩, ⟨19, [12], [10, 11, 12], []⟩, ⟨20, [], [], [0]⟩, ⟨21, [14], [14], []⟩, ⟨22, [15], [14, 15], []⟩, ⟨23, [16], [14, 15, 16], []⟩, ⟨24, [17], [14, 15, 16, 17], []⟩, ⟨25, [9, 13, 18], [0, 1, 2, 3, 4, 5, 6, 7, 8, 9, 10, 11, 12, 13, 14, 15, 16, 17, 18], []⟩, ⟨26, [9, 19], [0, 1, 2, 3, 4, 5, 6, 7, 8, 9, 10, 11, 12, 13, 14, 15, 16, 17, 18, 19], []⟩, ⟨5, [20], [0, 1, 2, 3, 4, 5, 6, 7, 8, 9, 10, 11, 12, 13, 14, 15, 16, 17, 18, 19, 20], []⟩, ⟨27, [21], [0, 1, 2, 3, 4, 5, 6, 7, 8, 9, 10, 11, 12, 13, 14, 15, 16, 17, 18, 19, 20, 21], []⟩, ⟨28, [21], [0, 1, 2, 3, 4, 5, 6, 7, 8, 9, 10, 11, 12, 13, 14, 15, 16, 17, 18, 19, 20, 21], []⟩, ⟨2, [0, 1, 2, 3, 4, 5, 6, 7, 8, 9, 10, 11, 12, 13, 14, 15, 16, 17, 18, 19, 20, 21, 22], [0, 1, 2, 3, 4, 5, 6, 7, 8, 9, 10, 11, 12, 13, 14, 15, 16, 17, 18, 19, 20, 21, 22], []⟩, ⟨3, [0, 1, 2, 3, 4, 5, 6, 7, 8, 9, 10, 11, 12, 13, 14, 15, 16, 17, 18, 19, 20, 21, 22, 23, 24], [0, 1, 2, 3, 4, 5, 6, 7, 8, 9, 10, 11, 12, 13, 14, 15, 16, 17, 18, 19, 20, 21, 22, 23, 24], []⟩] [] (by kernel_rfl) 120 rfl (by kernel_rfl) (fun (i : Nat) (v : Value) (wq : World) => match i with | 0 => v = .pointer (some ⟨p, 0, none⟩) | 1 => v = .pointer (some ⟨p, 0, none⟩) | 2 => v = .pointer (some ⟨p, 0, none⟩) | 3 => v = .slice (some ⟨bx, 0, none⟩) (n) (cx) | 4 => v = .pointer (some ⟨p, 0, none⟩) | 5 => v = .pointer (some ⟨p, 0, none⟩) | 6 => v = .pointer (some ⟨p, 0, none⟩) | 7 => v = .slice (some ⟨bx, 0, none⟩) (n) (cx) | 8 => v = .int .i64 (((n : Nat) : Int)) | 9 => ∃ k, k ≤ n ∧ Mag wq v X k | 10 => v = .pointer (some ⟨p, 0, none⟩) | 11 => v = .pointer (some ⟨p, 0, none⟩) | 12 => v = .pointer (some ⟨p, 1, none⟩) | 13 => v = .slice (some ⟨by', 0, none⟩) (n) (cy) | 14 => v = .pointer (some ⟨p, 0, none⟩) | 15 => v = .pointer (some ⟨p, 0, none⟩) | 16 => v = .pointer (some ⟨p, 1, none⟩) | 17 => v = .slice (some ⟨by', 0, none⟩) (n) (cy) | 18 => v = .int .i64 (((n : Nat) : Int)) | 19 => ∃ k, k ≤ n ∧ Mag wq v Y k | 20 => ∃ vq vr nq nr, v = .tuple #[vq, vr] ∧ Mag wq vq (X / Y) nq ∧ Mag wq vr (X % Y) nr ∧ Fr w1.heap.size vr | 21 => ∃ vq vr nq nr, v = .tuple #[vq, vr] ∧ Mag wq vq (X / Y) nq ∧ Mag wq vr (X % Y) nr ∧ Fr w1.heap.size vr | 22 => ∃ n, Mag wq v (X / Y) n | 23 => ∃ n, Mag wq v (X % Y) n ∧ Fr w1.heap.size v | 24 => ∃ n, Mag wq v (X / Y) n | 25 => ∃ n, Mag wq v (X % Y) n ∧ Fr w1.heap.size v | _ => True) (fun _ wq => Below w1.heap.size w1 wq) (fun wx wy => Below wx.heap.size wx wy) (Below.refl _ _).drew (fun i v wx wy h hx => match i, h with | 0, h => h | 1, h => h | 2, h => h | 3, h => h | 4, h => h | 5, h => h | 6, h => h | 7, h => h | 8, h => h | 10, h => h | 11, h => h | 12, h => h | 13, h => h | 14, h => h | 15, h => h | 16, h => h | 17, h => h | 18, h => h | 9, h => by obtain ⟨k, h1, h2⟩ := h; exact ⟨k, h1, h2.below hx⟩ | 19, h => by obtain ⟨k, h1, h2⟩ := h; exact ⟨k, h1, h2.below hx⟩ | 20, h => by obtain ⟨vq, vr, nq, nr, h0, h1, h2, h3⟩ := h; exact ⟨vq, vr, nq, nr, h0, h1.below hx, h2.below hx, h3⟩ | 21, h => by obtain ⟨vq, vr, nq, nr, h0, h1, h2, h3⟩ := h; exact ⟨vq, vr, nq, nr, h0, h1.below hx, h2.below hx, h3⟩ | 22, h => by obtain ⟨n, h⟩ := h; exact ⟨n, h.below hx⟩ | 23, h => by obtain ⟨n, h, h1⟩ := h; exact ⟨n, h.below hx, h1⟩ | 24, h => by obtain ⟨n, h⟩ := h; exact ⟨n, h.below hx⟩ | 25, h => by obtain ⟨n, h, h1⟩ := h; exact ⟨n, h.below hx, h1⟩ | n + 26, _ => trivial) ?_ ?_
  · intro i o r ho hr L fr wx hW hL hpr hds hdef hpre hfree
    clear hL hpr hds hdef
    match i, ho, hr with
    | 0, ho, hr =>
      obtain rfl := Option.some.inj ho; obtain rfl := Option.some.inj hr
      have t0 := ev_tmp (show fr.eval (.tmp 0) = .pointer (some ⟨p, 0, none⟩) from hfree 0 (by decide))
      clear hpre hfree
      refine stpK rfl rfl fun K hK => ?_
      go_simp
      exact hK _ _ ⟨rfl, hW, Below.refl _ _, fun h => (List.not_mem_nil h).elim⟩
    | 1, ho, hr =>
      obtain rfl := Option.some.inj ho; obtain rfl := Option.some.inj hr
      have e0 := ev_tmp (show fr.eval (.tmp 6) = .pointer (some ⟨p, 0, none⟩) from hpre 0 (by decide) _ rfl)
      clear hpre hfree
      refine stpK rfl rfl fun K hK => ?_
      go_simp
      exact hK _ _ ⟨rfl, hW, Below.refl _ _, fun h => (List.not_mem_nil h).elim⟩
    | 2, ho, hr =>
      obtain rfl := Option.some.inj ho; obtain rfl := Option.some.inj hr
      have e1 := ev_tmp (show fr.eval (.tmp 7) = .pointer (some ⟨p, 0, none⟩) from hpre 1 (by decide) _ rfl)
      clear hpre hfree
      refine stpK rfl rfl fun K hK => ?_
      go_simp
      exact hK _ _ ⟨rfl, hW, Below.refl _ _, fun h => (List.not_mem_nil h).elim⟩
    | 3, ho, hr =>
      obtain rfl := Option.some.inj ho; obtain rfl := Option.some.inj hr
      have e2 := ev_tmp (show fr.eval (.tmp 8) = .pointer (some ⟨p, 0, none⟩) from hpre 2 (by decide) _ rfl)
      clear hpre hfree
      have c0 := (hW.cell (p := ⟨p, 0, none⟩) lp).trans k0
      refine stpK rfl rfl fun K hK => ?_
      go_simp
      exact hK _ _ ⟨rfl, hW, Below.refl _ _, fun h => (List.not_mem_nil h).elim⟩
    | 4, ho, hr =>
      obtain rfl := Option.some.inj ho; obtain rfl := Option.some.inj hr
      have t0 := ev_tmp (show fr.eval (.tmp 0) = .pointer (some ⟨p, 0, none⟩) from hfree 0 (by decide))
      clear hpre hfree
      refine stpK rfl rfl fun K hK => ?_
      go_simp
      exact hK _ _ ⟨rfl, hW, Below.refl _ _, fun h => (List.not_mem_nil h).elim⟩
    | 5, ho, hr =>
      obtain rfl := Option.some.inj ho; obtain rfl := Option.some.inj hr
      have e4 := ev_tmp (show fr.eval (.tmp 10) = .pointer (some ⟨p, 0, none⟩) from hpre 4 (by decide) _ rfl)
      clear hpre hfree
      refine stpK rfl rfl fun K hK => ?_
      go_simp
      exact hK _ _ ⟨rfl, hW, Below.refl _ _, fun h => (List.not_mem_nil h).elim⟩
    | 6, ho, hr =>
      obtain rfl := Option.some.inj ho; obtain rfl := Option.some.inj hr
      have e5 := ev_tmp (show fr.eval (.tmp 11) = .pointer (some ⟨p, 0, none⟩) from hpre 5 (by decide) _ rfl)
      clear hpre hfree
      refine stpK rfl rfl fun K hK => ?_
      go_simp
      exact hK _ _ ⟨rfl, hW, Below.refl _ _, fun h => (List.not_mem_nil h).elim⟩
    | 7, ho, hr =>
      obtain rfl := Option.some.inj ho; obtain rfl := Option.some.inj hr
      have e6 := ev_tmp (show fr.eval (.tmp 12) = .pointer (some ⟨p, 0, none⟩) from hpre 6 (by decide) _ rfl)
      clear hpre hfree
      have c0 := (hW.cell (p := ⟨p, 0, none⟩) lp).trans k0
      refine stpK rfl rfl fun K hK => ?_
      go_simp
      exact hK _ _ ⟨rfl, hW, Below.refl _ _, fun h => (List.not_mem_nil h).elim⟩
    | 8, ho, hr =>
      obtain rfl := Option.some.inj ho; obtain rfl := Option.some.inj hr
      have e7 := ev_tmp (show fr.eval (.tmp 13) = .slice (some ⟨bx, 0, none⟩) (n) (cx) from hpre 7 (by decide) _ rfl)
      clear hpre hfree
      refine stpK rfl rfl fun K hK => ?_
      go_simp
      exact hK _ _ ⟨rfl, hW, Below.refl _ _, fun h => (List.not_mem_nil h).elim⟩
    | 9, ho, hr =>
      obtain rfl := Option.some.inj ho; obtain rfl := Option.some.inj hr
      have e3 := ev_tmp (show fr.eval (.tmp 9) = .slice (some ⟨bx, 0, none⟩) (n) (cx) from hpre 3 (by decide) _ rfl)
      have e8 := ev_tmp (show fr.eval (.tmp 14) = .int .i64 (((n : Nat) : Int)) from hpre 8 (by decide) _ rfl)
      clear hpre hfree
      refine stpK rfl rfl fun K hK => ?_
      go_simp
      refine (front_mag wx (some ⟨bx, 0, none⟩) bx 0 n _ n (Sl.mk _ _ _) (by omega) HML.out HML.out (AX wx hW).1).mono ?_
      rintro e wy ⟨v4, k4, rfl, hw4, hk1, hk2, hm4⟩
      subst wy
      exact hK _ _ ⟨⟨k4, hk2, by rw [Nat.min_self, (AX wx hW).2] at hm4; exact hm4⟩, hW, Below.refl _ _, fun h => (List.not_mem_nil h).elim⟩
    | 10, ho, hr =>
      obtain rfl := Option.some.inj ho; obtain rfl := Option.some.inj hr
      have t0 := ev_tmp (show fr.eval (.tmp 0) = .pointer (some ⟨p, 0, none⟩) from hfree 0 (by decide))
      clear hpre hfree
      refine stpK rfl rfl fun K hK => ?_
      go_simp
      exact hK _ _ ⟨rfl, hW, Below.refl _ _, fun h => (List.not_mem_nil h).elim⟩
    | 11, ho, hr =>
      obtain rfl := Option.some.inj ho; obtain rfl := Option.some.inj hr
      have e10 := ev_tmp (show fr.eval (.tmp 16) = .pointer (some ⟨p, 0, none⟩) from hpre 10 (by decide) _ rfl)
      clear hpre hfree
      refine stpK rfl rfl fun K hK => ?_
      go_simp
      exact hK _ _ ⟨rfl, hW, Below.refl _ _, fun h => (List.not_mem_nil h).elim⟩
    | 12, ho, hr =>
      obtain rfl := Option.some.inj ho; obtain rfl := Option.some.inj hr
      have e11 := ev_tmp (show fr.eval (.tmp 17) = .pointer (some ⟨p, 0, none⟩) from hpre 11 (by decide) _ rfl)
      clear hpre hfree
      refine stpK rfl rfl fun K hK => ?_
      go_simp
      exact hK _ _ ⟨rfl, hW, Below.refl _ _, fun h => (List.not_mem_nil h).elim⟩
    | 13, ho, hr =>
      obtain rfl := Option.some.inj ho; obtain rfl := Option.some.inj hr
      have e12 := ev_tmp (show fr.eval (.tmp 18) = .pointer (some ⟨p, 1, none⟩) from hpre 12 (by decide) _ rfl)
      clear hpre hfree
      have c0 := (hW.cell (p := ⟨p, 1, none⟩) lp).trans k1
      refine stpK rfl rfl fun K hK => ?_
      go_simp
      exact hK _ _ ⟨rfl, hW, Below.refl _ _, fun h => (List.not_mem_nil h).elim⟩
    | 14, ho, hr =>
      obtain rfl := Option.some.inj ho; obtain rfl := Option.some.inj hr
      have t0 := ev_tmp (show fr.eval (.tmp 0) = .pointer (some ⟨p, 0, none⟩) from hfree 0 (by decide))
      clear hpre hfree
      refine stpK rfl rfl fun K hK => ?_
      go_simp
      exact hK _ _ ⟨rfl, hW, Below.refl _ _, fun h => (List.not_mem_nil h).elim⟩
    | 15, ho, hr =>
      obtain rfl := Option.some.inj ho; obtain rfl := Option.some.inj hr
      have e14 := ev_tmp (show fr.eval (.tmp 20) = .pointer (some ⟨p, 0, none⟩) from hpre 14 (by decide) _ rfl)
      clear hpre hfree
      refine stpK rfl rfl fun K hK => ?_
      go_simp
      exact hK _ _ ⟨rfl, hW, Below.refl _ _, fun h => (List.not_mem_nil h).elim⟩
    | 16, ho, hr =>
      obtain rfl := Option.some.inj ho; obtain rfl := Option.some.inj hr
      have e15 := ev_tmp (show fr.eval (.tmp 21) = .pointer (some ⟨p, 0, none⟩) from hpre 15 (by decide) _ rfl)
      clear hpre hfree
      refine stpK rfl rfl fun K hK => ?_
      go_simp
      exact hK _ _ ⟨rfl, hW, Below.refl _ _, fun h => (List.not_mem_nil h).elim⟩
    | 17, ho, hr =>
      obtain rfl := Option.some.inj ho; obtain rfl := Option.some.inj hr
      have e16 := ev_tmp (show fr.eval (.tmp 22) = .pointer (some ⟨p, 1, none⟩) from hpre 16 (by decide) _ rfl)
      clear hpre hfree
      have c0 := (hW.cell (p := ⟨p, 1, none⟩) lp).trans k1
      refine stpK rfl rfl fun K hK => ?_
      go_simp
      exact hK _ _ ⟨rfl, hW, Below.refl _ _, fun h => (List.not_mem_nil h).elim⟩
    | 18, ho, hr =>
      obtain rfl := Option.some.inj ho; obtain rfl := Option.some.inj hr
      have e17 := ev_tmp (show fr.eval (.tmp 23) = .slice (some ⟨by', 0, none⟩) (n) (cy) from hpre 17 (by decide) _ rfl)
      clear hpre hfree
      refine stpK rfl rfl fun K hK => ?_
      go_simp
      exact hK _ _ ⟨rfl, hW, Below.refl _ _, fun h => (List.not_mem_nil h).elim⟩
    | 19, ho, hr =>
      obtain rfl := Option.some.inj ho; obtain rfl := Option.some.inj hr
      have e13 := ev_tmp (show fr.eval (.tmp 19) = .slice (some ⟨by', 0, none⟩) (n) (cy) from hpre 13 (by decide) _ rfl)
      have e18 := ev_tmp (show fr.eval (.tmp 24) = .int .i64 (((n : Nat) : Int)) from hpre 18 (by decide) _ rfl)
      clear hpre hfree
      refine stpK rfl rfl fun K hK => ?_
      go_simp
      refine (front_mag wx (some ⟨by', 0, none⟩) by' 0 n _ n (Sl.mk _ _ _) (by omega) HML.out HML.out (AY wx hW).1).mono ?_
      rintro e wy ⟨v4, k4, rfl, hw4, hk1, hk2, hm4⟩
      subst wy
      exact hK _ _ ⟨⟨k4, hk2, by rw [Nat.min_self, (AY wx hW).2] at hm4; exact hm4⟩, hW, Below.refl _ _, fun h => (List.not_mem_nil h).elim⟩
    | 20, ho, hr =>
      obtain rfl := Option.some.inj ho; obtain rfl := Option.some.inj hr
      obtain ⟨u9, q9⟩ : ∃ u, fr.eval (.tmp 15) = u := ⟨_, rfl⟩
      have p9 : ∃ k, k ≤ n ∧ Mag wx u9 X k := by rw [← q9]; exact hpre 9 (by decide) _ rfl
      have e9 := ev_tmp q9; clear q9
      obtain ⟨u19, q19⟩ : ∃ u, fr.eval (.tmp 25) = u := ⟨_, rfl⟩
      have p19 : ∃ k, k ≤ n ∧ Mag wx u19 Y k := by rw [← q19]; exact hpre 19 (by decide) _ rfl
      have e19 := ev_tmp q19; clear q19
      clear hpre hfree
      refine stpK rfl rfl fun K hK => ?_
      obtain ⟨k9, h9, p9⟩ := p9
      obtain ⟨k19, h19, p19⟩ := p19
      go_simp
      refine (divWords_fr wx _ _ _ _ k9 k19 p9 p19 (Nat.pos_of_ne_zero (fun h => HY0.out (p19.zero_iff.2 h))) (by omega) (by omega)).mono ?_
      rintro e wy ⟨vq, vr, nq, nr, rfl, hb, hq4, hr4, hf4⟩
      exact hK _ _ ⟨⟨vq, vr, nq, nr, rfl, hq4, hr4, Fr_mono hW.size (hf4 HLE.out)⟩, hW.trans (hb.mono hW.size), hb, fun h => (List.not_mem_nil h).elim⟩
    | 21, ho, hr =>
      obtain rfl := Option.some.inj ho; obtain rfl := Option.some.inj hr
      obtain ⟨u20, q20⟩ : ∃ u, fr.eval (.tmp 26) = u := ⟨_, rfl⟩
      have p20 : ∃ vq vr nq nr, u20 = .tuple #[vq, vr] ∧ Mag wx vq (X / Y) nq ∧ Mag wx vr (X % Y) nr ∧ Fr w1.heap.size vr := by rw [← q20]; exact hpre 20 (by decide) _ rfl
      have e20 := ev_tmp q20; clear q20
      clear hpre hfree
      refine stpK rfl rfl fun K hK => ?_
      go_simp
      exact hK _ _ ⟨p20, hW, Below.refl _ _, fun h => (List.not_mem_nil h).elim⟩
    | 22, ho, hr =>
      obtain rfl := Option.some.inj ho; obtain rfl := Option.some.inj hr
      obtain ⟨u21, q21⟩ : ∃ u, fr.eval (.tmp 5) = u := ⟨_, rfl⟩
      have p21 : ∃ vq vr nq nr, u21 = .tuple #[vq, vr] ∧ Mag wx vq (X / Y) nq ∧ Mag wx vr (X % Y) nr ∧ Fr w1.heap.size vr := by rw [← q21]; exact hpre 21 (by decide) _ rfl
      have e21 := ev_tmp q21; clear q21
      clear hpre hfree
      refine stpK rfl rfl fun K hK => ?_
      obtain ⟨vq, vr, nq, nr, rfl, hq4, hr4, hf4⟩ := p21
      go_simp
      exact hK _ _ ⟨⟨nq, hq4⟩, hW, Below.refl _ _, fun h => (List.not_mem_nil h).elim⟩
    | 23, ho, hr =>
      obtain rfl := Option.some.inj ho; obtain rfl := Option.some.inj hr
      obtain ⟨u21, q21⟩ : ∃ u, fr.eval (.tmp 5) = u := ⟨_, rfl⟩
      have p21 : ∃ vq vr nq nr, u21 = .tuple #[vq, vr] ∧ Mag wx vq (X / Y) nq ∧ Mag wx vr (X % Y) nr ∧ Fr w1.heap.size vr := by rw [← q21]; exact hpre 21 (by decide) _ rfl
      have e21 := ev_tmp q21; clear q21
      clear hpre hfree
      refine stpK rfl rfl fun K hK => ?_
      obtain ⟨vq, vr, nq, nr, rfl, hq4, hr4, hf4⟩ := p21
      go_simp
      exact hK _ _ ⟨⟨nr, hr4, hf4⟩, hW, Below.refl _ _, fun h => (List.not_mem_nil h).elim⟩
    | 24, ho, hr =>
      obtain rfl := Option.some.inj ho; obtain rfl := Option.some.inj hr
      obtain ⟨u22, q22⟩ : ∃ u, fr.eval (.tmp 27) = u := ⟨_, rfl⟩
      have p22 : ∃ n, Mag wx u22 (X / Y) n := by rw [← q22]; exact hpre 22 (by decide) _ rfl
      have e22 := ev_tmp q22; clear q22
      clear hpre hfree
      refine stpK rfl rfl fun K hK => ?_
      go_simp
      exact hK _ _ ⟨p22, hW, Below.refl _ _, fun h => (List.not_mem_nil h).elim⟩
    | 25, ho, hr =>
      obtain rfl := Option.some.inj ho; obtain rfl := Option.some.inj hr
      obtain ⟨u23, q23⟩ : ∃ u, fr.eval (.tmp 28) = u := ⟨_, rfl⟩
      have p23 : ∃ n, Mag wx u23 (X % Y) n ∧ Fr w1.heap.size u23 := by rw [← q23]; exact hpre 23 (by decide) _ rfl
      have e23 := ev_tmp q23; clear q23
      clear hpre hfree
      refine stpK rfl rfl fun K hK => ?_
      go_simp
      exact hK _ _ ⟨p23, hW, Below.refl _ _, fun h => (List.not_mem_nil h).elim⟩
    | n + 26, ho, hr => exact absurd hr (by simp)
  · intro vs wn hvs hW1 hap0
    clear hap0
    have e0 : vs 0 = .pointer (some ⟨p, 0, none⟩) := hvs 0 (by decide)
    have e1 : vs 1 = .pointer (some ⟨p, 0, none⟩) := hvs 1 (by decide)
    have e2 : vs 2 = .pointer (some ⟨p, 0, none⟩) := hvs 2 (by decide)
    have e3 : vs 3 = .slice (some ⟨bx, 0, none⟩) (n) (cx) := hvs 3 (by decide)
    have e4 : vs 4 = .pointer (some ⟨p, 0, none⟩) := hvs 4 (by decide)
    have e5 : vs 5 = .pointer (some ⟨p, 0, none⟩) := hvs 5 (by decide)
    have e6 : vs 6 = .pointer (some ⟨p, 0, none⟩) := hvs 6 (by decide)
    have e7 : vs 7 = .slice (some ⟨bx, 0, none⟩) (n) (cx) := hvs 7 (by decide)
    have e8 : vs 8 = .int .i64 (((n : Nat) : Int)) := hvs 8 (by decide)
    obtain ⟨u9, e9⟩ : ∃ u, vs 9 = u := ⟨_, rfl⟩
    have p9 : ∃ k, k ≤ n ∧ Mag wn u9 X k := by rw [← e9]; exact hvs 9 (by decide)
    have e10 : vs 10 = .pointer (some ⟨p, 0, none⟩) := hvs 10 (by decide)
    have e11 : vs 11 = .pointer (some ⟨p, 0, none⟩) := hvs 11 (by decide)
    have e12 : vs 12 = .pointer (some ⟨p, 1, none⟩) := hvs 12 (by decide)
    have e13 : vs 13 = .slice (some ⟨by', 0, none⟩) (n) (cy) := hvs 13 (by decide)
    have e14 : vs 14 = .pointer (some ⟨p, 0, none⟩) := hvs 14 (by decide)
    have e15 : vs 15 = .pointer (some ⟨p, 0, none⟩) := hvs 15 (by decide)
    have e16 : vs 16 = .pointer (some ⟨p, 1, none⟩) := hvs 16 (by decide)
    have e17 : vs 17 = .slice (some ⟨by', 0, none⟩) (n) (cy) := hvs 17 (by decide)
    have e18 : vs 18 = .int .i64 (((n : Nat) : Int)) := hvs 18 (by decide)
    obtain ⟨u19, e19⟩ : ∃ u, vs 19 = u := ⟨_, rfl⟩
    have p19 : ∃ k, k ≤ n ∧ Mag wn u19 Y k := by rw [← e19]; exact hvs 19 (by decide)
    obtain ⟨u20, e20⟩ : ∃ u, vs 20 = u := ⟨_, rfl⟩
    have p20 : ∃ vq vr nq nr, u20 = .tuple #[vq, vr] ∧ Mag wn vq (X / Y) nq ∧ Mag wn vr (X % Y) nr ∧ Fr w1.heap.size vr := by rw [← e20]; exact hvs 20 (by decide)
    obtain ⟨u21, e21⟩ : ∃ u, vs 21 = u := ⟨_, rfl⟩
    have p21 : ∃ vq vr nq nr, u21 = .tuple #[vq, vr] ∧ Mag wn vq (X / Y) nq ∧ Mag wn vr (X % Y) nr ∧ Fr w1.heap.size vr := by rw [← e21]; exact hvs 21 (by decide)
    obtain ⟨u22, e22⟩ : ∃ u, vs 22 = u := ⟨_, rfl⟩
    have p22 : ∃ n, Mag wn u22 (X / Y) n := by rw [← e22]; exact hvs 22 (by decide)
    obtain ⟨u23, e23⟩ : ∃ u, vs 23 = u := ⟨_, rfl⟩
    have p23 : ∃ n, Mag wn u23 (X % Y) n ∧ Fr w1.heap.size u23 := by rw [← e23]; exact hvs 23 (by decide)
    obtain ⟨u24, e24⟩ : ∃ u, vs 24 = u := ⟨_, rfl⟩
    have p24 : ∃ n, Mag wn u24 (X / Y) n := by rw [← e24]; exact hvs 24 (by decide)
    obtain ⟨u25, e25⟩ : ∃ u, vs 25 = u := ⟨_, rfl⟩
    have p25 : ∃ n, Mag wn u25 (X % Y) n ∧ Fr w1.heap.size u25 := by rw [← e25]; exact hvs 25 (by decide)
    simp only [puts, Nat.reduceAdd, e0, e1, e2, e3, e4, e5, e6, e7, e8, e9, e10, e11, e12, e13, e14, e15, e16, e17, e18, e19, e20, e21, e22, e23, e24, e25, Act.put, List.setIfInBounds_toArray, List.set_cons_zero, List.set_cons_succ, List.drop_succ_cons, List.drop_zero, List.length_cons, List.length_nil]
    clear hvs e0 e1 e2 e3 e4 e5 e6 e7 e8 e9 e10 e11 e12 e13 e14 e15 e16 e17 e18 e19 e20 e21 e22 e23 e24 e25
    have HQ : Hid _ := p24
    obtain ⟨nr, hr, hfr⟩ := p25
    obtain ⟨ar, br, orr, cr, rfl, hsr, hcr, har, hxr, hnr⟩ := hr
    have C1 := HC.out.below hW1
    have R1 := HR.out.below hW1
    have hb1 : Below base w1 wn := hW1.mono HBS.out
    have hbx1 : bx < w1.heap.size := HR.out.ax.lt HR.out.n0
    have hrn : nr ≤ n := by
      have hm : Mag wn (.slice ar nr cr) (X % Y) nr := ⟨ar, br, orr, cr, rfl, hsr, hcr, har, hxr, hnr⟩
      refine hm.len_le ?_
      have h1 : Y < B ^ n := by rw [← R1.ey]; exact num_lt R1.ay
      exact Nat.lt_trans (Nat.mod_lt _ (Nat.pos_of_ne_zero HY0.out)) h1
    have hapr : 0 < nr → br ≠ bx := fun h => by
      obtain rfl := hsr h
      have := hfr _ _ _ _ rfl
      omega
    have A1 := R1.ax
    have F1 := R1.fx
    have HXR : Hid (num B wn br orr nr = X % Y) := hxr
    have HC1 : Hid (ChC wn p (.slice (some ⟨bx, 0, none⟩) n cx) (.slice (some ⟨by', 0, none⟩) n cy) false uv vv mi) := C1
    have HR1 : Hid (XY base wn p n X Y bx cx by' cy) := R1
    have HB1 : Hid (Below base w1 wn) := hb1
    obtain ⟨lq, q0, q1, q2, -, -, -, -, -, -, -, -⟩ := id C1
    have hq : ∀ wx, Chg wn wx bx 0 (0 + n) → ∀ i, wx.cell? ⟨p, i, none⟩ = wn.cell? ⟨p, i, none⟩ := fun wx h i => World.cell?_of_block (h.block p lq HR1.out.xp.symm)
    clear p9 p19 p20 p21 p22 p23 p24 hfr hxr hnr C1 R1 hb1 k0 k1 k2 k3 k4 lp AX AY HC HR hW1
    go_wp2_with (first
      | (refine wpList_clearRow .u64 B B_pos rfl _ 22 rfl 98 i0 Tryz.underlying22 hi0 hz0 _ _ _ rfl bx 0 (Sl.mk _ _ _) A1 F1 ?_; intro w2 hcl; have q0' := (hq w2 hcl.chg 0).trans q0; have har2 := hcl.chg.arr har har.lt (fun h => .inl (hapr h)); have F2 := hcl.chg.free F1 (fun _ => A1.lt HR1.out.n0))
      | (refine wpList_copyRow .u64 B rfl _ _ 22 22 rfl 98 Tryz.underlying22 size98 _ _ _ _ _ _ rfl rfl bx 0 br orr (Sl.mk _ _ _) hsr hcl.arr F2 har2 ?_; intro w3 hcp))
    rw [Nat.min_eq_left hrn] at hcp
    obtain ⟨A3, N3, H3⟩ := cleared_copied hcl hcp hrn
    rw [hcl.chg.num har.lt (fun h => .inl (hapr h)), HXR.out] at N3
    have C3 := HC1.out.chg H3 HR1.out.xp.symm
    have R3 : XY base w3 p n Y (X % Y) by' cy bx cx := by
      obtain ⟨h1, h2, h3, h4, h5, h6, ax, ay, fx, fy, ex, ey, n0, nm, g1, g2, g3, g4, le⟩ := HR1.out
      exact ⟨h1, h3, h2, h4.symm, h6, h5, H3.arr ay ay.lt (fun _ => .inl h4.symm), A3, H3.free fy (fun _ => ay.lt n0), H3.free fx (fun _ => ax.lt n0), (H3.num (fun _ => ay.lt n0) (fun _ => .inl h4.symm)).trans ey, N3, n0, nm, g2, g1, g4, g3, Nat.le_of_lt (Nat.mod_lt _ (Nat.pos_of_ne_zero HY0.out))⟩
    have B3 : Below base w1 w3 := HB1.out.trans (H3.below HR1.out.hx (Nat.le_trans HBS.out HB1.out.size))
    obtain ⟨lp, k0, k1, k2, -, -, -, z0, z1, -, -, -, -⟩ := id C3
    have HC3 : Hid (ChC w3 p (.slice (some ⟨bx, 0, none⟩) n cx) (.slice (some ⟨by', 0, none⟩) n cy) false uv vv mi) := C3
    have HR3 : Hid (XY base w3 p n Y (X % Y) by' cy bx cx) := R3
    have HB3 : Hid (Below base w1 w3) := B3
    clear HC1 HR1 HB1 C3 R3 B3 A3 N3 H3 hcl hcp har har2 hapr hq q0 q1 q2 q0' lq A1 F1 F2 HXR hsr hcr hrn
    go_wp2
    have CF := (HC3.out.set0 (.slice (some ⟨by', 0, none⟩) n cy)).set1 (.slice (some ⟨bx, 0, none⟩) n cx)
    have RF := (HR3.out.other 0 (.slice (some ⟨by', 0, none⟩) n cy)).other 1 (.slice (some ⟨bx, 0, none⟩) n cx)
    have HF : Hid (Below base w1 (((w3.setCell ⟨p, 0, none⟩ (.slice (some ⟨by', 0, none⟩) n cy)).setCell ⟨p, 1, none⟩ (.slice (some ⟨bx, 0, none⟩) n cx)).drew) ∧ Ch base (((w3.setCell ⟨p, 0, none⟩ (.slice (some ⟨by', 0, none⟩) n cy)).setCell ⟨p, 1, none⟩ (.slice (some ⟨bx, 0, none⟩) n cx)).drew) p n Y (X % Y)) :=
      ⟨((HB3.out.setCell (p := ⟨p, 0, none⟩) RF.hp _).setCell (p := ⟨p, 1, none⟩) RF.hp _).drew, .mk _ _ _ _ _ _ _ (CF.below (bel_drew _)) (RF.below (bel_drew _))⟩
    clear CF RF HB3 HC3 HR3 HQ
    go_region
    all_goals
      go_wp2
      refine bodyPost_ret (results_none rfl _ _ _) rfl ?_
      exact ⟨rfl, HF.out⟩
end Go.Proofs.YtjlkplidpdhgbaaGreatDoor
