/- A part of the proof: R15, S1, S2, Pm7. -/
import Derived.Test.YtjlkplidpdhgbaaGreatDoorP39
import Derived.Test.YtjlkplidpdhgbaaGreatDoorP38
import Derived.Test.YtjlkplidpdhgbaaGreatDoorP32
set_option linter.all false

namespace Go.Proofs.YtjlkplidpdhgbaaGreatDoor
open Go Go.Proofs Go.RowKit Go.Rad

theorem TabP.below {w w' : World} (h : TabP w) (hb : Below w.heap.size w w') : TabP w' := by
  unfold TabP Lib.TabIs World.var? at *
  cases hg : Tryz.prog.globalNamed "internal/strconv.uint64pow10" with
  | none => simp [hg] at h
  | some g =>
    simp only [hg, Option.bind_some] at h ⊢
    have hlt : g < w.heap.size := by
      rcases Nat.lt_or_ge g w.heap.size with h' | h'
      · exact h'
      · rw [Array.getElem?_eq_none h'] at h; simp at h
    rw [hb.block g hlt]
    exact h
/-- Two cells of a block. -/
structure Box2 (w : World) (b : Nat) (u0 u1 : Value) : Prop where
  lt : b < w.heap.size
  c0 : w.cell? ⟨b, 0, none⟩ = some u0
  c1 : w.cell? ⟨b, 1, none⟩ = some u1
theorem Box2.step {w w' : World} {b B : Nat} {u0 u1 : Value} (h : Box2 w b u0 u1) (hb : Below B w w') (hB : b < B) : Box2 w' b u0 u1 :=
  ⟨Nat.lt_of_lt_of_le h.lt hb.size, (World.cell?_of_block (hb.block b hB)).trans h.c0, (World.cell?_of_block (hb.block b hB)).trans h.c1⟩
theorem Box2.mk0 (w : World) (u0 u1 : Value) (T : TypeId) : Box2 (w.alloc (Obj.cells #[u0, u1] T)) w.heap.size u0 u1 := ⟨by simp, by simp [go_sem], by simp [go_sem]⟩
theorem Box2.mk1 (w : World) (X : Obj) (u0 u1 : Value) (T : TypeId) : Box2 ((w.alloc X).alloc (Obj.cells #[u0, u1] T)) (w.heap.size + 1) u0 u1 := ⟨by simp, by simp [go_sem], by simp [go_sem]⟩
theorem Box2.mk2 (w : World) (u0 u1 : Value) (T : TypeId) (X : Obj) : Box2 ((w.alloc (Obj.cells #[u0, u1] T)).alloc X) w.heap.size u0 u1 := (Box2.mk0 w u0 u1 T).step (bel1 _ _) (by simp)
/-- Two cells known to be as they were. -/
theorem Box2.below {w w' : World} {b : Nat} {u0 u1 : Value} (h : Box2 w b u0 u1) (hb : Below w.heap.size w w') : Box2 w' b u0 u1 := h.step hb h.lt

theorem txt_70001 : txt (-70001) = [45, 55, 48, 48, 48, 49] := by
  unfold txt
  rw [show (-70001 : Int) = -((70001 : Nat) : Int) from rfl, Lib.itoa_neg _ (by decide)]
  rw [show (70001 : Nat) = 1000 * 0 + 100 * 0 + 10 * 0 + 1 + 10000 * 7 from rfl, _root_.Rad.dec_four (by decide) (by decide) (by decide) (by decide) (by decide), Lib.decDigits_one (by decide)]
  rfl

set_option maxRecDepth 10000 in
theorem numBegun_any (w : World) (ht : TabP w) : Calls Tryz.prog 11 #[] w fun e w' => e = .returned (.bool true) ∧ Below w.heap.size w w' := by
  have CO := of_any w (-70001) (by decide) (by decide)
  go_enter Tryz.func11, Tryz.ntmps11
  go_wp2_with (go_at_call 16; fail)
  refine CO.mono ?_
  rintro e w1 ⟨v1, rfl, hb1, hI⟩
  have hb1' : Int.natAbs (-70001) < B ^ 159 := Nat.lt_of_lt_of_le (show 70001 < B ^ 1 by decide) (Nat.pow_le_pow_right (by decide) (by decide))
  have CT := text_any w1 v1 (-70001) hI hb1' (ht.below hb1)
  rw [txt_70001] at CT
  clear CO hI ht hb1'
  go_wp2_with (go_at_call 14; fail)
  refine CT.mono ?_
  rintro e w2 ⟨rfl, hb2⟩
  have hB := hb1.trans (hb2.mono hb1.size)
  clear CT hb1 hb2
  go_wp2
  go_ret
  exact ⟨rfl, hB⟩

/-- What Small tells. -/
def smV (z : Int) : Int := if -9223372036854775808 ≤ z ∧ z ≤ 9223372036854775807 then z else 0
def smB (z : Int) : Bool := decide (-9223372036854775808 ≤ z ∧ z ≤ 9223372036854775807)
theorem small_v (w : World) (v : Value) (z : Int) (hv : IsInt w v z) : Calls Tryz.prog 12 #[v] w fun e w' => e = .returned (.tuple #[.int .i64 (smV z), .bool (smB z)]) ∧ Below w.heap.size w w' := by
  refine (small_any w v z hv).mono ?_
  rintro e w' ⟨hb, ⟨h1, h2, rfl⟩ | ⟨h, rfl⟩⟩
  · refine ⟨?_, hb⟩
    unfold smV smB
    rw [if_pos ⟨h1, h2⟩, decide_eq_true ⟨h1, h2⟩]
  · refine ⟨?_, hb⟩
    have hn : ¬ (-9223372036854775808 ≤ z ∧ z ≤ 9223372036854775807) := by omega
    unfold smV smB
    rw [if_neg hn, decide_eq_false hn]
theorem zSmall_v (w : World) (v : Value) (z : Int) (LX : Nat) (hx : IsZ w v z) (hbx : z.natAbs < 10000 ^ LX) (hL : LX ≤ 1073741824) (hL5 : 5 ≤ LX) : Calls Tryz.prog 13 #[v] w fun e w' => e = .returned (.tuple #[.int .i64 (smV z), .bool (smB z)]) ∧ Below w.heap.size w w' := by
  refine (zSmall_any w v z LX hx hbx hL hL5).mono ?_
  rintro e w' ⟨hb, ⟨h1, h2, rfl⟩ | ⟨h, rfl⟩⟩
  · refine ⟨?_, hb⟩
    unfold smV smB
    rw [if_pos ⟨h1, h2⟩, decide_eq_true ⟨h1, h2⟩]
  · refine ⟨?_, hb⟩
    have hn : ¬ (-9223372036854775808 ≤ z ∧ z ≤ 9223372036854775807) := by omega
    unfold smV smB
    rw [if_neg hn, decide_eq_false hn]
theorem ten_pow {x l n : Nat} (h : x < 10 ^ l) (hl : l ≤ 4 * n) : x < 10000 ^ n := by
  have h1 : 10 ^ l ≤ 10 ^ (4 * n) := Nat.pow_le_pow_right (by decide) hl
  rw [Nat.pow_mul] at h1
  exact Nat.lt_of_lt_of_le h h1
/-- What is parsed is not long. -/
theorem pval_lt (l : List UInt8) : (pval l).natAbs < 10000 ^ 250 := by
  unfold pval
  split
  · rename_i h
    rw [_root_.Rad.Valid.val_abs]
    exact ten_pow (_root_.Rad.dval_lt h.1.digits) h.2
  · exact Nat.pow_pos (by decide)
theorem Z_B : 10000 ^ 5 ≤ B ^ 2 := by decide
theorem pval_B (l : List UInt8) : (pval l).natAbs < B ^ 100 := by
  have h1 := pval_lt l
  have h2 : (10000 ^ 5) ^ 50 ≤ (B ^ 2) ^ 50 := Nat.pow_le_pow_left Z_B 50
  rw [← Nat.pow_mul, ← Nat.pow_mul] at h2
  exact Nat.lt_of_lt_of_le h1 h2
end Go.Proofs.YtjlkplidpdhgbaaGreatDoor

namespace Go.Rad
open Go Go.RowKit
theorem lv_set {β : Nat} : ∀ {xs : List Nat} {k v : Nat} (h : k < xs.length), lv β (xs.set k v) + β ^ k * xs[k] = lv β xs + β ^ k * v
  | x :: r, 0, v, _ => by simp [lv]; omega
  | x :: r, k + 1, v, h => by
    have ih := lv_set (β := β) (xs := r) (k := k) (v := v) (by simpa using h)
    simp only [List.set_cons_succ, lv, List.getElem_cons_succ, Nat.pow_succ]
    rw [Nat.mul_comm (β ^ k) β, Nat.mul_assoc, Nat.mul_assoc, Nat.add_assoc, ← Nat.mul_add, ih, Nat.mul_add, Nat.add_assoc]
theorem lv_replicate (β : Nat) : ∀ n, lv β (List.replicate n 0) = 0
  | 0 => rfl
  | n + 1 => by simp [List.replicate_succ, lv, lv_replicate β n]
/-- make([]T, n), as a row of its own. -/
theorem wpList_makeFullN {P : Program} {w : World} {ops : Array Oper} {rest : List Oper} {o : Oper} {a : Act} {Q : Exit → Act → World → Prop} (k : IntKind) (e : TypeId)
    (hg : o.guard = none) (l c : Operand) (t : TypeId) (hop : o.op = Op.makeSlice t l c) (ht : P.underlying t = some (.slice e)) (bytes : Nat)
    (hi : (P.info? e).map (fun i => (i.zero, i.size, i.bytes)) = some (some (.int k 0), 1, bytes)) (hb1 : bytes ≤ 8) (kl kc : IntKind) (L C : Int) (n : Nat) (hl : a.eval l = .int kl L) (hc : a.eval c = .int kc C) (hL : L = (n : Int)) (hC : C = (n : Int)) (hn : n ≤ 1099511627776) (base : Nat) (hbase : base ≤ w.heap.size)
    (hK : ∀ w', RowN k e w' base (.slice (some ⟨w.heap.size, 0, none⟩) n n) (List.replicate n 0) → Below w.heap.size w w' → wpList P ops Q rest (a.put o.dst (.slice (some ⟨w.heap.size, 0, none⟩) n n)) w') :
    wpList P ops Q (o :: rest) a w := by
  obtain ⟨i, hi0, hi1⟩ := Option.map_eq_some_iff.1 hi
  simp only [Prod.mk.injEq] at hi1
  obtain ⟨z0, z1, z2⟩ := hi1
  subst hC hL
  refine wpList_plain hg fun K hK' => ?_
  have hbn : i.bytes * n ≤ 8 * n := Nat.mul_le_mul_right _ (by omega)
  obtain ⟨w', hrun, hrow, hgr⟩ := run_make_full (P := P) w base t e i (.int k 0) 1 ht hi0 z0 z1 kl kc n (by omega) (by unfold maxLen; omega) hbase
  unfold Oper.wp
  simp [execOp, hop, hl, hc, hrun, Result.andThen]
  refine hK' _ _ (hK _ ?_ ((Below.refl _ _).grown hgr (Nat.le_refl _) (fun k hk => by cases hk)))
  unfold RowN
  rw [List.length_replicate, List.map_replicate]
  have e1 : (madeCells (Value.int k 0).cells (n * 1)).toList = List.replicate n (Value.int k ((0 : Nat) : Int)) := by
    rw [Nat.mul_one]
    exact toList_madeCells_one _ _
  rw [← e1]
  exact hrow
end Go.Rad

namespace Go.Proofs.YtjlkplidpdhgbaaGreatDoor
open Go Go.Proofs Go.RowKit Go.Rad

theorem mul_place {L L' p z d c c' ab R R' : Nat} (h1 : L' + p * z = L + p * d) (h2 : L + p * c = R) (hR : R' = R + p * ab) (hd : d = (c + z + ab) % 10000) (hc : c' = (c + z + ab) / 10000) : L' + p * 10000 * c' = R' := by
  have h3 := Nat.mod_add_div (c + z + ab) 10000
  have h4 : p * d + p * 10000 * c' = p * (c + z + ab) := by rw [Nat.mul_assoc, ← Nat.mul_add, hd, hc, h3]
  rw [Nat.mul_add, Nat.mul_add] at h4
  omega
/-- What ZMul holds in memory. -/
structure MW (w wr : World) (sx : Bool) (a : Option Addr) (n ca : Nat) (sy : Bool) (b : Option Addr) (m cb : Nat) (v : Value) (zs : List Nat) : Prop where
  x2 : Box2 wr w.heap.size (.bool sx) (.slice a n ca)
  x3 : Box2 wr (w.heap.size + 1) (.bool sy) (.slice b m cb)
  rz : Rez w wr (w.heap.size + 2)
  row : RowN .i64 3 wr (w.heap.size + 3) v zs
  lt : ∀ z ∈ zs, z < 10000
  len : zs.length = n + m + 1
theorem MW.step {w wr w' : World} {sx : Bool} {a : Option Addr} {n ca : Nat} {sy : Bool} {b : Option Addr} {m cb : Nat} {v : Value} {zs zs' : List Nat} (h : MW w wr sx a n ca sy b m cb v zs)
    (hb : Below (w.heap.size + 3) wr w') (hrow : RowN .i64 3 w' (w.heap.size + 3) v zs') (hlt : ∀ z ∈ zs', z < 10000) (hlen : zs'.length = n + m + 1) : MW w w' sx a n ca sy b m cb v zs' :=
  ⟨h.x2.step hb (by omega), h.x3.step hb (by omega), h.rz.step hb (by omega), hrow, hlt, hlen⟩

set_option maxRecDepth 10000 in
set_option maxHeartbeats 4000000 in
theorem zMul_any (w : World) (vx vy : Value) (x y : Int) (LX : Nat) (hx : IsZ w vx x) (hy : IsZ w vy y) (hbx : x.natAbs < 10000 ^ LX) (hby : y.natAbs < 10000 ^ LX) (hL : LX ≤ 268435456) :
    Calls Tryz.prog 27 #[vx, vy] w fun e w' => ∃ v, e = .returned v ∧ Below w.heap.size w w' ∧ IsZ w' v (x * y) := by
  obtain ⟨sx, a, n, ca, rfl⟩ := hx.form
  obtain ⟨sy, b, m, cb, rfl⟩ := hy.form
  obtain ⟨hsx, hdx⟩ := hx.dg
  obtain ⟨hsy, hdy⟩ := hy.dg
  have hn1 : n ≤ 268435456 := Nat.le_trans (hdx.len_le hbx) hL
  have hm1 : m ≤ 268435456 := Nat.le_trans (hdy.len_le hby) hL
  obtain ⟨ao, ba, oa, c1, he, hsa, hca, hcam, haa, hna, -⟩ := hdx
  simp only [Value.slice.injEq] at he
  obtain ⟨rfl, -, rfl⟩ := he
  obtain ⟨bo, bb, ob, c2, he, hsb, hcb, hcbm, hab, hnb, -⟩ := hdy
  simp only [Value.slice.injEq] at he
  obtain ⟨rfl, -, rfl⟩ := he
  have hres : sgn (sx != sy) (x.natAbs * y.natAbs) = x * y := by
    rw [hsx, hsy, ← Int.natAbs_mul]
    unfold sgn
    by_cases h1 : x < 0
    · by_cases h2 : y < 0
      · have := Int.mul_pos_of_neg_of_neg h1 h2
        simp [h1, h2]; omega
      · have := Int.mul_nonpos_of_nonpos_of_nonneg (Int.le_of_lt h1) (show 0 ≤ y by omega)
        simp [h1, h2]; omega
    · by_cases h2 : y < 0
      · have := Int.mul_nonpos_of_nonneg_of_nonpos (show 0 ≤ x by omega) (Int.le_of_lt h2)
        simp [h1, h2]; omega
      · have := Int.mul_nonneg (show 0 ≤ x by omega) (show 0 ≤ y by omega)
        simp [h1, h2]; omega
  have HRES : Hid _ := hres
  have HAA : Hid (Arr .i64 10000 w ba oa n) := haa
  have HAB : Hid (Arr .i64 10000 w bb ob m) := hab
  have HNA : Hid (num 10000 w ba oa n = x.natAbs) := hna
  have HNB : Hid (num 10000 w bb ob m = y.natAbs) := hnb
  have hN : ((n : Int) + (m : Int) + 1) = ((n + m + 1 : Nat) : Int) := by omega
  obtain ⟨N, hNN⟩ : ∃ N, N = n + m + 1 := ⟨_, rfl⟩
  rw [← hNN] at hN
  have HNN : Hid _ := hNN
  have hN2 : N ≤ 1099511627776 := by omega
  have HF : Hid (Box2 (((w.alloc (Obj.cells #[Value.bool sx, Value.slice a n ca] 31)).alloc (Obj.cells #[Value.bool sy, Value.slice b m cb] 31)).alloc (Obj.cells #[Value.bool false, Value.slice none 0 0] 31)) w.heap.size (.bool sx) (.slice a n ca) ∧
      Box2 (((w.alloc (Obj.cells #[Value.bool sx, Value.slice a n ca] 31)).alloc (Obj.cells #[Value.bool sy, Value.slice b m cb] 31)).alloc (Obj.cells #[Value.bool false, Value.slice none 0 0] 31)) (w.heap.size + 1) (.bool sy) (.slice b m cb) ∧
      Rez w (((w.alloc (Obj.cells #[Value.bool sx, Value.slice a n ca] 31)).alloc (Obj.cells #[Value.bool sy, Value.slice b m cb] 31)).alloc (Obj.cells #[Value.bool false, Value.slice none 0 0] 31)) (w.heap.size + 2)) :=
    ⟨⟨by simp; omega, by simp [go_sem], by simp [go_sem]⟩, ⟨by simp, by simp [go_sem], by simp [go_sem]⟩, ⟨bel3 _ _ _ _, by omega, by simp, by simp [go_sem], by simp [go_sem], by simp [go_sem], by simp [go_sem]⟩⟩
  clear hx hy hbx hby hsx hsy haa hab hna hnb hres hNN
  go_enter Tryz.func27, Tryz.ntmps27
  go_wp2_with (at_make; refine wpList_makeFullN .i64 3 rfl _ _ 29 rfl Tryz.underlying29 8 info3 (by decide) .i64 .i64 _ _ N rfl rfl rfl rfl hN2 (w.heap.size + 3) (by simp) ?_; intro w3 hrow3 hb3)
  have hB3 : Below (w.heap.size + 3) _ w3 := hb3.mono (by simp)
  obtain ⟨g, hg⟩ : ∃ g, w.heap.size + 1 + 1 + 1 = g := ⟨_, rfl⟩
  have MW0 : MW w w3 sx a n ca sy b m cb (.slice (some ⟨g, 0, none⟩) N N) (List.replicate N 0) := by
    refine ⟨HF.out.1.step hB3 (by omega), HF.out.2.1.step hB3 (by omega), HF.out.2.2.step hB3 (by omega), ?_, fun z hz => by rw [(List.mem_replicate.1 hz).2]; decide, by rw [List.length_replicate]; exact HNN.out⟩
    rw [← hg]
    simpa using hrow3
  have HMW0 : Hid _ := MW0
  obtain ⟨⟨l2, k20, k21⟩, ⟨l3, k30, k31⟩, -, -, -, -⟩ := id MW0
  clear HF hrow3 hb3 hB3 MW0
  have hg3 : w.heap.size + 3 ≤ g := by omega
  rw [hg]
  clear hg
  go_loopw [6] (fun s6 wr => ∃ (i : Nat) (zs : List Nat), i ≤ n ∧ s6 = .int .i64 (i : Int) ∧ MW w wr sx a n ca sy b m cb (.slice (some ⟨g, 0, none⟩) N N) zs ∧ lv 10000 zs = num 10000 w ba oa i * y.natAbs ∧ (∀ k, i + m ≤ k → ∀ (hk : k < zs.length), zs[k] = 0))
    (fun s6 _ => n - (intOf s6).toNat)
  case atStart => exact ⟨0, _, by omega, rfl, HMW0.out, by rw [lv_replicate, num_zero, Nat.zero_mul], fun k _ hk => by rw [List.getElem_replicate]⟩
  case round =>
    obtain ⟨i, zs0, hin, rfl, hM0, hlv0, hz0⟩ := hrel
    clear HMW0 k20 k21 k30 k31 l2 l3
    obtain ⟨⟨l2, k20, k21⟩, ⟨l3, k30, k31⟩, -, -, -, -⟩ := id hM0
    have HM0 : Hid _ := hM0
    have HLV : Hid _ := hlv0
    have HZ0 : Hid _ := hz0
    clear hM0 hlv0 hz0
    by_cases hi : i = n
    · subst hi
      have c1 : ¬ (i : Int) < (i : Int) := by omega
      have CZ := zmade_pl wr (sx != sy) _ _ (row_pl HM0.out.row HM0.out.lt rfl)
      rw [HLV.out, HNA.out, HRES.out] at CZ
      have HRZ : Hid _ := HM0.out.rz
      clear HM0 HLV HZ0
      go_wp2_with (go_at_call 73; fail)
      refine CZ.mono ?_
      rintro e w4 ⟨v4, rfl, hb4, hI⟩
      have R5 : Rez w w4 (w.heap.size + 1 + 1) := HRZ.out.step hb4 HRZ.out.lt
      clear CZ HRZ k20 k21 k30 k31 l2 l3
      obtain ⟨s5, a5, n5, c5, rfl⟩ := hI.form
      obtain ⟨HE, HI⟩ := R5.done hI
      have HE' : Hid _ := HE
      have HI' : Hid _ := HI
      obtain ⟨-, -, lt, k0, k1, f0, f1⟩ := R5
      clear HE HI hI hb4
      go_wp2
      refine bodyPost_ret (v := .agg #[.bool s5, .slice a5 n5 c5]) (by simp [results, go_sem, loadVar, World.cell?_setCell_same, *]) rfl ?_
      exact ⟨_, rfl, HE'.out, HI'.out⟩
    · have c1 : (i : Int) < (n : Int) := by omega
      go_wp2
      go_loopw [7, 8] (fun s7 s8 wr => ∃ (c j : Nat) (zs : List Nat), s7 = .int .i64 (c : Int) ∧ s8 = .int .i64 (j : Int) ∧ c ≤ 9999 ∧ (j ≤ m ∨ j = m + 1 ∧ c = 0) ∧ MW w wr sx a n ca sy b m cb (.slice (some ⟨g, 0, none⟩) N N) zs ∧
          lv 10000 zs + 10000 ^ (i + j) * c = num 10000 w ba oa i * y.natAbs + 10000 ^ i * word w ba (oa + i) * num 10000 w bb ob (min j m) ∧ (∀ k, i + max j m ≤ k → ∀ (hk : k < zs.length), zs[k] = 0))
        (fun _ s8 _ => m + 1 - (intOf s8).toNat)
      case atStart => exact ⟨0, 0, zs0, rfl, rfl, by omega, by omega, HM0.out, by rw [HLV.out]; simp [num_zero], fun k hk => HZ0.out k (by omega)⟩
      case round =>
        obtain ⟨c, j, zs, rfl, rfl, hc9, hjc, hM, hlv, hzero⟩ := hrel
        clear HM0 HZ0 HLV k20 k21 k30 k31 l2 l3
        obtain ⟨⟨l2, k20, k21⟩, ⟨l3, k30, k31⟩, -, -, -, -⟩ := id hM
        by_cases hj : j < m
        · obtain ⟨t, ht⟩ : ∃ t : Nat, t = i + j := ⟨_, rfl⟩
          have eT : (i : Int) + (j : Int) = (t : Int) := by omega
          have htz : t < zs.length := by rw [hM.len]; omega
          have htN : t < N := by have := hM.len; have := HNN.out; omega
          have htb : (t : Int) < (N : Int) := by omega
          obtain ⟨z, hz⟩ : ∃ z, zs[t] = z := ⟨_, rfl⟩
          have hz4 : z < 10000 := by rw [← hz]; exact hM.lt _ (List.getElem_mem htz)
          have hcellz := hM.row.cell htz
          rw [hz] at hcellz
          have hfrz := hM.row.free t
          have hMD : ∀ k, MW w (wr.drewN k) sx a n ca sy b m cb (.slice (some ⟨g, 0, none⟩) N N) zs := fun k => hM.step (below_drewN _ _ _) (hM.row.below (below_drewN _ _ _)) hM.lt hM.len
          obtain rfl := hsa (by omega)
          obtain rfl := hsb (by omega)
          have hlta := arr_lt HAA.out (i := i) (by omega)
          have hltb := arr_lt HAB.out (i := j) (by omega)
          have hca0 := (hM.rz.below.cell (p := ⟨ba, oa + i, none⟩) (HAA.out.lt (by omega))).trans (arr_cell HAA.out (i := i) (by omega))
          have hcb0 := (hM.rz.below.cell (p := ⟨bb, ob + j, none⟩) (HAB.out.lt (by omega))).trans (arr_cell HAB.out (i := j) (by omega))
          obtain ⟨p, hp⟩ : ∃ p, word w ba (oa + i) = p := ⟨_, rfl⟩
          obtain ⟨q, hq⟩ : ∃ q, word w bb (ob + j) = q := ⟨_, rfl⟩
          rw [hp] at hlta hca0
          rw [hq] at hltb hcb0
          have hpq : p * q ≤ 9999 * 9999 := Nat.mul_le_mul (by omega) (by omega)
          have hpqi : (p : Int) * (q : Int) = ((p * q : Nat) : Int) := by rw [Int.natCast_mul]
          obtain ⟨r, hr⟩ : ∃ r, p * q = r := ⟨_, rfl⟩
          rw [hr] at hpq hpqi
          have hR : num 10000 w ba oa i * y.natAbs + 10000 ^ i * word w ba (oa + i) * num 10000 w bb ob (min (j + 1) m) = num 10000 w ba oa i * y.natAbs + 10000 ^ i * word w ba (oa + i) * num 10000 w bb ob (min j m) + 10000 ^ t * r := by
            rw [num_min_succ hj, Nat.mul_add, ← Nat.add_assoc, hq, hp, ht, Nat.pow_add, ← hr]
            congr 1
            rw [Nat.mul_assoc, Nat.mul_assoc]
            congr 1
            rw [Nat.mul_left_comm]
          have hia : (i : Int) < (n : Int) := by omega
          have hjb : (j : Int) < (m : Int) := by omega
          have hia2 : i < ca := by omega
          have hjb2 : j < cb := by omega
          obtain ⟨d, hd⟩ : ∃ d, d = (c + z + r) % 10000 := ⟨_, rfl⟩
          obtain ⟨c', hc'⟩ : ∃ c', c' = (c + z + r) / 10000 := ⟨_, rfl⟩
          have hd4 : d < 10000 := by omega
          have hc4 : c' ≤ 9999 := by omega
          have eD : ((c : Int) + (z : Int) + (r : Int)) % 10000 = (d : Int) := by omega
          have eC : ((c : Int) + (z : Int) + (r : Int)) / 10000 = (c' : Int) := by omega
          have hset := lv_set (β := 10000) (v := d) htz
          rw [hz] at hset
          rw [← ht] at hlv
          have hnext := mul_place hset hlv hR hd hc'
          rw [← Nat.pow_succ, ht, Nat.succ_eq_add_one, Nat.add_assoc i j 1, ← ht] at hnext
          have hltn : ∀ x ∈ zs.set t d, x < 10000 := fun x hx => by
            rcases List.mem_or_eq_of_mem_set hx with h | h
            · exact hM.lt x h
            · rw [h]; exact hd4
          have hMW := fun k => (hMD k).step ((Below.refl (w.heap.size + 3) (wr.drewN k)).setCell (p := ⟨g, t, none⟩) (show w.heap.size + 3 ≤ g by omega) (.int .i64 (d : Int))) ((hMD k).row.set t d) hltn (by rw [List.length_set]; exact hM.len)
          clear hMD
          have hzero' : ∀ k, i + max (j + 1) m ≤ k → ∀ (hk : k < (zs.set t d).length), (zs.set t d)[k] = 0 := fun k hk1 hk2 => by
            rw [List.getElem_set_ne (by omega)]
            exact hzero k (by omega) (by rw [List.length_set] at hk2; exact hk2)
          have HMWN : Hid _ := hMW
          have HZERO : Hid _ := hzero'
          have HNEXT : Hid _ := hnext
          have HQ : Hid _ := eC
          have hcz : j + 1 ≤ m := by omega
          clear hM hzero hlv hset hnext hMW hzero' hltn hR hd hc' hz ht htz hp hq hr hpq

          go_wp2
          go_quiet (fail)
          go_wp2
          refine ⟨⟨c', j + 1, zs.set t d, congrArg (Value.int .i64) HQ.out, by go_num, hc4, by omega, HMWN.out _, HNEXT.out, HZERO.out⟩, by simp [intOf]; omega⟩
        · by_cases hc0' : c = 0
          · have hjb : ¬ (j : Int) < (m : Int) := by omega
            have hc0i : ¬ (0 : Int) < (c : Int) := by omega
            have hfin : lv 10000 zs = num 10000 w ba oa (i + 1) * y.natAbs := by
              rw [hc0', Nat.mul_zero, Nat.add_zero, Nat.min_eq_right (by omega), HNB.out] at hlv
              rw [hlv, num_succ, Nat.add_mul]
            have HFIN : Hid _ := hfin
            have HZE : Hid (∀ k, i + 1 + m ≤ k → ∀ (hk : k < zs.length), zs[k] = 0) := fun k hk => hzero k (by omega)
            have HMM : Hid _ := hM
            clear hM hzero hlv hfin
            go_wp2
            refine ⟨⟨i + 1, zs, by omega, by go_num, HMM.out, HFIN.out, HZE.out⟩, by simp [intOf]; omega⟩
          · obtain ⟨t, ht⟩ : ∃ t : Nat, t = i + j := ⟨_, rfl⟩
            have eT : (i : Int) + (j : Int) = (t : Int) := by omega
            have htz : t < zs.length := by rw [hM.len]; omega
            have htN : t < N := by have := hM.len; have := HNN.out; omega
            have htb : (t : Int) < (N : Int) := by omega
            obtain ⟨z, hz⟩ : ∃ z, zs[t] = z := ⟨_, rfl⟩
            have hz4 : z < 10000 := by rw [← hz]; exact hM.lt _ (List.getElem_mem htz)
            have hcellz := hM.row.cell htz
            rw [hz] at hcellz
            have hfrz := hM.row.free t
            have hjb : ¬ (j : Int) < (m : Int) := by omega
            have hc0 : (0 : Int) < (c : Int) := by omega
            have hz0 : z = 0 := by rw [← hz]; exact hzero t (by omega) htz
            obtain ⟨r, hr⟩ : ∃ r, r = 0 := ⟨_, rfl⟩
            have hR : num 10000 w ba oa i * y.natAbs + 10000 ^ i * word w ba (oa + i) * num 10000 w bb ob (min (j + 1) m) = num 10000 w ba oa i * y.natAbs + 10000 ^ i * word w ba (oa + i) * num 10000 w bb ob (min j m) + 10000 ^ t * r := by
              rw [num_min_stay (by omega), hr, Nat.mul_zero, Nat.add_zero]
            obtain ⟨d, hd⟩ : ∃ d, d = (c + z + r) % 10000 := ⟨_, rfl⟩
            obtain ⟨c', hc'⟩ : ∃ c', c' = (c + z + r) / 10000 := ⟨_, rfl⟩
            have hd4 : d < 10000 := by omega
            have hc4 : c' ≤ 9999 := by omega
            have eD : ((c : Int) + (z : Int)) % 10000 = (d : Int) := by omega
            have eC : ((c : Int) + (z : Int)) / 10000 = (c' : Int) := by omega
            have hset := lv_set (β := 10000) (v := d) htz
            rw [hz] at hset
            rw [← ht] at hlv
            have hnext := mul_place hset hlv hR hd hc'
            rw [← Nat.pow_succ, ht, Nat.succ_eq_add_one, Nat.add_assoc i j 1, ← ht] at hnext
            have hltn : ∀ x ∈ zs.set t d, x < 10000 := fun x hx => by
              rcases List.mem_or_eq_of_mem_set hx with h | h
              · exact hM.lt x h
              · rw [h]; exact hd4
            have hMW := hM.step ((Below.refl (w.heap.size + 3) wr).setCell (p := ⟨g, t, none⟩) (by show w.heap.size + 3 ≤ g; omega) (.int .i64 (d : Int))) (hM.row.set t d) hltn (by rw [List.length_set]; exact hM.len)
            have hzero' : ∀ k, i + max (j + 1) m ≤ k → ∀ (hk : k < (zs.set t d).length), (zs.set t d)[k] = 0 := fun k hk1 hk2 => by
              rw [List.getElem_set_ne (by omega)]
              exact hzero k (by omega) (by rw [List.length_set] at hk2; exact hk2)
            have HMWN : Hid _ := hMW
            have HZERO : Hid _ := hzero'
            have HNEXT : Hid _ := hnext
            have HQ : Hid _ := eC
            have hcz : c' = 0 := by omega
            clear hM hzero hlv hset hnext hMW hzero' hltn hR hd hc' hz ht htz hr hz0

            go_wp2
            refine ⟨⟨c', j + 1, zs.set t d, congrArg (Value.int .i64) HQ.out, by go_num, hc4, by omega, HMWN.out, HNEXT.out, HZERO.out⟩, by simp [intOf]; omega⟩

end Go.Proofs.YtjlkplidpdhgbaaGreatDoor

/- Powers' sizes: plain arithmetic, nothing of the program. -/
namespace Rad
theorem pow_abs_le (z : Int) {i N : Nat} (h : i ≤ N) : (z ^ i).natAbs ≤ (max 1 z.natAbs) ^ N := by
  rw [Int.natAbs_pow]
  exact Nat.le_trans (Nat.pow_le_pow_left (Nat.le_max_right _ _) i) (Nat.pow_le_pow_right (by omega) h)
/-- A magnitude below 10 to the l, to the n, where l n is not above m. -/
theorem max_pow_lt {z : Int} {l n m : Nat} (hl : 0 < l) (h : z.natAbs < 10 ^ l) (hm : l * n + 1 ≤ m) : (max 1 z.natAbs) ^ n < 10 ^ m := by
  have h1 : max 1 z.natAbs ≤ 10 ^ l := by
    have : 1 ≤ 10 ^ l := Nat.pow_pos (by decide)
    omega
  have h2 := Nat.pow_le_pow_left h1 n
  rw [← Nat.pow_mul] at h2
  exact Nat.lt_of_le_of_lt h2 (Nat.pow_lt_pow_right (by decide) (by omega))
end Rad
