/- A part of the proof: W13, W14. -/
import Derived.Test.YtjlkplidpdhgbaaGreatDoorP00
import Derived.Test.YtjlkplidpdhgbaaGreatDoorP04
import Derived.Test.YtjlkplidpdhgbaaGreatDoorP02
set_option linter.all false

namespace Go.Proofs.YtjlkplidpdhgbaaGreatDoor
open Go Go.Proofs Go.RowKit Go.Rad

/-- How many bits. -/
def IsLen (x L : Nat) : Prop := (x = 0 ∧ L = 0) ∨ (0 < L ∧ 2 ^ (L - 1) ≤ x ∧ x < 2 ^ L)
def len8 (j : Nat) : Nat := if j < 1 then 0 else if j < 2 then 1 else if j < 4 then 2 else if j < 8 then 3 else if j < 16 then 4 else if j < 32 then 5 else if j < 64 then 6 else if j < 128 then 7 else 8
theorem len8_is {j : Nat} (h : j < 256) : IsLen j (len8 j) ∧ len8 j ≤ 8 := by
  unfold len8 IsLen
  repeat' split
  all_goals simp
  all_goals omega
theorem isLen_shift {x k L : Nat} (hp : 0 < x / 2 ^ k) (h : IsLen (x / 2 ^ k) L) : IsLen x (L + k) := by
  rcases h with ⟨h, _⟩ | ⟨h1, h2, h3⟩
  · omega
  · right
    have hk : 0 < 2 ^ k := Nat.pow_pos (by decide)
    refine ⟨by omega, ?_, ?_⟩
    · rw [show L + k - 1 = (L - 1) + k by omega, Nat.pow_add]
      exact Nat.le_trans (Nat.mul_le_mul_right _ h2) (Nat.div_mul_le_self x _)
    · rw [Nat.pow_add]
      exact Nat.lt_mul_of_div_lt h3 hk

/-- The last region of Len64, and its operations; the table that stands in its text. -/
def lastOf (f : Func) : Code := match f.body with | some (.seq _ (.seq _ (.seq _ (.seq _ (.seq r _))))) => r | _ => .skip
def restOf (f : Func) : Code := match f.body with | some (.seq _ (.seq _ (.seq _ (.seq _ c)))) => c | _ => .skip
def opsIn (c : Code) : List Oper := match c with | .region _ ops _ => ops.toList | _ => []
def strIn (o : Oper) : ByteArray := match o.op with | .index _ (.const (.string s)) _ => s | _ => ByteArray.empty
def opAt (f : Func) (i : Nat) : Oper := (opsIn (lastOf f)).getD i default
theorem tab_ok : (List.range 256).all (fun j => (strIn (opAt Tryz.f148 3))[j]? == some (UInt8.ofNat (len8 j))) = true := by kernel_rfl
theorem ops_eq : opsIn (lastOf Tryz.f148) = [opAt Tryz.f148 0, opAt Tryz.f148 1, opAt Tryz.f148 2, opAt Tryz.f148 3, opAt Tryz.f148 4, opAt Tryz.f148 5, opAt Tryz.f148 6] := by kernel_rfl
theorem last_eq : lastOf Tryz.f148 = .region 10 (opsIn (lastOf Tryz.f148)).toArray false := by kernel_rfl
theorem rest_eq : restOf Tryz.f148 = .seq (lastOf Tryz.f148) .ret := by kernel_rfl
theorem op_0 : (opAt Tryz.f148 0).op = .move (.tmp 2) ∧ (opAt Tryz.f148 0).dst = some 19 ∧ (opAt Tryz.f148 0).guard = none := ⟨by kernel_rfl, by kernel_rfl, by kernel_rfl⟩
theorem op_1 : (opAt Tryz.f148 1).op = .move (.tmp 0) ∧ (opAt Tryz.f148 1).dst = some 20 ∧ (opAt Tryz.f148 1).guard = none := ⟨by kernel_rfl, by kernel_rfl, by kernel_rfl⟩
theorem op_2 : (opAt Tryz.f148 2).op = .convert 98 5 (.tmp 20) ∧ (opAt Tryz.f148 2).dst = some 21 ∧ (opAt Tryz.f148 2).guard = none := ⟨by kernel_rfl, by kernel_rfl, by kernel_rfl⟩
theorem op_3 : (opAt Tryz.f148 3).op = .index 9 (.const (.string (strIn (opAt Tryz.f148 3)))) (.tmp 21) ∧ (opAt Tryz.f148 3).dst = some 22 ∧ (opAt Tryz.f148 3).guard = none := ⟨by kernel_rfl, by kernel_rfl, by kernel_rfl⟩
theorem op_4 : (opAt Tryz.f148 4).op = .convert 5 3 (.tmp 22) ∧ (opAt Tryz.f148 4).dst = some 23 ∧ (opAt Tryz.f148 4).guard = none := ⟨by kernel_rfl, by kernel_rfl, by kernel_rfl⟩
theorem op_5 : (opAt Tryz.f148 5).op = .binOp .add 3 (.tmp 19) (.tmp 23) 3 ∧ (opAt Tryz.f148 5).dst = some 24 ∧ (opAt Tryz.f148 5).guard = none := ⟨by kernel_rfl, by kernel_rfl, by kernel_rfl⟩
theorem op_6 : (opAt Tryz.f148 6).op = .assign (.tmp 24) ∧ (opAt Tryz.f148 6).dst = some 2 ∧ (opAt Tryz.f148 6).guard = none := ⟨by kernel_rfl, by kernel_rfl, by kernel_rfl⟩

theorem wpl_val {P : Program} {w : World} {ops : Array Oper} {rest : List Oper} {o : Oper} {a : Act} {Q : Exit → Act → World → Prop} {d : Nat} (v : Value) (hg : o.guard = none) (hd : o.dst = some d)
    (hrun : (execOp a.eval o).run P w = .ok (.value v) w) (h : wpList P ops Q rest (a.put (some d) v) w) : wpList P ops Q (o :: rest) a w := by
  refine wpList_plain hg fun K hK => ?_
  unfold Oper.wp
  rw [hrun, Oper.upon_value, hd]
  exact hK _ _ h

theorem val_run {P : Program} {w : World} {s : Sem Value} {v : Value} (h : s.run P w = .ok v w) : Sem.run P (do pure (.value (← s)) : Sem Next) w = .ok (Next.value v) w := by
  simp [h, Result.andThen]
theorem index_runs {P : Program} {w : World} {a : Act} {o : Oper} {t : TypeId} {c v u : Value} {i : Operand} (ho : o.op = .index t (.const c) i) (hi : a.eval i = u)
    (hrun : (Instr.index t c u).run P w = .ok v w) : (execOp a.eval o).run P w = .ok (.value v) w := by
  unfold execOp; rw [ho]
  have : Instr.index t (a.eval (.const c)) (a.eval i) = Instr.index t c u := by rw [hi]; rfl
  dsimp only
  rw [this]
  exact val_run hrun
theorem conv_runs {P : Program} {w : World} {a : Act} {o : Oper} {s t : TypeId} {v u : Value} {i : Operand} (ho : o.op = .convert s t i) (hi : a.eval i = u)
    (hrun : (convert s t u).run P w = .ok v w) : (execOp a.eval o).run P w = .ok (.value v) w := by
  unfold execOp; rw [ho]
  dsimp only
  rw [hi]
  exact val_run hrun
theorem move_runs {P : Program} {w : World} {a : Act} {o : Oper} {u : Value} {i : Operand} (ho : o.op = .move i ∨ o.op = .assign i) (hi : a.eval i = u) : (execOp a.eval o).run P w = .ok (.value u) w := by
  unfold execOp
  rcases ho with ho | ho <;> rw [ho] <;> dsimp only <;> rw [hi] <;> rfl

set_option maxRecDepth 10000 in
theorem tail_abs {ops : Array Oper} {o0 o1 o2 o3 o4 o5 o6 : Oper} {T : ByteArray} (hT : ∀ y, y < 256 → T[y]? = some (UInt8.ofNat (len8 y)))
    (p0 : o0.op = .move (.tmp 2) ∧ o0.dst = some 19 ∧ o0.guard = none) (p1 : o1.op = .move (.tmp 0) ∧ o1.dst = some 20 ∧ o1.guard = none)
    (p2 : o2.op = .convert 98 5 (.tmp 20) ∧ o2.dst = some 21 ∧ o2.guard = none) (p3 : o3.op = .index 9 (.const (.string T)) (.tmp 21) ∧ o3.dst = some 22 ∧ o3.guard = none)
    (p4 : o4.op = .convert 5 3 (.tmp 22) ∧ o4.dst = some 23 ∧ o4.guard = none) (p5 : o5.op = .binOp .add 3 (.tmp 19) (.tmp 23) 3 ∧ o5.dst = some 24 ∧ o5.guard = none)
    (p6 : o6.op = .assign (.tmp 24) ∧ o6.dst = some 2 ∧ o6.guard = none)
    (a : Act) (w : World) (n y : Nat) (hs : a.tmps.size = 25) (h2 : a.eval (.tmp 2) = .int .i64 (n : Int)) (h0 : a.eval (.tmp 0) = .int .u64 (y : Int)) (hy : y < 256) (hn : n ≤ 56)
    {Q : Exit → Act → World → Prop} (hQ : ∀ a' : Act, a'.eval (.tmp 2) = .int .i64 ((n + len8 y : Nat) : Int) → a'.defers = a.defers → Q .normal a' w) :
    wpList Tryz.prog ops Q [o0, o1, o2, o3, o4, o5, o6] a w := by
  have l8 := (len8_is hy).2
  have hTy := hT y hy
  have hU : (UInt8.ofNat (len8 y)).toNat = len8 y := by simp; omega
  refine wpl_val (.int .i64 (n : Int)) p0.2.2 p0.2.1 (move_runs (.inl p0.1) h2) ?_
  obtain ⟨a1, ha1⟩ : ∃ a1, a1 = a.put (some 19) (.int .i64 (n : Int)) := ⟨_, rfl⟩
  have s1 : a1.tmps.size = 25 := by rw [ha1]; simp [Act.put, hs]
  have d1 : a1.defers = a.defers := by rw [ha1]; rfl
  have x1 : a1.eval (.tmp 19) = .int .i64 (n : Int) := by rw [ha1]; exact eval_put_same (by omega)
  have y1 : a1.eval (.tmp 0) = .int .u64 (y : Int) := by rw [ha1, eval_put_other (by decide)]; exact h0
  rw [← ha1]; clear ha1
  refine wpl_val (.int .u64 (y : Int)) p1.2.2 p1.2.1 (move_runs (.inl p1.1) y1) ?_
  obtain ⟨a2, ha2⟩ : ∃ a2, a2 = a1.put (some 20) (.int .u64 (y : Int)) := ⟨_, rfl⟩
  have s2 : a2.tmps.size = 25 := by rw [ha2]; simp [Act.put, s1]
  have d2 : a2.defers = a.defers := by rw [ha2]; exact d1
  have x2 : a2.eval (.tmp 19) = .int .i64 (n : Int) := by rw [ha2, eval_put_other (by decide)]; exact x1
  have y2 : a2.eval (.tmp 20) = .int .u64 (y : Int) := by rw [ha2]; exact eval_put_same (by omega)
  rw [← ha2]; clear ha2
  refine wpl_val (.int .u8 (y : Int)) p2.2.2 p2.2.1 (conv_runs p2.1 y2 (by simp [go_sem]; rw [IntKind.wrap_u8]; omega)) ?_
  obtain ⟨a3, ha3⟩ : ∃ a3, a3 = a2.put (some 21) (.int .u8 (y : Int)) := ⟨_, rfl⟩
  have s3 : a3.tmps.size = 25 := by rw [ha3]; simp [Act.put, s2]
  have d3 : a3.defers = a.defers := by rw [ha3]; exact d2
  have x3 : a3.eval (.tmp 19) = .int .i64 (n : Int) := by rw [ha3, eval_put_other (by decide)]; exact x2
  have y3 : a3.eval (.tmp 21) = .int .u8 (y : Int) := by rw [ha3]; exact eval_put_same (by omega)
  rw [← ha3]; clear ha3
  refine wpl_val (.int .u8 ((len8 y : Nat) : Int)) p3.2.2 p3.2.1 (index_runs p3.1 y3 (by simp [Instr.index, run_underlying Tryz.underlying9, asIntOf, hTy, hU])) ?_
  obtain ⟨a4, ha4⟩ : ∃ a4, a4 = a3.put (some 22) (.int .u8 ((len8 y : Nat) : Int)) := ⟨_, rfl⟩
  have s4 : a4.tmps.size = 25 := by rw [ha4]; simp [Act.put, s3]
  have d4 : a4.defers = a.defers := by rw [ha4]; exact d3
  have x4 : a4.eval (.tmp 19) = .int .i64 (n : Int) := by rw [ha4, eval_put_other (by decide)]; exact x3
  have y4 : a4.eval (.tmp 22) = .int .u8 ((len8 y : Nat) : Int) := by rw [ha4]; exact eval_put_same (by omega)
  rw [← ha4]; clear ha4
  refine wpl_val (.int .i64 ((len8 y : Nat) : Int)) p4.2.2 p4.2.1 (conv_runs p4.1 y4 (by simp [go_sem]; rw [IntKind.wrap_i64]; omega)) ?_
  obtain ⟨a5, ha5⟩ : ∃ a5, a5 = a4.put (some 23) (.int .i64 ((len8 y : Nat) : Int)) := ⟨_, rfl⟩
  have s5 : a5.tmps.size = 25 := by rw [ha5]; simp [Act.put, s4]
  have d5 : a5.defers = a.defers := by rw [ha5]; exact d4
  have x5 : a5.eval (.tmp 19) = .int .i64 (n : Int) := by rw [ha5, eval_put_other (by decide)]; exact x4
  have y5 : a5.eval (.tmp 23) = .int .i64 ((len8 y : Nat) : Int) := by rw [ha5]; exact eval_put_same (by omega)
  rw [← ha5]; clear ha5
  refine wpl_val (.int .i64 ((n + len8 y : Nat) : Int)) p5.2.2 p5.2.1 (by
    unfold execOp; rw [p5.1]
    dsimp only
    rw [x5, y5]
    simp [go_sem]
    rw [IntKind.wrap_i64]; omega) ?_
  obtain ⟨a6, ha6⟩ : ∃ a6, a6 = a5.put (some 24) (.int .i64 ((n + len8 y : Nat) : Int)) := ⟨_, rfl⟩
  have s6 : a6.tmps.size = 25 := by rw [ha6]; simp [Act.put, s5]
  have d6 : a6.defers = a.defers := by rw [ha6]; exact d5
  have y6 : a6.eval (.tmp 24) = .int .i64 ((n + len8 y : Nat) : Int) := by rw [ha6]; exact eval_put_same (by omega)
  rw [← ha6]; clear ha6
  refine wpl_val (.int .i64 ((n + len8 y : Nat) : Int)) p6.2.2 p6.2.1 (move_runs (.inr p6.1) y6) ?_
  exact wpList_nil (hQ _ (eval_put_same (by omega)) d6)

theorem len_tail (a : Act) (w : World) (n y : Nat) (hs : a.tmps.size = 25) (h2 : a.eval (.tmp 2) = .int .i64 (n : Int)) (h0 : a.eval (.tmp 0) = .int .u64 (y : Int)) (hy : y < 256) (hn : n ≤ 56)
    {Q : Exit → Act → World → Prop} (hQ : ∀ a' : Act, a'.eval (.tmp 2) = .int .i64 ((n + len8 y : Nat) : Int) → a'.defers = a.defers → Q .ret a' w) : (restOf Tryz.f148).wp Tryz.prog Q a w := by
  rw [rest_eq]
  refine wp_seq ?_
  rw [last_eq, ops_eq]
  refine wp_region_lit (tail_abs (T := strIn (opAt Tryz.f148 3)) (fun y hy => ?_) op_0 op_1 op_2 op_3 op_4 op_5 op_6 a w n y hs h2 h0 hy hn fun a' h3 h4 => ?_)
  · have := List.all_eq_true.1 tab_ok y (List.mem_range.2 hy)
    exact eq_of_beq this
  · exact wp_ret (hQ _ h3 h4)

def q1 (f : Func) : Code := match f.body with | some (.seq a (.seq _ (.seq _ (.seq _ _)))) => a | _ => .skip
def q2 (f : Func) : Code := match f.body with | some (.seq _ (.seq a (.seq _ (.seq _ _)))) => a | _ => .skip
def q3 (f : Func) : Code := match f.body with | some (.seq _ (.seq _ (.seq a (.seq _ _)))) => a | _ => .skip
def q4 (f : Func) : Code := match f.body with | some (.seq _ (.seq _ (.seq _ (.seq a _)))) => a | _ => .skip
theorem body148 : Tryz.f148.body = some (.seq (q1 Tryz.f148) (.seq (q2 Tryz.f148) (.seq (q3 Tryz.f148) (.seq (q4 Tryz.f148) (restOf Tryz.f148))))) := by kernel_rfl

set_option maxRecDepth 10000 in
set_option maxHeartbeats 1000000 in
theorem len64_any (x : Nat) (hx : x < B) (w : World) : Calls Tryz.prog 148 #[.int .u64 x] w fun e w' => ∃ L : Nat, e = .returned (.int .i64 L) ∧ w' = w ∧ IsLen x L ∧ L ≤ 64 := by
  unfold B at hx
  refine calls_of_wp Tryz.func148 body148 ?_
  obtain ⟨Q, hQ⟩ : ∃ Q : Exit → Act → World → Prop, Q = (bodyPost Tryz.prog Tryz.f148 fun e w' => ∃ L : Nat, e = .returned (.int .i64 L) ∧ w' = w ∧ IsLen x L ∧ L ≤ 64) := ⟨_, rfl⟩
  have hb : ∀ (n y : Nat), y < 256 → n ≤ 56 → IsLen x (n + len8 y) → n + len8 y ≤ 64 → ∀ a' : Act, a'.tmps.size = 25 → a'.eval (.tmp 2) = .int .i64 (n : Int) → a'.eval (.tmp 0) = .int .u64 (y : Int) → a'.defers = [] →
      (restOf Tryz.f148).wp Tryz.prog Q a' w := by
    rw [hQ]
    intro n y hy hn hl h64 a' hs h2 h0 hd
    refine len_tail a' w n y hs h2 h0 hy hn fun a2 h3 h4 => ?_
    exact bodyPost_ret (v := .int .i64 ((n + len8 y : Nat) : Int)) (by rw [results_tmp (t := 2) (by kernel_rfl)]; exact congrArg (fun v => Result.ok v w) h3) (h4.trans hd) ⟨_, rfl, rfl, hl, h64⟩
  rw [← hQ]; clear hQ
  obtain ⟨R, hR⟩ : ∃ R, R = restOf Tryz.f148 := ⟨_, rfl⟩
  rw [← hR] at hb ⊢
  clear hR
  simp only [Tryz.ntmps148, List.size_toArray, List.length_cons, List.length_nil, Nat.reduceAdd, Nat.reduceSub, Array.replicate_succ,
     Array.replicate_zero, List.push_toArray, List.append_toArray, List.nil_append, List.cons_append]
  obtain ⟨R4, hR4⟩ : ∃ R4, Hid (R4 = Code.seq (q4 Tryz.f148) R) := ⟨_, rfl⟩
  rw [← hR4.out]
  obtain ⟨R3, hR3⟩ : ∃ R3, Hid (R3 = Code.seq (q3 Tryz.f148) R4) := ⟨_, rfl⟩
  rw [← hR3.out]
  obtain ⟨R2, hR2⟩ : ∃ R2, Hid (R2 = Code.seq (q2 Tryz.f148) R3) := ⟨_, rfl⟩
  rw [← hR2.out]
  refine wp_seq ?_
  conv => arg 2; whnf
  go_wp2
  rw [hR2.out]
  refine wp_seq ?_
  conv => arg 2; whnf
  have hb' : Hid _ := hb
  clear hb
  have hx' : (x : Int) < 18446744073709551616 := by omega
  clear hx
  by_cases c1 : (4294967296 : Int) ≤ x
  · obtain ⟨y1, e1⟩ : ∃ y1 : Nat, y1 = x / 2 ^ 32 := ⟨_, rfl⟩
    have f1 : (x : Int) / 4294967296 = (y1 : Int) := by omega
    have t1 : IntKind.u64.wrap (y1 : Int) = (y1 : Int) := by rw [IntKind.wrap_u64]; omega
    have b1 : (y1 : Int) < 4294967296 := by omega
    have g1 : ∀ L, IsLen y1 L → IsLen x (L + 32) := fun L h => isLen_shift (by omega) (e1 ▸ h)
    clear e1
    go_wp2
    try rw [f1]
    rw [hR3.out]
    refine wp_seq ?_
    conv => arg 2; whnf
    by_cases c2 : (65536 : Int) ≤ y1
    · obtain ⟨y2, e2⟩ : ∃ y2 : Nat, y2 = y1 / 2 ^ 16 := ⟨_, rfl⟩
      have f2 : (y1 : Int) / 65536 = (y2 : Int) := by omega
      have t2 : IntKind.u64.wrap (y2 : Int) = (y2 : Int) := by rw [IntKind.wrap_u64]; omega
      have b2 : (y2 : Int) < 65536 := by omega
      have g2 : ∀ L, IsLen y2 L → IsLen y1 (L + 16) := fun L h => isLen_shift (by omega) (e2 ▸ h)
      clear e2
      go_wp2
      try rw [f2]
      rw [hR4.out]
      refine wp_seq ?_
      conv => arg 2; whnf
      by_cases c3 : (256 : Int) ≤ y2
      · obtain ⟨y3, e3⟩ : ∃ y3 : Nat, y3 = y2 / 2 ^ 8 := ⟨_, rfl⟩
        have f3 : (y2 : Int) / 256 = (y3 : Int) := by omega
        have t3 : IntKind.u64.wrap (y3 : Int) = (y3 : Int) := by rw [IntKind.wrap_u64]; omega
        have b3 : (y3 : Int) < 256 := by omega
        have g3 : ∀ L, IsLen y3 L → IsLen y2 (L + 8) := fun L h => isLen_shift (by omega) (e3 ▸ h)
        clear e3
        go_wp2
        try rw [f3]
        have hy : y3 < 256 := by omega
        have hl := (g1 _ (g2 _ (g3 _ (len8_is hy).1)))
        have h8 := (len8_is hy).2
        refine hb'.out 56 y3 hy (by decide) (by rw [Nat.add_comm]; exact hl) (by omega) _ rfl rfl rfl rfl
      · go_wp2
        have hy : y2 < 256 := by omega
        have hl := (g1 _ (g2 _ (len8_is hy).1))
        have h8 := (len8_is hy).2
        refine hb'.out 48 y2 hy (by decide) (by rw [Nat.add_comm]; exact hl) (by omega) _ rfl rfl rfl rfl
    · go_wp2
      rw [hR4.out]
      refine wp_seq ?_
      conv => arg 2; whnf
      by_cases c3 : (256 : Int) ≤ y1
      · obtain ⟨y3, e3⟩ : ∃ y3 : Nat, y3 = y1 / 2 ^ 8 := ⟨_, rfl⟩
        have f3 : (y1 : Int) / 256 = (y3 : Int) := by omega
        have t3 : IntKind.u64.wrap (y3 : Int) = (y3 : Int) := by rw [IntKind.wrap_u64]; omega
        have b3 : (y3 : Int) < 256 := by omega
        have g3 : ∀ L, IsLen y3 L → IsLen y1 (L + 8) := fun L h => isLen_shift (by omega) (e3 ▸ h)
        clear e3
        go_wp2
        try rw [f3]
        have hy : y3 < 256 := by omega
        have hl := (g1 _ (g3 _ (len8_is hy).1))
        have h8 := (len8_is hy).2
        refine hb'.out 40 y3 hy (by decide) (by rw [Nat.add_comm]; exact hl) (by omega) _ rfl rfl rfl rfl
      · go_wp2
        have hy : y1 < 256 := by omega
        have hl := (g1 _ (len8_is hy).1)
        have h8 := (len8_is hy).2
        refine hb'.out 32 y1 hy (by decide) (by rw [Nat.add_comm]; exact hl) (by omega) _ rfl rfl rfl rfl
  · go_wp2
    rw [hR3.out]
    refine wp_seq ?_
    conv => arg 2; whnf
    by_cases c2 : (65536 : Int) ≤ x
    · obtain ⟨y2, e2⟩ : ∃ y2 : Nat, y2 = x / 2 ^ 16 := ⟨_, rfl⟩
      have f2 : (x : Int) / 65536 = (y2 : Int) := by omega
      have t2 : IntKind.u64.wrap (y2 : Int) = (y2 : Int) := by rw [IntKind.wrap_u64]; omega
      have b2 : (y2 : Int) < 65536 := by omega
      have g2 : ∀ L, IsLen y2 L → IsLen x (L + 16) := fun L h => isLen_shift (by omega) (e2 ▸ h)
      clear e2
      go_wp2
      try rw [f2]
      rw [hR4.out]
      refine wp_seq ?_
      conv => arg 2; whnf
      by_cases c3 : (256 : Int) ≤ y2
      · obtain ⟨y3, e3⟩ : ∃ y3 : Nat, y3 = y2 / 2 ^ 8 := ⟨_, rfl⟩
        have f3 : (y2 : Int) / 256 = (y3 : Int) := by omega
        have t3 : IntKind.u64.wrap (y3 : Int) = (y3 : Int) := by rw [IntKind.wrap_u64]; omega
        have b3 : (y3 : Int) < 256 := by omega
        have g3 : ∀ L, IsLen y3 L → IsLen y2 (L + 8) := fun L h => isLen_shift (by omega) (e3 ▸ h)
        clear e3
        go_wp2
        try rw [f3]
        have hy : y3 < 256 := by omega
        have hl := (g2 _ (g3 _ (len8_is hy).1))
        have h8 := (len8_is hy).2
        refine hb'.out 24 y3 hy (by decide) (by rw [Nat.add_comm]; exact hl) (by omega) _ rfl rfl rfl rfl
      · go_wp2
        have hy : y2 < 256 := by omega
        have hl := (g2 _ (len8_is hy).1)
        have h8 := (len8_is hy).2
        refine hb'.out 16 y2 hy (by decide) (by rw [Nat.add_comm]; exact hl) (by omega) _ rfl rfl rfl rfl
    · go_wp2
      rw [hR4.out]
      refine wp_seq ?_
      conv => arg 2; whnf
      by_cases c3 : (256 : Int) ≤ x
      · obtain ⟨y3, e3⟩ : ∃ y3 : Nat, y3 = x / 2 ^ 8 := ⟨_, rfl⟩
        have f3 : (x : Int) / 256 = (y3 : Int) := by omega
        have t3 : IntKind.u64.wrap (y3 : Int) = (y3 : Int) := by rw [IntKind.wrap_u64]; omega
        have b3 : (y3 : Int) < 256 := by omega
        have g3 : ∀ L, IsLen y3 L → IsLen x (L + 8) := fun L h => isLen_shift (by omega) (e3 ▸ h)
        clear e3
        go_wp2
        try rw [f3]
        have hy : y3 < 256 := by omega
        have hl := (g3 _ (len8_is hy).1)
        have h8 := (len8_is hy).2
        refine hb'.out 8 y3 hy (by decide) (by rw [Nat.add_comm]; exact hl) (by omega) _ rfl rfl rfl rfl
      · go_wp2
        have hy : x < 256 := by omega
        have hl := (len8_is hy).1
        have h8 := (len8_is hy).2
        refine hb'.out 0 x hy (by decide) (by rw [Nat.add_comm]; exact hl) (by omega) _ rfl rfl rfl rfl
end Go.Proofs.YtjlkplidpdhgbaaGreatDoor

namespace Go.Proofs.YtjlkplidpdhgbaaGreatDoor
open Go Go.Proofs Go.RowKit Go.Rad

set_option maxRecDepth 10000 in
theorem leadingZeros_any (x : Nat) (hx : x < B) (w : World) : Calls Tryz.prog 135 #[.int .u64 x] w fun e w' => ∃ L : Nat, e = .returned (.int .i64 ((64 - L : Nat) : Int)) ∧ w' = w ∧ IsLen x L ∧ L ≤ 64 := by
  go_enter Tryz.func135, Tryz.ntmps135
  go_wp2_with (go_at_call 148; refine (len64_any x hx _).mono ?_; rintro e w' ⟨L, rfl, rfl, hl, h64⟩)
  have t1 : IntKind.i64.wrap (64 - (L : Int)) = ((64 - L : Nat) : Int) := by rw [IntKind.wrap_i64]; omega
  go_wp2
  go_ret
  exact ⟨L, ret_int (by omega), rfl, hl, h64⟩

set_option maxRecDepth 10000 in
theorem bitLen_any (w : World) (b o n c : Nat) (hn : 0 < n) (hc : n ≤ c) (hcm : n ≤ 35184372088832) (ha : Arr .u64 B w b o n) :
    Calls Tryz.prog 118 #[.slice (some ⟨b, o, none⟩) n c] w fun e w' => ∃ L : Nat, e = .returned (.int .i64 ((64 * (n - 1) + L : Nat) : Int)) ∧ w' = w ∧ IsLen (word w b (o + (n - 1))) L ∧ L ≤ 64 := by
  obtain ⟨m, rfl⟩ : ∃ m, n = m + 1 := ⟨n - 1, by omega⟩
  have hcell := arr_cell ha (i := m) (by omega)
  have hlt := arr_lt ha (i := m) (by omega)
  go_enter Tryz.func118, Tryz.ntmps118
  go_wp2_with (go_at_call 135; refine (leadingZeros_any _ hlt _).mono ?_; rintro e w' ⟨L, rfl, rfl, hl, h64⟩)
  go_ret
  exact ⟨L, ret_int (by omega), rfl, hl, h64⟩

set_option maxRecDepth 10000 in
theorem len_any (x : Nat) (hx : x < B) (w : World) : Calls Tryz.prog 117 #[.int .u64 x] w fun e w' => ∃ L : Nat, e = .returned (.int .i64 L) ∧ w' = w ∧ IsLen x L ∧ L ≤ 64 := by
  go_enter Tryz.func117, Tryz.ntmps117
  go_wp2_with (go_at_call 148; refine (len64_any x hx _).mono ?_; rintro e w' ⟨L, rfl, rfl, hl, h64⟩)
  go_ret
  exact ⟨L, rfl, rfl, hl, h64⟩
end Go.Proofs.YtjlkplidpdhgbaaGreatDoor
