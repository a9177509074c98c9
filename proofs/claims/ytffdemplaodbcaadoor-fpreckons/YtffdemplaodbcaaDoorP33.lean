/- A part of the proof: QMC. -/
import Derived.Test.YtffdemplaodbcaaDoorP23
import Derived.Test.YtffdemplaodbcaaDoorP25
set_option linter.all false
namespace Go.Proofs.YtffdemplaodbcaaDoor
open Go Go.Proofs Go.RowKit Go.Rad

theorem run_append_none (w : World) (ty : TypeId) (a : Option Addr) (c : Nat) : (Builtin.append_ #[22, 22] ty #[.slice none 0 0, .slice a 0 c]).run Tryd.prog w = .ok (.slice none 0 0) w := by
  cases a <;> simp [Builtin.append_, go_sem]
theorem run_copy (w : World) (ty : TypeId) (v : Value) (xs : List Int) (h : IL w v xs) : ∃ v' w', (Builtin.append_ #[22, 22] ty #[.slice none 0 0, v]).run Tryd.prog w = .ok v' w' ∧ SR w' w.heap.size v' xs ∧ Below w.heap.size w w' := by
  obtain ⟨a, b, of, n, c, rfl, hxl, ha, hc, hm⟩ := h
  by_cases h0 : n = 0
  · subst h0
    obtain rfl := List.length_eq_zero_iff.1 hxl
    exact ⟨_, w, run_append_none w ty a c, .nil none 0 rfl rfl, Below.refl _ _⟩
  · obtain rfl := ha (by omega)
    obtain ⟨i, hi0, hi1⟩ := Option.map_eq_some_iff.1 info3
    simp only [Prod.mk.injEq] at hi1
    obtain ⟨z0, z1, z2⟩ := hi1
    obtain ⟨g, cap, w', hrun, hrow, hgr, hg, hlt⟩ := run_append_lies (P := Tryd.prog) w 22 ty w.heap.size 3 i (.int .i64 0) 1 8 Tryd.underlying22 hi0 z0 z1 z2 rfl (by omega) (.slice none 0 0) 0 [] ⟨rfl, .inl ⟨rfl, rfl⟩⟩ ⟨b, of, none⟩ n c (xs.map (Value.int .i64)) (by simp [hxl])
      (fun j u hj => by
        rw [List.getElem?_map] at hj
        have hjm : j < n := by
          rcases Nat.lt_or_ge j n with h9 | h9
          · exact h9
          · rw [List.getElem?_eq_none (by omega)] at hj; cases hj
        have h9 := hc j hjm
        rw [List.getD_eq_getElem?_getD] at h9
        cases h8 : xs[j]? with
        | none => rw [h8] at hj; cases hj
        | some t =>
          rw [h8] at hj h9
          cases hj
          rw [Addr.add_lit]
          exact h9) (fun u hu => by
        obtain ⟨t, _, rfl⟩ := List.mem_map.1 hu
        rfl) (by omega) (by unfold maxLen; omega) (by omega) (Nat.le_refl _) w.heap.size rfl
    refine ⟨_, w', hrun, sr_of_row ?_, ⟨hgr.os, hgr.tape, hgr.output, hgr.size, fun k hk => hgr.block k (by omega) (fun he => by cases he)⟩⟩
    rw [hxl, Nat.zero_add] at *
    simpa using hrow
theorem wpList_copy {w : World} {ops : Array Oper} {rest : List Oper} {o : Oper} {a : Act} {Q : Exit → Act → World → Prop} (hgd : o.guard = none) (s x : Operand)
    (ho : o.op = .call { callee := .builtin .append, args := #[s, x], argTypes := #[22, 22] }) (hs : a.eval s = .slice none 0 0) (v : Value) (xs : List Int) (hx : a.eval x = v) (hv : IL w v xs)
    (h : ∀ v' w', SR w' w.heap.size v' xs → Below w.heap.size w w' → wpList Tryd.prog ops Q rest (a.put o.dst v') w') : wpList Tryd.prog ops Q (o :: rest) a w := by
  obtain ⟨v', w', hrun, h1, h2⟩ := run_copy w o.type v xs hv
  refine wpList_plain hgd fun K hK => ?_
  unfold Oper.wp execOp
  simp only [ho, resolve, invoke, builtin, Sem.run_bind, Sem.run_pure, Result.andThen_ok, List.map_toArray, List.map_cons, List.map_nil, hs, hx, hrun]
  exact hK _ _ (h _ _ h1 h2)
theorem SR.cap {w : World} {B : Nat} {v : Value} {x : List Int} (h : SR w B v x) : ∀ a k c, v = .slice a k c → k ≤ c := by
  intro a k c hv
  cases h with
  | nil a' c' hv' hx =>
    rw [hv'] at hv
    simp only [Value.slice.injEq] at hv
    omega
  | row b o c' hv' h0 hc hb hl hA hz =>
    rw [hv'] at hv
    simp only [Value.slice.injEq] at hv
    omega
theorem SR.il {w : World} {B : Nat} {v : Value} {x : List Int} (h : SR w B v x) (hl : x.length ≤ 17592186044416) : IL w v x := by
  cases h with
  | nil a c hv hx =>
    subst hv hx
    exact IL.nil _ _ _
  | row b o c hv h0 hc hb hl' hA hz => exact ⟨_, b, o, x.length, c, hv, rfl, fun _ => rfl, hA, hl⟩
theorem IL.len {w : World} {v : Value} {x : List Int} (h : IL w v x) : x.length ≤ 17592186044416 := by
  obtain ⟨a, b, o, n, c, hv, hn, ha, hc, hm⟩ := h
  omega
end Go.Proofs.YtffdemplaodbcaaDoor
