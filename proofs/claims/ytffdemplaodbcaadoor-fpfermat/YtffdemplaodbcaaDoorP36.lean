/- A part of the proof: ZB, ZC, ZD. -/
import Derived.Test.YtffdemplaodbcaaDoorP35
import Derived.Test.YtffdemplaodbcaaDoorP21
import Derived.Test.YtffdemplaodbcaaDoorP25
set_option linter.all false
/- Finite fields by their elements: each is its own power; what is fixed. -/
namespace Rad
namespace CR
variable {A : Type} [CR A]

/-- e + (T - c) l, T ahead of l. -/
def ss (c : A) : A → List A → List A
  | e, [] => [e]
  | e, a :: l => (e + -(c * a)) :: ss c a l
/-- The value at t. -/
def ev : List A → A → A
  | [], _ => 0
  | a :: l, t => a + t * ev l t
theorem ev_ss (c t : A) : ∀ (l : List A) (e : A), ev (ss c e l) t = e + (t + -c) * ev l t
  | [], e => by show e + t * 0 = e + (t + -c) * 0; rw [mul_zero, mul_zero]
  | a :: l, e => by
    show e + -(c * a) + t * ev (ss c a l) t = e + (t + -c) * (a + t * ev l t)
    rw [ev_ss c t l a]
    simp only [mul_add, add_mul, neg_mul]
    rw [show c * (t * ev l t) = t * (c * ev l t) from mul_left_comm _ _ _, ← mul_neg t (c * ev l t)]
    ac_rfl
theorem ss_length (c : A) : ∀ (l : List A) (e : A), (ss c e l).length = l.length + 1
  | [], _ => rfl
  | a :: l, e => by show (ss c a l).length + 1 = _; rw [ss_length c l a]; rfl
theorem ss_last (c : A) : ∀ (l : List A) (e : A), (ss c e l).getLast? = some ((l.getLast?).getD e)
  | [], _ => rfl
  | a :: l, e => by
    show ((e + -(c * a)) :: ss c a l).getLast? = _
    rw [List.getLast?_cons, ss_last c l a, List.getLast?_cons]
    simp
theorem ss_map (φ : A → A) (ha : ∀ a b, φ (a + b) = φ a + φ b) (hn : ∀ a, φ (-a) = -φ a) (hm : ∀ a b, φ (a * b) = φ a * φ b) (c : A) : ∀ (l : List A) (e : A), (ss c e l).map φ = ss (φ c) (φ e) (l.map φ)
  | [], _ => rfl
  | a :: l, e => by
    show φ (e + -(c * a)) :: (ss c a l).map φ = (φ e + -(φ c * φ a)) :: ss (φ c) (φ a) (l.map φ)
    rw [ss_map φ ha hn hm c l a, ha, hn, hm]
theorem ss_swap (c e : A) : ∀ (l : List A) (x x' y : A), x + -(c * y) = x' + -(e * y) → ss c x (ss e y l) = ss e x' (ss c y l)
  | [], x, x', y, h => by
    show [x + -(c * y), y] = [x' + -(e * y), y]
    rw [h]
  | a :: l, x, x', y, h => by
    show (x + -(c * (y + -(e * a)))) :: ss c (y + -(e * a)) (ss e a l) = (x' + -(e * (y + -(c * a)))) :: ss e (y + -(c * a)) (ss c a l)
    have h1 : x + -(c * (y + -(e * a))) = x' + -(e * (y + -(c * a))) := by
      rw [mul_add, mul_add, neg_add_rev, neg_add_rev, ← add_assoc, ← add_assoc, h, mul_neg, mul_neg, neg_neg, neg_neg, mul_left_comm]
    rw [h1, ss_swap c e l (y + -(e * a)) (y + -(c * a)) a (by ac_rfl)]
/-- The product of all T - c. -/
def rts : List A → List A
  | [] => [1]
  | c :: cs => ss c 0 (rts cs)
theorem rts_perm {cs ds : List A} (h : cs.Perm ds) : rts cs = rts ds := by
  induction h with
  | nil => rfl
  | cons c _ ih => show ss c 0 _ = ss c 0 _; rw [ih]
  | swap c d l =>
    show ss d 0 (ss c 0 (rts l)) = ss c 0 (ss d 0 (rts l))
    exact ss_swap d c _ 0 0 0 (by rw [mul_zero, mul_zero])
  | trans _ _ h1 h2 => exact h1.trans h2
theorem rts_length : ∀ cs : List A, (rts cs).length = cs.length + 1
  | [] => rfl
  | c :: cs => by show (ss c 0 (rts cs)).length = _; rw [ss_length, rts_length cs]; rfl
theorem rts_last : ∀ cs : List A, (rts cs).getLast? = some 1
  | [] => rfl
  | c :: cs => by show (ss c 0 (rts cs)).getLast? = _; rw [ss_last, rts_last cs]; rfl
theorem rts_ev {t : A} : ∀ {cs : List A}, t ∈ cs → ev (rts cs) t = 0
  | [], h => by cases h
  | c :: cs, h => by
    show ev (ss c 0 (rts cs)) t = 0
    rw [ev_ss, zero_add]
    rcases List.mem_cons.1 h with rfl | h
    · rw [add_neg, zero_mul]
    · rw [rts_ev h, mul_zero]
theorem rts_map (φ : A → A) (ha : ∀ a b, φ (a + b) = φ a + φ b) (hn : ∀ a, φ (-a) = -φ a) (hm : ∀ a b, φ (a * b) = φ a * φ b) (h0 : φ 0 = 0) (h1 : φ 1 = 1) : ∀ cs : List A, (rts cs).map φ = rts (cs.map φ)
  | [] => by show [φ 1] = [1]; rw [h1]
  | c :: cs => by
    show (ss c 0 (rts cs)).map φ = ss (φ c) 0 (rts (cs.map φ))
    rw [ss_map φ ha hn hm, rts_map φ ha hn hm h0 h1 cs, h0]
/-- An element that is its own power by p^r is a root of a monic polynomial of degree r whose coefficients are their own powers by p. -/
theorem small {p r : Nat} (hp : Prm p) (hc : ∀ a : A, nsm p a = 0) (h0 : 0 < r) (x : A) (hr : pw x (p ^ r) = x) :
    ∃ L : List A, L.length = r + 1 ∧ L.getLast? = some 1 ∧ (∀ a, a ∈ L → pw a p = a) ∧ ev L x = 0 := by
  have h2 := hp.two
  have hz : pw (0 : A) p = 0 := zero_pw (by omega)
  have hneg : ∀ a : A, pw (-a) p = -pw a p := fun a => by
    apply add_cancel (c := pw a p)
    rw [← dream hp hc, neg_add, neg_add, hz]
  obtain ⟨s, rfl⟩ : ∃ s, r = s + 1 := ⟨r - 1, by omega⟩
  refine ⟨rts ((List.range (s + 1)).map fun i => pw x (p ^ i)), by rw [rts_length]; simp, rts_last _, ?_, rts_ev ?_⟩
  · have e : ((rts ((List.range (s + 1)).map fun i => pw x (p ^ i))).map fun a => pw a p) = rts ((List.range (s + 1)).map fun i => pw x (p ^ i)) := by
      rw [rts_map (fun a => pw a p) (dream hp hc) hneg (fun a b => mul_pw a b p) hz (one_pw p)]
      apply rts_perm
      rw [List.map_map]
      have e1 : ((fun a => pw a p) ∘ fun i => pw x (p ^ i)) = fun i => pw x (p ^ (i + 1)) := by
        funext i
        show pw (pw x (p ^ i)) p = _
        rw [← pw_mul, Nat.pow_succ]
      rw [e1]
      have e2 : (List.range (s + 1)).map (fun i => pw x (p ^ (i + 1))) = (List.range s).map (fun i => pw x (p ^ (i + 1))) ++ [x] := by
        rw [List.range_succ, List.map_append]
        show _ ++ [pw x (p ^ (s + 1))] = _
        rw [hr]
      have e3 : (List.range (s + 1)).map (fun i => pw x (p ^ i)) = x :: (List.range s).map (fun i => pw x (p ^ (i + 1))) := by
        rw [List.range_succ_eq_map, List.map_cons, List.map_map, Nat.pow_zero, pw_one]
        rfl
      rw [e2, e3]
      exact List.perm_append_singleton _ _
    intro a ha
    have h3 : ∀ (l : List A) (φ : A → A), l.map φ = l → ∀ a, a ∈ l → φ a = a := fun l φ => by
      induction l with
      | nil => intro _ a h; cases h
      | cons b l ih =>
        intro h a ha
        rw [List.map_cons, List.cons.injEq] at h
        rcases List.mem_cons.1 ha with rfl | ha
        · exact h.1
        · exact ih h.2 a ha
    exact h3 _ _ e a ha
  · refine List.mem_map.2 ⟨0, by simp, ?_⟩
    rw [Nat.pow_zero, pw_one]
/-- The product of a list. -/
def pr : List A → A
  | [] => 1
  | a :: l => a * pr l
theorem pr_perm {l m : List A} (h : l.Perm m) : pr l = pr m := by
  induction h with
  | nil => rfl
  | cons c _ ih => show c * _ = c * _; rw [ih]
  | swap c d l => show d * (c * pr l) = c * (d * pr l); rw [mul_left_comm]
  | trans _ _ h1 h2 => exact h1.trans h2
theorem pr_map (a : A) : ∀ l : List A, pr (l.map (a * ·)) = pw a l.length * pr l
  | [] => by show (1 : A) = 1 * 1; rw [one_mul]
  | b :: l => by
    show a * b * pr (l.map (a * ·)) = pw a l.length * a * (b * pr l)
    rw [pr_map a l]
    ac_rfl
theorem pr_inv : ∀ {l : List A}, (∀ a, a ∈ l → ∃ b, a * b = 1) → ∃ b, pr l * b = 1
  | [], _ => ⟨1, one_mul _⟩
  | a :: l, h => by
    obtain ⟨b, hb⟩ := h a (by simp)
    obtain ⟨c, hc⟩ := pr_inv fun d hd => h d (List.mem_cons_of_mem _ hd)
    refine ⟨b * c, ?_⟩
    show a * pr l * (b * c) = 1
    rw [show a * pr l * (b * c) = a * b * (pr l * c) by ac_rfl, hb, hc, one_mul]
open Classical in
/-- In a finite field each element is its own power by the number of all. -/
theorem lagrange (L : List A) (hall : ∀ a, a ∈ L) (hnd : L.Nodup) (hinv : ∀ a : A, a ≠ 0 → ∃ b, a * b = 1) (a : A) : pw a L.length = a := by
  have hL : L.Perm (0 :: L.filter fun a => decide (a ≠ 0)) := by
    refine (List.perm_ext_iff_of_nodup hnd ?_).2 fun b => ?_
    · exact List.nodup_cons.2 ⟨by simp, hnd.filter _⟩
    · constructor
      · intro _
        by_cases h : b = 0
        · simp [h]
        · exact List.mem_cons_of_mem _ (List.mem_filter.2 ⟨hall b, by simpa using h⟩)
      · intro _; exact hall b
  generalize hL' : (L.filter fun a => decide (a ≠ 0)) = M at hL
  have hM : ∀ b, b ∈ M ↔ b ≠ 0 := fun b => by
    rw [← hL', List.mem_filter]
    simp [hall b]
  have hMn : M.Nodup := by rw [← hL']; exact hnd.filter _
  have hlen : L.length = M.length + 1 := by rw [hL.length_eq]; rfl
  rw [hlen]
  by_cases h0 : a = 0
  · rw [h0, zero_pw (by omega)]
  · obtain ⟨b, hb⟩ := hinv a h0
    have hcan : ∀ x y : A, a * x = a * y → x = y := fun x y h => by
      have h2 : b * (a * x) = b * (a * y) := by rw [h]
      rwa [← mul_assoc, ← mul_assoc, mul_comm b a, hb, one_mul, one_mul] at h2
    have hp : (M.map (a * ·)).Perm M := by
      refine (List.perm_ext_iff_of_nodup ?_ hMn).2 fun c => ?_
      · exact List.pairwise_map.2 (List.Pairwise.imp (fun h e => h (hcan _ _ e)) hMn)
      · rw [hM]
        constructor
        · intro h
          obtain ⟨d, hd, rfl⟩ := List.mem_map.1 h
          intro h3
          exact (hM d).1 hd (hcan d 0 (by rw [mul_zero]; exact h3))
        · intro h
          refine List.mem_map.2 ⟨b * c, (hM _).2 fun h3 => h ?_, ?_⟩
          · have : a * (b * c) = 0 := by rw [h3, mul_zero]
            rwa [← mul_assoc, hb, one_mul] at this
          · show a * (b * c) = c
            rw [← mul_assoc, hb, one_mul]
    have h4 := pr_perm hp
    rw [pr_map] at h4
    obtain ⟨c, hc⟩ := pr_inv (l := M) fun d hd => hinv d ((hM d).1 hd)
    have h5 : pw a M.length = 1 := by
      have h6 : pw a M.length * pr M * c = pr M * c := by rw [h4]
      rwa [mul_assoc, hc, mul_one] at h6
    show pw a M.length * a = a
    rw [h5, one_mul]
end CR
end Rad
namespace Go.Proofs.YtffdemplaodbcaaDoor
open Go Go.Proofs Go.RowKit Go.Rad
open _root_.Rad (CR Prm)

/-! The polynomials modulo p and m as a ring. -/
def cgS (p : Int) (m : List Int) : Setoid (List Int) := ⟨fun x y => Cg p m (row x) (row y), ⟨fun x => .refl p m (row x), fun h => h.symm, fun h k => h.trans k⟩⟩
def Am (p : Int) (m : List Int) : Type := Quotient (cgS p m)
def mq {p : Int} {m : List Int} (x : List Int) : Am p m := Quotient.mk (cgS p m) x
theorem mk_eq {p : Int} {m x y : List Int} : (mq x : Am p m) = mq y ↔ Cg p m (row x) (row y) := ⟨fun h => Quotient.exact h, fun h => Quotient.sound h⟩
theorem mk_row {p : Int} {m x y : List Int} (h : ∀ j, row x j = row y j) : (mq x : Am p m) = mq y := mk_eq.2 (.of fun j => by rw [h])
theorem mk_rep {p : Int} {m : List Int} (a : Am p m) : ∃ x, a = mq x := by
  obtain ⟨x, hx⟩ := Quotient.exists_rep a
  exact ⟨x, hx.symm⟩
theorem Cg.add {p : Int} {m : List Int} {u v u' v' : Nat → Int} (h : Cg p m u u') (k : Cg p m v v') : Cg p m (fun j => u j + v j) (fun j => u' j + v' j) := by
  obtain ⟨q, hq⟩ := h
  obtain ⟨r, hr⟩ := k
  refine ⟨padd q r, fun j => ?_⟩
  show (u j + v j) % p = (u' j + v' j + act (padd q r) (row m) j) % p
  rw [Int.add_emod, hq j, hr j, ← Int.add_emod, act_padd]
  congr 1; omega
theorem Cg.smul {p : Int} {m : List Int} {u u' : Nat → Int} (c : Int) (h : Cg p m u u') : Cg p m (fun j => c * u j) (fun j => c * u' j) := by
  obtain ⟨q, hq⟩ := h
  refine ⟨q.map (c * ·), fun j => ?_⟩
  rw [Int.mul_emod, hq j, ← Int.mul_emod, act_map, Int.mul_add]
theorem row_padd (x y : List Int) (j : Nat) : row (padd x y) j = row x j + row y j := act_padd x y one0 j
theorem row_map (x : List Int) (c : Int) (j : Nat) : row (x.map (c * ·)) j = c * row x j := act_map x c one0 j
theorem row_nil (j : Nat) : row [] j = 0 := rfl
theorem row_mul_comm (x y : List Int) (j : Nat) : row (pmul x y) j = row (pmul y x) j := by
  rw [row_pmul, row_pmul]; exact act_comm x y one0 j
def addQ {p : Int} {m : List Int} (a b : Am p m) : Am p m :=
  Quotient.liftOn₂ a b (fun x y => (mq (padd x y) : Am p m)) fun x y x' y' hx hy => mk_eq.2 (((Cg.of fun j => by rw [row_padd]).trans (Cg.add hx hy)).trans (.of fun j => by rw [row_padd]))
def mulQ {p : Int} {m : List Int} (a b : Am p m) : Am p m :=
  Quotient.liftOn₂ a b (fun x y => (mq (pmul x y) : Am p m)) fun x y x' y' hx hy => mk_eq.2 (Cg.mul hx hy)
def negQ {p : Int} {m : List Int} (a : Am p m) : Am p m :=
  Quotient.liftOn a (fun x => (mq (x.map (-1 * ·)) : Am p m)) fun x y h => mk_eq.2 (((Cg.of fun j => by rw [row_map]).trans (Cg.smul (-1) h)).trans (.of fun j => by rw [row_map]))
theorem row_mul_assoc (x y z : List Int) (j : Nat) : row (pmul (pmul x y) z) j = row (pmul x (pmul y z)) j := by
  rw [row_pmul, row_pmul, act_pmul]
  exact act_congr x (fun i => (row_pmul y z i).symm) j
theorem row_one_mul (x : List Int) (j : Nat) : row (pmul [1] x) j = row x j := by
  rw [row_pmul]
  show 1 * row x j + sft (fun _ => 0) j = _
  cases j <;> simp [sft]
theorem row_mul_add (x y z : List Int) (j : Nat) : row (pmul x (padd y z)) j = row (padd (pmul x y) (pmul x z)) j := by
  rw [row_padd, row_pmul, row_pmul, row_pmul, ← act_add]
  exact act_congr x (fun i => row_padd y z i) j
instance amCR (p : Int) (m : List Int) : CR (Am p m) where
  add := addQ
  mul := mulQ
  neg := negQ
  zero := mq []
  one := mq [1]
  add_assoc a b c := by
    obtain ⟨x, rfl⟩ := mk_rep a; obtain ⟨y, rfl⟩ := mk_rep b; obtain ⟨z, rfl⟩ := mk_rep c
    exact mk_row fun j => by rw [row_padd, row_padd, row_padd, row_padd, Int.add_assoc]
  add_comm a b := by
    obtain ⟨x, rfl⟩ := mk_rep a; obtain ⟨y, rfl⟩ := mk_rep b
    exact mk_row fun j => by rw [row_padd, row_padd, Int.add_comm]
  zero_add a := by
    obtain ⟨x, rfl⟩ := mk_rep a
    exact mk_row fun j => by rw [row_padd, row_nil, Int.zero_add]
  neg_add a := by
    obtain ⟨x, rfl⟩ := mk_rep a
    exact mk_row fun j => by rw [row_padd, row_map, row_nil]; omega
  mul_assoc a b c := by
    obtain ⟨x, rfl⟩ := mk_rep a; obtain ⟨y, rfl⟩ := mk_rep b; obtain ⟨z, rfl⟩ := mk_rep c
    exact mk_row fun j => row_mul_assoc x y z j
  mul_comm a b := by
    obtain ⟨x, rfl⟩ := mk_rep a; obtain ⟨y, rfl⟩ := mk_rep b
    exact mk_row fun j => row_mul_comm x y j
  one_mul a := by
    obtain ⟨x, rfl⟩ := mk_rep a
    exact mk_row fun j => row_one_mul x j
  mul_add a b c := by
    obtain ⟨x, rfl⟩ := mk_rep a; obtain ⟨y, rfl⟩ := mk_rep b; obtain ⟨z, rfl⟩ := mk_rep c
    exact mk_row fun j => row_mul_add x y z j
theorem mk_add {p : Int} {m : List Int} (x y : List Int) : (mq x : Am p m) + mq y = mq (padd x y) := rfl
theorem mk_mul {p : Int} {m : List Int} (x y : List Int) : (mq x : Am p m) * mq y = mq (pmul x y) := rfl
theorem mk_neg {p : Int} {m : List Int} (x : List Int) : -(mq x : Am p m) = mq (x.map (-1 * ·)) := rfl
theorem mk_zero {p : Int} {m : List Int} : (0 : Am p m) = mq [] := rfl
theorem mk_one {p : Int} {m : List Int} : (1 : Am p m) = mq [1] := rfl
theorem mk_pw {p : Int} {m : List Int} (x : List Int) : ∀ n, CR.pw (mq x : Am p m) n = mq (ppow x n)
  | 0 => rfl
  | n + 1 => by
    show CR.pw (mq x : Am p m) n * mq x = mq (pmul x (ppow x n))
    rw [mk_pw x n, CR.mul_comm]
    rfl
theorem mk_nsm {p : Int} {m : List Int} (x : List Int) : ∀ n : Nat, CR.nsm n (mq x : Am p m) = mq (x.map ((n : Int) * ·))
  | 0 => mk_row fun j => by rw [row_map, row_nil]; simp
  | n + 1 => by
    show CR.nsm n (mq x : Am p m) + mq x = _
    rw [mk_nsm x n, mk_add]
    exact mk_row fun j => by rw [row_padd, row_map, row_map, Int.natCast_add, Int.add_mul]; simp
theorem am_char (P : Nat) (m : List Int) (a : Am (P : Int) m) : CR.nsm P a = 0 := by
  obtain ⟨x, rfl⟩ := mk_rep a
  rw [mk_nsm, mk_zero, mk_eq]
  exact .of fun j => by rw [row_map, row_nil, Int.mul_emod_right]; rfl
/-- m is nought. -/
theorem mk_self {p : Int} {m : List Int} : (mq m : Am p m) = 0 := by
  rw [mk_zero, mk_eq]
  exact ⟨[1], fun j => by rw [row_nil, Int.zero_add, ← row_pmul, row_one_mul]⟩
/-- x, and a list by its head. -/
theorem mk_cons {p : Int} {m : List Int} (k : Int) (x : List Int) : (mq (k :: x) : Am p m) = mq [k] + mq [0, 1] * mq x := by
  rw [mk_mul, mk_add]
  refine mk_row fun j => ?_
  rw [row_padd, row_pmul]
  show k * one0 j + sft (act x one0) j = k * one0 j + sft (fun _ => 0) j + (0 * row x j + sft (fun i => 1 * row x i + sft (fun _ => 0) i) j)
  cases j with
  | zero => simp [sft]
  | succ j => cases j <;> simp [sft, row]
theorem mk_ev {p : Int} {m : List Int} : ∀ x : List Int, CR.ev (x.map fun k => (mq [k] : Am p m)) (mq [0, 1]) = mq x
  | [] => rfl
  | k :: x => by
    show (mq [k] : Am p m) + mq [0, 1] * CR.ev (x.map fun k => (mq [k] : Am p m)) (mq [0, 1]) = _
    rw [mk_ev x, ← mk_cons]
end Go.Proofs.YtffdemplaodbcaaDoor
namespace Go.Proofs.YtffdemplaodbcaaDoor
open Go Go.Proofs Go.RowKit Go.Rad
open _root_.Rad (CR Prm)

/-! Each polynomial has a rest; all rests. -/
theorem act_zers (u : Nat → Int) : ∀ (n j : Nat), act (List.replicate n 0) u j = 0
  | 0, _ => rfl
  | n + 1, j => by
    show 0 * u j + sft (act (List.replicate n 0) u) j = 0
    cases j with
    | zero => simp [sft]
    | succ j => simp [sft, act_zers u n j]
theorem act_shf (c : Int) (n : Nat) (u : Nat → Int) (j : Nat) : act (List.replicate n 0 ++ [c]) u j = if n ≤ j then c * u (j - n) else 0 := by
  rw [act_app, act_zers, Int.zero_add, List.length_replicate]
/-- A modulus: its last coefficient has an inverse. -/
structure Mo (p : Int) (m : List Int) (d : Nat) : Prop where
  len : m.length = d + 1
  inv : ∃ r, r * row m d % p = 1 % p
theorem Mo.big {p : Int} {m : List Int} {d : Nat} (h : Mo p m d) (j : Nat) (hj : d < j) : row m j = 0 := by
  rw [row_getD]; exact getD_of_ge m j (by have := h.len; omega)
theorem row_ge (x : List Int) (j : Nat) (h : x.length ≤ j) : row x j = 0 := by rw [row_getD]; exact getD_of_ge x j h
theorem Mo.rest {p : Int} {m : List Int} {d : Nat} (h : Mo p m d) : ∀ (n : Nat) (x : List Int), x.length ≤ n → ∃ z : List Int, z.length ≤ d ∧ Cg p m (row x) (row z)
  | 0, x, hx => ⟨x, by omega, .refl _ _ _⟩
  | n + 1, x, hx => by
    rcases Nat.lt_or_ge d x.length with h1 | h1
    · obtain ⟨r, hr⟩ := h.inv
      obtain ⟨k, hk⟩ : ∃ k, x.length = k + 1 := ⟨x.length - 1, by omega⟩
      have key : ∀ j, row x j % p = (row (lst (fun j => row x j - act (List.replicate (k - d) 0 ++ [row x k * r]) (row m) j) k) j + act (List.replicate (k - d) 0 ++ [row x k * r]) (row m) j) % p := fun j => by
        rw [row_lst]
        unfold cut
        split
        · congr 1; exact (Int.sub_add_cancel _ _).symm
        · rename_i hj
          rw [Int.zero_add, act_shf, if_pos (by omega)]
          rcases Nat.lt_or_ge k j with h2 | h2
          · rw [row_ge x j (by omega), h.big _ (by omega), Int.mul_zero]
          · obtain rfl : j = k := by omega
            rw [show j - (j - d) = d by omega, Int.mul_assoc, Int.mul_emod, hr, ← Int.mul_emod, Int.mul_one]
      obtain ⟨z, hz, hc⟩ := h.rest n (lst (fun j => row x j - act (List.replicate (k - d) 0 ++ [row x k * r]) (row m) j) k) (by rw [lst_length]; omega)
      exact ⟨z, hz, Cg.trans ⟨_, key⟩ hc⟩
    · exact ⟨x, h1, .refl _ _ _⟩
/-- All lists of n numbers below P. -/
def allL (P : Nat) : Nat → List (List Int)
  | 0 => [[]]
  | n + 1 => (List.range P).flatMap fun (c : Nat) => (allL P n).map ((c : Int) :: ·)
theorem allL_length (P : Nat) : ∀ n, (allL P n).length = P ^ n
  | 0 => rfl
  | n + 1 => by
    show ((List.range P).flatMap fun (c : Nat) => (allL P n).map ((c : Int) :: ·)).length = _
    rw [List.length_flatMap]
    simp only [List.length_map, allL_length P n]
    rw [List.map_const', List.sum_replicate_nat, List.length_range, Nat.pow_succ, Nat.mul_comm]
theorem allL_mem {P : Nat} : ∀ {n : Nat} {x : List Int}, x ∈ allL P n ↔ x.length = n ∧ ∀ a, a ∈ x → 0 ≤ a ∧ a < P
  | 0, x => by
    show x ∈ [[]] ↔ _
    rw [List.mem_singleton]
    constructor
    · rintro rfl; exact ⟨rfl, fun a h => by cases h⟩
    · intro h; exact List.length_eq_zero_iff.1 h.1
  | n + 1, x => by
    show x ∈ (List.range P).flatMap _ ↔ _
    rw [List.mem_flatMap]
    constructor
    · rintro ⟨c, hc, hx⟩
      obtain ⟨y, hy, rfl⟩ := List.mem_map.1 hx
      obtain ⟨h1, h2⟩ := allL_mem.1 hy
      have hc := List.mem_range.1 hc
      refine ⟨by rw [List.length_cons, h1], fun a ha => ?_⟩
      rcases List.mem_cons.1 ha with rfl | ha
      · omega
      · exact h2 a ha
    · rintro ⟨h1, h2⟩
      cases x with
      | nil => simp at h1
      | cons a y =>
        have ha := h2 a (by simp)
        refine ⟨a.toNat, List.mem_range.2 (by omega), List.mem_map.2 ⟨y, allL_mem.2 ⟨by simpa using h1, fun b hb => h2 b (List.mem_cons_of_mem _ hb)⟩, ?_⟩⟩
        show ((a.toNat : Nat) : Int) :: y = a :: y
        rw [Int.toNat_of_nonneg ha.1]
theorem allL_nodup (P : Nat) : ∀ n, (allL P n).Nodup
  | 0 => by show [[]].Nodup; simp
  | n + 1 => by
    show ((List.range P).flatMap fun (c : Nat) => (allL P n).map ((c : Int) :: ·)).Nodup
    rw [List.Nodup, List.pairwise_flatMap]
    constructor
    · intro c _
      exact List.pairwise_map.2 (List.Pairwise.imp (fun h e => h (List.cons.inj e).2) (allL_nodup P n))
    · refine List.Pairwise.imp ?_ (List.nodup_range (n := P))
      intro a b hab x hx y hy e
      obtain ⟨x', _, rfl⟩ := List.mem_map.1 hx
      obtain ⟨y', _, rfl⟩ := List.mem_map.1 hy
      have := (List.cons.inj e).1
      exact hab (by omega)
theorem getD_mem {x : List Int} {P : Int} (hP : 0 < P) (h : ∀ a, a ∈ x → 0 ≤ a ∧ a < P) (j : Nat) : 0 ≤ row x j ∧ row x j < P := by
  rw [row_getD]
  rcases Nat.lt_or_ge j x.length with h1 | h1
  · rw [List.getD_eq_getElem?_getD, List.getElem?_eq_getElem h1]
    exact h _ (List.getElem_mem h1)
  · rw [getD_of_ge x j h1]; omega
/-- All elements of the ring modulo P and m. -/
def allA (P : Nat) (m : List Int) (d : Nat) : List (Am (P : Int) m) := (allL P d).map mq
theorem allA_length (P : Nat) (m : List Int) (d : Nat) : (allA P m d).length = P ^ d := by rw [allA, List.length_map, allL_length]
theorem Mo.gcd {p : Int} {m : List Int} {d : Nat} (h : Mo p m d) (hp : 1 < p) : Int.gcd (row m d) p = 1 := by
  obtain ⟨r, hr⟩ := h.inv
  obtain ⟨k, hk⟩ := cong_sub.1 hr
  have h1 : ((Int.gcd (row m d) p : Nat) : Int) ∣ 1 := by
    have e : (1 : Int) = r * row m d - k * p := by omega
    rw [e]
    exact Int.dvd_sub (Int.dvd_trans (Int.gcd_dvd_left ..) (Int.dvd_mul_left ..)) (Int.dvd_trans (Int.gcd_dvd_right ..) (Int.dvd_mul_left ..))
  have h2 := Int.natCast_dvd_natCast.1 (show ((Int.gcd (row m d) p : Nat) : Int) ∣ ((1 : Nat) : Int) from h1)
  exact Nat.dvd_one.1 h2
theorem Mo.all {P : Nat} {m : List Int} {d : Nat} (h : Mo P m d) (hp : 1 < P) (a : Am (P : Int) m) : a ∈ allA P m d := by
  obtain ⟨x, rfl⟩ := mk_rep a
  obtain ⟨z, hz, hc⟩ := h.rest _ x (Nat.le_refl _)
  refine List.mem_map.2 ⟨lst (fun j => row z j % (P : Int)) d, allL_mem.2 ⟨lst_length _ _, fun a ha => ?_⟩, ?_⟩
  · obtain ⟨j, _, rfl⟩ := List.mem_map.1 ha
    exact ⟨Int.emod_nonneg _ (by omega), Int.emod_lt_of_pos _ (by omega)⟩
  · refine mk_eq.2 (Cg.trans (.of fun j => ?_) hc.symm)
    rw [row_lst]
    unfold cut
    split
    · rw [Int.emod_emod]
    · rw [row_ge z j (by omega)]
theorem Mo.same {P : Nat} {m : List Int} {d : Nat} (h : Mo P m d) (hp : 1 < P) {x y : List Int} (hx : ∀ j, d ≤ j → row x j = 0) (hy : ∀ j, d ≤ j → row y j = 0) (e : (mq x : Am (P : Int) m) = mq y) : ∀ j, row x j % (P : Int) = row y j % (P : Int) := by
  have h1 := mk_eq.1 e
  have hx' : Cg (P : Int) m (fun j => row x j % (P : Int)) (row x) := .of fun j => by rw [Int.emod_emod]
  have hy' : Cg (P : Int) m (row y) (fun j => row y j % (P : Int)) := .of fun j => by rw [Int.emod_emod]
  exact Cg.eq (p := P) (m := m) (n := d) (fun j hj => h.big j hj) (h.gcd (by omega)) (fun j hj => by rw [hx j hj]; rfl) (fun j hj => by rw [hy j hj]; rfl)
    (fun j => ⟨Int.emod_nonneg _ (by omega), Int.emod_lt_of_pos _ (by omega)⟩) (fun j => ⟨Int.emod_nonneg _ (by omega), Int.emod_lt_of_pos _ (by omega)⟩) ((hx'.trans h1).trans hy')
theorem Mo.nodup {P : Nat} {m : List Int} {d : Nat} (h : Mo P m d) (hp : 1 < P) : (allA P m d).Nodup := by
  refine List.pairwise_map.2 (List.Pairwise.imp_of_mem ?_ (allL_nodup P d))
  intro x y hx hy hne e
  obtain ⟨hx1, hx2⟩ := allL_mem.1 hx
  obtain ⟨hy1, hy2⟩ := allL_mem.1 hy
  have h1 := h.same hp (fun j hj => row_ge x j (by omega)) (fun j hj => row_ge y j (by omega)) e
  apply hne
  refine List.ext_getElem (by omega) fun i h3 h4 => ?_
  have h5 := h1 i
  have b1 := getD_mem (by omega : (0 : Int) < P) hx2 i
  have b2 := getD_mem (by omega : (0 : Int) < P) hy2 i
  rw [Int.emod_eq_of_lt b1.1 b1.2, Int.emod_eq_of_lt b2.1 b2.2, row_getD, row_getD] at h5
  simpa [List.getD_eq_getElem?_getD, h3, h4] using h5
/-- Where each element but 0 has an inverse, each is its own power by P^d. -/
theorem Mo.power {P : Nat} {m : List Int} {d : Nat} (h : Mo P m d) (hp : 1 < P) (hf : ∀ a : Am (P : Int) m, a ≠ 0 → ∃ b, a * b = 1) (a : Am (P : Int) m) : CR.pw a (P ^ d) = a := by
  have := CR.lagrange (allA P m d) (h.all hp) (h.nodup hp) hf a
  rwa [allA_length] at this
/-- x is its own power by P^r for no r below the degree, where what is its own power by P is a number. -/
theorem Mo.small {P : Nat} {m : List Int} {d : Nat} (h : Mo P m d) (hp : Prm P) (hc : ∀ a : Am (P : Int) m, CR.pw a P = a → ∃ k : Int, a = mq [k]) (r : Nat) (h0 : 0 < r) (hr : r < d) :
    CR.pw (mq [0, 1] : Am (P : Int) m) (P ^ r) ≠ mq [0, 1] := by
  intro he
  obtain ⟨L, hl, ht, hf, hz⟩ := CR.small hp (am_char P m) h0 (mq [0, 1] : Am (P : Int) m) he
  have hK : ∃ K : List Int, L = K.map fun k => (mq [k] : Am (P : Int) m) := by
    clear hl ht hz he
    induction L with
    | nil => exact ⟨[], rfl⟩
    | cons a L ih =>
      obtain ⟨k, rfl⟩ := hc a (hf a (by simp))
      obtain ⟨K, rfl⟩ := ih fun b hb => hf b (List.mem_cons_of_mem _ hb)
      exact ⟨k :: K, rfl⟩
  obtain ⟨K, rfl⟩ := hK
  rw [mk_ev] at hz
  rw [List.length_map] at hl
  have h2 := hp.two
  have h3 := h.same (by omega) (x := K) (y := []) (fun j hj => row_ge K j (by omega)) (fun j _ => rfl) hz r
  rw [row_nil, row_getD] at h3
  rw [List.getLast?_map, List.getLast?_eq_getElem?] at ht
  have h4 : K[K.length - 1]? = some (K.getD r 0) := by
    rw [show K.length - 1 = r by omega, List.getD_eq_getElem?_getD, List.getElem?_eq_getElem (by omega)]; rfl
  rw [h4] at ht
  have h5 : (mq [K.getD r 0] : Am (P : Int) m) = mq [1] := by
    have h8 : (mq [K.getD r 0] : Am (P : Int) m) = 1 := by simpa using ht
    exact h8
  have h6 := h.same (by omega) (x := [K.getD r 0]) (y := [1]) (fun j hj => row_ge _ j (by simp; omega)) (fun j hj => row_ge _ j (by simp; omega)) h5 0
  rw [row_getD, row_getD] at h6
  have h7 : K.getD r 0 % (P : Int) = 1 % (P : Int) := h6
  rw [h3] at h7
  rw [Int.emod_eq_of_lt (by omega) (by omega : (1 : Int) < P)] at h7
  simp at h7
/-- Fermat's little theorem for fields: x is its own power by P^n just where the degree divides n. -/
theorem Mo.fermat {P : Nat} {m : List Int} {d : Nat} (h : Mo P m d) (hp : Prm P) (hd : 0 < d) (hf : ∀ a : Am (P : Int) m, a ≠ 0 → ∃ b, a * b = 1) (hc : ∀ a : Am (P : Int) m, CR.pw a P = a → ∃ k : Int, a = mq [k]) (n : Nat) :
    CR.pw (mq [0, 1] : Am (P : Int) m) (P ^ n) = mq [0, 1] ↔ n % d = 0 := by
  have h2 := hp.two
  have e1 : ∀ k (a : Am (P : Int) m), CR.pw a (P ^ (d * k)) = a := fun k a => by
    induction k with
    | zero => rw [Nat.mul_zero, Nat.pow_zero, CR.pw_one]
    | succ k ih => rw [Nat.mul_succ, Nat.pow_add, CR.pw_mul, ih, h.power (by omega) hf]
  have e2 : CR.pw (mq [0, 1] : Am (P : Int) m) (P ^ n) = CR.pw (mq [0, 1] : Am (P : Int) m) (P ^ (n % d)) := by
    conv => lhs; rw [← Nat.div_add_mod n d, Nat.pow_add, CR.pw_mul, e1]
  rw [e2]
  constructor
  · intro h1
    rcases Nat.eq_zero_or_pos (n % d) with h3 | h3
    · exact h3
    · exact absurd h1 (h.small hp hc _ h3 (Nat.mod_lt _ hd))
  · intro h1
    rw [h1, Nat.pow_zero, CR.pw_one]
end Go.Proofs.YtffdemplaodbcaaDoor
