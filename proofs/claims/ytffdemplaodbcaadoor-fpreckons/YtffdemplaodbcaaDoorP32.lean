/- A part of the proof: PR, PS, Draw2. -/
import Derived.Test.YtffdemplaodbcaaDoorP31
import Derived.Test.YtffdemplaodbcaaDoorP23
import Derived.Test.YtffdemplaodbcaaDoorP01
set_option linter.all false
namespace Go.Proofs.YtffdemplaodbcaaDoor
open Go Go.Proofs Go.RowKit Go.Rad

def slen : Value → Nat
  | .slice _ n _ => n
  | _ => 0
theorem SR.form {w : World} {B n : Nat} {v : Value} {x : List Int} (h : SR w B v x) (hn : x.length = n) (h0 : 0 < n) : ∃ b o c, v = .slice (some ⟨b, o, none⟩) n c ∧ n ≤ c ∧ B ≤ b ∧ b < w.heap.size ∧ AR w b o n (fun j => x.getD j 0) ∧ Free w b o n := by
  subst hn
  cases h with
  | nil a c hv hx => subst hx; simp at h0
  | row b o c hv h0 hc hb hl hA hz => exact ⟨b, o, c, hv, hc, hb, hl, hA, hz⟩
inductive MrPost (w : World) (p : Int) (xs ys : List Int) (e : Ending) (w' : World) : Prop
  | mk (u : Value) (z : List Int) (he : e = .returned u) (hV : VW w' u z) (hb : Below w.heap.size w w') (hR : Res p ys (row xs) z)
set_option maxRecDepth 10000 in
set_option maxHeartbeats 4000000 in
theorem mrest_any (w : World) (v1 v2 : Value) (xs ys : List Int) (p : Int) (h1 : VW w v1 xs) (h2 : VW w v2 ys) (hp : 1 < p ∧ p < 2147483648) (hx : ∀ j, 0 ≤ xs.getD j 0 ∧ xs.getD j 0 < p) (hy : ∀ j, 0 ≤ ys.getD j 0 ∧ ys.getD j 0 < p)
    (ht : 0 < xs.length → xs.getD (xs.length - 1) 0 ≠ 0) (hy0 : 0 < ys.length) (hy1 : ys.getD (ys.length - 1) 0 = 1) (hl1 : xs.length ≤ 1000) (hl2 : ys.length ≤ 1000) :
    Calls Tryd.prog 41 #[v1, v2, .int .i64 p] w fun e w' => MrPost w p xs ys e w' := by
  have H1 : Hid (VW w v1 xs) := h1
  obtain ⟨a2, b2, o2, c2, rfl, ha2, hA2⟩ := h2
  obtain rfl := ha2 hy0
  obtain ⟨nb, hnb⟩ : ∃ n, ys.length = n := ⟨_, rfl⟩
  rw [hnb] at hA2 hl2 hy0 hy1 ⊢
  have HNB : Hid (ys.length = nb) := hnb
  have HA2 : Hid (AR w b2 o2 nb (fun j => ys.getD j 0)) := hA2
  have hb2 : b2 < w.heap.size := hA2.lt hy0
  have HY : Hid (∀ j, 0 ≤ ys.getD j 0 ∧ ys.getD j 0 < p) := hy
  have HY1 : Hid (ys.getD (nb - 1) 0 = 1) := hy1
  have HX : Hid (∀ j, 0 ≤ xs.getD j 0 ∧ xs.getD j 0 < p) := hx
  have HT : Hid (0 < xs.length → xs.getD (xs.length - 1) 0 ≠ 0) := ht
  have HL1 : Hid (xs.length ≤ 1000) := hl1
  clear h1 ha2 hA2 hnb hy hy1 hx ht hl1
  go_enter Tryd.func41, Tryd.ntmps41
  go_wp2
  go_loopw [0] (fun s wr => ∃ x : List Int, VW wr s x ∧ x.length ≤ 1000 ∧ (∀ j, 0 ≤ x.getD j 0 ∧ x.getD j 0 < p) ∧ (0 < x.length → x.getD (x.length - 1) 0 ≠ 0) ∧ Cg p ys (row xs) (row x) ∧ Below w.heap.size w wr) (fun s _ => slen s)
  case atStart => exact ⟨xs, H1.out, HL1.out, HX.out, HT.out, .refl _ _ _, Below.refl _ _⟩
  case round =>
    obtain ⟨x, hV, hxl, hxb, hxt, hcg, hB⟩ := hrel
    obtain ⟨a, b, o, c, rfl, ha, hA⟩ := hV
    obtain ⟨n, hn⟩ : ∃ n, x.length = n := ⟨_, rfl⟩
    rw [hn] at ha hA hxl ⊢
    have HN : Hid (x.length = n) := hn
    have HA : Hid (AR wr b o n (fun j => x.getD j 0)) := hA
    have HXB : Hid (∀ j, 0 ≤ x.getD j 0 ∧ x.getD j 0 < p) := hxb
    have HXT : Hid (0 < x.length → x.getD (x.length - 1) 0 ≠ 0) := hxt
    have HCG : Hid (Cg p ys (row xs) (row x)) := hcg
    have HB : Hid (Below w.heap.size w wr) := hB
    clear hA hxb hxt hcg hB hn
    by_cases hle : nb ≤ n
    · have hlei : (nb : Int) ≤ (n : Int) := by omega
      obtain rfl := ha (by omega)
      obtain ⟨t, ht⟩ : ∃ t, n = t + 1 := ⟨n - 1, by omega⟩
      have hnt : (n : Int) - 1 = (t : Int) := by omega
      have htn : (t : Int) < (n : Int) := by omega
      obtain ⟨C, hC⟩ : ∃ C, x.getD t 0 = C := ⟨_, rfl⟩
      have ct : wr.cell? ⟨b, o + t, none⟩ = some (.int .i64 C) := by rw [← hC]; exact HA.out t (by omega)
      have hCb := HXB.out t
      rw [hC] at hCb
      have HC : Hid (x.getD t 0 = C) := hC
      have hpos : 0 < n := by omega
      have hnl : n ≤ 1048576 := by omega
      have HTT : Hid (n = t + 1) := ht
      clear hC ht
      obtain ⟨wo, hwo⟩ : ∃ wo, wo = wr := ⟨_, rfl⟩
      go_wp2_with (refine wpList_appendC (by rfl) _ _ (by rfl) (by rfl) b o n c x (by rfl) HN.out (fun j hj => by first | exact HA.out j hj | exact (HA.out.below (bel_drew _)) j hj) hpos hnl ?_; intro v8 w3 hO hb3; obtain ⟨g, o8, c8, rfl, hc8, hBg, hgl, hA8, hz8⟩ := (sr_of_row hO).form HN.out hpos)
      have HB3 : Hid (Below wr.heap.size wr w3) := hb3
      have HBw3 : Hid (Below w.heap.size w w3) := HB.out.trans (hb3.mono HB.out.size)
      have HG : Hid (w.heap.size ≤ g ∧ g < w3.heap.size ∧ b2 ≠ g) := by
        have := HB.out.size
        show _ ∧ _ ∧ _
        omega
      have HA8 : Hid (AR w3 g o8 n (fun j => x.getD j 0)) := hA8
      have HZ8 : Hid (Free w3 g o8 n) := hz8
      have HA23 : Hid (AR w3 b2 o2 nb (fun j => ys.getD j 0)) := HA2.out.below HBw3.out
      clear hb3 hBg hgl hA8 hz8 hO ct
      obtain ⟨D, hD⟩ : ∃ D, D + nb = n := ⟨n - nb, by omega⟩
      have HDD : Hid (D + nb = n) := hD
      clear hD
      obtain ⟨h, he⟩ : ∃ h : Nat → Nat → Int, ∀ k j, h k j = if D ≤ j ∧ j < D + k then (x.getD j 0 - C * ys.getD (j - D) 0) % p else x.getD j 0 := ⟨_, fun _ _ => rfl⟩
      have HE : Hid (∀ k j, h k j = if D ≤ j ∧ j < D + k then (x.getD j 0 - C * ys.getD (j - D) 0) % p else x.getD j 0) := he
      clear he hwo wo
      go_loopw [9] (fun i wq => ∃ k : Nat, k ≤ nb ∧ i = .int .i64 k ∧ Chg w3 wq g o8 (o8 + n) ∧ AR wq g o8 n (h k)) (fun i _ => nb - (Lib.intOf i).toNat)
      case atStart => exact ⟨0, by omega, rfl, Chg.refl _ _ _ _, fun i hi => by rw [HE.out, if_neg (by omega)]; exact HA8.out i hi⟩
      case round =>
        obtain ⟨k, hk, rfl, hCg, hAk⟩ := hrel
        have HCg : Hid (Chg w3 wr g o8 (o8 + n)) := hCg
        have HAk : Hid (AR wr g o8 n (h k)) := hAk
        clear hCg hAk
        by_cases hkn : k < nb
        · have hki : (k : Int) < (nb : Int) := by omega
          have hD := HDD.out
          obtain ⟨s, hs⟩ : ∃ s, s = D + k := ⟨_, rfl⟩
          have hsum : (n : Int) - (nb : Int) + (k : Int) = (s : Int) := by omega
          have hsn : (s : Int) < (n : Int) := by omega
          have hsn' : s < n := by omega
          have HS : Hid (s = D + k) := hs
          have HHS : Hid (h k s = x.getD s 0) := by
            show _ = _
            rw [HE.out, if_neg (by omega)]
          clear hs hD
          obtain ⟨X, hX⟩ : ∃ X, x.getD s 0 = X := ⟨_, rfl⟩
          obtain ⟨Y, hY⟩ : ∃ Y, ys.getD k 0 = Y := ⟨_, rfl⟩
          have hXb := HXB.out s
          have hYb := HY.out k
          rw [hX] at hXb
          rw [hY] at hYb
          have cs : wr.cell? ⟨g, o8 + s, none⟩ = some (.int .i64 X) := by rw [← hX, ← HHS.out]; exact HAk.out s hsn'
          have zs : wr.frozen? ⟨g, o8 + s, none⟩ = false := (HCg.out.froz _).trans (HZ8.out s hsn')
          have ck : wr.cell? ⟨b2, o2 + k, none⟩ = some (.int .i64 Y) := by
            rw [← hY]
            exact (HA23.out.chg HCg.out (fun _ => .inl HG.out.2.2)) k hkn
          have hZb := sq_lt hCb.1 (by omega) hYb.1 (by omega)
          obtain ⟨Z, hZ⟩ : ∃ Z, C * Y = Z := ⟨_, rfl⟩
          rw [hZ] at hZb
          have hw1 : wrap64 Z = Z := wrap_in hZb.1 (by omega)
          have hw2 : wrap64 (X - Z) = X - Z := by unfold wrap64; omega
          obtain ⟨T, hT⟩ : ∃ T, (X - Z) % p = T := ⟨_, rfl⟩
          have CM := fun w => mod_any w (X - Z) p (by omega) hp.2
          simp only [hT] at CM
          have HHT : Hid (∀ j, h (k + 1) j = if j = s then T else h k j) := fun j => by
            have := HS.out
            rw [HE.out, HE.out]
            by_cases h5 : j = s
            · subst h5
              rw [if_pos (by omega), if_pos rfl, hX, show j - D = k by omega, hY, hZ, hT]
            · rw [if_neg h5]
              by_cases h6 : D ≤ j ∧ j < D + k
              · rw [if_pos h6, if_pos (by omega)]
              · rw [if_neg h6, if_neg (by omega)]
          have hgr : g < wr.heap.size := Nat.lt_of_lt_of_le HG.out.2.1 HCg.out.size
          clear hX hY hT
          have hwz : IntKind.i64.wrap Z = Z := by rw [IntKind.wrap_i64]; omega
          have hwx : IntKind.i64.wrap (X - Z) = X - Z := by rw [IntKind.wrap_i64]; omega
          have hb2r : b2 < wr.heap.size := Nat.lt_of_lt_of_le (Nat.lt_of_lt_of_le hb2 HBw3.out.size) HCg.out.size
          have HFIN : Hid (∀ w5, Below wr.heap.size wr w5 → (∃ k₁ : Nat, k₁ ≤ nb ∧ Value.int .i64 ((k : Int) + 1) = .int .i64 k₁ ∧ Chg w3 (w5.setCell ⟨g, o8 + s, none⟩ (.int .i64 T)) g o8 (o8 + n) ∧ AR (w5.setCell ⟨g, o8 + s, none⟩ (.int .i64 T)) g o8 n (h k₁))) := by
            intro w5 hb5
            have cs5 : w5.cell? ⟨g, o8 + s, none⟩ = some (.int .i64 X) := (hb5.cell (p := ⟨g, o8 + s, none⟩) hgr).trans cs
            refine ⟨k + 1, by omega, by congr 1, (HCg.out.trans (chg_of_below hb5 hgr _ _)).set (by omega) (by omega) _, fun j hj => ?_⟩
            rw [HHT.out]
            by_cases h5 : j = s
            · subst h5
              rw [if_pos rfl]
              exact cell_same (u := .int .i64 X) cs5
            · rw [if_neg h5, cell_other (.inr (by omega))]
              exact (HAk.out.below hb5) j hj
          go_upto_region 8 with fail
          refine wp_drawn mixed [⟨37, [], [], [8]⟩, ⟨38, [], [], [10]⟩, ⟨39, [], [], [8]⟩, ⟨40, [], [], [10]⟩, ⟨41, [2, 3], [2, 3], []⟩, ⟨42, [4], [2, 3, 4], []⟩, ⟨43, [], [], [7]⟩, ⟨44, [], [], [1]⟩, ⟨45, [], [], [9]⟩, ⟨46, [7, 8], [7, 8], []⟩, ⟨47, [9], [7, 8, 9], []⟩, ⟨48, [6, 10], [6, 7, 8, 9, 10], []⟩, ⟨49, [5, 11], [2, 3, 4, 5, 6, 7, 8, 9, 10, 11], []⟩, ⟨50, [], [], [2]⟩, ⟨51, [12, 13], [2, 3, 4, 5, 6, 7, 8, 9, 10, 11, 12, 13], []⟩] [] (by kernel_rfl) 56 rfl (by kernel_rfl) (fun (i : Nat) (v : Value) (wq : World) => match i with | 0 => v = .slice (some ⟨g, o8, none⟩) (n) (c8) | 1 => v = .int .i64 ((s : Int)) | 2 => v = .slice (some ⟨g, o8, none⟩) (n) (c8) | 3 => v = .int .i64 ((s : Int)) | 4 => v = .pointer (some ⟨g, o8 + s, none⟩) | 5 => v = .int .i64 (X) | 6 => v = .int .i64 (C) | 7 => v = .slice (some ⟨b2, o2, none⟩) (nb) (c2) | 8 => v = .int .i64 ((k : Int)) | 9 => v = .pointer (some ⟨b2, o2 + k, none⟩) | 10 => v = .int .i64 (Y) | 11 => v = .int .i64 (Z) | 12 => v = .int .i64 (X - Z) | 13 => v = .int .i64 (p) | 14 => v = .int .i64 (T) | _ => True) (fun _ wq => Below wr.heap.size wr wq) (fun wx wy => Below wx.heap.size wx wy) (Below.refl _ _).drew (fun i v wx wy h hx => match i, h with | 0, h => h | 1, h => h | 2, h => h | 3, h => h | 4, h => h | 5, h => h | 6, h => h | 7, h => h | 8, h => h | 9, h => h | 10, h => h | 11, h => h | 12, h => h | 13, h => h | 14, h => h  | n + 15, _ => trivial) ?_ ?_
          · intro i o r ho hr L fr wx hW hL hpr hds hdef hpre hfree
            clear hL hpr hds hdef
            match i, ho, hr with
            | 0, ho, hr => ?_
            | 1, ho, hr => ?_
            | 2, ho, hr => ?_
            | 3, ho, hr => ?_
            | 4, ho, hr => ?_
            | 5, ho, hr => ?_
            | 6, ho, hr => ?_
            | 7, ho, hr => ?_
            | 8, ho, hr => ?_
            | 9, ho, hr => ?_
            | 10, ho, hr => ?_
            | 11, ho, hr =>
              obtain rfl := Option.some.inj ho; obtain rfl := Option.some.inj hr
              have e6 := ev_tmp (show fr.eval (.tmp 43) = .int .i64 (C) from hpre 6 (by decide) _ rfl)
              have e10 := ev_tmp (show fr.eval (.tmp 47) = .int .i64 (Y) from hpre 10 (by decide) _ rfl)
              clear hpre hfree
              refine stpK rfl rfl fun K hK => ?_
              go_simp
              exact hK _ _ ⟨(by first | (show Value.int _ (IntKind.i64.wrap _) = _; rw [hwz]) | rfl), hW, Below.refl _ _, fun h => (List.not_mem_nil h).elim⟩
            | 12, ho, hr =>
              obtain rfl := Option.some.inj ho; obtain rfl := Option.some.inj hr
              have e5 := ev_tmp (show fr.eval (.tmp 42) = .int .i64 (X) from hpre 5 (by decide) _ rfl)
              have e11 := ev_tmp (show fr.eval (.tmp 48) = .int .i64 (Z) from hpre 11 (by decide) _ rfl)
              clear hpre hfree
              refine stpK rfl rfl fun K hK => ?_
              go_simp
              exact hK _ _ ⟨(by first | (show Value.int _ (IntKind.i64.wrap _) = _; rw [hwx]) | rfl), hW, Below.refl _ _, fun h => (List.not_mem_nil h).elim⟩
            | 13, ho, hr => ?_
            | 14, ho, hr =>
              obtain rfl := Option.some.inj ho; obtain rfl := Option.some.inj hr
              have e12 := ev_tmp (show fr.eval (.tmp 49) = .int .i64 (X - Z) from hpre 12 (by decide) _ rfl)
              have e13 := ev_tmp (show fr.eval (.tmp 50) = .int .i64 (p) from hpre 13 (by decide) _ rfl)
              clear hpre hfree
              refine stpK rfl rfl fun K hK => ?_
              go_simp
              refine (CM wx).mono ?_
              rintro e wy ⟨rfl, hb⟩
              exact hK _ _ ⟨rfl, hW.trans (hb.mono hW.size), hb, fun h => (List.not_mem_nil h).elim⟩
            | n + 15, ho, hr => exact absurd hr (by simp)
            all_goals
              obtain rfl := Option.some.inj ho; obtain rfl := Option.some.inj hr
              simp only [List.mem_cons, List.not_mem_nil, or_false, false_imp_iff, implies_true, forall_eq_or_imp, forall_eq, List.getElem?_cons_zero, List.getElem?_cons_succ, Option.some.injEq, forall_eq', evt] at hpre hfree
              have c0 := (hW.cell (p := ⟨g, o8 + s, none⟩) hgr).trans cs
              have c1 := (hW.cell (p := ⟨b2, o2 + k, none⟩) hb2r).trans ck
              refine stpK rfl rfl fun K hK => ?_ <;> (go_simp; exact hK _ _ ⟨rfl, hW, Below.refl _ _, fun h => (List.not_mem_nil h).elim⟩)
          · intro vs wm hvs hW1 hap0
            clear hap0
            have e0 : vs 0 = .slice (some ⟨g, o8, none⟩) (n) (c8) := hvs 0 (by decide)
            have e1 : vs 1 = .int .i64 ((s : Int)) := hvs 1 (by decide)
            have e2 : vs 2 = .slice (some ⟨g, o8, none⟩) (n) (c8) := hvs 2 (by decide)
            have e3 : vs 3 = .int .i64 ((s : Int)) := hvs 3 (by decide)
            have e4 : vs 4 = .pointer (some ⟨g, o8 + s, none⟩) := hvs 4 (by decide)
            have e5 : vs 5 = .int .i64 (X) := hvs 5 (by decide)
            have e6 : vs 6 = .int .i64 (C) := hvs 6 (by decide)
            have e7 : vs 7 = .slice (some ⟨b2, o2, none⟩) (nb) (c2) := hvs 7 (by decide)
            have e8 : vs 8 = .int .i64 ((k : Int)) := hvs 8 (by decide)
            have e9 : vs 9 = .pointer (some ⟨b2, o2 + k, none⟩) := hvs 9 (by decide)
            have e10 : vs 10 = .int .i64 (Y) := hvs 10 (by decide)
            have e11 : vs 11 = .int .i64 (Z) := hvs 11 (by decide)
            have e12 : vs 12 = .int .i64 (X - Z) := hvs 12 (by decide)
            have e13 : vs 13 = .int .i64 (p) := hvs 13 (by decide)
            have e14 : vs 14 = .int .i64 (T) := hvs 14 (by decide)
            simp only [puts, Nat.reduceAdd, e0, e1, e2, e3, e4, e5, e6, e7, e8, e9, e10, e11, e12, e13, e14, Act.put, List.setIfInBounds_toArray, List.set_cons_zero, List.set_cons_succ, List.drop_succ_cons, List.drop_zero, List.length_cons, List.length_nil]
            clear hvs e0 e1 e2 e3 e4 e5 e6 e7 e8 e9 e10 e11 e12 e13 e14
            have HB5 : Hid (Below wr.heap.size wr wm) := hW1
            have cs5 : wm.cell? ⟨g, o8 + s, none⟩ = some (.int .i64 X) := (HB5.out.cell (p := ⟨g, o8 + s, none⟩) hgr).trans cs
            have zs5 : wm.frozen? ⟨g, o8 + s, none⟩ = false := (HB5.out.frozen (p := ⟨g, o8 + s, none⟩) hgr).trans zs
            have HREL : Hid _ := HFIN.out wm HB5.out
            clear hW1 cs ck zs CM
            go_wp2
            exact ⟨HREL.out, by simp only [Lib.intOf]; omega⟩
        · obtain rfl : k = nb := by omega
          have hki : ¬ ((k : Int) < (k : Int)) := by omega
          have HBr : Hid (Below w.heap.size w wr) := HBw3.out.trans (HCg.out.below HG.out.1 HBw3.out.size)
          have S8 : SR wr w.heap.size (.slice (some ⟨g, o8, none⟩) n c8) (lst (h k) n) := sr_lst (fun _ => rfl) hc8 HG.out.1 (Nat.lt_of_lt_of_le HG.out.2.1 HCg.out.size) HAk.out (fun i hi => (HCg.out.froz _).trans (HZ8.out i hi))
          go_wp2_with (go_at_call 39; fail)
          refine (made_any wr w.heap.size _ _ S8 (by rw [lst_length]; omega)).mono ?_
          rintro e w5 ⟨u, z, rfl, hS, hb, htr⟩
          have hturn := rest_turn (p := p) (c := C) (x := x) (ys := ys) (z := z) (h := h k) (D := D) (nb := k) HNB.out hy0 (by rw [HN.out]; exact HDD.out) HY1.out (by rw [HN.out, HTT.out, Nat.add_sub_cancel]; exact HC.out) (HE.out k) (by rw [HN.out]; exact htr)
          have hzb : ∀ j, 0 ≤ z.getD j 0 ∧ z.getD j 0 < p := fun j => by
            rw [htr.eq, lst_getD]
            unfold cut
            split
            · rw [HE.out]
              split
              · exact ⟨Int.emod_nonneg _ (by omega), Int.emod_lt_of_pos _ (by omega)⟩
              · exact HXB.out j
            · omega
          have HREL : Hid ((∃ x : List Int, VW w5 u x ∧ x.length ≤ 1000 ∧ (∀ j, 0 ≤ x.getD j 0 ∧ x.getD j 0 < p) ∧ (0 < x.length → x.getD (x.length - 1) 0 ≠ 0) ∧ Cg p ys (row xs) (row x) ∧ Below w.heap.size w w5) ∧ slen u < n) := by
            have h7 := HN.out
            have h8 := hturn.1
            refine ⟨⟨z, hS.view, by omega, hzb, htr.top, HCG.out.trans hturn.2, HBr.out.trans (hb.mono HBr.out.size)⟩, ?_⟩
            obtain ⟨a9, b9, o9, c9, rfl, _⟩ := hS.view
            show z.length < n
            omega
          clear hS hb htr hturn hzb S8
          go_wp2
          exact HREL.out
    · have hlei : ¬ ((nb : Int) ≤ (n : Int)) := by omega
      have hlei2 : (n : Int) < (nb : Int) := by omega
      have HP : Hid (MrPost w p xs ys (.returned (.slice a n c)) wr) := by
        refine .mk _ x rfl ⟨a, b, o, c, by rw [HN.out], by rw [HN.out]; exact ha, by rw [HN.out]; exact HA.out⟩ HB.out ⟨by rw [HN.out, HNB.out]; omega, HXB.out, HXT.out, HCG.out⟩
      go_wp2
      refine bodyPost_ret (v := .slice a n c) (by simp [results, go_sem, loadVar]) rfl ?_
      exact HP.out
end Go.Proofs.YtffdemplaodbcaaDoor
namespace Go.Proofs.YtffdemplaodbcaaDoor
open Go Go.Proofs Go.RowKit Go.Rad

/-- A prime's numbers have inverses. -/
theorem PrI.inv {p a : Int} (h : PrI p) (h0 : 0 < a) (h1 : a < p) : ∃ r, 0 < r ∧ r < p ∧ r * a % p = 1 := by
  obtain ⟨N, rfl, hN, _⟩ := h
  obtain ⟨A, rfl⟩ : ∃ A : Nat, a = A := ⟨a.toNat, by omega⟩
  have hnd : ¬ N ∣ A := fun hd => by have := Nat.le_of_dvd (by omega) hd; omega
  have h2 := hN.two
  have hf := _root_.Rad.fermat1 hN hnd
  have e1 : N - 1 = (N - 2) + 1 := by omega
  rw [e1, Nat.pow_succ] at hf
  obtain ⟨X, hX⟩ : ∃ X, A ^ (N - 2) % N = X := ⟨_, rfl⟩
  have hX2 : X < N := by rw [← hX]; exact Nat.mod_lt _ (by omega)
  have hm : X * A % N = 1 := by rw [← hX, Nat.mod_mul_mod]; exact hf
  have hX0 : X ≠ 0 := fun h => by rw [h, Nat.zero_mul, Nat.zero_mod] at hm; omega
  refine ⟨X, by omega, by omega, ?_⟩
  have : ((X * A % N : Nat) : Int) = (1 : Nat) := by rw [hm]
  push_cast at this
  exact this
theorem Res.next {p : Int} {m f A X Y Q : List Int} {a b : Nat} (hA : Res p m (row (ppow f a)) A) (hX : Res p m (row (ppow f b)) X) (hN : Nrm p (row (pmul A X)) Y) (hQ : Res p m (row Y) Q) : Res p m (row (ppow f (a + b))) Q := by
  have h1 := hA.cg.mul hX.cg
  have h2 : Cg p m (row (ppow f (a + b))) (row (pmul (ppow f a) (ppow f b))) := .of fun j => by rw [row_ppow_add]
  have h3 : Cg p m (row (pmul A X)) (row Y) := .of fun j => by rw [hN.eq, Int.emod_emod]
  exact hQ.of ((h2.trans h1).trans h3)
theorem meas_lt {i j : Int} (h0 : 0 < i) (h : j < i) : (Lib.intOf (.int .i64 j)).toNat < (Lib.intOf (.int .i64 i)).toNat := by simp only [Lib.intOf]; omega
theorem pw_odd {a b k j N : Nat} (h : a + b * (k + 1) = N) (e : k + 1 = j + j + 1) : a + b + (b + b) * j = N := by
  rw [e] at h
  rw [← h, Nat.mul_add, Nat.mul_add, Nat.mul_one, Nat.add_mul]; omega
theorem pw_even {a b k j N : Nat} (h : a + b * (k + 1) = N) (e : k + 1 = j + j) : a + (b + b) * j = N := by
  rw [e] at h
  rw [← h, Nat.mul_add, Nat.add_mul]
theorem IsF.top {p : Int} {xs : List Int} (h : IsF p xs) : 0 < xs.length → xs.getD (xs.length - 1) 0 ≠ 0 := h.last
/-- What is the same modulo a multiple of m is so modulo m. -/
theorem Cg.scale {p r : Int} {m z : List Int} {u v : Nat → Int} (hz : ∀ j, z.getD j 0 % p = m.getD j 0 * r % p) (h : Cg p z u v) : Cg p m u v := by
  obtain ⟨q, hq⟩ := h
  refine ⟨q.map (r * ·), fun j => ?_⟩
  rw [hq j, Int.add_emod, Int.add_emod (v j) (act (q.map (r * ·)) (row m) j)]
  congr 2
  rw [act_map, ← act_smul]
  exact act_cong q (fun i => by rw [row_getD, row_getD, hz, Int.mul_comm]) j
set_option maxRecDepth 10000 in
set_option maxHeartbeats 4000000 in
theorem mpower_any (w : World) (v1 v2 : Value) (xs ys : List Int) (p : Int) (N : Nat) (h1 : VW w v1 xs) (h2 : VW w v2 ys) (hX : IsF p xs) (hY : IsF p ys) (hy0 : 0 < ys.length) (hN : N < 9223372036854775808) :
    Calls Tryd.prog 18 #[v1, .int .i64 N, v2, .int .i64 p] w fun e w' => MrPost w p (ppow xs N) ys e w' := by
  have hp : 1 < p ∧ p < 2147483648 := by
    obtain ⟨P, h1, h2, h3⟩ := hX.pr
    have := h2.1
    omega
  have H1 : Hid (VW w v1 xs) := h1
  have HX : Hid (IsF p xs) := hX
  have HY : Hid (IsF p ys) := hY
  have CS := mscaled_any w v2 ys p
  obtain ⟨r0, hr1, hr2, hr3⟩ := hY.pr.inv (a := ys.getD (ys.length - 1) 0) (by have := (hY.all (ys.length - 1)).1; have := hY.last hy0; omega) (hY.all _).2
  replace CS := CS r0 h2 hp hY.all (by have := hY.len; omega) hy0 ⟨hr1, hr2, hr3⟩
  have HY0 : Hid (0 < ys.length) := hy0
  clear h1 h2 hX hY hr1 hr2 hr3 hy0
  go_enter Tryd.func18, Tryd.ntmps18
  go_wp2_with (go_at_call 40; fail)
  refine CS.mono ?_
  rintro e w1 ⟨u1, zs, r, rfl, hS1, hb1, hzl, hz, hr1, hr2, hr3⟩
  have HS1 : Hid (VW w1 u1 zs) := hS1.view
  have HB1 : Hid (Below w.heap.size w w1) := hb1
  have HZL : Hid (zs.length = ys.length) := hzl
  have hzb : ∀ j, 0 ≤ zs.getD j 0 ∧ zs.getD j 0 < p := fun j => by
    rw [hz]; exact ⟨Int.emod_nonneg _ (by omega), Int.emod_lt_of_pos _ (by omega)⟩
  have HZB : Hid (∀ j, 0 ≤ zs.getD j 0 ∧ zs.getD j 0 < p) := hzb
  have HZT : Hid (zs.getD (zs.length - 1) 0 = 1) := by
    show _ = _
    rw [hz, hzl, Int.mul_comm]; exact hr3
  have HZ : Hid (∀ j, zs.getD j 0 % p = ys.getD j 0 * r % p) := fun j => by rw [hz, Int.emod_emod]
  have HLZ : Hid (zs.length ≤ 65 ∧ 0 < zs.length) := by
    have h1 := HY.out.len
    have h2 := HY0.out
    show _ ∧ _
    omega
  clear hS1 hb1 hzl hz hzb hr1 hr2 hr3 CS
  -- what MRest tells of any list
  have CR : ∀ (wx : World) (v : Value) (x : List Int), Below w1.heap.size w1 wx → VW wx v x → (∀ j, 0 ≤ x.getD j 0 ∧ x.getD j 0 < p) → (0 < x.length → x.getD (x.length - 1) 0 ≠ 0) → x.length ≤ 1000 →
      Calls Tryd.prog 41 #[v, u1, .int .i64 p] wx fun e w' => MrPost wx p x zs e w' := fun wx v x hb hV hxb hxt hxl =>
    mrest_any wx v u1 x zs p hV (HS1.out.below hb) hp hxb HZB.out hxt HLZ.out.2 HZT.out hxl (by have := HLZ.out.1; omega)
  have HCR : Hid _ := CR
  clear CR
  go_wp2_with (go_at_call 41; fail)
  have HS2 : SR (w1.alloc (Obj.cells #[Value.int IntKind.i64 1] 3)) w1.heap.size (.slice (some ⟨w1.heap.size, 0, none⟩) 1 1) [1] :=
    .row w1.heap.size 0 1 rfl (by decide) (by decide) (Nat.le_refl _) (by simp) (fun i hi => by
      have h0 : i = 0 := by simp at hi; omega
      subst h0
      simp [go_sem]) (fun i hi => by
      have h0 : i = 0 := by simp at hi; omega
      subst h0
      simp [go_sem])
  refine (HCR.out _ _ [1] (bel1 _ _) HS2.view (fun j => by
    cases j with
    | zero => show 0 ≤ (1 : Int) ∧ (1 : Int) < p; omega
    | succ j => rw [getD_of_ge [1] (j + 1) (by simp)]; omega) (fun _ => by decide) (by decide)).mono ?_
  rintro e w2 ⟨u2, A, rfl, hV2, hb2, hR2⟩
  have HB2 : Hid (Below w1.heap.size w1 w2) := (bel1 w1 _).trans (hb2.mono (by simp))
  have HV2 : Hid (VW w2 u2 A) := hV2
  have HR2 : Hid (Res p zs (row (ppow xs 0)) A) := hR2
  clear HS2 hV2 hb2 hR2
  go_wp2_with (go_at_call 41; fail)
  refine (HCR.out w2 v1 xs HB2.out ((H1.out.below HB1.out).below HB2.out) HX.out.all HX.out.last (by have := HX.out.len; omega)).mono ?_
  rintro e w3 ⟨u3, X, rfl, hV3, hb3, hR3⟩
  have HB3 : Hid (Below w1.heap.size w1 w3) := HB2.out.trans (hb3.mono HB2.out.size)
  have HV3 : Hid (VW w3 u3 X) := hV3
  have HV23 : Hid (VW w3 u2 A) := HV2.out.below hb3
  have HR3 : Hid (Res p zs (row (ppow xs 1)) X) := hR3.of (.of fun j => by rw [row_ppow_one])
  clear hV3 hb3 hR3 HV2
  go_wp2
  go_loopw [0, 1, 9] (fun x i o wr => ∃ (k a b : Nat) (A X : List Int), i = .int .i64 k ∧ a + b * k = N ∧ k ≤ N ∧ VW wr o A ∧ Res p zs (row (ppow xs a)) A ∧ VW wr x X ∧ Res p zs (row (ppow xs b)) X ∧ Below w1.heap.size w1 wr) (fun _ i _ _ => (Lib.intOf i).toNat)
  case atStart => exact ⟨N, 0, 1, A, X, rfl, by omega, Nat.le_refl _, HV23.out, HR2.out, HV3.out, HR3.out, HB3.out⟩
  case round =>
    obtain ⟨k, a, b, A, X, rfl, hk, hkN, hVA, hRA, hVX, hRX, hB⟩ := hrel
    have HK : Hid (a + b * k = N) := hk
    have HVA : Hid (VW wr _ A) := hVA
    have HRA : Hid (Res p zs (row (ppow xs a)) A) := hRA
    have HVX : Hid (VW wr _ X) := hVX
    have HRX : Hid (Res p zs (row (ppow xs b)) X) := hRX
    have HB : Hid (Below w1.heap.size w1 wr) := hB
    clear hk hVA hRA hVX hRX hB HV23 HV3 HR2 HR3
    have HLL : Hid (A.length ≤ 65 ∧ X.length ≤ 65) := by
      have h1 := HRA.out.len
      have h2 := HRX.out.len
      have h3 := HLZ.out
      show _ ∧ _
      omega
    cases k with
    | zero =>
      have h00 : ¬ (0 : Int) < 0 := by omega
      go_wp2
      refine bodyPost_ret (v := u9) (by simp [results, go_sem, loadVar]) rfl ?_
      have hk := HK.out
      rw [Nat.mul_zero, Nat.add_zero] at hk
      subst hk
      refine .mk u9 A rfl HVA.out (HB1.out.trans (HB.out.mono HB1.out.size)) ⟨by rw [← HZL.out]; exact HRA.out.len, HRA.out.bd, HRA.out.top, HRA.out.cg.scale HZ.out⟩
    | succ k =>
      obtain ⟨i, hi⟩ : ∃ i : Int, i = ((k + 1 : Nat) : Int) := ⟨_, rfl⟩
      obtain ⟨j, hj⟩ : ∃ j : Nat, j = (k + 1) / 2 := ⟨_, rfl⟩
      rw [← hi]
      have hi0 : 0 < i := by omega
      have htd : i.tdiv 2 = (j : Int) := by rw [Int.tdiv_eq_ediv_of_nonneg (by omega)]; omega
      have hiN : i < 9223372036854775808 := by omega
      have HJN : Hid (j ≤ N ∧ (j : Int) < i) := by show _ ∧ _; omega
      have hwj : wrap64 (j : Int) = (j : Int) := wrap_in (by omega) (by omega)
      have HJ : Hid (j = (k + 1) / 2) := hj
      have HI : Hid (i = ((k + 1 : Nat) : Int)) := hi
      have CM := fun (wx : World) (v1 v2 : Value) (x y : List Int) (h1 : VW wx v1 x) (h2 : VW wx v2 y) (hx : ∀ j, 0 ≤ x.getD j 0 ∧ x.getD j 0 < p) (hy : ∀ j, 0 ≤ y.getD j 0 ∧ y.getD j 0 < p) (hl1 : x.length ≤ 65) (hl2 : y.length ≤ 65) => mmul_any wx v1 v2 x y p h1 h2 (by omega) hx hy (by omega) (by omega)
      have HCM : Hid _ := CM
      clear CM hj hi
      by_cases hodd : (k + 1) % 2 = 1
      · have htm : i.tmod 2 = 1 := by rw [Int.tmod_eq_emod_of_nonneg (by omega)]; have := HI.out; omega
        have HE : Hid (k + 1 = j + j + 1) := by have := HJ.out; show _ = _; omega
        clear hodd
        go_wp2_with (go_at_call 15; fail)
        refine (HCM.out wr _ _ A X HVA.out HVX.out HRA.out.bd HRX.out.bd HLL.out.1 HLL.out.2).mono ?_
        rintro e w4 ⟨u4, Y, rfl, hS4, hb4, hN4⟩
        have HB4 : Hid (Below w1.heap.size w1 w4) := HB.out.trans (hb4.mono HB.out.size)
        have HV4 : Hid (VW w4 u4 Y) := hS4.view
        have HN4 : Hid (Nrm p (row (pmul A X)) Y) := hN4
        have HX4 : Hid (VW w4 _ X) := HVX.out.below hb4
        have HL4 : Hid (Y.length ≤ 1000) := by
          have h1 := HLL.out
          have := hN4.len (n := A.length + X.length) (fun j hj => by rw [row_pmul_ge A X j (by omega)]; simp)
          show _ ≤ _
          omega
        clear hS4 hb4 hN4
        go_wp2_with (go_at_call 41; fail)
        refine (HCR.out w4 u4 Y HB4.out HV4.out (HN4.out.isP (by omega)).bd HN4.out.top HL4.out).mono ?_
        rintro e w5 ⟨u5, Q, rfl, hV5, hb5, hR5⟩
        have HB5 : Hid (Below w1.heap.size w1 w5) := HB4.out.trans (hb5.mono HB4.out.size)
        have HV5 : Hid (VW w5 u5 Q) := hV5
        have HX5 : Hid (VW w5 _ X) := HX4.out.below hb5
        have HR5 : Hid (Res p zs (row (ppow xs (a + b))) Q) := HRA.out.next HRX.out HN4.out hR5
        clear hV5 hb5 hR5
        go_wp2_with (go_at_call 15; fail)
        refine (HCM.out w5 _ _ X X HX5.out HX5.out HRX.out.bd HRX.out.bd HLL.out.2 HLL.out.2).mono ?_
        rintro e w6 ⟨u6, G0, rfl, hS6, hb6, hN6⟩
        have HB6 : Hid (Below w1.heap.size w1 w6) := HB5.out.trans (hb6.mono HB5.out.size)
        have HV6 : Hid (VW w6 u6 G0) := hS6.view
        have HN6 : Hid (Nrm p (row (pmul X X)) G0) := hN6
        have HQ6 : Hid (VW w6 _ Q) := HV5.out.below hb6
        have HL6 : Hid (G0.length ≤ 1000) := by
          have h1 := HLL.out
          have := hN6.len (n := X.length + X.length) (fun j hj => by rw [row_pmul_ge X X j (by omega)]; simp)
          show _ ≤ _
          omega
        clear hS6 hb6 hN6
        go_wp2_with (go_at_call 41; fail)
        refine (HCR.out w6 u6 G0 HB6.out HV6.out (HN6.out.isP (by omega)).bd HN6.out.top HL6.out).mono ?_
        rintro e w7 ⟨u7, G, rfl, hV7, hb7, hR7⟩
        have HB7 : Hid (Below w1.heap.size w1 w7) := HB6.out.trans (hb7.mono HB6.out.size)
        have HV7 : Hid (VW w7 u7 G) := hV7
        have HQ7 : Hid (VW w7 _ Q) := HQ6.out.below hb7
        have HR7 : Hid (Res p zs (row (ppow xs (b + b))) G) := HRX.out.next HRX.out HN6.out hR7
        clear hV7 hb7 hR7
        go_wp2
        exact ⟨⟨j, a + b, b + b, Q, G, congrArg (Value.int .i64) hwj, pw_odd HK.out HE.out, HJN.out.1, HQ7.out, HR5.out, HV7.out, HR7.out, HB7.out⟩, meas_lt hi0 (by rw [hwj]; exact HJN.out.2)⟩
      · have htm : i.tmod 2 = 0 := by rw [Int.tmod_eq_emod_of_nonneg (by omega)]; have := HI.out; omega
        have HE : Hid (k + 1 = j + j) := by have := HJ.out; show _ = _; omega
        clear hodd
        go_wp2_with (go_at_call 15; fail)
        refine (HCM.out wr _ _ X X HVX.out HVX.out HRX.out.bd HRX.out.bd HLL.out.2 HLL.out.2).mono ?_
        rintro e w6 ⟨u6, G0, rfl, hS6, hb6, hN6⟩
        have HB6 : Hid (Below w1.heap.size w1 w6) := HB.out.trans (hb6.mono HB.out.size)
        have HV6 : Hid (VW w6 u6 G0) := hS6.view
        have HN6 : Hid (Nrm p (row (pmul X X)) G0) := hN6
        have HQ6 : Hid (VW w6 _ A) := HVA.out.below hb6
        have HL6 : Hid (G0.length ≤ 1000) := by
          have h1 := HLL.out
          have := hN6.len (n := X.length + X.length) (fun j hj => by rw [row_pmul_ge X X j (by omega)]; simp)
          show _ ≤ _
          omega
        clear hS6 hb6 hN6
        go_wp2_with (go_at_call 41; fail)
        refine (HCR.out w6 u6 G0 HB6.out HV6.out (HN6.out.isP (by omega)).bd HN6.out.top HL6.out).mono ?_
        rintro e w7 ⟨u7, G, rfl, hV7, hb7, hR7⟩
        have HB7 : Hid (Below w1.heap.size w1 w7) := HB6.out.trans (hb7.mono HB6.out.size)
        have HV7 : Hid (VW w7 u7 G) := hV7
        have HQ7 : Hid (VW w7 _ A) := HQ6.out.below hb7
        have HR7 : Hid (Res p zs (row (ppow xs (b + b))) G) := HRX.out.next HRX.out HN6.out hR7
        clear hV7 hb7 hR7
        go_wp2
        exact ⟨⟨j, a, b + b, A, G, congrArg (Value.int .i64) hwj, pw_even HK.out HE.out, HJN.out.1, HQ7.out, HRA.out, HV7.out, HR7.out, HB7.out⟩, meas_lt hi0 (by rw [hwj]; exact HJN.out.2)⟩
end Go.Proofs.YtffdemplaodbcaaDoor
namespace Go.Rad
open Go Go.RowKit
/-- A guarded operation whose guard says no. -/
theorem stpN {P : Program} {ops : List Oper} {Q : Exit → Act → World → Prop} {o : Oper} {a : Act} {w : World} {K : Act → World → Prop} {E : Prop} {j : Nat} {b c : Bool} {d : Nat} (hg : o.guard = some (j, b)) (hd : dstOf ops j = some d)
    (hv : a.tmps[d]?.getD undef = .bool c) (hc : c ≠ b) (h : E) : if Region.wanted o (yielded ops.toArray a.tmps) = true then o.wp P a w K Q else E := by
  have hy : yielded ops.toArray a.tmps j = some c := by
    unfold yielded
    unfold dstOf at hd
    have : (ops.toArray[j]?.bind (·.dst)) = some d := by simpa using hd
    rw [this]
    cases h2 : a.tmps[d]? with
    | none => rw [h2] at hv; simp [undef] at hv
    | some u => rw [h2] at hv; simp at hv; subst hv; simp [h2]
  rw [if_neg]
  · exact h
  · simp [Region.wanted, hg, hy, hc]
end Go.Rad
