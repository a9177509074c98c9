/- A part of the proof: W12, W2, Mag, Pm2, W4. -/
import Derived.Test.YtjlkplidpdhgbaaGreatDoorP01
import Derived.Test.YtjlkplidpdhgbaaGreatDoorP00
set_option linter.all false

namespace Go.Proofs.YtjlkplidpdhgbaaGreatDoor
open Go Go.Proofs Go.RowKit Go.Rad

/-- One word of a product that is taken away. -/
theorem subp_word {z x d c : Nat} (hz : z < B) (hx : x < B) (hd : d < B) (hc : c < B) :
    hi (x * d + c) + bw z (lo (x * d + c)) 0 < B ∧ sb z (lo (x * d + c)) 0 + (x * d + c) = z + B * (hi (x * d + c) + bw z (lo (x * d + c)) 0) := by
  have h1 : x * d ≤ (B - 1) * (B - 1) := Nat.mul_le_mul (by omega) (by omega)
  have h2 : (B - 1) * (B - 1) + (B - 1) = B * (B - 1) := by decide
  have h3 : x * d + c ≤ B * (B - 1) := by omega
  have h4 := sb_bw (c := 0) hz (lo_lt (x * d + c)) (by omega)
  have h5 := lo_hi (x * d + c)
  generalize x * d + c = p at *
  have h6 := bw_le z (lo p) 0
  refine ⟨?_, ?_⟩
  · rcases Nat.lt_or_ge (hi p) (B - 1) with h | h
    · omega
    · have h7 : B * (B - 1) ≤ B * hi p := Nat.mul_le_mul_left _ h
      have h8 : lo p = 0 := by omega
      have h9 : hi p = B - 1 := by
        have := Nat.le_of_mul_le_mul_left (show B * hi p ≤ B * (B - 1) by omega) B_pos
        omega
      have h10 : bw z 0 0 = 0 := by unfold bw; simp
      rw [h8, h10, h9]
      have := B_pos
      omega
  · rw [Nat.mul_add]
    omega
theorem subp_step {k z x d c r e f y u : Nat} (h : r + x * d = z + B ^ k * c) (hw : e + (u * d + c) = y + B * f) :
    r + B ^ k * e + (x + B ^ k * u) * d = (z + B ^ k * y) + B ^ (k + 1) * f := by
  have h2 : B ^ (k + 1) * f = B ^ k * (B * f) := by rw [Nat.pow_succ, Nat.mul_assoc]
  have h3 : B ^ k * (e + (u * d + c)) = B ^ k * (y + B * f) := by rw [hw]
  rw [Nat.mul_add, Nat.mul_add, Nat.mul_add] at h3
  have h4 : (x + B ^ k * u) * d = x * d + B ^ k * (u * d) := by rw [Nat.add_mul, Nat.mul_assoc]
  rw [h2, h4]
  omega

set_option maxRecDepth 10000 in
set_option maxHeartbeats 1000000 in
theorem subProduct_any (w : World) (bz oz nz cz bx ox nx cx d : Nat) (ax : Option Addr) (hsx : Sl ax bx ox nx) (hz : Arr .u64 B w bz oz nz) (hf : Free w bz oz nz)
    (hx : Arr .u64 B w bx ox nx) (hn : nz = nx + 1) (hcz : nz ≤ cz) (hap : 0 < nx → bz ≠ bx ∨ ox + nx ≤ oz ∨ oz + nz ≤ ox) (hmz : cz ≤ maxLen) (hd : d < B) :
    Calls Tryz.prog 165 #[.slice (some ⟨bz, oz, none⟩) nz cz, .slice ax nx cx, .int .u64 d] w fun e w' => ∃ c : Nat, e = .returned (.int .u64 c) ∧ Chg w w' bz oz (oz + nz) ∧ Arr .u64 B w' bz oz nz ∧
      c ≤ 1 ∧ num B w' bz oz nz + num B w bx ox nx * d = num B w bz oz nz + B ^ nz * c := by
  subst hn
  have hmz' : cz ≤ 9223372036854775807 := hmz
  clear hmz
  go_enter Tryz.func165, Tryz.ntmps165
  go_wp2
  go_loopw [7, 22] (fun c i wr => ∃ k cc : Nat, k ≤ nx ∧ cc < B ∧ i = .int .i64 k ∧ c = .int .u64 cc ∧ Chg w wr bz oz (oz + k) ∧ Arr .u64 B wr bz oz (nx + 1) ∧
      num B wr bz oz k + num B w bx ox k * d = num B w bz oz k + B ^ k * cc)
    (fun _ i _ => nx - (intOf i).toNat)
  case atStart => exact ⟨0, 0, by omega, B_pos, rfl, rfl, Chg.refl _ _ _ _, hz, by simp [num_zero]⟩
  case round =>
    obtain ⟨k, cc, hk, hcc, rfl, rfl, hch, har, hnum⟩ := hrel
    by_cases hlt : k < nx
    · obtain rfl := hsx (by omega)
      have hzk := arr_cell har (i := k) (by omega)
      have exk : wr.cell? ⟨bx, ox + k, none⟩ = w.cell? ⟨bx, ox + k, none⟩ := hch.cellAt (hx.lt (by omega)) (by have := hap (by omega); omega)
      have hxk : wr.cell? ⟨bx, ox + k, none⟩ = some (.int .u64 ((word w bx (ox + k) : Nat) : Int)) := exk.trans (arr_cell hx hlt)
      have hfk : wr.frozen? ⟨bz, oz + k, none⟩ = false := (hch.free hf hz.lt) k (by omega)
      have ezk : word wr bz (oz + k) = word w bz (oz + k) := word_of_cell (hch.cell _ (by omega))
      have hlt1 := arr_lt har (i := k) (by omega)
      have hlt2 := arr_lt hx hlt
      obtain ⟨m1, m2⟩ := subp_word hlt1 hlt2 hd hcc
      have h1 := sub64_c (word wr bz (oz + k)) (lo (word w bx (ox + k) * d + cc))
      have h2 := add64_y (hi (word w bx (ox + k) * d + cc)) (bw (word wr bz (oz + k)) (lo (word w bx (ox + k) * d + cc)) 0) (wr.setCell ⟨bz, oz + k, none⟩ (.int .u64 (sb (word wr bz (oz + k)) (lo (word w bx (ox + k) * d + cc)) 0 : Nat))) (bw_le _ _ _)
      have e3 : lo (hi (word w bx (ox + k) * d + cc) + bw (word wr bz (oz + k)) (lo (word w bx (ox + k) * d + cc)) 0) = hi (word w bx (ox + k) * d + cc) + bw (word wr bz (oz + k)) (lo (word w bx (ox + k) * d + cc)) 0 := Nat.mod_eq_of_lt m1
      have hstep := subp_step hnum m2
      have H0 : num B wr bz oz k + B ^ k * sb (word wr bz (oz + k)) (lo (word w bx (ox + k) * d + cc)) 0 + num B w bx ox (k + 1) * d =
        num B w bz oz (k + 1) + B ^ (k + 1) * lo (hi (word w bx (ox + k) * d + cc) + bw (word wr bz (oz + k)) (lo (word w bx (ox + k) * d + cc)) 0) := by
        rw [e3, num_succ, num_succ, ← ezk]; exact hstep
      have H : Hid _ := H0
      clear hnum hstep exk H0 m1 m2 ezk e3
      go_wp2_with (go_at_call 104; refine (mulAdd_any _ _ _ hlt2 hd hcc _).mono ?_; rintro e w' ⟨rfl, hw⟩; subst hw)
      go_roundw
      case rel =>
        exact ⟨k + 1, _, by omega, lo_lt _, by go_num, rfl, (hch.mono (Nat.le_refl _) (by omega)).set (by omega) (by omega) _, har.set (sb_lt _ _ _), by rw [num_store har (by omega)]; exact H.out⟩
      case measure => simp [intOf]; omega
    · have hkn : k = nx := by omega
      subst hkn
      have hzk := arr_cell har (i := k) (by omega)
      have hfk : wr.frozen? ⟨bz, oz + k, none⟩ = false := (hch.free hf hz.lt) k (by omega)
      have ezk : word wr bz (oz + k) = word w bz (oz + k) := word_of_cell (hch.cell _ (by omega))
      have hlt1 := arr_lt har (i := k) (by omega)
      have h1 := sub64_c (word wr bz (oz + k)) cc
      have hs := sb_bw (c := 0) hlt1 hcc (by omega)
      have H0 : num B wr bz oz k + B ^ k * sb (word wr bz (oz + k)) cc 0 + num B w bx ox k * d = num B w bz oz (k + 1) + B ^ (k + 1) * bw (word wr bz (oz + k)) cc 0 := by
        have h3 : B ^ k * (sb (word wr bz (oz + k)) cc 0 + cc + 0) = B ^ k * (word wr bz (oz + k) + B * bw (word wr bz (oz + k)) cc 0) := by rw [hs]
        have h2 : B ^ (k + 1) * bw (word wr bz (oz + k)) cc 0 = B ^ k * (B * bw (word wr bz (oz + k)) cc 0) := by rw [Nat.pow_succ, Nat.mul_assoc]
        rw [h2, num_succ, ← ezk]
        rw [Nat.add_zero, Nat.mul_add, Nat.mul_add] at h3
        clear h2
        omega
      have H : Hid _ := H0
      clear hnum H0 hs ezk
      go_wp2
      go_ret
      exact ⟨_, rfl, (hch.mono (Nat.le_refl _) (by omega)).set (by omega) (by omega) _, har.set (sb_lt _ _ _), bw_le _ _ _, by rw [num_store har (by omega)]; exact H.out⟩
end Go.Proofs.YtjlkplidpdhgbaaGreatDoor

namespace Go.Proofs.YtjlkplidpdhgbaaGreatDoor
open Go Go.Proofs Go.RowKit Go.Rad

/-- Normal: the highest place is not 0. -/
def Nrm (w : World) (b o n : Nat) : Prop := n = 0 ∨ word w b (o + (n - 1)) ≠ 0

theorem ret_int {k : IntKind} {a b : Int} (h : a = b) : Ending.returned (.int k a) = .returned (.int k b) := by rw [h]
theorem cmpI_nat_lt {a b : Nat} (h : a < b) : cmpI (a : Int) (b : Int) = -1 := if_pos (by omega)
theorem cmpI_nat_gt {a b : Nat} (h : b < a) : cmpI (a : Int) (b : Int) = 1 := by unfold cmpI; rw [if_neg (by omega), if_neg (by omega)]
theorem cmpI_nat_eq {a b : Nat} (h : a = b) : cmpI (a : Int) (b : Int) = 0 := by unfold cmpI; rw [if_neg (by omega), if_pos (by omega)]

theorem num_len_lt {w : World} {bx ox nx byy oy ny : Nat} (hx : Arr .u64 B w bx ox nx) (hny : Nrm w byy oy ny) (h : nx < ny) : num B w bx ox nx < num B w byy oy ny := by
  have h1 := num_lt hx
  rcases hny with h2 | h2
  · omega
  · have h3 : B ^ (ny - 1) ≤ num B w byy oy ny := _root_.Rad.vs_ge (by omega) (by simpa using h2)
    have h4 : B ^ nx ≤ B ^ (ny - 1) := Nat.pow_le_pow_right B_pos (by omega)
    omega

set_option maxHeartbeats 1000000 in
theorem cmpWords_any (w : World) (ax ay : Option Addr) (bx ox nx cx byy oy ny cy : Nat) (hsx : Sl ax bx ox nx) (hsy : Sl ay byy oy ny) (hmx : nx ≤ maxLen) (hmy : ny ≤ maxLen)
    (hx : Arr .u64 B w bx ox nx) (hy : Arr .u64 B w byy oy ny) (hnx : Nrm w bx ox nx) (hny : Nrm w byy oy ny) :
    Calls Tryz.prog 87 #[.slice ax nx cx, .slice ay ny cy] w fun e w' => e = .returned (.int .i64 (cmpI (num B w bx ox nx : Nat) (num B w byy oy ny : Nat))) ∧ ∃ n, w' = w.drewN n := by
  unfold maxLen at hmx hmy
  by_cases hn : nx = ny
  · subst hn
    go_enter Tryz.func87, Tryz.ntmps87
    go_wp2
    go_loopw [5] (fun s wr => ∃ k d : Nat, k ≤ nx ∧ s = .int .i64 ((k : Int) - 1) ∧ wr = w.drewN d ∧ ∀ i, k ≤ i → i < nx → word w bx (ox + i) = word w byy (oy + i)) (fun s _ => (intOf s + 1).toNat)
    case atStart => exact ⟨nx, 0, by omega, by go_num, rfl, fun i h1 h2 => by omega⟩
    case round =>
      obtain ⟨k, d, hk, rfl, rfl, hz⟩ := hrel
      by_cases h0 : k = 0
      · subst h0
        have e : cmpI (num B w bx ox nx : Nat) (num B w byy oy nx : Nat) = 0 := cmpI_nat_eq (num_congr fun i hi => (hz i (by omega) hi).symm).symm
        go_wp2
        go_ret
        exact ⟨ret_int e.symm, _, rfl⟩
      · obtain ⟨j, rfl⟩ : ∃ j, k = j + 1 := ⟨k - 1, by omega⟩
        obtain rfl := hsx (by omega)
        obtain rfl := hsy (by omega)
        have hcx := arr_cell hx (i := j) (by omega)
        have hcy := arr_cell hy (i := j) (by omega)
        have he : ((j + 1 : Nat) : Int) - 1 = (j : Int) := by omega
        rw [he]
        by_cases hw : word w bx (ox + j) = word w byy (oy + j)
        · have hw' : ((word w bx (ox + j) : Nat) : Int) = ((word w byy (oy + j) : Nat) : Int) := by rw [hw]
          have hz' : ∀ i, j ≤ i → i < nx → word w bx (ox + i) = word w byy (oy + i) := fun i h1 h2 => by
            by_cases hij : i = j
            · subst hij; exact hw
            · exact hz i (by omega) h2
          clear hz hw he
          go_wp2
          go_quiet (fail)
          go_wp2
          go_roundw
          case rel => exact ⟨j, _, by omega, by go_num, rfl, hz'⟩
          case measure => simp [intOf]
        · have hne : ((word w bx (ox + j) : Nat) : Int) ≠ ((word w byy (oy + j) : Nat) : Int) := by omega
          have hres : cmpI ((word w bx (ox + j) : Nat) : Int) ((word w byy (oy + j) : Nat) : Int) = cmpI (num B w bx ox nx : Nat) (num B w byy oy nx : Nat) := by
            rcases Nat.lt_or_ge (word w bx (ox + j)) (word w byy (oy + j)) with h | h
            · rw [cmpI_nat_lt h, cmpI_nat_lt]
              exact _root_.Rad.vs_lt_of_place (i := j) (fun i hi => arr_lt hx hi) (by omega) h (fun i h1 h2 => hz i (by omega) h2)
            · have h' : word w byy (oy + j) < word w bx (ox + j) := by omega
              rw [cmpI_nat_gt h', cmpI_nat_gt]
              exact _root_.Rad.vs_lt_of_place (i := j) (fun i hi => arr_lt hy hi) (by omega) h' (fun i h1 h2 => (hz i (by omega) h2).symm)
          have HR : Hid (cmpI ((word w bx (ox + j) : Nat) : Int) ((word w byy (oy + j) : Nat) : Int) = cmpI (num B w bx ox nx : Nat) (num B w byy oy nx : Nat)) := hres
          have hb : (j : Int) < (nx : Int) := by omega
          have hb0 : (0 : Int) ≤ (j : Int) := by omega
          clear hz hw he hres
          go_wp2
          go_quiet (fail)
          go_wp2
          go_quiet ((go_at_call 116; refine (compare_u _ _ _).mono ?_; rintro e w'' ⟨rfl, rfl⟩; exact ⟨rfl, _, rfl⟩))
          go_wp2
          go_ret
          exact ⟨ret_int HR.out, by simp only [World.drewN_drewN]; exact ⟨_, rfl⟩⟩
  · have hres : cmpI (nx : Int) (ny : Int) = cmpI (num B w bx ox nx : Nat) (num B w byy oy ny : Nat) := by
      rcases Nat.lt_or_ge nx ny with h | h
      · rw [cmpI_nat_lt h, cmpI_nat_lt (num_len_lt hx hny h)]
      · have h' : ny < nx := by omega
        rw [cmpI_nat_gt h', cmpI_nat_gt (num_len_lt hy hnx h')]
    have HR : Hid (cmpI (nx : Int) (ny : Int) = cmpI (num B w bx ox nx : Nat) (num B w byy oy ny : Nat)) := hres
    have hne : ((nx : Int) != (ny : Int)) = true := by simp; omega
    clear hres
    go_enter Tryz.func87, Tryz.ntmps87
    go_wp2_with (go_at_call 74; refine (compare_i _ _ _).mono ?_; rintro e w' ⟨rfl, hw⟩; subst hw)
    go_ret
    exact ⟨ret_int HR.out, 0, rfl⟩
end Go.Proofs.YtjlkplidpdhgbaaGreatDoor

namespace Go.Proofs.YtjlkplidpdhgbaaGreatDoor
open Go Go.Proofs Go.RowKit Go.Rad

/-- A slice of words that holds the number x: n words, the highest not 0. -/
def Mag (w : World) (v : Value) (x n : Nat) : Prop :=
  ∃ (ao : Option Addr) (b o c : Nat), v = .slice ao n c ∧ Sl ao b o n ∧ n ≤ c ∧ Arr .u64 B w b o n ∧ num B w b o n = x ∧ Nrm w b o n

theorem arr_below {k : IntKind} {β : Nat} {w w' : World} {b o n : Nat} (h : Arr k β w b o n) (hb : Below w.heap.size w w') : Arr k β w' b o n := by
  intro i hi
  have e : w'.cell? ⟨b, o + i, none⟩ = w.cell? ⟨b, o + i, none⟩ := hb.cell (p := ⟨b, o + i, none⟩) (h.lt (by omega))
  rw [word_of_cell e, e]
  exact h i hi
theorem word_below {k : IntKind} {β : Nat} {w w' : World} {b o n : Nat} (h : Arr k β w b o n) (hb : Below w.heap.size w w') {i : Nat} (hi : i < n) : word w' b (o + i) = word w b (o + i) :=
  word_of_cell (hb.cell (p := ⟨b, o + i, none⟩) (h.lt (by omega)))
theorem num_below {k : IntKind} {β : Nat} {w w' : World} {b o n : Nat} (h : Arr k β w b o n) (hb : Below w.heap.size w w') : num β w' b o n = num β w b o n :=
  num_congr fun _ hi => word_below h hb hi
theorem nrm_below {w w' : World} {b o n : Nat} (h : Arr .u64 B w b o n) (hn : Nrm w b o n) (hb : Below w.heap.size w w') : Nrm w' b o n := by
  rcases hn with h0 | h0
  · exact .inl h0
  · by_cases hz : n = 0
    · exact .inl hz
    · right; rw [word_below h hb (by omega)]; exact h0
theorem Mag.below {w w' : World} {v : Value} {x n : Nat} (h : Mag w v x n) (hb : Below w.heap.size w w') : Mag w' v x n := by
  obtain ⟨ao, b, o, c, hv, hs, hc, ha, hx, hn⟩ := h
  exact ⟨ao, b, o, c, hv, hs, hc, arr_below ha hb, by rw [num_below ha hb, hx], nrm_below ha hn hb⟩

theorem Mag.lt {w : World} {v : Value} {x n : Nat} (h : Mag w v x n) : x < B ^ n := by
  obtain ⟨ao, b, o, c, hv, hs, hc, ha, hx, hn⟩ := h
  rw [← hx]; exact num_lt ha
theorem Mag.ge {w : World} {v : Value} {x n : Nat} (h : Mag w v x n) (hn0 : 0 < n) : B ^ (n - 1) ≤ x := by
  obtain ⟨ao, b, o, c, hv, hs, hc, ha, hx, hn⟩ := h
  rw [← hx]
  rcases hn with h0 | h0
  · omega
  · exact _root_.Rad.vs_ge hn0 (by simpa using h0)
theorem Mag.pos {w : World} {v : Value} {x n : Nat} (h : Mag w v x n) (hn0 : 0 < n) : 0 < x := Nat.lt_of_lt_of_le (Nat.pow_pos B_pos) (h.ge hn0)
theorem Mag.len_le {w : World} {v : Value} {x n : Nat} (h : Mag w v x n) {L : Nat} (hx : x < B ^ L) : n ≤ L := by
  rcases Nat.lt_or_ge L n with h1 | h1
  · have h2 := h.ge (by omega)
    have h3 : B ^ L ≤ B ^ (n - 1) := Nat.pow_le_pow_right B_pos (by omega)
    omega
  · exact h1
theorem Mag.zero_iff {w : World} {v : Value} {x n : Nat} (h : Mag w v x n) : x = 0 ↔ n = 0 := by
  constructor
  · intro hx
    rcases Nat.eq_zero_or_pos n with h0 | h0
    · exact h0
    · have := h.pos h0; omega
  · intro hn; have := h.lt; rw [hn] at this; simpa using this

theorem mag_nil (w : World) : Mag w (.slice none 0 0) 0 0 := ⟨none, 0, 0, 0, rfl, fun h => by omega, by omega, fun i hi => by omega, rfl, .inl rfl⟩

/-- front, of a row that holds a number. -/
theorem front_mag (w : World) (ao : Option Addr) (b o n c m : Nat) (hs : Sl ao b o n) (hc : n ≤ c) (hcm : n ≤ maxLen) (hmm : m ≤ maxLen) (ha : Arr .u64 B w b o n) :
    Calls Tryz.prog 86 #[.slice ao n c, .int .i64 m] w fun e w' => ∃ v k, e = .returned v ∧ w' = w ∧ k ≤ m ∧ k ≤ n ∧ Mag w v (num B w b o (min m n)) k := by
  refine (front_any w ao b o n c m hs hc hcm hmm ha).mono ?_
  rintro e w' ⟨k, rfl, rfl, hk1, hk2, htop, hz⟩
  refine ⟨_, k, rfl, rfl, hk1, hk2, ao, b, o, k, rfl, fun h => hs (by omega), Nat.le_refl _, ?_, ?_, ?_⟩
  · have := ha.sub (d := 0) (m := k) (by omega); simpa using this
  · exact (_root_.Rad.vs_top (by omega) (fun i h1 h2 => hz i h1 (by omega) (by omega))).symm
  · rcases htop with h | h
    · exact .inl h
    · exact .inr h

theorem num_made {k : IntKind} {β : Nat} {w w' : World} {n : Nat} (h : Made k β w w' n) (m : Nat) (hm : m ≤ n) : num β w' w.heap.size 0 m = 0 :=
  _root_.Rad.vs_zeros fun i hi => by rw [Nat.zero_add]; exact h.zero i (by omega)

theorem info98 : (Tryz.prog.info? 98).map (fun i => (i.zero, i.size, i.bytes)) = some (some (.int .u64 0), 1, 8) := by kernel_rfl
theorem size98 : (Tryz.prog.info? 98).map (·.size) = some 1 := by kernel_rfl

/-- A new row, with a number copied to its low end. -/
theorem row_copied {w w1 w2 : World} {n m b o : Nat} (hm : Made .u64 B w w1 n) (ha : Arr .u64 B w b o m) (hmn : m ≤ n) (hc : Copied .u64 B w1 w2 w.heap.size 0 m b o) :
    Below w.heap.size w w2 ∧ Arr .u64 B w2 w.heap.size 0 n ∧ Free w2 w.heap.size 0 n ∧ num B w2 w.heap.size 0 n = num B w b o m ∧ w.heap.size < w2.heap.size := by
  have hlow : ∀ i, i < m → word w2 w.heap.size (0 + i) = word w b (o + i) := fun i hi => (hc.same i hi).trans (word_below ha hm.below hi)
  have hhigh : ∀ i, m ≤ i → w2.cell? ⟨w.heap.size, i, none⟩ = w1.cell? ⟨w.heap.size, i, none⟩ := fun i hi => hc.chg.cell i (by omega)
  refine ⟨hm.below.trans (hc.chg.below (Nat.le_refl _) (by have := hm.lt; omega)), fun i hi => ?_, hc.chg.free hm.free (fun _ => hm.lt), ?_, Nat.lt_of_lt_of_le hm.lt hc.chg.size⟩
  · by_cases him : i < m
    · exact hc.arr i him
    · have e := hhigh i (by omega)
      rw [Nat.zero_add, word_of_cell e, e]
      have := hm.arr i hi
      rwa [Nat.zero_add] at this
  · have h1 : num B w2 w.heap.size 0 n = num B w2 w.heap.size 0 m := _root_.Rad.vs_top hmn fun i h1 h2 => by
      rw [Nat.zero_add, word_of_cell (hhigh i h1)]
      exact hm.zero i h2
    rw [h1]
    exact num_congr hlow
theorem nat_min_self (n : Nat) : min n n = n := Nat.min_self n
end Go.Proofs.YtjlkplidpdhgbaaGreatDoor

/- Plain arithmetic over any base. -/
namespace Rad
theorem pow_dbl {β : Nat} (hβ : 2 ≤ β) (n : Nat) : β ^ n + β ^ n ≤ β ^ (n + 1) := by
  rw [Nat.pow_succ, ← Nat.mul_two]
  exact Nat.mul_le_mul_left _ hβ
theorem sum_fits {β z c a b n : Nat} (hβ : 2 ≤ β) (h : z + β ^ (n + 1) * c = a + b) (ha : a < β ^ n) (hb : b < β ^ n) : z = a + b := by
  have h1 := pow_dbl hβ n
  rcases Nat.eq_zero_or_pos c with h0 | h0
  · subst h0; simpa using h
  · have := Nat.mul_le_mul_left (β ^ (n + 1)) h0
    omega
theorem diff_fits {β z c a b n : Nat} (h : z + b = a + β ^ n * c) (hz : z < β ^ n) (hle : b ≤ a) : z = a - b := by
  rcases Nat.eq_zero_or_pos c with h0 | h0
  · subst h0; rw [Nat.mul_zero] at h; omega
  · have := Nat.mul_le_mul_left (β ^ n) h0
    omega
end Rad

namespace Go.Proofs.YtjlkplidpdhgbaaGreatDoor
open Go Go.Proofs Go.RowKit Go.Rad

set_option maxRecDepth 10000 in
set_option maxHeartbeats 1000000 in
theorem subFrom_any (w : World) (az ax : Option Addr) (bz oz nz cz bx ox nx cx : Nat) (hsz : Sl az bz oz nz) (hsx : Sl ax bx ox nx) (hz : Arr .u64 B w bz oz nz) (hf : Free w bz oz nz)
    (hx : Arr .u64 B w bx ox nx) (hn : nx ≤ nz) (hap : 0 < nx → bz ≠ bx ∨ ox + nx ≤ oz ∨ oz + nz ≤ ox) (hmz : nz ≤ maxLen) :
    Calls Tryz.prog 143 #[.slice az nz cz, .slice ax nx cx] w fun e w' => ∃ c : Nat, e = .returned (.int .u64 c) ∧ Chg w w' bz oz (oz + nz) ∧ Arr .u64 B w' bz oz nz ∧
      c ≤ 1 ∧ num B w' bz oz nz + num B w bx ox nx = num B w bz oz nz + B ^ nz * c := by
  unfold maxLen at hmz
  go_enter Tryz.func143, Tryz.ntmps143
  go_wp2
  go_loopw [5, 11] (fun c i wr => ∃ k cc : Nat, k ≤ nx ∧ cc ≤ 1 ∧ i = .int .i64 k ∧ c = .int .u64 cc ∧ Chg w wr bz oz (oz + k) ∧ Arr .u64 B wr bz oz nz ∧
      num B wr bz oz k + num B w bx ox k = num B w bz oz k + B ^ k * cc)
    (fun _ i _ => nx - (intOf i).toNat)
  case atStart => exact ⟨0, 0, by omega, by omega, rfl, rfl, Chg.refl _ _ _ _, hz, by simp [num_zero]⟩
  case round =>
    obtain ⟨k, cc, hk, hcc, rfl, rfl, hch, har, hnum⟩ := hrel
    by_cases hlt : k < nx
    · obtain rfl := hsz (by omega)
      obtain rfl := hsx (by omega)
      have hzk := arr_cell har (i := k) (by omega)
      have exk : wr.cell? ⟨bx, ox + k, none⟩ = w.cell? ⟨bx, ox + k, none⟩ := hch.cellAt (hx.lt (by omega)) (by have := hap (by omega); omega)
      have hxk : wr.cell? ⟨bx, ox + k, none⟩ = some (.int .u64 ((word w bx (ox + k) : Nat) : Int)) := exk.trans (arr_cell hx hlt)
      have hfk : wr.frozen? ⟨bz, oz + k, none⟩ = false := (hch.free hf hz.lt) k (by omega)
      have ezk : word wr bz (oz + k) = word w bz (oz + k) := word_of_cell (hch.cell _ (by omega))
      have h1 := sub64 (word wr bz (oz + k)) (word w bx (ox + k)) cc wr hcc
      have hlt1 := arr_lt har (i := k) (by omega)
      have hlt2 := arr_lt hx hlt
      have hstep := sub_step (ezk ▸ hlt1) hlt2 hcc hnum
      have H : Hid (num B wr bz oz k + B ^ k * sb (word wr bz (oz + k)) (word w bx (ox + k)) cc + num B w bx ox (k + 1) =
        num B w bz oz (k + 1) + B ^ (k + 1) * bw (word wr bz (oz + k)) (word w bx (ox + k)) cc) := by rw [num_succ, num_succ, ezk]; exact hstep
      clear hnum hstep ezk exk
      go_wp2
      go_roundw
      case rel =>
        exact ⟨k + 1, _, by omega, bw_le _ _ _, by go_num, rfl, (hch.mono (Nat.le_refl _) (by omega)).set (by omega) (by omega) _, har.set (sb_lt _ _ _), by rw [num_store har (by omega)]; exact H.out⟩
      case measure => simp [intOf]; omega
    · have hkn : k = nx := by omega
      subst hkn
      go_wp2
      go_loopw [5, 8] (fun c i wr => ∃ m cc : Nat, k ≤ m ∧ m ≤ nz ∧ cc ≤ 1 ∧ i = .int .i64 m ∧ c = .int .u64 cc ∧ Chg w wr bz oz (oz + m) ∧ Arr .u64 B wr bz oz nz ∧
          num B wr bz oz m + num B w bx ox k = num B w bz oz m + B ^ m * cc)
        (fun _ i _ => nz - (intOf i).toNat)
      case atStart => exact ⟨k, cc, by omega, by omega, hcc, rfl, rfl, hch, har, hnum⟩
      case round =>
        clear hch har hnum hcc hlt
        obtain ⟨m, c2, hkm, hmn, hcc, rfl, rfl, hch, har, hnum⟩ := hrel
        by_cases hgo : c2 ≠ 0 ∧ m < nz
        · obtain ⟨hc0, hm⟩ := hgo
          obtain rfl := hsz (by omega)
          have hzk := arr_cell har (i := m) (by omega)
          have hfk : wr.frozen? ⟨bz, oz + m, none⟩ = false := (hch.free hf hz.lt) m (by omega)
          have ezk : word wr bz (oz + m) = word w bz (oz + m) := word_of_cell (hch.cell _ (by omega))
          have h1 := sub64_y (word wr bz (oz + m)) c2 wr hcc
          have hlt1 := arr_lt har (i := m) (by omega)
          have hstep := sub_step (e := 0) (ezk ▸ hlt1) B_pos hcc hnum
          have H0 : num B wr bz oz m + B ^ m * sb (word wr bz (oz + m)) 0 c2 + num B w bx ox k =
            num B w bz oz (m + 1) + B ^ (m + 1) * bw (word wr bz (oz + m)) 0 c2 := by rw [num_succ, ezk]; simpa using hstep
          have H : Hid _ := H0
          have hc0' : ¬ ((c2 : Nat) : Int) = 0 := by omega
          clear hnum hstep ezk H0 hc0
          go_wp2
          go_roundw
          case rel =>
            exact ⟨m + 1, _, by omega, by omega, bw_le _ _ _, by go_num, rfl, (hch.mono (Nat.le_refl _) (by omega)).set (by omega) (by omega) _, har.set (sb_lt _ _ _),
              by rw [num_store har (by omega)]; exact H.out⟩
          case measure => simp [intOf]; omega
        · have hfin : num B wr bz oz nz + num B w bx ox k = num B w bz oz nz + B ^ nz * c2 := by
            by_cases hm : m = nz
            · subst hm; exact hnum
            · have hc : c2 = 0 := by omega
              subst hc
              obtain ⟨d, rfl⟩ := Nat.exists_eq_add_of_le hmn
              rw [num_add, num_add, num_congr (w' := wr) (w := w) (o' := oz + m) (o := oz + m) (n := d) (fun i hi => word_of_cell (hch.cell _ (by omega)))]
              omega
          have hpost : Chg w wr bz oz (oz + nz) := hch.mono (Nat.le_refl _) (by omega)
          have Hf : Hid _ := hfin
          clear hfin hnum hch
          by_cases hm : m < nz
          · have hc : c2 = 0 := by omega
            subst hc
            clear hgo
            go_wp2
            go_ret
            exact ⟨0, rfl, hpost, har, by omega, Hf.out⟩
          · clear hgo
            go_wp2
            all_goals
              go_ret
              first
                | exact ⟨_, rfl, hpost, har, hcc, Hf.out⟩
                | (obtain rfl : c2 = 0 := by omega
                   exact ⟨0, rfl, hpost, har, by omega, Hf.out⟩)
end Go.Proofs.YtjlkplidpdhgbaaGreatDoor
