/- A part of the proof: Pm1, Mem. -/
import Derived.WalkKit
set_option linter.all false
namespace Rad
def vs (β:Nat) (f:Nat→Nat):Nat→Nat
 |0=>0
 |n+1=>vs β f n+β^n*f n
theorem vs_zero (β:Nat) (f:Nat→Nat):vs β f 0=0:=rfl
theorem vs_succ (β:Nat) (f:Nat→Nat) (n:Nat):vs β f (n+1)=vs β f n+β^n*f n:=rfl
theorem vs_congr {β:Nat} {f g:Nat→Nat}:∀ {n:Nat},(∀i,i<n→f i=g i)→vs β f n=vs β g n
 |0,_=>rfl
 |n+1,h=>by rw[vs_succ,vs_succ,vs_congr (n:=n) (fun i hi=>h i (by omega)),h n (by omega)]
theorem vs_add (β:Nat) (f:Nat→Nat) (n:Nat):∀m,vs β f (n+m)=vs β f n+β^n*vs β (fun i=>f (n+i)) m
 |0=>by simp[vs_zero]
 |m+1=>by rw[←Nat.add_assoc,vs_succ,vs_add β f n m,vs_succ,Nat.mul_add,Nat.pow_add,Nat.mul_assoc,Nat.add_assoc]
theorem vs_lt {β:Nat} {f:Nat→Nat}:∀ {n:Nat},(∀i,i<n→f i<β)→vs β f n<β^n
 |0,_=>by simp[vs_zero]
 |n+1,h=>by have h1:=vs_lt (n:=n) (fun i hi=>h i (by omega));have h2:f n+1≤β:=h n (by omega);have h3:=Nat.mul_le_mul_left (β^n) h2;rw[vs_succ,Nat.pow_succ];rw[Nat.mul_add]at h3;omega
theorem vs_one (β:Nat) (f:Nat→Nat):vs β f 1=f 0:=by simp[vs]
theorem vs_head (β:Nat) (f:Nat→Nat) (n:Nat):vs β f (n+1)=f 0+β*vs β (fun i=>f (i+1)) n:=by rw[Nat.add_comm n 1,vs_add,vs_one,Nat.pow_one];congr 2;exact vs_congr fun i _=>by rw[Nat.add_comm]
theorem vs_mod {β:Nat} {f:Nat→Nat} {n m:Nat} (h:∀i,i<m→f i<β) (hm:m≤n):vs β f n%β^m=vs β f m:=by obtain⟨k,rfl⟩:=Nat.exists_eq_add_of_le hm;rw[vs_add,Nat.add_mul_mod_self_left,Nat.mod_eq_of_lt (vs_lt h)]
theorem vs_div {β:Nat} {f:Nat→Nat} {n m:Nat} (h:∀i,i<m→f i<β) (hm:m≤n) (hβ:0<β):
 vs β f n / β^m=vs β (fun i=>f (m+i)) (n-m):=by
 obtain⟨k,rfl⟩:=Nat.exists_eq_add_of_le hm;rw[vs_add,Nat.add_mul_div_left _ _ (Nat.pow_pos hβ),Nat.div_eq_of_lt (vs_lt h),Nat.zero_add,Nat.add_sub_cancel_left]
theorem vs_digit {β:Nat} {f:Nat→Nat} {n:Nat} (h:∀i,i<n→f i<β) (hβ:0<β) {i:Nat} (hi:i<n):vs β f n / β^i%β=f i:=by rw[vs_div (fun j hj=>h j (by omega)) (by omega) hβ];obtain⟨k,hk⟩:∃k,n-i=k+1:=⟨n-i-1,by omega⟩;rw[hk,vs_head,Nat.add_mul_mod_self_left,Nat.add_zero,Nat.mod_eq_of_lt (h i hi)]
theorem vs_inj {β:Nat} {f g:Nat→Nat} {n:Nat} (hf:∀i,i<n→f i<β) (hg:∀i,i<n→g i<β) (hβ:0<β) (h:vs β f n=vs β g n):
 ∀i,i<n→f i=g i:=fun i hi=>by
 rw[←vs_digit hf hβ hi,←vs_digit hg hβ hi,h]
theorem vs_zeros {β:Nat} {f:Nat→Nat}:∀ {n:Nat},(∀i,i<n→f i=0)→vs β f n=0
 |0,_=>rfl
 |n+1,h=>by rw[vs_succ,vs_zeros (n:=n) (fun i hi=>h i (by omega)),h n (by omega)];simp
theorem vs_le {β:Nat} {f:Nat→Nat} {n m:Nat} (h:n≤m):vs β f n≤vs β f m:=by obtain⟨k,rfl⟩:=Nat.exists_eq_add_of_le h;rw[vs_add];omega
theorem vs_top {β:Nat} {f:Nat→Nat} {n m:Nat} (h:n≤m) (hz:∀i,n≤i→i<m→f i=0):vs β f m=vs β f n:=by obtain⟨k,rfl⟩:=Nat.exists_eq_add_of_le h;rw[vs_add,vs_zeros (fun i hi=>hz (n+i) (by omega) (by omega))];omega
theorem vs_ge {β:Nat} {f:Nat→Nat} {n:Nat} (hn:0<n) (h:f (n-1)≠0):β^(n-1)≤vs β f n:=by obtain⟨k,rfl⟩:∃k,n=k+1:=⟨n-1,by omega⟩;rw[vs_succ];simp only[Nat.add_sub_cancel]at h⊢;have:β^k*1≤β^k*f k:=Nat.mul_le_mul_left _ (by omega);omega
theorem vs_pos {β:Nat} {f:Nat→Nat} {n:Nat} (hβ:0<β) (hn:0<n) (h:f (n-1)≠0):0<vs β f n:=Nat.lt_of_lt_of_le (Nat.pow_pos hβ) (vs_ge hn h)
theorem vs_eq_zero {β:Nat} {f:Nat→Nat} {n:Nat} (hβ:0<β) (h:vs β f n=0):∀i,i<n→f i=0:=by
 intro i hi;have h1:vs β f (i+1)≤vs β f n:=vs_le (by omega);rw[vs_succ]at h1;have h2:β^i*f i=0:=(by omega);rcases Nat.mul_eq_zero.1 h2 with h3|h3
 ·exact absurd h3 (Nat.ne_of_gt (Nat.pow_pos hβ))
 ·exact h3
theorem vs_set {β:Nat} {f g:Nat→Nat} {n i:Nat} (hi:i<n) (h:∀j,j<n→j≠i→g j=f j):
 vs β g n+β^i*f i=vs β f n+β^i*g i:=by
 obtain⟨k,rfl⟩:∃k,n=i+(k+1):=⟨n-i-1,by omega⟩;rw[vs_add β g i (k+1),vs_add β f i (k+1),vs_head,vs_head,vs_congr (f:=g) (g:=f) (n:=i) (fun j hj=>h j (by omega) (by omega)),
  vs_congr (f:=fun j=>g (i+(j+1))) (g:=fun j=>f (i+(j+1))) (n:=k) (fun j hj=>h _ (by omega) (by omega))]
 simp only[Nat.add_zero,Nat.mul_add];omega
theorem vs_lt_of_place {β:Nat} {f g:Nat→Nat} {n i:Nat} (hf:∀j,j<n→f j<β) (hi:i<n) (hlt:f i<g i) (he:∀j,i<j→j<n→f j=g j):
 vs β f n<vs β g n:=by
 obtain⟨k,rfl⟩:∃k,n=(i+1)+k:=⟨n-i-1,by omega⟩;rw[vs_add β f (i+1) k,vs_add β g (i+1) k,vs_congr (f:=fun j=>f (i+1+j)) (g:=fun j=>g (i+1+j)) (n:=k) (fun j hj=>he _ (by omega) (by omega)),vs_succ,vs_succ];have h1:=vs_lt (β:=β) (f:=f) (n:=i) (fun j hj=>hf j (by omega));have h2:=Nat.mul_le_mul_left (β^i) (show f i+1≤g i from hlt);rw[Nat.mul_add]at h2;omega
end Rad
namespace Go.Rad
open Go Go.RowKit
def word (w:World) (b i:Nat):Nat:=
 match w.cell? ⟨b,i,none⟩with
 |some (.int _ x)=>x.toNat
 |_=>0
def Arr (k:IntKind) (β:Nat) (w:World) (b o n:Nat):Prop:=∀i,i<n→w.cell? ⟨b,o+i,none⟩=some (.int k ((word w b (o+i):Nat):Int))∧word w b (o+i)<β
def Free (w:World) (b o n:Nat):Prop:=∀i,i<n→w.frozen? ⟨b,o+i,none⟩=false
def num (β:Nat) (w:World) (b o n:Nat):Nat:=_root_.Rad.vs β (fun i=>word w b (o+i)) n
theorem word_of_cell {w w':World} {b i b' i':Nat} (h:w'.cell? ⟨b',i',none⟩=w.cell? ⟨b,i,none⟩):word w' b' i'=word w b i:=by unfold word;rw[h]
theorem word_eq {w:World} {b i:Nat} {k:IntKind} {x:Nat} (h:w.cell? ⟨b,i,none⟩=some (.int k (x:Int))):word w b i=x:=by unfold word;rw[h];simp
theorem cell_other {w:World} {b i c j:Nat} {v:Value} (h:c≠b∨j≠i):(w.setCell ⟨b,i,none⟩ v).cell? ⟨c,j,none⟩=w.cell? ⟨c,j,none⟩:=World.cell?_setCell_other w _ _ v (by simp only[ne_eq,Addr.mk.injEq,not_and];omega)
theorem cell_same {w:World} {b i:Nat} {v u:Value} (h:w.cell? ⟨b,i,none⟩=some u):(w.setCell ⟨b,i,none⟩ v).cell? ⟨b,i,none⟩=some v:=World.cell?_setCell_same w _ v h
theorem arr_cell {k:IntKind} {β:Nat} {w:World} {b o n:Nat} (h:Arr k β w b o n) {i:Nat} (hi:i<n):
 w.cell? ⟨b,o+i,none⟩=some (.int k ((word w b (o+i):Nat):Int)):=(h i hi).1
theorem arr_lt {k:IntKind} {β:Nat} {w:World} {b o n:Nat} (h:Arr k β w b o n) {i:Nat} (hi:i<n):word w b (o+i)<β:=(h i hi).2
theorem Arr.sub {k:IntKind} {β:Nat} {w:World} {b o n:Nat} (h:Arr k β w b o n) {d m:Nat} (hm:d+m≤n):Arr k β w b (o+d) m:=by
 intro i hi;have:=h (d+i) (by omega)
 rwa [←Nat.add_assoc]at this
theorem Free.sub {w:World} {b o n:Nat} (h:Free w b o n) {d m:Nat} (hm:d+m≤n):Free w b (o+d) m:=by
 intro i hi;have:=h (d+i) (by omega)
 rwa [←Nat.add_assoc]at this
theorem num_lt {k:IntKind} {β:Nat} {w:World} {b o n:Nat} (h:Arr k β w b o n):num β w b o n<β^n:=_root_.Rad.vs_lt fun i hi=>(h i hi).2
theorem num_zero (β:Nat) (w:World) (b o:Nat):num β w b o 0=0:=rfl
theorem num_succ (β:Nat) (w:World) (b o n:Nat):num β w b o (n+1)=num β w b o n+β^n*word w b (o+n):=rfl
theorem num_add (β:Nat) (w:World) (b o n m:Nat):num β w b o (n+m)=num β w b o n+β^n*num β w b (o+n) m:=by unfold num;rw[_root_.Rad.vs_add];simp only[Nat.add_assoc]
theorem num_congr {β:Nat} {w w':World} {b o b' o' n:Nat} (h:∀i,i<n→word w' b' (o'+i)=word w b (o+i)):num β w' b' o' n=num β w b o n:=_root_.Rad.vs_congr h
structure Chg (w w':World) (b lo hi:Nat):Prop where
 os:w'.os=w.os
 tape:w'.tape=w.tape
 output:w'.output=w.output
 size:w.heap.size≤w'.heap.size
 block:∀k,k<w.heap.size→k≠b→w'.heap[k]? =w.heap[k]?
 cell:∀i,i<lo∨hi≤i→w'.cell? ⟨b,i,none⟩=w.cell? ⟨b,i,none⟩
 froz:∀i,w'.frozen? ⟨b,i,none⟩=w.frozen? ⟨b,i,none⟩
theorem Chg.refl (w:World) (b lo hi:Nat):Chg w w b lo hi:=⟨rfl,rfl,rfl,Nat.le_refl _,fun _ _ _=>rfl,fun _ _=>rfl,fun _=>rfl⟩
theorem Chg.mono {w w':World} {b lo hi lo' hi':Nat} (h:Chg w w' b lo hi) (h1:lo'≤lo) (h2:hi≤hi'):Chg w w' b lo' hi':=⟨h.os,h.tape,h.output,h.size,h.block,fun i hi=>h.cell i (by omega),h.froz⟩
theorem Chg.trans {a w w':World} {b lo hi:Nat} (h:Chg a w b lo hi) (k:Chg w w' b lo hi):Chg a w' b lo hi:=
 ⟨k.os.trans h.os,k.tape.trans h.tape,k.output.trans h.output,Nat.le_trans h.size k.size,
  fun i hi hb=>(k.block i (Nat.lt_of_lt_of_le hi h.size) hb).trans (h.block i hi hb),fun i hi=>(k.cell i hi).trans (h.cell i hi),fun i=>(k.froz i).trans (h.froz i)⟩
theorem Chg.set {a w:World} {b lo hi:Nat} (h:Chg a w b lo hi) {i:Nat} (hi1:lo≤i) (hi2:i<hi) (v:Value):Chg a (w.setCell ⟨b,i,none⟩ v) b lo hi:=
 h.trans ⟨rfl,rfl,rfl,by simp,fun k _ hb=>Below.heap_setCell _ _ _ _ hb,
  fun j hj=>cell_other (by omega),fun _=>World.frozen?_setCell _ _ _ _⟩
theorem Chg.drew {a w:World} {b lo hi:Nat} (h:Chg a w b lo hi):Chg a w.drew b lo hi:=⟨h.os,h.tape,h.output,h.size,h.block,h.cell,h.froz⟩
theorem Chg.below {w w':World} {b lo hi base:Nat} (h:Chg w w' b lo hi) (h1:base≤b) (h2:base≤w.heap.size):Below base w w':=⟨h.os,h.tape,h.output,h.size,fun k hk=>h.block k (by omega) (by omega)⟩
theorem Chg.cellAt {w w':World} {b lo hi:Nat} (h:Chg w w' b lo hi) {c i:Nat} (hc:c<w.heap.size) (ho:c≠b∨i<lo∨hi≤i):
 w'.cell? ⟨c,i,none⟩=w.cell? ⟨c,i,none⟩:=by
 by_cases hcb:c=b
 ·subst hcb;exact h.cell i (by omega)
 ·exact World.cell?_of_block (w:=w) (h.block c hc hcb)
theorem Chg.frozAt {w w':World} {b lo hi:Nat} (h:Chg w w' b lo hi) {c i:Nat} (hc:c<w.heap.size):w'.frozen? ⟨c,i,none⟩=w.frozen? ⟨c,i,none⟩:=by
 by_cases hcb:c=b
 ·subst hcb;exact h.froz i
 ·exact World.frozen?_of_block (w:=w) (h.block c hc hcb)
theorem Chg.arr {w w':World} {b lo hi:Nat} (h:Chg w w' b lo hi) {k:IntKind} {β c o n:Nat} (ha:Arr k β w c o n) (hc:0<n→c<w.heap.size)
 (hap:0<n→c≠b∨o+n≤lo∨hi≤o):Arr k β w' c o n:=by
 intro i hi;have e:=h.cellAt (hc (by omega)) (show c≠b∨o+i<lo∨_≤o+i by have:=hap (by omega);omega);rw[word_of_cell e,e];exact ha i hi
theorem Chg.num {w w':World} {b lo hi:Nat} (h:Chg w w' b lo hi) {β c o n:Nat} (hc:0<n→c<w.heap.size) (hap:0<n→c≠b∨o+n≤lo∨hi≤o):num β w' c o n=num β w c o n:=num_congr fun _ _=>word_of_cell (h.cellAt (hc (by omega)) (by have:=hap (by omega);omega))
theorem Chg.free {w w':World} {b lo hi:Nat} (h:Chg w w' b lo hi) {c o n:Nat} (hf:Free w c o n) (hc:0<n→c<w.heap.size):Free w' c o n:=fun i hi=>(h.frozAt (hc (by omega))).trans (hf i hi)
theorem block_lt {w:World} {b i:Nat} {v:Value} (h:w.cell? ⟨b,i,none⟩=some v):b<w.heap.size:=by
 unfold World.cell? at h;rcases Nat.lt_or_ge b w.heap.size with h1|h1
 ·exact h1
 ·simp[Array.getElem?_eq_none h1]at h
theorem Arr.lt {k:IntKind} {β:Nat} {w:World} {b o n:Nat} (h:Arr k β w b o n):0<n→b<w.heap.size:=fun hn=>block_lt (h 0 hn).1
theorem word_set_same {w:World} {b i:Nat} {k:IntKind} {x:Nat} (h:(w.cell? ⟨b,i,none⟩).isSome=true):word (w.setCell ⟨b,i,none⟩ (.int k (x:Int))) b i=x:=by obtain⟨u,hu⟩:=Option.isSome_iff_exists.1 h;exact word_eq (cell_same hu)
theorem word_set_other {w:World} {b i c j:Nat} {v:Value} (h:c≠b∨j≠i):word (w.setCell ⟨b,i,none⟩ v) c j=word w c j:=word_of_cell (cell_other (by omega))
theorem Arr.set {k:IntKind} {β:Nat} {w:World} {b o n:Nat} (h:Arr k β w b o n) {i x:Nat} (hx:x<β):Arr k β (w.setCell ⟨b,o+i,none⟩ (.int k (x:Int))) b o n:=by
 intro j hj;by_cases hji:j=i
 ·subst hji;have h1:=(h j hj).1;have h2:word (w.setCell ⟨b,o+j,none⟩ (.int k (x:Int))) b (o+j)=x:=word_set_same (by rw[h1];rfl);rw[h2];exact⟨cell_same h1,hx⟩
 ·have e:(w.setCell ⟨b,o+i,none⟩ (.int k (x:Int))).cell? ⟨b,o+j,none⟩=w.cell? ⟨b,o+j,none⟩:=cell_other (by omega);rw[word_of_cell e,e];exact h j hj
theorem Arr.set' {k:IntKind} {β:Nat} {w:World} {b o n:Nat} (h:Arr k β w b o n) {c i:Nat} {v:Value} (hc:c≠b∨i<o∨o+n≤i):Arr k β (w.setCell ⟨c,i,none⟩ v) b o n:=by intro j hj;have e:(w.setCell ⟨c,i,none⟩ v).cell? ⟨b,o+j,none⟩=w.cell? ⟨b,o+j,none⟩:=cell_other (by omega);rw[word_of_cell e,e];exact h j hj
theorem num_set_other {β:Nat} {w:World} {b o n c i:Nat} {v:Value} (hc:c≠b∨i<o∨o+n≤i):num β (w.setCell ⟨c,i,none⟩ v) b o n=num β w b o n:=num_congr fun j hj=>word_set_other (by omega)
end Go.Rad
