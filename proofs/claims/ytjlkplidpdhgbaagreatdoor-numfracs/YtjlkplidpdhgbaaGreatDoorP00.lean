/- A part of the proof: Sh, Pm1, Mem, Base, Laws, W1, W2, Mag, W16, W17. -/
import Derived.WalkKit
import Derived.Test.YtjlkplidpdhgbaaGreatDoorProg
import Derived.Lib.Mul64
import Derived.Laws.IdiomCopy
import Derived.Laws.MakeOwn
import Derived.Deep.QuietTactic
import Derived.BigQuiet
import Derived.WalkSpells
set_option linter.all false
set_option maxHeartbeats 1000000
set_option maxRecDepth 10000
open Go Go.RowKit
theorem dd {p:Prop} (h:p:=by decide):p:=h
theorem om {p:Prop} (h:p:=by omega):p:=h
theorem qq {p:Prop} (h:p:=by simp[go_sem]):p:=h
theorem kfl {p:Prop} (h:p:=by kernel_rfl):p:=h
theorem oi {α:Type _} {a b:α} (h:some a=some b):a=b:=Option.some.inj h
theorem nn {i:Nat} {p:Prop} (h:i∈([]:List Nat)):p:=(List.not_mem_nil h).elim
theorem zz {n:Nat} {w:World}: Below n w w:=Below.refl _ _
theorem evs {a:Act} {v:Value} (t:Nat) (h:a.eval (.tmp t)=v):a.tmps[t]?.getD undef=v:=by simpa only[Act.eval,Array.getD_eq_getD_getElem?]using h
theorem evf {a:Act} (t:Nat) (v:Value) (h:a.eval (.tmp t)=v):a.tmps[t]?.getD undef=v:=evs t h
theorem evr {a:Act} (t:Nat) {P:Value→Prop} (h:P (a.eval (.tmp t))):∃u,a.tmps[t]?.getD undef=u∧P u:=⟨_,evs t rfl,h⟩
theorem ll {α:Type _}: (∀(l:List α) (i:Nat) (a:α),l.toArray.setIfInBounds i a=(l.set i a).toArray)∧(∀(l:List α) (a b:α),(a::l).set 0 b=b::l)∧(∀(l:List α) (i:Nat) (a b:α),(a::l).set (i+1) b=a::l.set i b)∧(∀(l:List α) (i:Nat) (a:α),(a::l).drop (i+1)=l.drop i)∧(∀l:List α,l.drop 0=l)∧(∀(l:List α) (a:α),(a::l).length=l.length+1)∧([]:List α).length=0∧(∀(i:Nat) (a:α),([]:List α).set i a=[])∧(∀i:Nat,([]:List α).drop i=[]):=⟨fun _ _ _=>List.setIfInBounds_toArray ..,fun _ _ _=>rfl,fun _ _ _ _=>rfl,fun _ _ _=>rfl,fun _=>rfl,fun _ _=>rfl,rfl,fun _ _=>rfl,fun _=>List.drop_nil⟩
theorem uxw:(∀(a b:Nat) (l:List Nat),(a∈b::l)=(a=b∨a∈l))∧(∀a:Nat,(a∈([]:List Nat))=False)∧(∀p:Prop,(p∨False)=p)∧(∀p:Prop,(False→p)=True)∧((Nat→True)=True)∧(∀(p q:Nat→Prop) (b:Nat),(∀a,a=b∨q a→p a)=(p b∧∀a,q a→p a))∧(∀(p:Nat→Prop) (b:Nat),(∀a,a=b→p a)=p b):=⟨fun _ _ _=>propext List.mem_cons,fun _=>eq_false List.not_mem_nil,fun _=>or_false _,fun _=>eq_true False.elim,eq_true fun _=>trivial,fun _ _ _=>propext forall_eq_or_imp,fun _ _=>propext forall_eq⟩
theorem uw {α:Type}: (∀(a:α) (l:List α),(a::l)[0]? =some a)∧(∀(a:α) (l:List α) (i:Nat),(a::l)[i+1]? =l[i]?)∧(∀a b:α,(some a=some b)=(a=b))∧(∀(p:α→Prop) (b:α),(∀a,b=a→p a)=p b):=⟨fun _ _=>rfl,fun _ _ _=>rfl,fun _ _=>Option.some.injEq _ _,fun _ _=>propext forall_eq'⟩
theorem rs {p:Prop} (h:p:=by simp[results,go_sem,loadVar,World.cell?_setCell_same,World.cell?_setCell_other, *];try rfl):p:=h
theorem rt {p:Prop} (h:p:=by simp[results,go_sem,loadVar,World.cell?_setCell_same, *]):p:=h
theorem rsw {p:Prop} (h:p:=by simp[results,go_sem,loadVar, *];try rfl):p:=h
namespace Rad
def vs (β:Nat) (f:Nat→Nat):Nat→Nat
 |0=>0
 |n+1=>vs β f n+β^n*f n
theorem vs_zero (β:Nat) (f:Nat→Nat):vs β f 0=0:=rfl
theorem zde (β:Nat) (f:Nat→Nat) (n:Nat):vs β f (n+1)=vs β f n+β^n*f n:=rfl
theorem vs_congr {β:Nat} {f g:Nat→Nat}:∀ {n:Nat},(∀i,i<n→f i=g i)→vs β f n=vs β g n
 |0,_=>rfl
 |n+1,h=>by rw[zde,zde,vs_congr (n:=n) (fun i hi=>h i om),h n om]
theorem vs_add (β:Nat) (f:Nat→Nat) (n:Nat):∀m,vs β f (n+m)=vs β f n+β^n*vs β (fun i=>f (n+i)) m
 |0=>by simp[vs_zero]
 |m+1=>by rw[←Nat.add_assoc,zde,vs_add β f n m,zde,Nat.mul_add,Nat.pow_add,Nat.mul_assoc,Nat.add_assoc]
theorem vs_lt {β:Nat} {f:Nat→Nat}:∀ {n:Nat},(∀i,i<n→f i<β)→vs β f n<β^n
 |0,_=>by simp[vs_zero]
 |n+1,h=>by have d:=vs_lt (n:=n) (fun i hi=>h i om);have b:f n+1≤β:=h n om;have c:=Nat.mul_le_mul_left (β^n) b;rw[zde,Nat.pow_succ];rw[Nat.mul_add]at c;omega
theorem vs_one (β:Nat) (f:Nat→Nat):vs β f 1=f 0:=by simp[vs]
theorem vs_head (β:Nat) (f:Nat→Nat) (n:Nat):vs β f (n+1)=f 0+β*vs β (fun i=>f (i+1)) n:=by rw[Nat.add_comm n 1,vs_add,vs_one,Nat.pow_one];congr 2;exact vs_congr fun i _=>by rw[Nat.add_comm]
theorem vs_zeros {β:Nat} {f:Nat→Nat}:∀ {n:Nat},(∀i,i<n→f i=0)→vs β f n=0
 |0,_=>rfl
 |n+1,h=>by rw[zde,vs_zeros (n:=n) (fun i hi=>h i om),h n om];simp
theorem vs_top {β:Nat} {f:Nat→Nat} {n m:Nat} (h:n≤m) (b:∀i,n≤i→i<m→f i=0):vs β f m=vs β f n:=by obtain⟨k,rfl⟩:=Nat.exists_eq_add_of_le h;rw[vs_add,vs_zeros (fun i hi=>b (n+i) om om)];omega
theorem vs_ge {β:Nat} {f:Nat→Nat} {n:Nat} (b:0<n) (h:f (n-1)≠0):β^(n-1)≤vs β f n:=by obtain⟨k,rfl⟩:∃k,n=k+1:=⟨n-1,by omega⟩;rw[zde];simp only[Nat.add_sub_cancel]at h⊢;have:β^k*1≤β^k*f k:=Nat.mul_le_mul_left _ om;omega
theorem vs_lt_of_place {β:Nat} {f g:Nat→Nat} {n i:Nat} (l:∀j,j<n→f j<β) (hi:i<n) (b:f i<g i) (d:∀j,i<j→j<n→f j=g j):
 vs β f n<vs β g n:=by
 obtain⟨k,rfl⟩:∃k,n=(i+1)+k:=⟨n-i-1,by omega⟩;rw[vs_add β f (i+1) k,vs_add β g (i+1) k,vs_congr (f:=fun j=>f (i+1+j)) (g:=fun j=>g (i+1+j)) (n:=k) (fun j m=>d _ om om),zde,zde];have o:=vs_lt (β:=β) (f:=f) (n:=i) (fun j m=>l j om);have c:=Nat.mul_le_mul_left (β^i) (show f i+1≤g i from b);rw[Nat.mul_add]at c;omega
end Rad
namespace Go.Rad
open Go Go.RowKit
def word (w:World) (b i:Nat):Nat:=
 match w.cell? ⟨b,i,none⟩with
 |some (.int _ x)=>x.toNat
 |_=>0
def Arr (k:IntKind) (β:Nat) (w:World) (b o n:Nat):Prop:=∀i,i<n→w.cell? ⟨b,o+i,none⟩=some (.int k ((word w b (o+i):Nat):Int))∧word w b (o+i)<β
def Free (w:World) (b o n:Nat):Prop:=∀i,i<n→w.frozen? ⟨b,o+i,none⟩=false
def num (β:Nat) (w:World) (b o n:Nat):Nat:=_root_.Rad.vs β (fun i=>word w b (o+i)) n
theorem zac {w w':World} {b i c d:Nat} (h:w'.cell? ⟨c,d,none⟩=w.cell? ⟨b,i,none⟩):word w' c d=word w b i:=by unfold word;rw[h]
theorem zb9 {w:World} {b i:Nat} {k:IntKind} {x:Nat} (h:w.cell? ⟨b,i,none⟩=some (.int k (x:Int))):word w b i=x:=by unfold word;rw[h];simp
theorem zaa {w:World} {b i c j:Nat} {v:Value} (h:c≠b∨j≠i):(w.setCell ⟨b,i,none⟩ v).cell? ⟨c,j,none⟩=w.cell? ⟨c,j,none⟩:=World.cell?_setCell_other w _ _ v (by simp only[ne_eq,Addr.mk.injEq,not_and];omega)
theorem zav {w:World} {b i:Nat} {v u:Value} (h:w.cell? ⟨b,i,none⟩=some u):(w.setCell ⟨b,i,none⟩ v).cell? ⟨b,i,none⟩=some v:=World.cell?_setCell_same w _ v h
theorem zah {k:IntKind} {β:Nat} {w:World} {b o n:Nat} (h:Arr k β w b o n) {i:Nat} (hi:i<n):
 w.cell? ⟨b,o+i,none⟩=some (.int k ((word w b (o+i):Nat):Int)):=(h i hi).1
theorem zaz {k:IntKind} {β:Nat} {w:World} {b o n:Nat} (h:Arr k β w b o n) {i:Nat} (hi:i<n):word w b (o+i)<β:=(h i hi).2
theorem Arr.sub {k:IntKind} {β:Nat} {w:World} {b o n:Nat} (h:Arr k β w b o n) {d m:Nat} (c:d+m≤n):Arr k β w b (o+d) m:=by
 intro i hi;have:=h (d+i) om
 rwa [←Nat.add_assoc]at this
theorem Free.sub {w:World} {b o n:Nat} (h:Free w b o n) {d m:Nat} (c:d+m≤n):Free w b (o+d) m:=by
 intro i hi;have:=h (d+i) om
 rwa [←Nat.add_assoc]at this
theorem zbb {k:IntKind} {β:Nat} {w:World} {b o n:Nat} (h:Arr k β w b o n):num β w b o n<β^n:=_root_.Rad.vs_lt fun i hi=>(h i hi).2
theorem zas (β:Nat) (w:World) (b o:Nat):num β w b o 0=0:=rfl
theorem zam (β:Nat) (w:World) (b o n:Nat):num β w b o (n+1)=num β w b o n+β^n*word w b (o+n):=rfl
theorem zba (β:Nat) (w:World) (b o n m:Nat):num β w b o (n+m)=num β w b o n+β^n*num β w b (o+n) m:=by unfold num;rw[_root_.Rad.vs_add];simp only[Nat.add_assoc]
theorem za1 {β:Nat} {w w':World} {b o c o' n:Nat} (h:∀i,i<n→word w' c (o'+i)=word w b (o+i)):num β w' c o' n=num β w b o n:=_root_.Rad.vs_congr h
structure Chg (w w':World) (b lo hi:Nat):Prop where
 os:w'.os=w.os
 tape:w'.tape=w.tape
 output:w'.output=w.output
 size:w.heap.size≤w'.heap.size
 block:∀k,k<w.heap.size→k≠b→w'.heap[k]? =w.heap[k]?
 cell:∀i,i<lo∨hi≤i→w'.cell? ⟨b,i,none⟩=w.cell? ⟨b,i,none⟩
 froz:∀i,w'.frozen? ⟨b,i,none⟩=w.frozen? ⟨b,i,none⟩
theorem Chg.refl (w:World) (b lo hi:Nat):Chg w w b lo hi:=⟨rfl,rfl,rfl,Nat.le_refl _,fun _ _ _=>rfl,fun _ _=>rfl,fun _=>rfl⟩
theorem Chg.mono {w w':World} {b lo hi lo' hi':Nat} (h:Chg w w' b lo hi) (c:lo'≤lo) (d:hi≤hi'):Chg w w' b lo' hi':=⟨h.os,h.tape,h.output,h.size,h.block,fun i hi=>h.cell i om,h.froz⟩
theorem Chg.trans {a w w':World} {b lo hi:Nat} (h:Chg a w b lo hi) (k:Chg w w' b lo hi):Chg a w' b lo hi:=
 ⟨k.os.trans h.os,k.tape.trans h.tape,k.output.trans h.output,Nat.le_trans h.size k.size,
  fun i hi c=>(k.block i (Nat.lt_of_lt_of_le hi h.size) c).trans (h.block i hi c),fun i hi=>(k.cell i hi).trans (h.cell i hi),fun i=>(k.froz i).trans (h.froz i)⟩
theorem Chg.set {a w:World} {b lo hi:Nat} (h:Chg a w b lo hi) {i:Nat} (d:lo≤i) (f:i<hi) (v:Value):Chg a (w.setCell ⟨b,i,none⟩ v) b lo hi:=
 h.trans ⟨rfl,rfl,rfl,by simp,fun k _ c=>Below.heap_setCell _ _ _ _ c,
  fun j g=>zaa om,fun _=>World.frozen?_setCell _ _ _ _⟩
theorem Chg.drew {a w:World} {b lo hi:Nat} (h:Chg a w b lo hi):Chg a w.drew b lo hi:=⟨h.os,h.tape,h.output,h.size,h.block,h.cell,h.froz⟩
theorem Chg.below {w w':World} {b lo hi c:Nat} (h:Chg w w' b lo hi) (d:c≤b) (f:c≤w.heap.size):Below c w w':=⟨h.os,h.tape,h.output,h.size,fun k g=>h.block k om om⟩
theorem Chg.cellAt {w w':World} {b lo hi:Nat} (h:Chg w w' b lo hi) {c i:Nat} (f:c<w.heap.size) (g:c≠b∨i<lo∨hi≤i):
 w'.cell? ⟨c,i,none⟩=w.cell? ⟨c,i,none⟩:=by
 by_cases d:c=b
 ·subst d;exact h.cell i om
 ·exact World.cell?_of_block (w:=w) (h.block c f d)
theorem Chg.frozAt {w w':World} {b lo hi:Nat} (h:Chg w w' b lo hi) {c i:Nat} (f:c<w.heap.size):w'.frozen? ⟨c,i,none⟩=w.frozen? ⟨c,i,none⟩:=by
 by_cases d:c=b
 ·subst d;exact h.froz i
 ·exact World.frozen?_of_block (w:=w) (h.block c f d)
theorem Chg.arr {w w':World} {b lo hi:Nat} (h:Chg w w' b lo hi) {k:IntKind} {β c o n:Nat} (f:Arr k β w c o n) (g:0<n→c<w.heap.size)
 (d:0<n→c≠b∨o+n≤lo∨hi≤o):Arr k β w' c o n:=by
 intro i hi;have e:=h.cellAt (g om) (show c≠b∨o+i<lo∨_≤o+i by have:=d om;omega);rw[zac e,e];exact f i hi
theorem Chg.num {w w':World} {b lo hi:Nat} (h:Chg w w' b lo hi) {β c o n:Nat} (f:0<n→c<w.heap.size) (d:0<n→c≠b∨o+n≤lo∨hi≤o):num β w' c o n=num β w c o n:=za1 fun _ _=>zac (h.cellAt (f om) (by have:=d om;omega))
theorem Chg.free {w w':World} {b lo hi:Nat} (h:Chg w w' b lo hi) {c o n:Nat} (f:Free w c o n) (d:0<n→c<w.heap.size):Free w' c o n:=fun i hi=>(h.frozAt (d om)).trans (f i hi)
theorem zb6 {w:World} {b i:Nat} {v:Value} (h:w.cell? ⟨b,i,none⟩=some v):b<w.heap.size:=by
 unfold World.cell? at h;rcases Nat.lt_or_ge b w.heap.size with c|c
 ·exact c
 ·simp[Array.getElem?_eq_none c]at h
theorem Arr.lt {k:IntKind} {β:Nat} {w:World} {b o n:Nat} (h:Arr k β w b o n):0<n→b<w.heap.size:=fun c=>zb6 (h 0 c).1
theorem zby {w:World} {b i:Nat} {k:IntKind} {x:Nat} (h:(w.cell? ⟨b,i,none⟩).isSome=true):word (w.setCell ⟨b,i,none⟩ (.int k (x:Int))) b i=x:=by obtain⟨u,c⟩:=Option.isSome_iff_exists.1 h;exact zb9 (zav c)
theorem zbf {w:World} {b i c j:Nat} {v:Value} (h:c≠b∨j≠i):word (w.setCell ⟨b,i,none⟩ v) c j=word w c j:=zac (zaa om)
theorem Arr.set {k:IntKind} {β:Nat} {w:World} {b o n:Nat} (h:Arr k β w b o n) {i x:Nat} (l:x<β):Arr k β (w.setCell ⟨b,o+i,none⟩ (.int k (x:Int))) b o n:=by
 intro j f;by_cases c:j=i
 ·subst c;have d:=(h j f).1;have g:word (w.setCell ⟨b,o+j,none⟩ (.int k (x:Int))) b (o+j)=x:=zby (by rw[d];rfl);rw[g];exact⟨zav d,l⟩
 ·have e:(w.setCell ⟨b,o+i,none⟩ (.int k (x:Int))).cell? ⟨b,o+j,none⟩=w.cell? ⟨b,o+j,none⟩:=zaa om;rw[zac e,e];exact h j f
theorem Arr.set' {k:IntKind} {β:Nat} {w:World} {b o n:Nat} (h:Arr k β w b o n) {c i:Nat} {v:Value} (f:c≠b∨i<o∨o+n≤i):Arr k β (w.setCell ⟨c,i,none⟩ v) b o n:=by intro j d;have e:(w.setCell ⟨c,i,none⟩ v).cell? ⟨b,o+j,none⟩=w.cell? ⟨b,o+j,none⟩:=zaa om;rw[zac e,e];exact h j d
theorem zar {β:Nat} {w:World} {b o n c i:Nat} {v:Value} (d:c≠b∨i<o∨o+n≤i):num β (w.setCell ⟨c,i,none⟩ v) b o n=num β w b o n:=za1 fun j f=>zbf om
end Go.Rad
namespace Go.Proofs.YtjlkplidpdhgbaaGreatDoor
open Go Go.Proofs Go.RowKit Go.Rad
def B:Nat:=18446744073709551616
def lo (n:Nat):Nat:=n%18446744073709551616
def hi (n:Nat):Nat:=n / 18446744073709551616
def sb (x y c:Nat):Nat:=(x+18446744073709551616-y-c)%18446744073709551616
def bw (x y c:Nat):Nat:=if x<y+c then 1 else 0
theorem zbg:0<B:=by decide
theorem zdm (n:Nat):lo n<B:=Nat.mod_lt _ dd
theorem lo_hi (n:Nat):lo n+B*hi n=n:=Nat.mod_add_div n _
theorem sb_lt (x y c:Nat):sb x y c<B:=Nat.mod_lt _ dd
theorem bw_le (x y c:Nat):bw x y c≤1:=by unfold bw;split <;> omega
theorem sb_bw {x y c:Nat} (d:x<B) (f:y<B) (b:c≤1):sb x y c+y+c=x+B*bw x y c:=by
 unfold sb bw B at*
 split <;> omega
theorem hi_le_one {x y c:Nat} (d:x<B) (f:y<B) (b:c≤1):hi (x+y+c)≤1:=by unfold hi B at *;omega
theorem hi_lt {n:Nat} (h:n<B*B):hi n<B:=by unfold hi;exact Nat.div_lt_of_lt_mul h
theorem add64 (x y c:Nat) (w:World) (b:c≤1):
 (callFunc 131 #[.int .u64 x,.int .u64 y,.int .u64 c]).run Tryz.prog w=.ok (.value (.tuple #[.int .u64 (lo (x+y+c):Nat),.int .u64 (hi (x+y+c):Nat)])) w:=by
 rw[run_callFunc_extern Tryz.func131 kfl kfl kfl (e:=add64Entry) kfl,run_add64 x y c om om om om];simp only[Result.andThen,lo,hi];congr 5 <;> omega
theorem zex (x y:Nat) (w:World):
 (callFunc 131 #[.int .u64 x,.int .u64 y,.int .u64 0]).run Tryz.prog w=.ok (.value (.tuple #[.int .u64 (lo (x+y):Nat),.int .u64 (hi (x+y):Nat)])) w:=by
 simpa using add64 x y 0 w om
theorem add64_y (x c:Nat) (w:World) (b:c≤1):
 (callFunc 131 #[.int .u64 x,.int .u64 0,.int .u64 c]).run Tryz.prog w=.ok (.value (.tuple #[.int .u64 (lo (x+c):Nat),.int .u64 (hi (x+c):Nat)])) w:=by
 simpa using add64 x 0 c w b
def sub64E:Array Value→Sem Value:=fun args=>do
 let (x, y, b) ← Extern.MathBitsCarry.three "Sub64" args
 pure (Extern.MathBitsCarry.pair ((x+Extern.MathBitsCarry.m64-y-b)%Extern.MathBitsCarry.m64) (if x<y+b then 1 else 0))
theorem run_sub64E (x y b:Nat) (c:b≤1) (w:World):
 (sub64E #[.int .u64 x,.int .u64 y,.int .u64 b]).run Tryz.prog w=.ok (.tuple #[.int .u64 (sb x y b:Nat),.int .u64 (bw x y b:Nat)]) w:=by
 have:b=0∨b=1:=om;rcases this with rfl|rfl <;> rfl
theorem sub64 (x y b:Nat) (w:World) (c:b≤1):
 (callFunc 170 #[.int .u64 x,.int .u64 y,.int .u64 b]).run Tryz.prog w=.ok (.value (.tuple #[.int .u64 (sb x y b:Nat),.int .u64 (bw x y b:Nat)])) w:=by
 rw[run_callFunc_extern Tryz.func170 kfl kfl kfl (e:=sub64E) kfl,run_sub64E x y b c];rfl
theorem sub64_c (x y:Nat) (w:World):
 (callFunc 170 #[.int .u64 x,.int .u64 y,.int .u64 0]).run Tryz.prog w=.ok (.value (.tuple #[.int .u64 (sb x y 0:Nat),.int .u64 (bw x y 0:Nat)])) w:=by
 simpa using sub64 x y 0 w om
theorem sub64_y (x c:Nat) (w:World) (b:c≤1):
 (callFunc 170 #[.int .u64 x,.int .u64 0,.int .u64 c]).run Tryz.prog w=.ok (.value (.tuple #[.int .u64 (sb x 0 c:Nat),.int .u64 (bw x 0 c:Nat)])) w:=by
 simpa using sub64 x 0 c w b
theorem sub64_x (y c:Nat) (w:World) (b:c≤1):
 (callFunc 170 #[.int .u64 0,.int .u64 y,.int .u64 c]).run Tryz.prog w=.ok (.value (.tuple #[.int .u64 (sb 0 y c:Nat),.int .u64 (bw 0 y c:Nat)])) w:=by
 simpa using sub64 0 y c w b
theorem maskN (a:Nat) (b:a<18446744073709551616):bits .and .u64 (a:Int) 4294967295=((a%4294967296:Nat):Int):=by have h:=bits_and_u64_nat a 4294967295 b om;have e:a &&& 4294967295=a%4294967296:=Nat.and_two_pow_sub_one_eq_mod a 32;rw[e]at h;exact h
theorem divN (a:Nat):(a:Int) / 4294967296=((a / 4294967296:Nat):Int):=by omega
theorem mulN (a b:Nat):(a:Int)*(b:Int)=((a*b:Nat):Int):=(Int.natCast_mul a b).symm
theorem addN (a b:Nat):(a:Int)+(b:Int)=((a+b:Nat):Int):=(Int.natCast_add a b).symm
theorem zc2 (a:Nat) (b:a<18446744073709551616):IntKind.u64.wrap (a:Int)=(a:Int):=by rw[IntKind.wrap_u64];omega
theorem wrapM (a:Nat):IntKind.u64.wrap (a:Int)=((a%18446744073709551616:Nat):Int):=by rw[IntKind.wrap_u64];omega
theorem mul64 (x y:Nat) (k:x<B) (l:y<B) (w:World):
 Calls Tryz.prog 85 #[.int .u64 x,.int .u64 y] w fun e w'=>e=.returned (.tuple #[.int .u64 (hi (x*y):Nat),.int .u64 (lo (x*y):Nat)])∧w'=w:=by
 unfold B at k l;unfold hi lo;obtain⟨n,m,bw,j⟩:=Lib.mul64_hi x y k l;have p:=Lib.half_mul_le (a:=x / 4294967296) (b:=y / 4294967296) om om;have q:=Lib.half_mul_le (a:=x / 4294967296) (b:=y%4294967296) om om;have r:=Lib.half_mul_le (a:=x%4294967296) (b:=y / 4294967296) om om;have c:x / 4294967296*(y / 4294967296)<18446744073709551616:=om;have d:x / 4294967296*(y%4294967296)<18446744073709551616:=om;have f:x%4294967296*(y / 4294967296)<18446744073709551616:=om;have g:x / 4294967296*(y / 4294967296)+(x / 4294967296*(y%4294967296)+x%4294967296*(y%4294967296) / 4294967296) / 4294967296<18446744073709551616:=om;have o:x / 4294967296*(y / 4294967296)+(x / 4294967296*(y%4294967296)+x%4294967296*(y%4294967296) / 4294967296) / 4294967296+((x / 4294967296*(y%4294967296)+x%4294967296*(y%4294967296) / 4294967296)%4294967296+x%4294967296*(y / 4294967296)) / 4294967296<18446744073709551616:=om;go_enter Tryz.func85,Tryz.ntmps85;go_wp2;simp only[maskN x k,maskN y l,divN,mulN,addN,zc2 _ n,zc2 _ d,zc2 _ m,maskN _ m,zc2 _ f,zc2 _ bw,zc2 _ c,zc2 _ g,zc2 _ o,wrapM (x*y)];rw[j];go_ret2;exact⟨rfl,rfl⟩
theorem ze3 {a b c:Nat} (j:a<B) (k:b<B) (l:c<B):
 lo (lo (a*b)+c)=lo (a*b+c)∧lo (hi (a*b)+hi (lo (a*b)+c))=hi (a*b+c)∧hi (lo (a*b)+c)≤1∧hi (a*b+c)<B:=by
 have g:a*b≤(B-1)*(B-1):=Nat.mul_le_mul om om;have d:a*b+c<B*B:=(by have:(B-1)*(B-1)+B≤B*B:=dd;omega);have f:=hi_lt d;unfold lo hi B at *;generalize a*b=p at *;refine⟨by omega,by omega,by omega,f⟩
theorem zce (a b c:Nat) (g:a<B) (j:b<B) (m:c<B) (w:World):
 Calls Tryz.prog 104 #[.int .u64 a,.int .u64 b,.int .u64 c] w fun e w'=>e=.returned (.tuple #[.int .u64 (lo (a*b+c):Nat),.int .u64 (hi (a*b+c):Nat)])∧w'=w:=by
 obtain⟨d,f,k,l⟩:=ze3 g j m;have o:=zex;have p:=add64_y (hi (a*b)) _ w k;rw[←d,←f];clear d f l;go_enter Tryz.func104,Tryz.ntmps104;go_wp2_with (go_at_call 85;refine(mul64 a b g j _).mono ?_;rintro e w' ⟨rfl,n⟩;subst n);go_ret2;exact⟨rfl,rfl⟩
end Go.Proofs.YtjlkplidpdhgbaaGreatDoor
namespace Go.Rad
open Go Go.RowKit
def Sl (ao:Option Addr) (b o n:Nat):Prop:=0<n→ao=some ⟨b,o,none⟩
theorem Sl.mk (b o n:Nat):Sl (some ⟨b,o,none⟩) b o n:=fun _=>rfl
structure Made (k:IntKind) (β:Nat) (w w':World) (n:Nat):Prop where
 below:Below w.heap.size w w'
 lt:w.heap.size<w'.heap.size
 arr:Arr k β w' w.heap.size 0 n
 free:Free w' w.heap.size 0 n
 zero:∀i,i<n→word w' w.heap.size i=0
theorem zgy {k:IntKind} {β:Nat} (g:0<β) (w:World) (c:Array Value) (e:TypeId) (n:Nat) (j:c.size=n) (f:∀i (h:i<c.size),c[i]=.int k 0):
 Made k β w (w.alloc (.cells c e)) n:=by
 have b:∀i,i<n→(w.alloc (.cells c e)).cell? ⟨w.heap.size,i,none⟩=some (.int k 0):=fun i hi=>by rw[World.cell?_alloc_at (w:=w) c e w.heap.size i rfl];have:i<c.size:=om;rw[Array.getElem?_eq_getElem this,f i this]
 have d:∀i,i<n→word (w.alloc (.cells c e)) w.heap.size i=0:=fun i hi=>zb9 (k:=k) (x:=0) (by simpa using b i hi);refine⟨(zz).alloc (Nat.le_refl _) _,by simp,fun i hi=>?_,fun i hi=>?_,d⟩
 ·rw[Nat.zero_add,d i hi];exact⟨by simpa using b i hi,g⟩
 ·rw[Nat.zero_add];exact World.frozen?_alloc_at (w:=w) c e w.heap.size i rfl
theorem zau {P:Program} {w:World} {d:Array Oper} {rest:List Oper} {o:Oper} {a:Act} {Q:Exit→Act→World→Prop} (k:IntKind) (β:Nat) (G:0<β)
 (E:o.guard=none) (l c:Operand) (t:TypeId) (g:o.op=Op.makeSlice t l c) (e:TypeId) (i:TypeInfo) (s:P.underlying t=some (.slice e)) (u:P.info? e=some i)
 (x:i.zero=some (.int k 0)) (y:i.size=1) (r q:IntKind) (L C:Int) (n:Nat) (F:a.eval l=.int r L) (D:a.eval c=.int q C) (B:L=(n:Int)) (z:C=(n:Int))
 (m:i.bytes*n≤281474976710656) (p:n≤maxLen)
 (A:∀w',Made k β w w' n→wpList P d Q rest (a.put o.dst (.slice (some ⟨w.heap.size,0,none⟩) n n)) w'):
 wpList P d Q (o::rest) a w:=by
 refine wpList_plain E fun K f=>?_;subst B;subst z;have b:=run_make (P:=P) w t e i (.int k 0) s u x r q n n om om (by rw[←Int.natCast_mul];exact Int.ofNat_le.2 m) (by have:=p;unfold maxLen at this;omega);clear m p;unfold Oper.wp;simp[execOp,g,F,D,b,Result.andThen];refine f _ _ (A _ (zgy G w _ e n (by simp[madeCells,y]) fun j H=>?_));simp[madeCells,Value.cells,Nat.mod_one]
structure Copied (k:IntKind) (β:Nat) (w w':World) (b o m c p:Nat):Prop where
 chg:Chg w w' b o (o+m)
 arr:Arr k β w' b o m
 same:∀i,i<m→word w' b (o+i)=word w c (p+i)
theorem zez {k:IntKind} {β:Nat} {w:World} {b o n:Nat} (h:Arr k β w b o n) {m:Nat} (f:m≤n):
 ∀j v,((List.range m).map fun i=>Value.int k ((word w b (o+i):Nat):Int))[j]? =some v→w.cell? ((⟨b,o,none⟩:Addr).add j)=some v:=by
 intro j v c;have d:j<m:=(by have:=(List.getElem?_eq_some_iff.1 c).1;simpa using this);simp only[List.getElem?_map,List.getElem?_range d,Option.map_some,Option.some.injEq]at c;subst c;have e:(⟨b,o,none⟩:Addr).add j=⟨b,o+j,none⟩:=(by unfold Addr.add;split <;> simp_all);rw[e];exact zah h om
theorem zcz (b:Nat):∀(vs:List Value) (o:Nat) (w:World),Chg w (w.setCells b o vs) b o (o+vs.length)
 |[],o,w=>Chg.refl _ _ _ _
 |v::r,o,w=>by have c:=(Chg.refl w b o (o+(r.length+1))).set (i:=o) om om v;have d:=(zcz b r (o+1) (w.setCell ⟨b,o,none⟩ v)).mono (lo':=o) (hi':=o+(r.length+1)) om om;exact c.trans d
theorem za4 {P:Program} {w:World} {z:Array Oper} {rest:List Oper} {o:Oper} {a:Act} {Q:Exit→Act→World→Prop} (k:IntKind) (β:Nat)
 (G:o.guard=none) (d s:Operand) (A I:TypeId) (N:o.op=.call {callee:= .builtin .copy,args:=#[d,s],argTypes:=#[A,I]})
 (f:TypeId) (R:P.underlying A=some (.slice f)) (y:(P.info? f).map (·.size)=some 1)
 (D J:Option Addr) (b C c cs:Nat) (M:a.eval d=.slice D b C) (O:a.eval s=.slice J c cs) (l p q os:Nat)
 (E:Sl D l p b) (H:Sl J q os c) (r:Arr k β w l p b) (F:Free w l p b) (t:Arr k β w q os c)
 (h:∀w',Copied k β w w' l p (min c b) q os→wpList P z Q rest (a.put o.dst (.int .i64 (min c b:Nat))) w'):
 wpList P z Q (o::rest) a w:=by
 refine wpList_plain G fun K L=>?_;have x:Nat.min c b=min c b:=rfl;by_cases B:min c b=0
 ·have g:=run_copy_none (P:=P) w A I o.type f D J b C c cs R y B;unfold Oper.wp;simp[execOp,N,resolve,invoke,builtin,M,O,g,Result.andThen];refine L _ _ ?_;have:=h w ⟨Chg.refl _ _ _ _,by rw[B];intro i hi;omega,by rw[B];intro i hi;omega⟩;rw[B]at this;exact this
 ·obtain rfl:=E om;obtain rfl:=H om;have g:=run_copy_cells (P:=P) w A I o.type f l p b C ⟨q,os,none⟩ c cs ((List.range (min c b)).map fun i=>Value.int k ((word w q (os+i):Nat):Int)) R y
   (by simp[x]) (zez t om) (fun j u=>by rw[zah r (by simp at u;omega)];rfl) (fun j u=>F j (by simp at u;omega))
   (fun v S=>by obtain⟨_,_,rfl⟩:=List.mem_map.1 S;rfl)
  simp only[List.length_map,List.length_range]at g;have m:∀i,i<min c b→(w.setCells l p ((List.range (min c b)).map fun i=>Value.int k ((word w q (os+i):Nat):Int))).cell? ⟨l,p+i,none⟩=some (.int k ((word w q (os+i):Nat):Int)):=(by intro i hi;rw[World.cell?_setCells_in l _ p w (fun j u=>by rw[zah r (by simp at u;omega)];rfl) i (by simpa using hi)];simp);have n:∀i,i<min c b→word (w.setCells l p ((List.range (min c b)).map fun i=>Value.int k ((word w q (os+i):Nat):Int))) l (p+i)=word w q (os+i):=fun i hi=>zb9 (m i hi);unfold Oper.wp;simp[execOp,N,resolve,invoke,builtin,M,O,g,Result.andThen];refine L _ _ (h _ ⟨?_,fun i hi=>?_,n⟩)
  ·have:=zcz l ((List.range (min c b)).map fun i=>Value.int k ((word w q (os+i):Nat):Int)) p w;simpa using this
  ·rw[n i hi];exact⟨m i hi,zaz t om⟩
structure Cleared (k:IntKind) (β:Nat) (w w':World) (b o n:Nat):Prop where
 chg:Chg w w' b o (o+n)
 arr:Arr k β w' b o n
 zero:∀i,i<n→word w' b (o+i)=0
theorem zcw {P:Program} {w:World} {r:Array Oper} {rest:List Oper} {o:Oper} {a:Act} {Q:Exit→Act→World→Prop} (k:IntKind) (β:Nat) (N:0<β)
 (y:o.guard=none) (s:Operand) (t:TypeId) (C:o.op=.call {callee:= .builtin .clear,args:=#[s],argTypes:=#[t]})
 (e:TypeId) (i:TypeInfo) (E:P.underlying t=some (.slice e)) (G:P.info? e=some i) (H:i.zero=some (.int k 0))
 (u:Option Addr) (n c:Nat) (D:a.eval s=.slice u n c) (b d:Nat) (z:Sl u b d n) (B:Arr k β w b d n) (I:Free w b d n)
 (h:∀w',Cleared k β w w' b d n→wpList P r Q rest (a.put o.dst (.tuple #[])) w'):
 wpList P r Q (o::rest) a w:=by
 refine wpList_plain y fun K A=>?_;by_cases J:n=0
 ·subst J;have g:(Builtin.clear_ #[t] o.type #[.slice u 0 c]).run P w=.ok (.tuple #[]) w:=(by cases u <;> simp[Builtin.clear_,run_underlying E]);unfold Oper.wp;simp[execOp,C,resolve,invoke,builtin,D,g,Result.andThen];exact A _ _ (h w ⟨Chg.refl _ _ _ _,fun i hi=>by omega,fun i hi=>by omega⟩)
 ·obtain rfl:=z om;have l:(Builtin.zeroCells (Value.int k 0).cells n).toList=(List.range n).map fun _=>Value.int k 0:=(by simp[Builtin.zeroCells,Value.cells,Nat.mod_one,Array.toList_map,Array.toList_range]);have q:=run_storeCells_cells (P:=P) b d ((List.range n).map fun _=>Value.int k 0) 0 w
   (fun j p=>by rw[Nat.add_zero,zah B (by simpa using p)];rfl) (fun j p=>by rw[Nat.add_zero];exact I j (by simpa using p)) (fun v L=>by obtain⟨_,_,rfl⟩:=List.mem_map.1 L;rfl)
  rw[Nat.add_zero]at q;have M:(zeroValue e).run P w=.ok (.int k 0) w:=(by simp[zeroValue,typeInfo,G,H]);have g:(Builtin.clear_ #[t] o.type #[.slice (some ⟨b,d,none⟩) n c]).run P w=.ok (.tuple #[]) (w.setCells b d ((List.range n).map fun _=>Value.int k 0)):=(by obtain⟨m,rfl⟩:∃m,n=m+1:=⟨n-1,by omega⟩;simp[Builtin.clear_,run_underlying E,M,l,q]);have f:∀i,i<n→(w.setCells b d ((List.range n).map fun _=>Value.int k 0)).cell? ⟨b,d+i,none⟩=some (.int k 0):=(by intro i hi;rw[World.cell?_setCells_in b _ d w (fun j p=>by rw[zah B (by simpa using p)];rfl) i (by simpa using hi)];simp);have F:∀i,i<n→word (w.setCells b d ((List.range n).map fun _=>Value.int k 0)) b (d+i)=0:=fun i hi=>zb9 (k:=k) (x:=0) (by simpa using f i hi);unfold Oper.wp;simp[execOp,C,resolve,invoke,builtin,D,g,Result.andThen];refine A _ _ (h _ ⟨?_,fun i hi=>by rw[F i hi];exact⟨by simpa using f i hi,N⟩,F⟩);have:=zcz b ((List.range n).map fun _=>Value.int k 0) d w;simpa using this
end Go.Rad
namespace Go.Proofs.YtjlkplidpdhgbaaGreatDoor
open Go Go.Proofs Go.RowKit Go.Rad
theorem zfy (w:World) (l:Option Addr) (b o n c m:Nat) (F:Sl l b o n) (G:n≤c) (p:n≤maxLen) (u:m≤maxLen) (D:Arr .u64 B w b o n):
 Calls Tryz.prog 86 #[.slice l n c,.int .i64 m] w fun e w'=>∃k,e=.returned (.slice l k k)∧w'=w∧k≤m∧k≤n∧(k=0∨word w b (o+(k-1))≠0)∧
  (∀i,k≤i→i<m→i<n→word w b (o+i)=0):=by
 unfold maxLen at p u;go_enter Tryz.func86,Tryz.ntmps86;go_wp2
 all_goals
  go_loop [1] (fun s=>∃k:Nat,k≤m∧k≤n∧s=.int .i64 k∧∀i,k≤i→i<m→i<n→word w b (o+i)=0) (fun s=>(intOf s).toNat)
  case atStart=>exact⟨_,by omega,by omega,rfl,fun i C y z=>by omega⟩
  case round=>
   obtain⟨k,r,t,rfl,g⟩:=hrel;by_cases A:k=0
   ·subst A;go_wp2;go_ret;exact⟨0,rfl,rfl,by omega,by omega,.inl rfl,g⟩
   ·obtain⟨j,rfl⟩:∃j,k=j+1:=⟨k-1,by omega⟩;obtain rfl:=F om;have d:=zah D (i:=j) om;by_cases f:word w b (o+j)=0
    ·have x:∀i,j≤i→i<m→i<n→word w b (o+i)=0:=fun i C y z=>by
      by_cases q:i=j
      ·subst q;exact f
      ·exact g i om y z
     rw[f]at d;clear g f;go_wp2;go_round
     case rel=>exact⟨j,by omega,by omega,by go_num,x⟩
     case measure=>simp[intOf]
    ·have E:¬((word w b (o+j):Nat):Int)=0:=om;go_wp2;go_ret;exact⟨j+1,by simp,rfl,r,t,.inr (by simpa using f),g⟩
theorem isNaNi (x:Int) (w:World):Calls Tryz.prog 110 #[.int .i64 x] w fun e w'=>e=.returned (.bool false)∧w'=w:=by go_enter Tryz.func110,Tryz.ntmps110;go_wp2;go_ret;exact⟨rfl,rfl⟩
theorem isNaNu (x:Int) (w:World):Calls Tryz.prog 146 #[.int .u64 x] w fun e w'=>e=.returned (.bool false)∧w'=w:=by go_enter Tryz.func146,Tryz.ntmps146;go_wp2;go_ret;exact⟨rfl,rfl⟩
def zat (x y:Int):Int:=if x<y then -1 else if x=y then 0 else 1
theorem zc4 (x y:Int) (w:World):Calls Tryz.prog 74 #[.int .i64 x,.int .i64 y] w fun e w'=>e=.returned (.int .i64 (zat x y))∧w'=w:=by
 by_cases d:x<y
 ·have b:zat x y= -1:=if_pos d;rw[b];clear b;go_enter Tryz.func74,Tryz.ntmps74;go_wp2_with (go_at_call 110;refine(isNaNi _ _).mono ?_;rintro e w' ⟨rfl,c⟩;subst c);go_ret;exact⟨rfl,rfl⟩
 ·by_cases f:y<x
  ·have b:zat x y=1:=(by unfold zat;rw[if_neg d,if_neg om]);rw[b];clear b;go_enter Tryz.func74,Tryz.ntmps74;go_wp2_with (go_at_call 110;refine(isNaNi _ _).mono ?_;rintro e w' ⟨rfl,c⟩;subst c);go_ret;exact⟨rfl,rfl⟩
  ·have b:zat x y=0:=(by unfold zat;rw[if_neg d,if_pos om]);rw[b];clear b;go_enter Tryz.func74,Tryz.ntmps74;go_wp2_with (go_at_call 110;refine(isNaNi _ _).mono ?_;rintro e w' ⟨rfl,c⟩;subst c);go_ret;exact⟨rfl,rfl⟩
theorem compare_u (x y:Int) (w:World):Calls Tryz.prog 116 #[.int .u64 x,.int .u64 y] w fun e w'=>e=.returned (.int .i64 (zat x y))∧w'=w:=by
 by_cases d:x<y
 ·have b:zat x y= -1:=if_pos d;rw[b];clear b;go_enter Tryz.func116,Tryz.ntmps116;go_wp2_with (go_at_call 146;refine(isNaNu _ _).mono ?_;rintro e w' ⟨rfl,c⟩;subst c);go_ret;exact⟨rfl,rfl⟩
 ·by_cases f:y<x
  ·have b:zat x y=1:=(by unfold zat;rw[if_neg d,if_neg om]);rw[b];clear b;go_enter Tryz.func116,Tryz.ntmps116;go_wp2_with (go_at_call 146;refine(isNaNu _ _).mono ?_;rintro e w' ⟨rfl,c⟩;subst c);go_ret;exact⟨rfl,rfl⟩
  ·have b:zat x y=0:=(by unfold zat;rw[if_neg d,if_pos om]);rw[b];clear b;go_enter Tryz.func116,Tryz.ntmps116;go_wp2_with (go_at_call 146;refine(isNaNu _ _).mono ?_;rintro e w' ⟨rfl,c⟩;subst c);go_ret;exact⟨rfl,rfl⟩
def Nrm (w:World) (b o n:Nat):Prop:=n=0∨word w b (o+(n-1))≠0
theorem zcf {k:IntKind} {a b:Int} (h:a=b):Ending.returned (.int k a)=.returned (.int k b):=by rw[h]
theorem zbm {a b:Nat} (h:a<b):zat (a:Int) (b:Int)= -1:=if_pos om
theorem zcb {a b:Nat} (h:b<a):zat (a:Int) (b:Int)=1:=by unfold zat;rw[if_neg om,if_neg om]
theorem zfu {a b:Nat} (h:a=b):zat (a:Int) (b:Int)=0:=by unfold zat;rw[if_neg om,if_pos om]
theorem zg1 {w:World} {j l d b g c:Nat} (m:Arr .u64 B w j l d) (f:Nrm w b g c) (h:d<c):num B w j l d<num B w b g c:=by
 have n:=zbb m;rcases f with k|k
 ·omega
 ·have o:B^(c-1)≤num B w b g c:=_root_.Rad.vs_ge om (by simpa using k);have p:B^d≤B^(c-1):=Nat.pow_le_pow_right zbg om;omega
theorem cmpWords_any (w:World) (M N:Option Addr) (f g c O b l o P:Nat) (G:Sl M f g c) (H:Sl N b l o) (A:c≤maxLen) (C:o≤maxLen)
 (I:Arr .u64 B w f g c) (J:Arr .u64 B w b l o) (E:Nrm w f g c) (F:Nrm w b l o):
 Calls Tryz.prog 87 #[.slice M c O,.slice N o P] w fun e w'=>e=.returned (.int .i64 (zat (num B w f g c:Nat) (num B w b l o:Nat)))∧∃n,w'=w.drewN n:=by
 unfold maxLen at A C;by_cases V:c=o
 ·subst V;go_enter Tryz.func87,Tryz.ntmps87;go_wp2;go_loopw [5] (fun s wr=>∃k d:Nat,k≤c∧s=.int .i64 ((k:Int)-1)∧wr=w.drewN d∧∀i,k≤i→i<c→word w f (g+i)=word w b (l+i)) (fun s _=>(intOf s+1).toNat)
  case atStart=>exact⟨c,0,by omega,by go_num,rfl,fun i x p=>by omega⟩
  case round=>
   obtain⟨k,d,Z,rfl,rfl,r⟩:=hrel;by_cases R:k=0
   ·subst R;have e:zat (num B w f g c:Nat) (num B w b l c:Nat)=0:=zfu (za1 fun i hi=>(r i om hi).symm).symm;go_wp2;go_ret;exact⟨zcf e.symm,_,rfl⟩
   ·obtain⟨j,rfl⟩:∃j,k=j+1:=⟨k-1,by omega⟩;obtain rfl:=G om;obtain rfl:=H om;have T:=zah I (i:=j) om;have U:=zah J (i:=j) om;have y:((j+1:Nat):Int)-1=(j:Int):=om;rw[y];by_cases q:word w f (g+j)=word w b (l+j)
    ·have W:((word w f (g+j):Nat):Int)=((word w b (l+j):Nat):Int):=(by rw[q]);have L:∀i,j≤i→i<c→word w f (g+i)=word w b (l+i):=fun i x p=>by
      by_cases z:i=j
      ·subst z;exact q
      ·exact r i om p
     clear r q y;go_wp2;go_quiet (fail);go_wp2;go_roundw
     case rel=>exact⟨j,_,by omega,by go_num,rfl,L⟩
     case measure=>simp[intOf]
    ·have D:((word w f (g+j):Nat):Int)≠((word w b (l+j):Nat):Int):=om;have m:zat ((word w f (g+j):Nat):Int) ((word w b (l+j):Nat):Int)=zat (num B w f g c:Nat) (num B w b l c:Nat):=by
      rcases Nat.lt_or_ge (word w f (g+j)) (word w b (l+j))with h|h
      ·rw[zbm h,zbm];exact _root_.Rad.vs_lt_of_place (i:=j) (fun i hi=>zaz I hi) om h (fun i x p=>r i om p)
      ·have t:word w b (l+j)<word w f (g+j):=om;rw[zcb t,zcb];exact _root_.Rad.vs_lt_of_place (i:=j) (fun i hi=>zaz J hi) om t (fun i x p=>(r i om p).symm)
     have u:Hid (zat ((word w f (g+j):Nat):Int) ((word w b (l+j):Nat):Int)=zat (num B w f g c:Nat) (num B w b l c:Nat)):=m;have Y:(j:Int)<(c:Int):=om;have S:(0:Int)≤(j:Int):=om;clear r q y m;go_wp2;go_quiet (fail);go_wp2;go_quiet ((go_at_call 116;refine(compare_u _ _ _).mono ?_;rintro e X ⟨rfl,rfl⟩;exact⟨rfl,_,rfl⟩));go_wp2;go_ret;exact⟨zcf u.out,by simp only[World.drewN_drewN];exact⟨_,rfl⟩⟩
 ·have m:zat (c:Int) (o:Int)=zat (num B w f g c:Nat) (num B w b l o:Nat):=by
   rcases Nat.lt_or_ge c o with h|h
   ·rw[zbm h,zbm (zg1 I F h)]
   ·have t:o<c:=om;rw[zcb t,zcb (zg1 J E t)]
  have u:Hid (zat (c:Int) (o:Int)=zat (num B w f g c:Nat) (num B w b l o:Nat)):=m;have D:((c:Int) !=(o:Int))=true:=(by simp;omega);clear m;go_enter Tryz.func87,Tryz.ntmps87;go_wp2_with (go_at_call 74;refine(zc4 _ _ _).mono ?_;rintro e w' ⟨rfl,q⟩;subst q);go_ret;exact⟨zcf u.out,0,rfl⟩
def Mag (w:World) (v:Value) (x n:Nat):Prop:=∃(ao:Option Addr) (b o c:Nat),v=.slice ao n c∧Sl ao b o n∧n≤c∧Arr .u64 B w b o n∧num B w b o n=x∧Nrm w b o n
theorem zaf {k:IntKind} {β:Nat} {w w':World} {b o n:Nat} (h:Arr k β w b o n) (c:Below w.heap.size w w'):Arr k β w' b o n:=by intro i hi;have e:w'.cell? ⟨b,o+i,none⟩=w.cell? ⟨b,o+i,none⟩:=c.cell (p:=⟨b,o+i,none⟩) (h.lt om);rw[zac e,e];exact h i hi
theorem zb5 {k:IntKind} {β:Nat} {w w':World} {b o n:Nat} (h:Arr k β w b o n) (c:Below w.heap.size w w') {i:Nat} (hi:i<n):word w' b (o+i)=word w b (o+i):=zac (c.cell (p:=⟨b,o+i,none⟩) (h.lt om))
theorem zal {k:IntKind} {β:Nat} {w w':World} {b o n:Nat} (h:Arr k β w b o n) (c:Below w.heap.size w w'):num β w' b o n=num β w b o n:=za1 fun _ hi=>zb5 h c hi
theorem nrm_below {w w':World} {b o n:Nat} (h:Arr .u64 B w b o n) (f:Nrm w b o n) (d:Below w.heap.size w w'):Nrm w' b o n:=by
 rcases f with c|c
 ·exact .inl c
 ·by_cases g:n=0
  ·exact .inl g
  ·right;rw[zb5 h d om];exact c
theorem Mag.below {w w':World} {v:Value} {x n:Nat} (h:Mag w v x n) (f:Below w.heap.size w w'):Mag w' v x n:=by obtain⟨g,b,o,c,m,l,j,d,p,k⟩:=h;exact⟨g,b,o,c,m,l,j,zaf d f,by rw[zal d f,p],nrm_below d k f⟩
theorem Mag.lt {w:World} {v:Value} {x n:Nat} (h:Mag w v x n):x<B^n:=by obtain⟨g,b,o,c,m,l,j,d,f,k⟩:=h;rw[←f];exact zbb d
theorem Mag.ge {w:World} {v:Value} {x n:Nat} (h:Mag w v x n) (d:0<n):B^(n-1)≤x:=by
 obtain⟨k,b,o,c,q,p,m,l,j,g⟩:=h;rw[←j];rcases g with f|f
 ·omega
 ·exact _root_.Rad.vs_ge d (by simpa using f)
theorem Mag.pos {w:World} {v:Value} {x n:Nat} (h:Mag w v x n) (b:0<n):0<x:=Nat.lt_of_lt_of_le (Nat.pow_pos zbg) (h.ge b)
theorem Mag.len_le {w:World} {v:Value} {x n:Nat} (h:Mag w v x n) {L:Nat} (f:x<B^L):n≤L:=by
 rcases Nat.lt_or_ge L n with b|b
 ·have c:=h.ge om;have d:B^L≤B^(n-1):=Nat.pow_le_pow_right zbg om;omega
 ·exact b
theorem Mag.zero_iff {w:World} {v:Value} {x n:Nat} (h:Mag w v x n):x=0↔n=0:=by
 constructor
 ·intro d;rcases Nat.eq_zero_or_pos n with b|b
  ·exact b
  ·have:=h.pos b;omega
 ·intro c;have:=h.lt;rw[c]at this;simpa using this
theorem zf1 (w:World):Mag w (.slice none 0 0) 0 0:=⟨none,0,0,0,rfl,fun h=>by omega,by omega,fun i hi=>by omega,rfl,.inl rfl⟩
theorem zbs (w:World) (g:Option Addr) (b o n c m:Nat) (s:Sl g b o n) (u:n≤c) (j:n≤maxLen) (q:m≤maxLen) (r:Arr .u64 B w b o n):
 Calls Tryz.prog 86 #[.slice g n c,.int .i64 m] w fun e w'=>∃v k,e=.returned v∧w'=w∧k≤m∧k≤n∧Mag w v (num B w b o (min m n)) k:=by
 refine(zfy w g b o n c m s u j q r).mono ?_;rintro e w' ⟨k,rfl,rfl,l,p,f,x⟩;refine⟨_,k,rfl,rfl,l,p,g,b,o,k,rfl,fun h=>s om,Nat.le_refl _,?_,?_,?_⟩
 ·have:=r.sub (d:=0) (m:=k) om;simpa using this
 ·exact(_root_.Rad.vs_top om (fun i t y=>x i t om om)).symm
 ·rcases f with h|h
  ·exact .inl h
  ·exact .inr h
theorem zeq {k:IntKind} {β:Nat} {w w':World} {n:Nat} (h:Made k β w w' n) (m:Nat) (b:m≤n):num β w' w.heap.size 0 m=0:=_root_.Rad.vs_zeros fun i hi=>by rw[Nat.zero_add];exact h.zero i om
theorem zcs:(Tryz.prog.info? 98).map (fun i=>(i.zero,i.size,i.bytes))=some (some (.int .u64 0),1,8):=by kernel_rfl
theorem zdg:(Tryz.prog.info? 98).map (·.size)=some 1:=by kernel_rfl
theorem zc7 {w q d:World} {n m b o:Nat} (f:Made .u64 B w q n) (s:Arr .u64 B w b o m) (p:m≤n) (g:Copied .u64 B q d w.heap.size 0 m b o):
 Below w.heap.size w d∧Arr .u64 B d w.heap.size 0 n∧Free d w.heap.size 0 n∧num B d w.heap.size 0 n=num B w b o m∧w.heap.size<d.heap.size:=by
 have j:∀i,i<m→word d w.heap.size (0+i)=word w b (o+i):=fun i hi=>(g.same i hi).trans (zb5 s f.below hi);have c:∀i,m≤i→d.cell? ⟨w.heap.size,i,none⟩=q.cell? ⟨w.heap.size,i,none⟩:=fun i hi=>g.chg.cell i om;refine⟨f.below.trans (g.chg.below (Nat.le_refl _) (by have:=f.lt;omega)),fun i hi=>?_,g.chg.free f.free (fun _=>f.lt),?_,Nat.lt_of_lt_of_le f.lt g.chg.size⟩
 ·by_cases l:i<m
  ·exact g.arr i l
  ·have e:=c i om;rw[Nat.zero_add,zac e,e];have:=f.arr i hi
   rwa [Nat.zero_add]at this
 ·have k:num B d w.heap.size 0 n=num B d w.heap.size 0 m:=_root_.Rad.vs_top p fun i k r=>by rw[Nat.zero_add,zac (c i k)];exact f.zero i r
  rw[k];exact za1 j
theorem zch (s:Int) (b: -9223372036854775808≤s) (c:s≤9223372036854775807) (w:World):
 Calls Tryz.prog 84 #[.int .i64 s] w fun e w'=>e=.returned (.int .u64 (s.natAbs:Int))∧w'=w:=by
 go_enter Tryz.func84,Tryz.ntmps84;by_cases d:s<0
 ·go_wp2;go_ret;exact⟨zcf (by rw[IntKind.wrap_u64,IntKind.wrap_u64];omega),rfl⟩
 ·go_wp2;go_ret;exact⟨zcf om,rfl⟩
theorem one_mag (w:World) (x:Nat) (d:¬x=0) (h:x<B):Mag (w.alloc (.cells #[.int .u64 (x:Int)] 98)) (.slice (some ⟨w.heap.size,0,none⟩) 1 1) x 1:=by
 have c:(w.alloc (.cells #[.int .u64 (x:Int)] 98)).cell? ⟨w.heap.size,0,none⟩=some (.int .u64 (x:Int)):=(by rw[World.cell?_alloc_at (w:=w) _ _ w.heap.size 0 rfl];rfl);have b:=zb9 c;refine⟨_,w.heap.size,0,1,rfl,Sl.mk _ _ _,Nat.le_refl _,fun i hi=>?_,?_,.inr ?_⟩
 ·obtain rfl:i=0:=om;rw[Nat.zero_add,b];exact⟨c,h⟩
 ·rw[zam,zas,Nat.zero_add,b];simp
 ·rw[show 0+(1-1)=0 from rfl,b];exact d
theorem zf2 (s:Int) (f: -9223372036854775808≤s) (g:s≤9223372036854775807) (w:World):
 Calls Tryz.prog 77 #[.agg #[.int .i64 s,.slice none 0 0]] w fun e w'=>∃v n,e=.returned v∧Below w.heap.size w w'∧Mag w' v s.natAbs n∧n≤1:=by
 have k:∀(w:World) (a:Option Addr) (n c:Nat),(binOp .neq 22 (.slice a n c) (.slice none 0 0)).run Tryz.prog w=.ok (.bool (!a.isNone)) w:=fun w a n c=>run_neq_slice_nil_any w 22 98 a n c 0 0 Tryz.underlying22;by_cases j:s=0
 ·subst j;go_enter Tryz.func77,Tryz.ntmps77;go_wp2;go_ret;exact⟨_,0,rfl,(zz).alloc (Nat.le_refl _) _,zf1 _,by omega⟩
 ·have d:¬s.natAbs=0:=om;have b:s.natAbs<B:=(by unfold B;omega);go_enter Tryz.func77,Tryz.ntmps77;go_wp2_with (go_at_call 84;refine(zch s f g _).mono ?_;rintro e w' ⟨rfl,rfl⟩);go_ret;refine⟨_,1,rfl,((zz).alloc (Nat.le_refl _) _).alloc (by simp) _,?_,Nat.le_refl _⟩;have:=one_mag (w.alloc (.cells #[.int .i64 s,.slice none 0 0] 24)) s.natAbs d b;have e:(w.alloc (.cells #[.int .i64 s,.slice none 0 0] 24)).heap.size=w.heap.size+1:=(by simp);rw[e]at this;exact this
def IsInt (w:World) (v:Value) (z:Int):Prop:=
 (v=.agg #[.int .i64 z,.slice none 0 0]∧ -9223372036854775808≤z∧z≤9223372036854775807)∨
 ∃(s:Int) (a:Addr) (n c m:Nat),v=.agg #[.int .i64 s,.slice (some a) n c]∧Mag w (.slice (some a) n c) m n∧(s=1∧z=(m:Int)∧9223372036854775807<z∨s= -1∧z= -(m:Int)∧z< -9223372036854775808)
theorem za5 (w:World) (v:Value) (z:Int) (o:IsInt w v z):
 Calls Tryz.prog 77 #[v] w fun e w'=>∃v n,e=.returned v∧Below w.heap.size w w'∧Mag w' v z.natAbs n:=by
 rcases o with⟨rfl,d,f⟩|⟨s,a,n,c,m,rfl,hm,hs⟩
 ·refine(zf2 z d f w).mono ?_;rintro e w' ⟨v,n,d,f,l,_⟩;exact⟨v,n,d,f,l⟩
 ·have p:∀(w:World) (a:Option Addr) (n c:Nat),(binOp .neq 22 (.slice a n c) (.slice none 0 0)).run Tryz.prog w=.ok (.bool (!a.isNone)) w:=fun w a n c=>run_neq_slice_nil_any w 22 98 a n c 0 0 Tryz.underlying22;have k:z.natAbs=m:=om;rw[k];have j:Below w.heap.size w (w.alloc (Obj.cells #[Value.int IntKind.i64 s,Value.slice (some a) n c] 24)):=(zz).alloc (Nat.le_refl _) _;have g:=hm.below j;have b:Hid _:=g;clear g hm hs k;go_enter Tryz.func77,Tryz.ntmps77;go_wp2;go_ret;exact⟨_,n,rfl,j,b.out⟩
def sgn (neg:Bool) (m:Nat):Int:=if neg then -(m:Int) else (m:Int)
theorem zbh (m:Nat):sgn false m=(m:Int):=rfl
theorem zcg (m:Nat):sgn true m= -(m:Int):=rfl
theorem za7 (w:World) (neg:Bool) (v:Value) (m n:Nat) (s:Mag w v m n):
 Calls Tryz.prog 76 #[.bool neg,v] w fun e w'=>∃v,e=.returned v∧Below w.heap.size w w'∧IsInt w' v (sgn neg m):=by
 have HV:=s;obtain⟨a,b,o,c,rfl,C,G,g,j,q⟩:=s;by_cases u:n=0
 ·subst u;have A:m=0:=(by rw[←j];rfl);subst A;clear j q g HV;go_enter Tryz.func76,Tryz.ntmps76;go_wp2;refine bodyPost_ret (v:= .agg #[.int .i64 0,.slice none 0 0]) (by simp[results,go_sem,loadVar]) rfl ?_;exact⟨_,rfl,(zz).alloc (Nat.le_refl _) _,.inl ⟨by unfold sgn;cases neg <;> rfl,by unfold sgn;cases neg <;> simp,by unfold sgn;cases neg <;> simp⟩⟩
 ·obtain rfl:=C om;have F:b<w.heap.size:=g.lt om;have p:∀X,Below w.heap.size w (w.alloc X):=fun X=>(zz).alloc (Nat.le_refl _) _;by_cases x:n=1
  ·subst x;have f:=zah g (i:=0) om;have l:=zaz g (i:=0) om;rw[zam,zas,Nat.zero_add,Nat.pow_zero,Nat.one_mul,Nat.add_zero]at j;rw[Nat.add_zero,j]at f l;have d:Hid _:=HV;have HB:Hid _:=p;clear j q g HV p;unfold B at l;cases neg
   ·by_cases y:(m:Int)≤9223372036854775807
    ·have t:IntKind.i64.wrap (m:Int)=(m:Int):=(by rw[IntKind.wrap_i64];omega);go_enter Tryz.func76,Tryz.ntmps76;go_wp2;refine bodyPost_ret (v:= .agg #[.int .i64 (m:Int),.slice none 0 0]) (by simp[results,go_sem,loadVar]) rfl ?_;exact⟨_,rfl,HB.out _,.inl ⟨by rw[zbh],by rw[zbh];omega,by rw[zbh];omega⟩⟩
    ·go_enter Tryz.func76,Tryz.ntmps76;go_wp2;refine bodyPost_ret (v:= .agg #[.int .i64 1,.slice (some ⟨b,o,none⟩) 1 c]) (by simp[results,go_sem,loadVar]) rfl ?_;exact⟨_,rfl,HB.out _,.inr ⟨1,_,1,c,m,rfl,Mag.below d.out (HB.out _),.inl ⟨rfl,zbh m,by rw[zbh];omega⟩⟩⟩
   ·by_cases y:(m:Int)≤9223372036854775808
    ·have t:IntKind.i64.wrap (-IntKind.i64.wrap (m:Int))= -(m:Int):=(by rw[IntKind.wrap_i64,IntKind.wrap_i64];omega);go_enter Tryz.func76,Tryz.ntmps76;go_wp2;refine bodyPost_ret (v:= .agg #[.int .i64 (-(m:Int)),.slice none 0 0]) (by simp[results,go_sem,loadVar];have D:=t;simp only[IntKind.wrap_i64,go_sem]at D⊢;simp only[wrap64]at *;omega) rfl ?_;exact⟨_,rfl,HB.out _,.inl ⟨by rw[zcg],by rw[zcg];omega,by rw[zcg];omega⟩⟩
    ·have E:¬(m:Int)≤9223372036854775807:=om;go_enter Tryz.func76,Tryz.ntmps76;go_wp2;refine bodyPost_ret (v:= .agg #[.int .i64 (-1),.slice (some ⟨b,o,none⟩) 1 c]) (by simp[results,go_sem,loadVar]) rfl ?_;exact⟨_,rfl,HB.out _,.inr ⟨-1,_,1,c,m,rfl,Mag.below d.out (HB.out _),.inr ⟨rfl,zcg m,by rw[zcg];omega⟩⟩⟩
  ·have k:=HV.ge om;have r:B≤B^(n-1):=Nat.le_self_pow om B;have z:B≤m:=Nat.le_trans r k;unfold B at z;have d:Hid _:=HV;have HB:Hid _:=p;clear j q g HV p k r;have H:¬(n:Int)=0:=om;have I:¬(n:Int)=1:=om;cases neg
   ·go_enter Tryz.func76,Tryz.ntmps76;go_wp2;refine bodyPost_ret (v:= .agg #[.int .i64 1,.slice (some ⟨b,o,none⟩) n c]) (by simp[results,go_sem,loadVar]) rfl ?_;exact⟨_,rfl,HB.out _,.inr ⟨1,_,n,c,m,rfl,Mag.below d.out (HB.out _),.inl ⟨rfl,zbh m,by rw[zbh];omega⟩⟩⟩
   ·go_enter Tryz.func76,Tryz.ntmps76;go_wp2;refine bodyPost_ret (v:= .agg #[.int .i64 (-1),.slice (some ⟨b,o,none⟩) n c]) (by simp[results,go_sem,loadVar]) rfl ?_;exact⟨_,rfl,HB.out _,.inr ⟨-1,_,n,c,m,rfl,Mag.below d.out (HB.out _),.inr ⟨rfl,zcg m,by rw[zcg];omega⟩⟩⟩
end Go.Proofs.YtjlkplidpdhgbaaGreatDoor
