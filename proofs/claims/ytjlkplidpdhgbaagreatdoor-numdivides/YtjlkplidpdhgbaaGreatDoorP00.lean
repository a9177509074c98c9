/- A part of the proof: Sh, Pm1, Mem, Base, Laws, W1, W3, W5, W12. -/
import Derived.WalkKit
import Derived.Test.YtjlkplidpdhgbaaGreatDoorProg
import Derived.Lib.Mul64
import Derived.Laws.IdiomCopy
import Derived.Laws.MakeOwn
import Derived.Deep.QuietTactic
import Derived.BigQuiet
set_option linter.all false
set_option maxHeartbeats 1000000
set_option maxRecDepth 10000
open Go Go.RowKit
theorem dd {p:Prop} (h:p:=by decide):p:=h
theorem om {p:Prop} (h:p:=by omega):p:=h
theorem qq {p:Prop} (h:p:=by simp[go_sem]):p:=h
theorem kfl {p:Prop} (h:p:=by kernel_rfl):p:=h
theorem oi {α:Type _} {a b:α} (h:some a=some b):a=b:=Option.some.inj h
theorem nn {i:Nat} {p:Prop} (h:i∈([]:List Nat)):p:=(List.not_mem_nil h).elim
theorem zz {n:Nat} {w:World}: Below n w w:=Below.refl _ _
theorem evs {a:Act} {v:Value} (t:Nat) (h:a.eval (.tmp t)=v):a.tmps[t]?.getD undef=v:=by simpa only[Act.eval,Array.getD_eq_getD_getElem?]using h
theorem evf {a:Act} (t:Nat) (v:Value) (h:a.eval (.tmp t)=v):a.tmps[t]?.getD undef=v:=evs t h
theorem evr {a:Act} (t:Nat) {P:Value→Prop} (h:P (a.eval (.tmp t))):∃u,a.tmps[t]?.getD undef=u∧P u:=⟨_,evs t rfl,h⟩
theorem ll {α:Type _}: (∀(l:List α) (i:Nat) (a:α),l.toArray.setIfInBounds i a=(l.set i a).toArray)∧(∀(l:List α) (a b:α),(a::l).set 0 b=b::l)∧(∀(l:List α) (i:Nat) (a b:α),(a::l).set (i+1) b=a::l.set i b)∧(∀(l:List α) (i:Nat) (a:α),(a::l).drop (i+1)=l.drop i)∧(∀l:List α,l.drop 0=l)∧(∀(l:List α) (a:α),(a::l).length=l.length+1)∧([]:List α).length=0∧(∀(i:Nat) (a:α),([]:List α).set i a=[])∧(∀i:Nat,([]:List α).drop i=[]):=⟨fun _ _ _=>List.setIfInBounds_toArray ..,fun _ _ _=>rfl,fun _ _ _ _=>rfl,fun _ _ _=>rfl,fun _=>rfl,fun _ _=>rfl,rfl,fun _ _=>rfl,fun _=>List.drop_nil⟩
theorem uxw:(∀(a b:Nat) (l:List Nat),(a∈b::l)=(a=b∨a∈l))∧(∀a:Nat,(a∈([]:List Nat))=False)∧(∀p:Prop,(p∨False)=p)∧(∀p:Prop,(False→p)=True)∧((Nat→True)=True)∧(∀(p q:Nat→Prop) (b:Nat),(∀a,a=b∨q a→p a)=(p b∧∀a,q a→p a))∧(∀(p:Nat→Prop) (b:Nat),(∀a,a=b→p a)=p b):=⟨fun _ _ _=>propext List.mem_cons,fun _=>eq_false List.not_mem_nil,fun _=>or_false _,fun _=>eq_true False.elim,eq_true fun _=>trivial,fun _ _ _=>propext forall_eq_or_imp,fun _ _=>propext forall_eq⟩
theorem uw {α:Type}: (∀(a:α) (l:List α),(a::l)[0]? =some a)∧(∀(a:α) (l:List α) (i:Nat),(a::l)[i+1]? =l[i]?)∧(∀a b:α,(some a=some b)=(a=b))∧(∀(p:α→Prop) (b:α),(∀a,b=a→p a)=p b):=⟨fun _ _=>rfl,fun _ _ _=>rfl,fun _ _=>Option.some.injEq _ _,fun _ _=>propext forall_eq'⟩
theorem rs {p:Prop} (h:p:=by simp[results,go_sem,loadVar,World.cell?_setCell_same,World.cell?_setCell_other, *];try rfl):p:=h
theorem rt {p:Prop} (h:p:=by simp[results,go_sem,loadVar,World.cell?_setCell_same, *]):p:=h
theorem rsw {p:Prop} (h:p:=by simp[results,go_sem,loadVar, *];try rfl):p:=h
namespace Rad
def vs (β:Nat) (f:Nat→Nat):Nat→Nat
 |0=>0
 |n+1=>vs β f n+β^n*f n
theorem vs_zero (β:Nat) (f:Nat→Nat):vs β f 0=0:=rfl
theorem zc1 (β:Nat) (f:Nat→Nat) (n:Nat):vs β f (n+1)=vs β f n+β^n*f n:=rfl
theorem vs_congr {β:Nat} {f g:Nat→Nat}:∀ {n:Nat},(∀i,i<n→f i=g i)→vs β f n=vs β g n
 |0,_=>rfl
 |n+1,h=>by rw[zc1,zc1,vs_congr (n:=n) (fun i hi=>h i om),h n om]
theorem vs_add (β:Nat) (f:Nat→Nat) (n:Nat):∀m,vs β f (n+m)=vs β f n+β^n*vs β (fun i=>f (n+i)) m
 |0=>by simp[vs_zero]
 |m+1=>by rw[←Nat.add_assoc,zc1,vs_add β f n m,zc1,Nat.mul_add,Nat.pow_add,Nat.mul_assoc,Nat.add_assoc]
theorem vs_lt {β:Nat} {f:Nat→Nat}:∀ {n:Nat},(∀i,i<n→f i<β)→vs β f n<β^n
 |0,_=>by simp[vs_zero]
 |n+1,h=>by have d:=vs_lt (n:=n) (fun i hi=>h i om);have b:f n+1≤β:=h n om;have c:=Nat.mul_le_mul_left (β^n) b;rw[zc1,Nat.pow_succ];rw[Nat.mul_add]at c;omega
theorem vs_one (β:Nat) (f:Nat→Nat):vs β f 1=f 0:=by simp[vs]
theorem vs_head (β:Nat) (f:Nat→Nat) (n:Nat):vs β f (n+1)=f 0+β*vs β (fun i=>f (i+1)) n:=by rw[Nat.add_comm n 1,vs_add,vs_one,Nat.pow_one];congr 2;exact vs_congr fun i _=>by rw[Nat.add_comm]
theorem vs_zeros {β:Nat} {f:Nat→Nat}:∀ {n:Nat},(∀i,i<n→f i=0)→vs β f n=0
 |0,_=>rfl
 |n+1,h=>by rw[zc1,vs_zeros (n:=n) (fun i hi=>h i om),h n om];simp
theorem vs_top {β:Nat} {f:Nat→Nat} {n m:Nat} (h:n≤m) (b:∀i,n≤i→i<m→f i=0):vs β f m=vs β f n:=by obtain⟨k,rfl⟩:=Nat.exists_eq_add_of_le h;rw[vs_add,vs_zeros (fun i hi=>b (n+i) om om)];omega
theorem vs_ge {β:Nat} {f:Nat→Nat} {n:Nat} (b:0<n) (h:f (n-1)≠0):β^(n-1)≤vs β f n:=by obtain⟨k,rfl⟩:∃k,n=k+1:=⟨n-1,by omega⟩;rw[zc1];simp only[Nat.add_sub_cancel]at h⊢;have:β^k*1≤β^k*f k:=Nat.mul_le_mul_left _ om;omega
theorem vs_lt_of_place {β:Nat} {f g:Nat→Nat} {n i:Nat} (l:∀j,j<n→f j<β) (hi:i<n) (b:f i<g i) (d:∀j,i<j→j<n→f j=g j):
 vs β f n<vs β g n:=by
 obtain⟨k,rfl⟩:∃k,n=(i+1)+k:=⟨n-i-1,by omega⟩;rw[vs_add β f (i+1) k,vs_add β g (i+1) k,vs_congr (f:=fun j=>f (i+1+j)) (g:=fun j=>g (i+1+j)) (n:=k) (fun j m=>d _ om om),zc1,zc1];have o:=vs_lt (β:=β) (f:=f) (n:=i) (fun j m=>l j om);have c:=Nat.mul_le_mul_left (β^i) (show f i+1≤g i from b);rw[Nat.mul_add]at c;omega
end Rad
namespace Go.Rad
open Go Go.RowKit
def word (w:World) (b i:Nat):Nat:=
 match w.cell? ⟨b,i,none⟩with
 |some (.int _ x)=>x.toNat
 |_=>0
def Arr (k:IntKind) (β:Nat) (w:World) (b o n:Nat):Prop:=∀i,i<n→w.cell? ⟨b,o+i,none⟩=some (.int k ((word w b (o+i):Nat):Int))∧word w b (o+i)<β
def Free (w:World) (b o n:Nat):Prop:=∀i,i<n→w.frozen? ⟨b,o+i,none⟩=false
def num (β:Nat) (w:World) (b o n:Nat):Nat:=_root_.Rad.vs β (fun i=>word w b (o+i)) n
theorem zab {w w':World} {b i c d:Nat} (h:w'.cell? ⟨c,d,none⟩=w.cell? ⟨b,i,none⟩):word w' c d=word w b i:=by unfold word;rw[h]
theorem zbv {w:World} {b i:Nat} {k:IntKind} {x:Nat} (h:w.cell? ⟨b,i,none⟩=some (.int k (x:Int))):word w b i=x:=by unfold word;rw[h];simp
theorem zaa {w:World} {b i c j:Nat} {v:Value} (h:c≠b∨j≠i):(w.setCell ⟨b,i,none⟩ v).cell? ⟨c,j,none⟩=w.cell? ⟨c,j,none⟩:=World.cell?_setCell_other w _ _ v (by simp only[ne_eq,Addr.mk.injEq,not_and];omega)
theorem zar {w:World} {b i:Nat} {v u:Value} (h:w.cell? ⟨b,i,none⟩=some u):(w.setCell ⟨b,i,none⟩ v).cell? ⟨b,i,none⟩=some v:=World.cell?_setCell_same w _ v h
theorem zag {k:IntKind} {β:Nat} {w:World} {b o n:Nat} (h:Arr k β w b o n) {i:Nat} (hi:i<n):
 w.cell? ⟨b,o+i,none⟩=some (.int k ((word w b (o+i):Nat):Int)):=(h i hi).1
theorem zat {k:IntKind} {β:Nat} {w:World} {b o n:Nat} (h:Arr k β w b o n) {i:Nat} (hi:i<n):word w b (o+i)<β:=(h i hi).2
theorem Arr.sub {k:IntKind} {β:Nat} {w:World} {b o n:Nat} (h:Arr k β w b o n) {d m:Nat} (c:d+m≤n):Arr k β w b (o+d) m:=by
 intro i hi;have:=h (d+i) om
 rwa [←Nat.add_assoc]at this
theorem Free.sub {w:World} {b o n:Nat} (h:Free w b o n) {d m:Nat} (c:d+m≤n):Free w b (o+d) m:=by
 intro i hi;have:=h (d+i) om
 rwa [←Nat.add_assoc]at this
theorem za1 {k:IntKind} {β:Nat} {w:World} {b o n:Nat} (h:Arr k β w b o n):num β w b o n<β^n:=_root_.Rad.vs_lt fun i hi=>(h i hi).2
theorem zao (β:Nat) (w:World) (b o:Nat):num β w b o 0=0:=rfl
theorem zaj (β:Nat) (w:World) (b o n:Nat):num β w b o (n+1)=num β w b o n+β^n*word w b (o+n):=rfl
theorem za5 (β:Nat) (w:World) (b o n m:Nat):num β w b o (n+m)=num β w b o n+β^n*num β w b (o+n) m:=by unfold num;rw[_root_.Rad.vs_add];simp only[Nat.add_assoc]
theorem zaz {β:Nat} {w w':World} {b o c o' n:Nat} (h:∀i,i<n→word w' c (o'+i)=word w b (o+i)):num β w' c o' n=num β w b o n:=_root_.Rad.vs_congr h
structure Chg (w w':World) (b lo hi:Nat):Prop where
 os:w'.os=w.os
 tape:w'.tape=w.tape
 output:w'.output=w.output
 size:w.heap.size≤w'.heap.size
 block:∀k,k<w.heap.size→k≠b→w'.heap[k]? =w.heap[k]?
 cell:∀i,i<lo∨hi≤i→w'.cell? ⟨b,i,none⟩=w.cell? ⟨b,i,none⟩
 froz:∀i,w'.frozen? ⟨b,i,none⟩=w.frozen? ⟨b,i,none⟩
theorem Chg.refl (w:World) (b lo hi:Nat):Chg w w b lo hi:=⟨rfl,rfl,rfl,Nat.le_refl _,fun _ _ _=>rfl,fun _ _=>rfl,fun _=>rfl⟩
theorem Chg.mono {w w':World} {b lo hi lo' hi':Nat} (h:Chg w w' b lo hi) (c:lo'≤lo) (d:hi≤hi'):Chg w w' b lo' hi':=⟨h.os,h.tape,h.output,h.size,h.block,fun i hi=>h.cell i om,h.froz⟩
theorem Chg.trans {a w w':World} {b lo hi:Nat} (h:Chg a w b lo hi) (k:Chg w w' b lo hi):Chg a w' b lo hi:=
 ⟨k.os.trans h.os,k.tape.trans h.tape,k.output.trans h.output,Nat.le_trans h.size k.size,
  fun i hi c=>(k.block i (Nat.lt_of_lt_of_le hi h.size) c).trans (h.block i hi c),fun i hi=>(k.cell i hi).trans (h.cell i hi),fun i=>(k.froz i).trans (h.froz i)⟩
theorem Chg.set {a w:World} {b lo hi:Nat} (h:Chg a w b lo hi) {i:Nat} (d:lo≤i) (f:i<hi) (v:Value):Chg a (w.setCell ⟨b,i,none⟩ v) b lo hi:=
 h.trans ⟨rfl,rfl,rfl,by simp,fun k _ c=>Below.heap_setCell _ _ _ _ c,
  fun j g=>zaa om,fun _=>World.frozen?_setCell _ _ _ _⟩
theorem Chg.drew {a w:World} {b lo hi:Nat} (h:Chg a w b lo hi):Chg a w.drew b lo hi:=⟨h.os,h.tape,h.output,h.size,h.block,h.cell,h.froz⟩
theorem Chg.below {w w':World} {b lo hi base:Nat} (h:Chg w w' b lo hi) (c:base≤b) (d:base≤w.heap.size):Below base w w':=⟨h.os,h.tape,h.output,h.size,fun k f=>h.block k om om⟩
theorem Chg.cellAt {w w':World} {b lo hi:Nat} (h:Chg w w' b lo hi) {c i:Nat} (f:c<w.heap.size) (g:c≠b∨i<lo∨hi≤i):
 w'.cell? ⟨c,i,none⟩=w.cell? ⟨c,i,none⟩:=by
 by_cases d:c=b
 ·subst d;exact h.cell i om
 ·exact World.cell?_of_block (w:=w) (h.block c f d)
theorem Chg.frozAt {w w':World} {b lo hi:Nat} (h:Chg w w' b lo hi) {c i:Nat} (f:c<w.heap.size):w'.frozen? ⟨c,i,none⟩=w.frozen? ⟨c,i,none⟩:=by
 by_cases d:c=b
 ·subst d;exact h.froz i
 ·exact World.frozen?_of_block (w:=w) (h.block c f d)
theorem Chg.arr {w w':World} {b lo hi:Nat} (h:Chg w w' b lo hi) {k:IntKind} {β c o n:Nat} (f:Arr k β w c o n) (g:0<n→c<w.heap.size)
 (d:0<n→c≠b∨o+n≤lo∨hi≤o):Arr k β w' c o n:=by
 intro i hi;have e:=h.cellAt (g om) (show c≠b∨o+i<lo∨_≤o+i by have:=d om;omega);rw[zab e,e];exact f i hi
theorem Chg.num {w w':World} {b lo hi:Nat} (h:Chg w w' b lo hi) {β c o n:Nat} (f:0<n→c<w.heap.size) (d:0<n→c≠b∨o+n≤lo∨hi≤o):num β w' c o n=num β w c o n:=zaz fun _ _=>zab (h.cellAt (f om) (by have:=d om;omega))
theorem Chg.free {w w':World} {b lo hi:Nat} (h:Chg w w' b lo hi) {c o n:Nat} (f:Free w c o n) (d:0<n→c<w.heap.size):Free w' c o n:=fun i hi=>(h.frozAt (d om)).trans (f i hi)
theorem zby {w:World} {b i:Nat} {v:Value} (h:w.cell? ⟨b,i,none⟩=some v):b<w.heap.size:=by
 unfold World.cell? at h;rcases Nat.lt_or_ge b w.heap.size with c|c
 ·exact c
 ·simp[Array.getElem?_eq_none c]at h
theorem Arr.lt {k:IntKind} {β:Nat} {w:World} {b o n:Nat} (h:Arr k β w b o n):0<n→b<w.heap.size:=fun c=>zby (h 0 c).1
theorem zbq {w:World} {b i:Nat} {k:IntKind} {x:Nat} (h:(w.cell? ⟨b,i,none⟩).isSome=true):word (w.setCell ⟨b,i,none⟩ (.int k (x:Int))) b i=x:=by obtain⟨u,c⟩:=Option.isSome_iff_exists.1 h;exact zbv (zar c)
theorem za0 {w:World} {b i c j:Nat} {v:Value} (h:c≠b∨j≠i):word (w.setCell ⟨b,i,none⟩ v) c j=word w c j:=zab (zaa om)
theorem Arr.set {k:IntKind} {β:Nat} {w:World} {b o n:Nat} (h:Arr k β w b o n) {i x:Nat} (l:x<β):Arr k β (w.setCell ⟨b,o+i,none⟩ (.int k (x:Int))) b o n:=by
 intro j f;by_cases c:j=i
 ·subst c;have d:=(h j f).1;have g:word (w.setCell ⟨b,o+j,none⟩ (.int k (x:Int))) b (o+j)=x:=zbq (by rw[d];rfl);rw[g];exact⟨zar d,l⟩
 ·have e:(w.setCell ⟨b,o+i,none⟩ (.int k (x:Int))).cell? ⟨b,o+j,none⟩=w.cell? ⟨b,o+j,none⟩:=zaa om;rw[zab e,e];exact h j f
theorem Arr.set' {k:IntKind} {β:Nat} {w:World} {b o n:Nat} (h:Arr k β w b o n) {c i:Nat} {v:Value} (f:c≠b∨i<o∨o+n≤i):Arr k β (w.setCell ⟨c,i,none⟩ v) b o n:=by intro j d;have e:(w.setCell ⟨c,i,none⟩ v).cell? ⟨b,o+j,none⟩=w.cell? ⟨b,o+j,none⟩:=zaa om;rw[zab e,e];exact h j d
theorem zan {β:Nat} {w:World} {b o n c i:Nat} {v:Value} (d:c≠b∨i<o∨o+n≤i):num β (w.setCell ⟨c,i,none⟩ v) b o n=num β w b o n:=zaz fun j f=>za0 om
end Go.Rad
namespace Go.Proofs.YtjlkplidpdhgbaaGreatDoor
open Go Go.Proofs Go.RowKit Go.Rad
def B:Nat:=18446744073709551616
def lo (n:Nat):Nat:=n%18446744073709551616
def hi (n:Nat):Nat:=n / 18446744073709551616
def sb (x y c:Nat):Nat:=(x+18446744073709551616-y-c)%18446744073709551616
def bw (x y c:Nat):Nat:=if x<y+c then 1 else 0
theorem za2:0<B:=by decide
theorem zch (n:Nat):lo n<B:=Nat.mod_lt _ dd
theorem zf1 (n:Nat):lo n+B*hi n=n:=Nat.mod_add_div n _
theorem sb_lt (x y c:Nat):sb x y c<B:=Nat.mod_lt _ dd
theorem bw_le (x y c:Nat):bw x y c≤1:=by unfold bw;split <;> omega
theorem sb_bw {x y c:Nat} (d:x<B) (f:y<B) (b:c≤1):sb x y c+y+c=x+B*bw x y c:=by
 unfold sb bw B at*
 split <;> omega
theorem zd4 {x y c:Nat} (d:x<B) (f:y<B) (b:c≤1):hi (x+y+c)≤1:=by unfold hi B at *;omega
theorem hi_lt {n:Nat} (h:n<B*B):hi n<B:=by unfold hi;exact Nat.div_lt_of_lt_mul h
theorem add64 (x y c:Nat) (w:World) (b:c≤1):
 (callFunc 131 #[.int .u64 x,.int .u64 y,.int .u64 c]).run Tryz.prog w=.ok (.value (.tuple #[.int .u64 (lo (x+y+c):Nat),.int .u64 (hi (x+y+c):Nat)])) w:=by
 rw[run_callFunc_extern Tryz.func131 kfl kfl kfl (e:=add64Entry) kfl,run_add64 x y c om om om om];simp only[Result.andThen,lo,hi];congr 5 <;> omega
theorem zef (x y:Nat) (w:World):
 (callFunc 131 #[.int .u64 x,.int .u64 y,.int .u64 0]).run Tryz.prog w=.ok (.value (.tuple #[.int .u64 (lo (x+y):Nat),.int .u64 (hi (x+y):Nat)])) w:=by
 simpa using add64 x y 0 w om
theorem add64_y (x c:Nat) (w:World) (b:c≤1):
 (callFunc 131 #[.int .u64 x,.int .u64 0,.int .u64 c]).run Tryz.prog w=.ok (.value (.tuple #[.int .u64 (lo (x+c):Nat),.int .u64 (hi (x+c):Nat)])) w:=by
 simpa using add64 x 0 c w b
def sub64E:Array Value→Sem Value:=fun args=>do
 let (x, y, b) ← Extern.MathBitsCarry.three "Sub64" args
 pure (Extern.MathBitsCarry.pair ((x+Extern.MathBitsCarry.m64-y-b)%Extern.MathBitsCarry.m64) (if x<y+b then 1 else 0))
theorem run_sub64E (x y b:Nat) (c:b≤1) (w:World):
 (sub64E #[.int .u64 x,.int .u64 y,.int .u64 b]).run Tryz.prog w=.ok (.tuple #[.int .u64 (sb x y b:Nat),.int .u64 (bw x y b:Nat)]) w:=by
 have:b=0∨b=1:=om;rcases this with rfl|rfl <;> rfl
theorem sub64 (x y b:Nat) (w:World) (c:b≤1):
 (callFunc 170 #[.int .u64 x,.int .u64 y,.int .u64 b]).run Tryz.prog w=.ok (.value (.tuple #[.int .u64 (sb x y b:Nat),.int .u64 (bw x y b:Nat)])) w:=by
 rw[run_callFunc_extern Tryz.func170 kfl kfl kfl (e:=sub64E) kfl,run_sub64E x y b c];rfl
theorem sub64_c (x y:Nat) (w:World):
 (callFunc 170 #[.int .u64 x,.int .u64 y,.int .u64 0]).run Tryz.prog w=.ok (.value (.tuple #[.int .u64 (sb x y 0:Nat),.int .u64 (bw x y 0:Nat)])) w:=by
 simpa using sub64 x y 0 w om
theorem sub64_y (x c:Nat) (w:World) (b:c≤1):
 (callFunc 170 #[.int .u64 x,.int .u64 0,.int .u64 c]).run Tryz.prog w=.ok (.value (.tuple #[.int .u64 (sb x 0 c:Nat),.int .u64 (bw x 0 c:Nat)])) w:=by
 simpa using sub64 x 0 c w b
theorem sub64_x (y c:Nat) (w:World) (b:c≤1):
 (callFunc 170 #[.int .u64 0,.int .u64 y,.int .u64 c]).run Tryz.prog w=.ok (.value (.tuple #[.int .u64 (sb 0 y c:Nat),.int .u64 (bw 0 y c:Nat)])) w:=by
 simpa using sub64 0 y c w b
theorem maskN (a:Nat) (b:a<18446744073709551616):bits .and .u64 (a:Int) 4294967295=((a%4294967296:Nat):Int):=by have h:=bits_and_u64_nat a 4294967295 b om;have e:a &&& 4294967295=a%4294967296:=Nat.and_two_pow_sub_one_eq_mod a 32;rw[e]at h;exact h
theorem divN (a:Nat):(a:Int) / 4294967296=((a / 4294967296:Nat):Int):=by omega
theorem mulN (a b:Nat):(a:Int)*(b:Int)=((a*b:Nat):Int):=(Int.natCast_mul a b).symm
theorem addN (a b:Nat):(a:Int)+(b:Int)=((a+b:Nat):Int):=(Int.natCast_add a b).symm
theorem zcq (a:Nat) (b:a<18446744073709551616):IntKind.u64.wrap (a:Int)=(a:Int):=by rw[IntKind.wrap_u64];omega
theorem wrapM (a:Nat):IntKind.u64.wrap (a:Int)=((a%18446744073709551616:Nat):Int):=by rw[IntKind.wrap_u64];omega
theorem mul64 (x y:Nat) (k:x<B) (l:y<B) (w:World):
 Calls Tryz.prog 85 #[.int .u64 x,.int .u64 y] w fun e w'=>e=.returned (.tuple #[.int .u64 (hi (x*y):Nat),.int .u64 (lo (x*y):Nat)])∧w'=w:=by
 unfold B at k l;unfold hi lo;obtain⟨n,m,bw,j⟩:=Lib.mul64_hi x y k l;have p:=Lib.half_mul_le (a:=x / 4294967296) (b:=y / 4294967296) om om;have q:=Lib.half_mul_le (a:=x / 4294967296) (b:=y%4294967296) om om;have r:=Lib.half_mul_le (a:=x%4294967296) (b:=y / 4294967296) om om;have c:x / 4294967296*(y / 4294967296)<18446744073709551616:=om;have d:x / 4294967296*(y%4294967296)<18446744073709551616:=om;have f:x%4294967296*(y / 4294967296)<18446744073709551616:=om;have g:x / 4294967296*(y / 4294967296)+(x / 4294967296*(y%4294967296)+x%4294967296*(y%4294967296) / 4294967296) / 4294967296<18446744073709551616:=om;have o:x / 4294967296*(y / 4294967296)+(x / 4294967296*(y%4294967296)+x%4294967296*(y%4294967296) / 4294967296) / 4294967296+((x / 4294967296*(y%4294967296)+x%4294967296*(y%4294967296) / 4294967296)%4294967296+x%4294967296*(y / 4294967296)) / 4294967296<18446744073709551616:=om;go_enter Tryz.func85,Tryz.ntmps85;go_wp2;simp only[maskN x k,maskN y l,divN,mulN,addN,zcq _ n,zcq _ d,zcq _ m,maskN _ m,zcq _ f,zcq _ bw,zcq _ c,zcq _ g,zcq _ o,wrapM (x*y)];rw[j];go_ret2;exact⟨rfl,rfl⟩
theorem zei {a b c:Nat} (j:a<B) (k:b<B) (l:c<B):
 lo (lo (a*b)+c)=lo (a*b+c)∧lo (hi (a*b)+hi (lo (a*b)+c))=hi (a*b+c)∧hi (lo (a*b)+c)≤1∧hi (a*b+c)<B:=by
 have g:a*b≤(B-1)*(B-1):=Nat.mul_le_mul om om;have d:a*b+c<B*B:=(by have:(B-1)*(B-1)+B≤B*B:=dd;omega);have f:=hi_lt d;unfold lo hi B at *;generalize a*b=p at *;refine⟨by omega,by omega,by omega,f⟩
theorem zbk (a b c:Nat) (g:a<B) (j:b<B) (m:c<B) (w:World):
 Calls Tryz.prog 104 #[.int .u64 a,.int .u64 b,.int .u64 c] w fun e w'=>e=.returned (.tuple #[.int .u64 (lo (a*b+c):Nat),.int .u64 (hi (a*b+c):Nat)])∧w'=w:=by
 obtain⟨d,f,k,l⟩:=zei g j m;have o:=zef;have p:=add64_y (hi (a*b)) _ w k;rw[←d,←f];clear d f l;go_enter Tryz.func104,Tryz.ntmps104;go_wp2_with (go_at_call 85;refine(mul64 a b g j _).mono ?_;rintro e w' ⟨rfl,n⟩;subst n);go_ret2;exact⟨rfl,rfl⟩
end Go.Proofs.YtjlkplidpdhgbaaGreatDoor
namespace Go.Rad
open Go Go.RowKit
def Sl (ao:Option Addr) (b o n:Nat):Prop:=0<n→ao=some ⟨b,o,none⟩
theorem Sl.mk (b o n:Nat):Sl (some ⟨b,o,none⟩) b o n:=fun _=>rfl
structure Made (k:IntKind) (β:Nat) (w w':World) (n:Nat):Prop where
 below:Below w.heap.size w w'
 lt:w.heap.size<w'.heap.size
 arr:Arr k β w' w.heap.size 0 n
 free:Free w' w.heap.size 0 n
 zero:∀i,i<n→word w' w.heap.size i=0
theorem zga {k:IntKind} {β:Nat} (g:0<β) (w:World) (c:Array Value) (e:TypeId) (n:Nat) (j:c.size=n) (f:∀i (h:i<c.size),c[i]=.int k 0):
 Made k β w (w.alloc (.cells c e)) n:=by
 have b:∀i,i<n→(w.alloc (.cells c e)).cell? ⟨w.heap.size,i,none⟩=some (.int k 0):=fun i hi=>by rw[World.cell?_alloc_at (w:=w) c e w.heap.size i rfl];have:i<c.size:=om;rw[Array.getElem?_eq_getElem this,f i this]
 have d:∀i,i<n→word (w.alloc (.cells c e)) w.heap.size i=0:=fun i hi=>zbv (k:=k) (x:=0) (by simpa using b i hi);refine⟨(zz).alloc (Nat.le_refl _) _,by simp,fun i hi=>?_,fun i hi=>?_,d⟩
 ·rw[Nat.zero_add,d i hi];exact⟨by simpa using b i hi,g⟩
 ·rw[Nat.zero_add];exact World.frozen?_alloc_at (w:=w) c e w.heap.size i rfl
theorem zap {P:Program} {w:World} {d:Array Oper} {rest:List Oper} {o:Oper} {a:Act} {Q:Exit→Act→World→Prop} (k:IntKind) (β:Nat) (G:0<β)
 (E:o.guard=none) (l c:Operand) (t:TypeId) (g:o.op=Op.makeSlice t l c) (e:TypeId) (i:TypeInfo) (s:P.underlying t=some (.slice e)) (u:P.info? e=some i)
 (x:i.zero=some (.int k 0)) (y:i.size=1) (r q:IntKind) (L C:Int) (n:Nat) (F:a.eval l=.int r L) (D:a.eval c=.int q C) (B:L=(n:Int)) (z:C=(n:Int))
 (m:i.bytes*n≤281474976710656) (p:n≤maxLen)
 (A:∀w',Made k β w w' n→wpList P d Q rest (a.put o.dst (.slice (some ⟨w.heap.size,0,none⟩) n n)) w'):
 wpList P d Q (o::rest) a w:=by
 refine wpList_plain E fun K f=>?_;subst B;subst z;have b:=run_make (P:=P) w t e i (.int k 0) s u x r q n n om om (by rw[←Int.natCast_mul];exact Int.ofNat_le.2 m) (by have:=p;unfold maxLen at this;omega);clear m p;unfold Oper.wp;simp[execOp,g,F,D,b,Result.andThen];refine f _ _ (A _ (zga G w _ e n (by simp[madeCells,y]) fun j H=>?_));simp[madeCells,Value.cells,Nat.mod_one]
structure Copied (k:IntKind) (β:Nat) (w w':World) (b o m c p:Nat):Prop where
 chg:Chg w w' b o (o+m)
 arr:Arr k β w' b o m
 same:∀i,i<m→word w' b (o+i)=word w c (p+i)
theorem zeg {k:IntKind} {β:Nat} {w:World} {b o n:Nat} (h:Arr k β w b o n) {m:Nat} (f:m≤n):
 ∀j v,((List.range m).map fun i=>Value.int k ((word w b (o+i):Nat):Int))[j]? =some v→w.cell? ((⟨b,o,none⟩:Addr).add j)=some v:=by
 intro j v c;have d:j<m:=(by have:=(List.getElem?_eq_some_iff.1 c).1;simpa using this);simp only[List.getElem?_map,List.getElem?_range d,Option.map_some,Option.some.injEq]at c;subst c;have e:(⟨b,o,none⟩:Addr).add j=⟨b,o+j,none⟩:=(by unfold Addr.add;split <;> simp_all);rw[e];exact zag h om
theorem zcn (b:Nat):∀(vs:List Value) (o:Nat) (w:World),Chg w (w.setCells b o vs) b o (o+vs.length)
 |[],o,w=>Chg.refl _ _ _ _
 |v::r,o,w=>by have c:=(Chg.refl w b o (o+(r.length+1))).set (i:=o) om om v;have d:=(zcn b r (o+1) (w.setCell ⟨b,o,none⟩ v)).mono (lo':=o) (hi':=o+(r.length+1)) om om;exact c.trans d
theorem zal {P:Program} {w:World} {z:Array Oper} {rest:List Oper} {o:Oper} {a:Act} {Q:Exit→Act→World→Prop} (k:IntKind) (β:Nat)
 (G:o.guard=none) (d s:Operand) (A I:TypeId) (N:o.op=.call {callee:= .builtin .copy,args:=#[d,s],argTypes:=#[A,I]})
 (f:TypeId) (R:P.underlying A=some (.slice f)) (y:(P.info? f).map (·.size)=some 1)
 (D J:Option Addr) (b C c cs:Nat) (M:a.eval d=.slice D b C) (O:a.eval s=.slice J c cs) (l p q os:Nat)
 (E:Sl D l p b) (H:Sl J q os c) (r:Arr k β w l p b) (F:Free w l p b) (t:Arr k β w q os c)
 (h:∀w',Copied k β w w' l p (min c b) q os→wpList P z Q rest (a.put o.dst (.int .i64 (min c b:Nat))) w'):
 wpList P z Q (o::rest) a w:=by
 refine wpList_plain G fun K L=>?_;have x:Nat.min c b=min c b:=rfl;by_cases B:min c b=0
 ·have g:=run_copy_none (P:=P) w A I o.type f D J b C c cs R y B;unfold Oper.wp;simp[execOp,N,resolve,invoke,builtin,M,O,g,Result.andThen];refine L _ _ ?_;have:=h w ⟨Chg.refl _ _ _ _,by rw[B];intro i hi;omega,by rw[B];intro i hi;omega⟩;rw[B]at this;exact this
 ·obtain rfl:=E om;obtain rfl:=H om;have g:=run_copy_cells (P:=P) w A I o.type f l p b C ⟨q,os,none⟩ c cs ((List.range (min c b)).map fun i=>Value.int k ((word w q (os+i):Nat):Int)) R y
   (by simp[x]) (zeg t om) (fun j u=>by rw[zag r (by simp at u;omega)];rfl) (fun j u=>F j (by simp at u;omega))
   (fun v S=>by obtain⟨_,_,rfl⟩:=List.mem_map.1 S;rfl)
  simp only[List.length_map,List.length_range]at g;have m:∀i,i<min c b→(w.setCells l p ((List.range (min c b)).map fun i=>Value.int k ((word w q (os+i):Nat):Int))).cell? ⟨l,p+i,none⟩=some (.int k ((word w q (os+i):Nat):Int)):=(by intro i hi;rw[World.cell?_setCells_in l _ p w (fun j u=>by rw[zag r (by simp at u;omega)];rfl) i (by simpa using hi)];simp);have n:∀i,i<min c b→word (w.setCells l p ((List.range (min c b)).map fun i=>Value.int k ((word w q (os+i):Nat):Int))) l (p+i)=word w q (os+i):=fun i hi=>zbv (m i hi);unfold Oper.wp;simp[execOp,N,resolve,invoke,builtin,M,O,g,Result.andThen];refine L _ _ (h _ ⟨?_,fun i hi=>?_,n⟩)
  ·have:=zcn l ((List.range (min c b)).map fun i=>Value.int k ((word w q (os+i):Nat):Int)) p w;simpa using this
  ·rw[n i hi];exact⟨m i hi,zat t om⟩
structure Cleared (k:IntKind) (β:Nat) (w w':World) (b o n:Nat):Prop where
 chg:Chg w w' b o (o+n)
 arr:Arr k β w' b o n
 zero:∀i,i<n→word w' b (o+i)=0
theorem zb3 {P:Program} {w:World} {r:Array Oper} {rest:List Oper} {o:Oper} {a:Act} {Q:Exit→Act→World→Prop} (k:IntKind) (β:Nat) (N:0<β)
 (y:o.guard=none) (s:Operand) (t:TypeId) (C:o.op=.call {callee:= .builtin .clear,args:=#[s],argTypes:=#[t]})
 (e:TypeId) (i:TypeInfo) (E:P.underlying t=some (.slice e)) (G:P.info? e=some i) (H:i.zero=some (.int k 0))
 (u:Option Addr) (n c:Nat) (D:a.eval s=.slice u n c) (b d:Nat) (z:Sl u b d n) (B:Arr k β w b d n) (I:Free w b d n)
 (h:∀w',Cleared k β w w' b d n→wpList P r Q rest (a.put o.dst (.tuple #[])) w'):
 wpList P r Q (o::rest) a w:=by
 refine wpList_plain y fun K A=>?_;by_cases J:n=0
 ·subst J;have g:(Builtin.clear_ #[t] o.type #[.slice u 0 c]).run P w=.ok (.tuple #[]) w:=(by cases u <;> simp[Builtin.clear_,run_underlying E]);unfold Oper.wp;simp[execOp,C,resolve,invoke,builtin,D,g,Result.andThen];exact A _ _ (h w ⟨Chg.refl _ _ _ _,fun i hi=>by omega,fun i hi=>by omega⟩)
 ·obtain rfl:=z om;have l:(Builtin.zeroCells (Value.int k 0).cells n).toList=(List.range n).map fun _=>Value.int k 0:=(by simp[Builtin.zeroCells,Value.cells,Nat.mod_one,Array.toList_map,Array.toList_range]);have q:=run_storeCells_cells (P:=P) b d ((List.range n).map fun _=>Value.int k 0) 0 w
   (fun j p=>by rw[Nat.add_zero,zag B (by simpa using p)];rfl) (fun j p=>by rw[Nat.add_zero];exact I j (by simpa using p)) (fun v L=>by obtain⟨_,_,rfl⟩:=List.mem_map.1 L;rfl)
  rw[Nat.add_zero]at q;have M:(zeroValue e).run P w=.ok (.int k 0) w:=(by simp[zeroValue,typeInfo,G,H]);have g:(Builtin.clear_ #[t] o.type #[.slice (some ⟨b,d,none⟩) n c]).run P w=.ok (.tuple #[]) (w.setCells b d ((List.range n).map fun _=>Value.int k 0)):=(by obtain⟨m,rfl⟩:∃m,n=m+1:=⟨n-1,by omega⟩;simp[Builtin.clear_,run_underlying E,M,l,q]);have f:∀i,i<n→(w.setCells b d ((List.range n).map fun _=>Value.int k 0)).cell? ⟨b,d+i,none⟩=some (.int k 0):=(by intro i hi;rw[World.cell?_setCells_in b _ d w (fun j p=>by rw[zag B (by simpa using p)];rfl) i (by simpa using hi)];simp);have F:∀i,i<n→word (w.setCells b d ((List.range n).map fun _=>Value.int k 0)) b (d+i)=0:=fun i hi=>zbv (k:=k) (x:=0) (by simpa using f i hi);unfold Oper.wp;simp[execOp,C,resolve,invoke,builtin,D,g,Result.andThen];refine A _ _ (h _ ⟨?_,fun i hi=>by rw[F i hi];exact⟨by simpa using f i hi,N⟩,F⟩);have:=zcn b ((List.range n).map fun _=>Value.int k 0) d w;simpa using this
end Go.Rad
namespace Go.Proofs.YtjlkplidpdhgbaaGreatDoor
open Go Go.Proofs Go.RowKit Go.Rad
theorem zfd (w:World) (l:Option Addr) (b o n c m:Nat) (F:Sl l b o n) (G:n≤c) (p:n≤maxLen) (u:m≤maxLen) (D:Arr .u64 B w b o n):
 Calls Tryz.prog 86 #[.slice l n c,.int .i64 m] w fun e w'=>∃k,e=.returned (.slice l k k)∧w'=w∧k≤m∧k≤n∧(k=0∨word w b (o+(k-1))≠0)∧
  (∀i,k≤i→i<m→i<n→word w b (o+i)=0):=by
 unfold maxLen at p u;go_enter Tryz.func86,Tryz.ntmps86;go_wp2
 all_goals
  go_loop [1] (fun s=>∃k:Nat,k≤m∧k≤n∧s=.int .i64 k∧∀i,k≤i→i<m→i<n→word w b (o+i)=0) (fun s=>(intOf s).toNat)
  case atStart=>exact⟨_,by omega,by omega,rfl,fun i C y z=>by omega⟩
  case round=>
   obtain⟨k,r,t,rfl,g⟩:=hrel;by_cases A:k=0
   ·subst A;go_wp2;go_ret;exact⟨0,rfl,rfl,by omega,by omega,.inl rfl,g⟩
   ·obtain⟨j,rfl⟩:∃j,k=j+1:=⟨k-1,by omega⟩;obtain rfl:=F om;have d:=zag D (i:=j) om;by_cases f:word w b (o+j)=0
    ·have x:∀i,j≤i→i<m→i<n→word w b (o+i)=0:=fun i C y z=>by
      by_cases q:i=j
      ·subst q;exact f
      ·exact g i om y z
     rw[f]at d;clear g f;go_wp2;go_round
     case rel=>exact⟨j,by omega,by omega,by go_num,x⟩
     case measure=>simp[intOf]
    ·have E:¬((word w b (o+j):Nat):Int)=0:=om;go_wp2;go_ret;exact⟨j+1,by simp,rfl,r,t,.inr (by simpa using f),g⟩
theorem isNaNi (x:Int) (w:World):Calls Tryz.prog 110 #[.int .i64 x] w fun e w'=>e=.returned (.bool false)∧w'=w:=by go_enter Tryz.func110,Tryz.ntmps110;go_wp2;go_ret;exact⟨rfl,rfl⟩
theorem isNaNu (x:Int) (w:World):Calls Tryz.prog 146 #[.int .u64 x] w fun e w'=>e=.returned (.bool false)∧w'=w:=by go_enter Tryz.func146,Tryz.ntmps146;go_wp2;go_ret;exact⟨rfl,rfl⟩
def zbb (x y:Int):Int:=if x<y then -1 else if x=y then 0 else 1
theorem compare_i (x y:Int) (w:World):Calls Tryz.prog 74 #[.int .i64 x,.int .i64 y] w fun e w'=>e=.returned (.int .i64 (zbb x y))∧w'=w:=by
 by_cases d:x<y
 ·have b:zbb x y= -1:=if_pos d;rw[b];clear b;go_enter Tryz.func74,Tryz.ntmps74;go_wp2_with (go_at_call 110;refine(isNaNi _ _).mono ?_;rintro e w' ⟨rfl,c⟩;subst c);go_ret;exact⟨rfl,rfl⟩
 ·by_cases f:y<x
  ·have b:zbb x y=1:=(by unfold zbb;rw[if_neg d,if_neg om]);rw[b];clear b;go_enter Tryz.func74,Tryz.ntmps74;go_wp2_with (go_at_call 110;refine(isNaNi _ _).mono ?_;rintro e w' ⟨rfl,c⟩;subst c);go_ret;exact⟨rfl,rfl⟩
  ·have b:zbb x y=0:=(by unfold zbb;rw[if_neg d,if_pos om]);rw[b];clear b;go_enter Tryz.func74,Tryz.ntmps74;go_wp2_with (go_at_call 110;refine(isNaNi _ _).mono ?_;rintro e w' ⟨rfl,c⟩;subst c);go_ret;exact⟨rfl,rfl⟩
theorem compare_u (x y:Int) (w:World):Calls Tryz.prog 116 #[.int .u64 x,.int .u64 y] w fun e w'=>e=.returned (.int .i64 (zbb x y))∧w'=w:=by
 by_cases d:x<y
 ·have b:zbb x y= -1:=if_pos d;rw[b];clear b;go_enter Tryz.func116,Tryz.ntmps116;go_wp2_with (go_at_call 146;refine(isNaNu _ _).mono ?_;rintro e w' ⟨rfl,c⟩;subst c);go_ret;exact⟨rfl,rfl⟩
 ·by_cases f:y<x
  ·have b:zbb x y=1:=(by unfold zbb;rw[if_neg d,if_neg om]);rw[b];clear b;go_enter Tryz.func116,Tryz.ntmps116;go_wp2_with (go_at_call 146;refine(isNaNu _ _).mono ?_;rintro e w' ⟨rfl,c⟩;subst c);go_ret;exact⟨rfl,rfl⟩
  ·have b:zbb x y=0:=(by unfold zbb;rw[if_neg d,if_pos om]);rw[b];clear b;go_enter Tryz.func116,Tryz.ntmps116;go_wp2_with (go_at_call 146;refine(isNaNu _ _).mono ?_;rintro e w' ⟨rfl,c⟩;subst c);go_ret;exact⟨rfl,rfl⟩
theorem add_step {k z x d e c r:Nat} (h:r+B^k*c=z+x):r+B^k*lo (d+e+c)+B^(k+1)*hi (d+e+c)=(z+B^k*d)+(x+B^k*e):=by have f:=zf1 (d+e+c);have g:B^(k+1)*hi (d+e+c)=B^k*(B*hi (d+e+c)):=(by rw[Nat.pow_succ,Nat.mul_assoc]);rw[g];have b:B^k*(lo (d+e+c)+B*hi (d+e+c))=B^k*(d+e+c):=(by rw[f]);rw[Nat.mul_add]at b;rw[Nat.mul_add,Nat.mul_add]at b;omega
theorem sub_step {k z x d e c r:Nat} (l:d<B) (m:e<B) (j:c≤1) (h:r+x=z+B^k*c):
 r+B^k*sb d e c+(x+B^k*e)=(z+B^k*d)+B^(k+1)*bw d e c:=by
 have b:=sb_bw l m j;have f:B^(k+1)*bw d e c=B^k*(B*bw d e c):=(by rw[Nat.pow_succ,Nat.mul_assoc]);rw[f];have g:B^k*(sb d e c+e+c)=B^k*(d+B*bw d e c):=(by rw[b]);rw[Nat.mul_add,Nat.mul_add,Nat.mul_add]at g;omega
theorem zba {w:World} {b o n k x:Nat} (h:Arr .u64 B w b o n) (c:k<n):
 num B (w.setCell ⟨b,o+k,none⟩ (.int .u64 (x:Int))) b o (k+1)=num B w b o k+B^k*x:=by
 rw[zaj,zan om,zbq (by rw[zag h c];rfl)]
theorem zbt (w:World) (az ax:Option Addr) (f b q cz s r C cx:Nat) (L:Sl az f b q) (V:Sl ax s r C) (X:Arr .u64 B w f b q) (hf:Free w f b q)
 (W:Arr .u64 B w s r C) (hn:C≤q) (M:0<C→f≠s∨r+C≤b∨b+q≤r) (U:q≤maxLen):
 Calls Tryz.prog 142 #[.slice az q cz,.slice ax C cx] w fun e w'=>e=.returned (.tuple #[])∧Chg w w' f b (b+q)∧Arr .u64 B w' f b q∧
  ∃c,c≤1∧num B w' f b q+B^q*c=num B w f b q+num B w s r C:=by
 unfold maxLen at U;go_enter Tryz.func142,Tryz.ntmps142;go_wp2;go_loopw [4,10] (fun c i wr=>∃k u:Nat,k≤C∧u≤1∧i=.int .i64 k∧c=.int .u64 u∧Chg w wr f b (b+k)∧Arr .u64 B wr f b q∧
  num B wr f b k+B^k*u=num B w f b k+num B w s r k)
  (fun _ i _=>C-(intOf i).toNat)
 case atStart=>exact⟨0,0,by omega,by omega,rfl,rfl,Chg.refl _ _ _ _,X,by simp[zao]⟩
 case round=>
  obtain⟨k,u,hk,t,rfl,rfl,l,j,g⟩:=hrel;by_cases G:k<C
  ·obtain rfl:=L om;obtain rfl:=V om;have Y:=zag j (i:=k) om;have I:wr.cell? ⟨s,r+k,none⟩=w.cell? ⟨s,r+k,none⟩:=l.cellAt (W.lt om) (by have:=M om;omega);have ca:wr.cell? ⟨s,r+k,none⟩=some (.int .u64 ((word w s (r+k):Nat):Int)):=I.trans (zag W G);have P:wr.frozen? ⟨f,b+k,none⟩=false:=(l.free hf X.lt) k om;have x:word wr f (b+k)=word w f (b+k):=zab (l.cell _ om);have h1:=add64 (word wr f (b+k)) (word w s (r+k)) u wr t;have z:=zat j (i:=k) om;have J:=zat W G;have p:=add_step (d:=word w f (b+k)) (e:=word w s (r+k)) g;have H:Hid (num B wr f b k+B^k*lo (word wr f (b+k)+word w s (r+k)+u)+B^(k+1)*hi (word wr f (b+k)+word w s (r+k)+u)=
    num B w f b (k+1)+num B w s r (k+1)):=by rw[zaj,zaj,x];exact p
   clear g p x I;go_wp2;go_roundw
   case rel=>exact⟨k+1,_,by omega,zd4 z J t,by go_num,rfl,(l.mono (Nat.le_refl _) om).set om om _,j.set (zch _),by rw[zba j om];exact H.out⟩
   case measure=>simp[intOf];omega
  ·have R:k=C:=om;subst R;go_wp2;go_loopw [4,7] (fun c i wr=>∃m u:Nat,k≤m∧m≤q∧u≤1∧i=.int .i64 m∧c=.int .u64 u∧Chg w wr f b (b+m)∧Arr .u64 B wr f b q∧
    num B wr f b m+B^m*u=num B w f b m+num B w s r k)
    (fun _ i _=>q-(intOf i).toNat)
   case atStart=>exact⟨k,u,by omega,by omega,t,rfl,rfl,l,j,g⟩
   case round=>
    clear l j g t G;obtain⟨m,D,ba,T,t,rfl,rfl,l,j,g⟩:=hrel;by_cases F:D≠0∧m<q
    ·obtain⟨O,S⟩:=F;obtain rfl:=L om;have Y:=zag j (i:=m) om;have P:wr.frozen? ⟨f,b+m,none⟩=false:=(l.free hf X.lt) m om;have x:word wr f (b+m)=word w f (b+m):=zab (l.cell _ om);have h1:=add64_y (word wr f (b+m)) D wr t;have z:=zat j (i:=m) om;have p:=add_step (d:=word w f (b+m)) (e:=0) g;have Z:num B wr f b m+B^m*lo (word wr f (b+m)+D)+B^(m+1)*hi (word wr f (b+m)+D)=
      num B w f b (m+1)+num B w s r k:=by rw[zaj,x];simpa using p
     have H:Hid _:=Z;have aa:¬((D:Nat):Int)=0:=om;clear g p x Z O;go_wp2;go_roundw
     case rel=>
      exact⟨m+1,_,by omega,by omega,by have:=zd4 (y:=0) z za2 t;simpa using this,by go_num,rfl,(l.mono (Nat.le_refl _) om).set om om _,j.set (zch _),
       by rw[zba j om];exact H.out⟩
     case measure=>simp[intOf];omega
    ·have E:∃c,c≤1∧num B wr f b q+B^q*c=num B w f b q+num B w s r k:=by
      by_cases S:m=q
      ·subst S;exact⟨D,t,g⟩
      ·have N:D=0:=om;subst N;refine⟨0,by omega,?_⟩;obtain⟨d,rfl⟩:=Nat.exists_eq_add_of_le T;rw[za5,za5,zaz (w':=wr) (w:=w) (o':=b+m) (o:=b+m) (n:=d) (fun i hi=>zab (l.cell _ om))];omega
     have A:Chg w wr f b (b+q):=l.mono (Nat.le_refl _) om;have Hf:Hid _:=E;clear E g l;by_cases S:m<q
     ·have N:D=0:=om;subst N;clear F;go_wp2;go_end0;exact⟨rfl,A,j,Hf.out⟩
     ·clear F;go_wp2
      all_goals
       go_end0;exact⟨rfl,A,j,Hf.out⟩
theorem mul_word {z x d c:Nat} (n:z<B) (m:x<B) (l:d<B) (k:c<B):
 hi (lo (x*d+z)+c)≤1∧lo (hi (x*d+z)+hi (lo (x*d+z)+c))<B∧
 lo (lo (x*d+z)+c)+B*lo (hi (x*d+z)+hi (lo (x*d+z)+c))=z+x*d+c:=by
 have f:x*d≤(B-1)*(B-1):=Nat.mul_le_mul om om;have g:(B-1)*(B-1)+B+B≤B*B+1:=dd;have b:x*d+z+c<B*B:=om;have j:=hi_lt b;refine⟨?_,zch _,?_⟩ <;> (unfold lo hi B at *;generalize x*d=p at *;omega)
theorem mul_step {k z x d c r e f y u:Nat} (h:r+B^k*c=z+x*d) (l:e+B*f=y+u*d+c):
 r+B^k*e+B^(k+1)*f=(z+B^k*y)+(x+B^k*u)*d:=by
 have b:B^(k+1)*f=B^k*(B*f):=(by rw[Nat.pow_succ,Nat.mul_assoc]);have g:B^k*(e+B*f)=B^k*(y+u*d+c):=(by rw[l]);rw[Nat.mul_add,Nat.mul_add,Nat.mul_add]at g;have j:(x+B^k*u)*d=x*d+B^k*(u*d):=(by rw[Nat.add_mul,Nat.mul_assoc]);rw[b,j];omega
theorem zdh (w:World) (L J:Option Addr) (f b q M j g l U d:Nat) (F:Sl L f b q) (E:Sl J j g l) (O:Arr .u64 B w f b q) (W:Free w f b q)
 (G:Arr .u64 B w j g l) (hn:l≤q) (V:q≤M) (A:0<l→f≠j∨g+l≤b∨b+q≤g) (D:q≤maxLen) (N:d<B):
 Calls Tryz.prog 115 #[.slice L q M,.slice J l U,.int .u64 d] w fun e w'=>∃c:Nat,e=.returned (.int .u64 c)∧Chg w w' f b (b+l)∧Arr .u64 B w' f b q∧
  c<B∧num B w' f b l+B^l*c=num B w f b l+num B w j g l*d:=by
 unfold maxLen at D;go_enter Tryz.func115,Tryz.ntmps115;go_wp2;go_loopw [7,19] (fun c i wr=>∃k r:Nat,k≤l∧r<B∧i=.int .i64 k∧c=.int .u64 r∧Chg w wr f b (b+k)∧Arr .u64 B wr f b q∧
  num B wr f b k+B^k*r=num B w f b k+num B w j g k*d)
  (fun _ i _=>l-(intOf i).toNat)
 case atStart=>exact⟨0,0,by omega,za2,rfl,rfl,Chg.refl _ _ _ _,O,by simp[zao]⟩
 case round=>
  obtain⟨k,r,hk,y,rfl,rfl,n,m,o⟩:=hrel;by_cases z:k<l
  ·obtain rfl:=F om;obtain rfl:=E om;have aa:=zag m (i:=k) om;have x:wr.cell? ⟨j,g+k,none⟩=w.cell? ⟨j,g+k,none⟩:=n.cellAt (G.lt om) (by have:=A om;omega);have Z:wr.cell? ⟨j,g+k,none⟩=some (.int .u64 ((word w j (g+k):Nat):Int)):=x.trans (zag G z);have X:wr.frozen? ⟨f,b+k,none⟩=false:=(n.free W O.lt) k om;have u:word wr f (b+k)=word w f (b+k):=zab (n.cell _ om);have s:=zat m (i:=k) om;have t:=zat G z;obtain⟨P,R,S⟩:=mul_word s t N y;have h1:=zef (lo (word w j (g+k)*d+word wr f (b+k))) r;have h2:=add64_y (hi (word w j (g+k)*d+word wr f (b+k))) _ (wr.setCell ⟨f,b+k,none⟩ (.int .u64 (lo (lo (word w j (g+k)*d+word wr f (b+k))+r):Nat))) P;have p:=mul_step o (u▸S);have I:num B wr f b k+B^k*lo (lo (word w j (g+k)*d+word wr f (b+k))+r)+
    B^(k+1)*lo (hi (word w j (g+k)*d+word wr f (b+k))+hi (lo (word w j (g+k)*d+word wr f (b+k))+r))=
    num B w f b (k+1)+num B w j g (k+1)*d:=by rw[zaj,zaj,u];exact p
   have H:Hid _:=I;have T:Hid _:=R;clear o p x I S P R u;go_wp2_with (go_at_call 104;refine(zbk _ _ _ t N s _).mono ?_;rintro e w' ⟨rfl,Y⟩;subst Y);go_roundw
   case rel=>exact⟨k+1,_,by omega,T.out,by go_num,rfl,(n.mono (Nat.le_refl _) om).set om om _,m.set (zch _),by rw[zba m om];exact H.out⟩
   case measure=>simp[intOf];omega
  ·have C:k=l:=om;subst C;go_wp2;go_ret;exact⟨_,rfl,n,m,y,o⟩
theorem subp_word {z x d c:Nat} (j:z<B) (u:x<B) (t:d<B) (s:c<B):
 hi (x*d+c)+bw z (lo (x*d+c)) 0<B∧sb z (lo (x*d+c)) 0+(x*d+c)=z+B*(hi (x*d+c)+bw z (lo (x*d+c)) 0):=by
 have k:x*d≤(B-1)*(B-1):=Nat.mul_le_mul om om;have l:(B-1)*(B-1)+(B-1)=B*(B-1):=dd;have m:x*d+c≤B*(B-1):=om;have n:=sb_bw (c:=0) j (zch (x*d+c)) om;have o:=zf1 (x*d+c);generalize x*d+c=p at *;have q:=bw_le z (lo p) 0;refine⟨?_,?_⟩
 ·rcases Nat.lt_or_ge (hi p) (B-1)with h|h
  ·omega
  ·have r:B*(B-1)≤B*hi p:=Nat.mul_le_mul_left _ h;have f:lo p=0:=om;have g:hi p=B-1:=(by have:=Nat.le_of_mul_le_mul_left (show B*hi p≤B*(B-1)by omega) za2;omega);have b:bw z 0 0=0:=(by unfold bw;simp);rw[f,b,g];have:=za2;omega
 ·rw[Nat.mul_add];omega
theorem subp_step {k z x d c r e f y u:Nat} (h:r+x*d=z+B^k*c) (l:e+(u*d+c)=y+B*f):
 r+B^k*e+(x+B^k*u)*d=(z+B^k*y)+B^(k+1)*f:=by
 have b:B^(k+1)*f=B^k*(B*f):=(by rw[Nat.pow_succ,Nat.mul_assoc]);have g:B^k*(e+(u*d+c))=B^k*(y+B*f):=(by rw[l]);rw[Nat.mul_add,Nat.mul_add,Nat.mul_add]at g;have j:(x+B^k*u)*d=x*d+B^k*(u*d):=(by rw[Nat.add_mul,Nat.mul_assoc]);rw[b,j];omega
theorem zf5 (w:World) (f b t D l j o X d:Nat) (O:Option Addr) (J:Sl O l j o) (M:Arr .u64 B w f b t) (S:Free w f b t)
 (L:Arr .u64 B w l j o) (hn:t=o+1) (aa:t≤D) (F:0<o→f≠l∨j+o≤b∨b+t≤j) (C:D≤maxLen) (R:d<B):
 Calls Tryz.prog 165 #[.slice (some ⟨f,b,none⟩) t D,.slice O o X,.int .u64 d] w fun e w'=>∃c:Nat,e=.returned (.int .u64 c)∧Chg w w' f b (b+t)∧Arr .u64 B w' f b t∧
  c≤1∧num B w' f b t+num B w l j o*d=num B w f b t+B^t*c:=by
 subst hn;have T:D≤9223372036854775807:=C;clear C;go_enter Tryz.func165,Tryz.ntmps165;go_wp2;go_loopw [7,22] (fun c i wr=>∃k g:Nat,k≤o∧g<B∧i=.int .i64 k∧c=.int .u64 g∧Chg w wr f b (b+k)∧Arr .u64 B wr f b (o+1)∧
  num B wr f b k+num B w l j k*d=num B w f b k+B^k*g)
  (fun _ i _=>o-(intOf i).toNat)
 case atStart=>exact⟨0,0,by omega,za2,rfl,rfl,Chg.refl _ _ _ _,M,by simp[zao]⟩
 case round=>
  obtain⟨k,g,hk,x,rfl,rfl,n,m,r⟩:=hrel;by_cases A:k<o
  ·obtain rfl:=J om;have N:=zag m (i:=k) om;have z:wr.cell? ⟨l,j+k,none⟩=w.cell? ⟨l,j+k,none⟩:=n.cellAt (L.lt om) (by have:=F om;omega);have ba:wr.cell? ⟨l,j+k,none⟩=some (.int .u64 ((word w l (j+k):Nat):Int)):=z.trans (zag L A);have G:wr.frozen? ⟨f,b+k,none⟩=false:=(n.free S M.lt) k om;have p:word wr f (b+k)=word w f (b+k):=zab (n.cell _ om);have q:=zat m (i:=k) om;have u:=zat L A;obtain⟨V,W⟩:=subp_word q u R x;have Y:=sub64_c (word wr f (b+k)) (lo (word w l (j+k)*d+g));have E:=add64_y (hi (word w l (j+k)*d+g)) (bw (word wr f (b+k)) (lo (word w l (j+k)*d+g)) 0) (wr.setCell ⟨f,b+k,none⟩ (.int .u64 (sb (word wr f (b+k)) (lo (word w l (j+k)*d+g)) 0:Nat))) (bw_le _ _ _);have P:lo (hi (word w l (j+k)*d+g)+bw (word wr f (b+k)) (lo (word w l (j+k)*d+g)) 0)=hi (word w l (j+k)*d+g)+bw (word wr f (b+k)) (lo (word w l (j+k)*d+g)) 0:=Nat.mod_eq_of_lt V;have s:=subp_step r W;have y:num B wr f b k+B^k*sb (word wr f (b+k)) (lo (word w l (j+k)*d+g)) 0+num B w l j (k+1)*d=
    num B w f b (k+1)+B^(k+1)*lo (hi (word w l (j+k)*d+g)+bw (word wr f (b+k)) (lo (word w l (j+k)*d+g)) 0):=by
    rw[P,zaj,zaj,←p];exact s
   have H:Hid _:=y;clear r s z y V W p P;go_wp2_with (go_at_call 104;refine(zbk _ _ _ u R x _).mono ?_;rintro e w' ⟨rfl,hw⟩;subst hw);go_roundw
   case rel=>exact⟨k+1,_,by omega,zch _,by go_num,rfl,(n.mono (Nat.le_refl _) om).set om om _,m.set (sb_lt _ _ _),by rw[zba m om];exact H.out⟩
   case measure=>simp[intOf];omega
  ·have I:k=o:=om;subst I;have N:=zag m (i:=k) om;have G:wr.frozen? ⟨f,b+k,none⟩=false:=(n.free S M.lt) k om;have p:word wr f (b+k)=word w f (b+k):=zab (n.cell _ om);have q:=zat m (i:=k) om;have Y:=sub64_c (word wr f (b+k)) g;have U:=sb_bw (c:=0) q x om;have y:num B wr f b k+B^k*sb (word wr f (b+k)) g 0+num B w l j k*d=num B w f b (k+1)+B^(k+1)*bw (word wr f (b+k)) g 0:=(by have Z:B^k*(sb (word wr f (b+k)) g 0+g+0)=B^k*(word wr f (b+k)+B*bw (word wr f (b+k)) g 0):=(by rw[U]);have E:B^(k+1)*bw (word wr f (b+k)) g 0=B^k*(B*bw (word wr f (b+k)) g 0):=(by rw[Nat.pow_succ,Nat.mul_assoc]);rw[E,zaj,←p];rw[Nat.add_zero,Nat.mul_add,Nat.mul_add]at Z;clear E;omega);have H:Hid _:=y;clear r y U p;go_wp2;go_ret;exact⟨_,rfl,(n.mono (Nat.le_refl _) om).set om om _,m.set (sb_lt _ _ _),bw_le _ _ _,by rw[zba m om];exact H.out⟩
end Go.Proofs.YtjlkplidpdhgbaaGreatDoor
