/- A part of the proof: W34a, W34, W35, Pm8. -/
import Derived.Test.YtjlkplidpdhgbaaGreatDoorP00
import Derived.Test.YtjlkplidpdhgbaaGreatDoorP19
import Derived.Deep.AppendLies
import Derived.Test.YtjlkplidpdhgbaaGreatDoorP03
import Derived.Test.YtjlkplidpdhgbaaGreatDoorP04
import Derived.Test.YtjlkplidpdhgbaaGreatDoorShelf
import Derived.Laws.IdiomStrings
import Derived.Lib.ItoaMem
set_option linter.all false
set_option maxRecDepth 10000
set_option maxHeartbeats 4000000
namespace Go.Proofs.YtjlkplidpdhgbaaGreatDoor
open Go Go.Proofs Go.RowKit Go.Rad
theorem zev:Tryz.prog.underlying 93=some (.slice 22):=by kernel_rfl
theorem info22:(Tryz.prog.info? 22).map (fun i=>(i.zero,i.size,i.bytes))=some (some (.slice none 0 0),1,24):=by kernel_rfl
theorem info_parts' {o:Option TypeInfo} {z:Value} {s b:Nat} (h:o.map (fun i=>(i.zero,i.size,i.bytes))=some (some z,s,b)):∃i,o=some i∧i.zero=some z∧i.size=s∧i.bytes=b:=by
 cases o with
 |none=>simp at h
 |some i=>simp at h;exact⟨i,rfl,h.1,h.2.1,h.2.2⟩
structure Pows (w:World) (base D:Nat) (v:Value) (xs:List Value):Prop where
 row:w.ownsRow base 22 1 v xs.length xs
 mag:∀t (h:t<xs.length),∃n,Mag w xs[t] (10^(D*2^t)) n∧n≤128*2^t
 off:∀t (h:t<xs.length),∀b o n c:Nat,xs[t]=.slice (some ⟨b,o,none⟩) n c→some b≠v.ownBlock
theorem below_grownBy {w w':World} (h:Below w.heap.size w w'):w.grownBy w' none:=⟨h.os,h.tape,h.output,h.size,fun k b _=>h.block k b⟩
theorem Pows.below {w w':World} {base D:Nat} {v:Value} {xs:List Value} (h:Pows w base D v xs) (b:Below w.heap.size w w'):Pows w' base D v xs:=by
 refine⟨h.row.kept (below_grownBy b) ?_,fun t f=>?_,h.off⟩
 ·cases hv:v.ownBlock with
  |none=>exact .inl rfl
  |some k=>exact .inr (by simp)
 ·obtain⟨n,c,d⟩:=h.mag t f;exact⟨n,c.below b,d⟩
theorem Pows.cell {w:World} {base D:Nat} {v:Value} {xs:List Value} (h:Pows w base D v xs) (j:0<xs.length):∃g b,v=.slice (some ⟨g,0,none⟩) xs.length b∧base≤g∧g<w.heap.size∧xs.length≤b∧b≤maxLen∧
 ∀t (f:t<xs.length),w.cell? ⟨g,t,none⟩=some xs[t]:=by
 rcases h.row.2 with⟨rfl,hn⟩|⟨g,b,cur,rfl,hb,hg,hnc,hcm,hsz,htk⟩
 ·omega
 ·refine⟨g,b,rfl,hb,(Array.getElem?_eq_some_iff.1 hg).1,hnc,hcm,fun t f=>?_⟩;have d:cur.toList[t]? =some xs[t]:=by
   have c:(cur.toList.take (xs.length*1))[t]? =some xs[t]:=(by rw[htk];simp);rw[List.getElem?_take]at c
   split at c
   ·exact c
   ·simp at c
  unfold World.cell?;rw[show(⟨g,t,none⟩:Addr).block=g from rfl,hg];simpa using d
theorem Mag.grown {w w':World} {v:Value} {x n:Nat} {row:Option Nat} (h:Mag w v x n) (r:w.grownBy w' row) (s:∀b o n c:Nat,v=.slice (some ⟨b,o,none⟩) n c→some b≠row):Mag w' v x n:=by
 obtain⟨m,b,o,c,rfl,g,k,j,l,f⟩:=h;by_cases p:n=0
 ·subst p;exact⟨m,b,o,c,rfl,g,k,fun i hi=>by omega,by rw[←l];rfl,.inl rfl⟩
 ·obtain rfl:=g om;have q:=s b o n c rfl;have d:∀i,i<n→w'.cell? ⟨b,o+i,none⟩=w.cell? ⟨b,o+i,none⟩:=fun i hi=>World.cell?_of_block (r.block b (j.lt om) q);refine⟨_,b,o,c,rfl,g,k,fun i hi=>?_,(zaz fun i hi=>zab (d i hi)).trans l,?_⟩
  ·rw[zab (d i hi),d i hi];exact j i hi
  ·rcases f with f|f
   ·exact .inl f
   ·right;rw[zab (d (n-1) om)];exact f
theorem Pows.appended {w w':World} {base D l g:Nat} {v u:Value} {xs:List Value} {n:Nat} (h:Pows w base D v xs) (A:Mag w u (10^(D*2^xs.length)) n) (z:n≤128*2^xs.length)
 (j:∀b o n c:Nat,u=.slice (some ⟨b,o,none⟩) n c→some b≠v.ownBlock∧b<w.heap.size) (p:∀t (s:t<xs.length),∀b o n c:Nat,xs[t]=.slice (some ⟨b,o,none⟩) n c→b<w.heap.size)
 (q:w'.ownsRow base 22 1 (.slice (some ⟨g,0,none⟩) (xs.length+1) l) (xs.length+1) (xs++[u])) (y:w.grownBy w' v.ownBlock) (m:v.ownBlock=some g∨g=w.heap.size):
 Pows w' base D (.slice (some ⟨g,0,none⟩) (xs.length+1) l) (xs++[u]):=by
 refine⟨by rw[List.length_append];exact q,fun t s=>?_,fun t s b o r c f=>?_⟩
 ·rw[List.length_append,List.length_singleton]at s;rcases Nat.lt_or_ge t xs.length with d|d
  ·rw[List.getElem_append_left d];obtain⟨r,k,x⟩:=h.mag t d;exact⟨r,k.grown y (h.off t d),x⟩
  ·obtain rfl:t=xs.length:=om;rw[List.getElem_append_right d];simp only[Nat.sub_self,List.getElem_singleton];exact⟨n,A.grown y (fun b o n c f=>(j b o n c f).1),z⟩
 ·rw[List.length_append,List.length_singleton]at s;show some b≠some g;rcases Nat.lt_or_ge t xs.length with d|d
  ·rw[List.getElem_append_left d]at f;rcases m with k|k
   ·rw[←k];exact h.off t d b o r c f
   ·have:=p t d b o r c f;simp;omega
  ·obtain rfl:t=xs.length:=om;rw[List.getElem_append_right d]at f;simp only[Nat.sub_self,List.getElem_singleton]at f;have x:=j b o r c f;rcases m with k|k
   ·rw[←k];exact x.1
   ·simp;omega
structure LadW (w wr:World) (D:Nat) (pv:Value) (xs:List Value):Prop where
 below:Below w.heap.size w wr
 lt:w.heap.size+1<wr.heap.size
 r0:wr.cell? ⟨w.heap.size,0,none⟩=some (.int .i64 0)
 r1:wr.cell? ⟨w.heap.size,1,none⟩=some (.slice none 0 0)
 f0:wr.frozen? ⟨w.heap.size,0,none⟩=false
 f1:wr.frozen? ⟨w.heap.size,1,none⟩=false
 l0:wr.cell? ⟨w.heap.size+1,0,none⟩=some (.int .i64 (D:Int))
 l1:wr.cell? ⟨w.heap.size+1,1,none⟩=some pv
 g1:wr.frozen? ⟨w.heap.size+1,1,none⟩=false
 pows:Pows wr (w.heap.size+2) D pv xs
 nil:xs=[]→pv=.slice none 0 0
theorem LadW.below' {w wr w':World} {D:Nat} {d:Value} {xs:List Value} (h:LadW w wr D d xs) (b:Below wr.heap.size wr w'):LadW w w' D d xs:=by
 have c:w.heap.size<wr.heap.size:=(by have:=h.lt;omega);exact⟨h.below.trans (b.mono h.below.size),Nat.lt_of_lt_of_le h.lt b.size,(b.cell (p:=⟨_,0,none⟩) c).trans h.r0,(b.cell (p:=⟨_,1,none⟩) c).trans h.r1,
  (b.frozen (p:=⟨_,0,none⟩) c).trans h.f0,(b.frozen (p:=⟨_,1,none⟩) c).trans h.f1,(b.cell (p:=⟨_,0,none⟩) h.lt).trans h.l0,(b.cell (p:=⟨_,1,none⟩) h.lt).trans h.l1,
  (b.frozen (p:=⟨_,1,none⟩) h.lt).trans h.g1,h.pows.below b,h.nil⟩
theorem mag_new {w:World} {b o n c x:Nat} (h:Mag w (.slice (some ⟨b,o,none⟩) n c) x n) (m:0<x):b<w.heap.size:=by
 have f:0<n:=by
  rcases Nat.eq_zero_or_pos n with d|d
  ·have:=h.zero_iff.2 d;omega
  ·exact d
 obtain⟨k,o',l,g,_,j,_⟩:=h.row f;simp only[Value.slice.injEq,Option.some.injEq,Addr.mk.injEq,and_true,true_and]at g;obtain⟨⟨rfl,rfl⟩,rfl⟩:=g;exact j.lt f
theorem mag_new' {w:World} {v:Value} {b o n c x m:Nat} (h:Mag w v x m) (f:v=.slice (some ⟨b,o,none⟩) n c) (g:0<x):b<w.heap.size:=by subst f;have:m=n:=(by obtain⟨j,k,o',l,d,_⟩:=h;simp only[Value.slice.injEq]at d;exact d.2.1.symm);subst this;exact mag_new h g
theorem pow10_lt {D j:Nat} (f:D≤608):10^(D*2^j)<B^(128*2^j):=by have g:0<2^j:=Nat.pow_pos dd;have b:10^(D*2^j)≤10^(19*(32*2^j)):=Nat.pow_le_pow_right dd (by rw[←Nat.mul_assoc];exact Nat.mul_le_mul_right _ f);have c:10^(19*(32*2^j))≤B^(32*2^j):=(by rw[Nat.pow_mul];exact Nat.pow_le_pow_left dd _);have d:B^(32*2^j)<B^(128*2^j):=Nat.pow_lt_pow_right dd (Nat.mul_lt_mul_of_pos_right dd g);exact Nat.lt_of_le_of_lt (Nat.le_trans b c) d
theorem LadW.append {w B w':World} {D g j n:Nat} {q u:Value} {xs:List Value} (h:LadW w B D q xs) (A:w'.ownsRow (w.heap.size+2) 22 1 (.slice (some ⟨g,0,none⟩) (xs.length+1) j) (xs.length+1) (xs++[u]))
 (f:B.grownBy w' q.ownBlock) (r:q.ownBlock=some g∨g=B.heap.size) (R:g<w'.heap.size) (T:Mag B u (10^(D*2^xs.length)) n) (S:n≤128*2^xs.length)
 (z:∀b o n c:Nat,u=.slice (some ⟨b,o,none⟩) n c→some b≠q.ownBlock∧b<B.heap.size):
 LadW w (w'.setCell ⟨w.heap.size+1,1,none⟩ (.slice (some ⟨g,0,none⟩) (xs.length+1) j)) D (.slice (some ⟨g,0,none⟩) (xs.length+1) j) (xs++[u])∧
 w'.cell? ⟨w.heap.size+1,1,none⟩=some q∧w'.frozen? ⟨w.heap.size+1,1,none⟩=false:=by
 have d:=h.pows.row.lt;have l:some (w.heap.size)≠q.ownBlock:=fun e=>by have:=(d _ e.symm).1;omega
 have p:some (w.heap.size+1)≠q.ownBlock:=fun e=>by have:=(d _ e.symm).1;omega
 have x:=h.lt;have P:w.heap.size+2≤g:=by
  rcases r with m|m
  ·exact(d _ m).1
  ·omega
 have E:=h.pows.appended T S z (fun t H b o n c O=>by obtain⟨I,m,_⟩:=h.pows.mag t H;rw[O]at m;have G:I=n:=(by obtain⟨V,W,o',X,J,_⟩:=m;simp only[Value.slice.injEq]at J;exact J.2.1.symm);subst G;exact mag_new m (Nat.pow_pos dd)) A f r;have N:Below w.heap.size w w':=⟨f.os.trans h.below.os,f.tape.trans h.below.tape,f.output.trans h.below.output,Nat.le_trans h.below.size f.size,fun k s=>by rw[f.block k (Nat.lt_of_lt_of_le s h.below.size) (fun e=>by have:=(d _ e.symm).1;omega)];exact h.below.block k s⟩;have C:=f.cell h.l1 p;have L:w'.frozen? ⟨w.heap.size+1,1,none⟩=false:=(World.frozen?_of_block (f.block (w.heap.size+1) x p)).trans h.g1;refine⟨⟨N.setCell (by show w.heap.size≤w.heap.size+1;omega) _,by simp;have:=f.size;omega,?_,?_,?_,?_,?_,?_,?_,?_,fun e=>by simp at e⟩,C,L⟩
 ·rw[zaa (.inl om)];exact f.cell h.r0 l
 ·rw[zaa (.inl om)];exact f.cell h.r1 l
 ·rw[World.frozen?_setCell];exact(World.frozen?_of_block (f.block w.heap.size om l)).trans h.f0
 ·rw[World.frozen?_setCell];exact(World.frozen?_of_block (f.block w.heap.size om l)).trans h.f1
 ·rw[zaa (.inr om)];exact f.cell h.l0 p
 ·exact zar C
 ·rw[World.frozen?_setCell];exact L
 ·refine⟨?_,fun t H=>?_,E.off⟩
  ·have s:=E.row.kept (w':=w'.setCell ⟨w.heap.size+1,1,none⟩ (.slice (some ⟨g,0,none⟩) (xs.length+1) j)) (row:=some (w.heap.size+1))
    ⟨rfl,rfl,rfl,by simp,fun k s F=>Below.heap_setCell _ _ _ _ (by intro e;exact F (by rw[e]))⟩ (.inr (by show some g≠_;simp;omega))
   exact s
  ·obtain⟨I,m,M⟩:=E.mag t H;refine⟨I,m.set ?_ rfl,M⟩;rw[C];intro y U;have:=oi U;rcases h.pows.row.2 with⟨h3,_⟩|⟨_,_,_,h3,_⟩ <;> rw[h3]at this <;> exact Value.noConfusion this
theorem ladderFor_any (w:World) (n:Nat) (hn:n<160):
 Calls Tryz.prog 71 #[.int .i64 n] w fun e w'=>∃(ap:Option Addr) (bp op kp cp D:Nat),e=.returned (.agg #[.int .i64 D,.slice ap kp cp])∧Sl ap bp op kp∧kp≤3∧kp≤cp∧0<D∧D≤608∧Below w.heap.size w w'∧Lad w' bp op D kp:=by
 obtain⟨i0,ib,jb,kb,lb⟩:=info_parts' info22;go_enter Tryz.func71,Tryz.ntmps71;go_wp2;go_loop [3,4] (fun c k=>∃c' k':Nat,c=.int .i64 (c':Int)∧k=.int .i64 (k':Int)∧1≤c'∧((k'=0∧c'≤169)∨(k'=1∧c'≤85)∨(k'=2∧c'≤43)∨(k'=3∧c'≤22))) (fun c _=>(intOf c).toNat)
 case atStart=>exact⟨n*20 / 19+1,0,by go_num,rfl,by omega,by omega⟩
 case round=>
  obtain⟨c,k,rfl,rfl,db,rb⟩:=hrel;by_cases zb:32<c
  ·have h1:(32:Int)<(c:Int):=om;go_wp2;go_round
   case rel=>exact⟨(c+1) / 2,k+1,by go_num,by go_num,by omega,by omega⟩
   case measure=>simp[intOf];omega
  ·have h1:¬(32:Int)<(c:Int):=om;obtain⟨D,hD⟩:∃D,D=c*19:=⟨_,rfl⟩;have bc:(c:Int)*19=(D:Int):=om;have ha:D≤608:=om;have bb:0<D:=om;have fc:k≤3:=om;clear rb hD;go_wp2;have L0:LadW w ((w.alloc (Obj.cells #[Value.int IntKind.i64 0,Value.slice none 0 0] 95)).alloc (Obj.cells #[Value.int IntKind.i64 (D:Int),Value.slice none 0 0] 95)) D (.slice none 0 0) []:=⟨bel2 w _ _,by simp,qq,qq,qq,qq,qq,qq,qq,⟨World.ownsRow_nil _ _ _ _,fun t h=>by simp at h,fun t h=>by simp at h⟩,fun _=>rfl⟩;go_loopw [22] (fun i wr=>∃(j:Nat) (pv:Value) (xs:List Value),i=.int .i64 (j:Int)∧j≤k∧xs.length=j∧LadW w wr D pv xs) (fun i _=>k-(intOf i).toNat)
   case atStart=>exact⟨0,_,[],rfl,by omega,rfl,L0⟩
   case round=>
    clear L0;obtain⟨j,pv,xs,rfl,ec,I,LW⟩:=hrel;by_cases hj:j=k
    ·subst hj;have m0:=LW.l0;have m1:=LW.l1;have U:=LW.lt;have r0:=LW.r0;have r1:=LW.r1;have f0:=LW.f0;have f1:=LW.f1;have dc:¬(j:Int)<(j:Int):=om;have HL:Hid _:=LW;rcases Nat.eq_zero_or_pos j with h0|h0
     ·obtain rfl:xs=[]:=List.length_eq_zero_iff.1 om;obtain rfl:=LW.nil rfl;clear LW;go_wp2;refine bodyPost_ret (v:= .agg #[.int .i64 (D:Int),.slice none 0 0]) rt rfl ?_;exact⟨none,0,0,0,0,D,rfl,fun h=>by omega,by omega,by omega,bb,ha,(HL.out.below.setCell (by simp) _).setCell (by simp) _,fun i hi=>by omega⟩
     ·obtain⟨g,J,rfl,gb,pa,O,ca,z⟩:=LW.pows.cell om;clear LW;have HC:Hid _:=z;clear z;go_wp2;refine bodyPost_ret (v:= .agg #[.int .i64 (D:Int),.slice (some ⟨g,0,none⟩) xs.length J]) rt rfl ?_;refine⟨some ⟨g,0,none⟩,g,0,xs.length,J,D,rfl,Sl.mk _ _ _,by omega,O,bb,ha,(HL.out.below.setCell (by simp) _).setCell (by simp) _,fun i hi=>?_⟩;obtain⟨n',hm,gc⟩:=HL.out.pows.mag i hi;have hc:=HC.out i hi;refine⟨_,n',?_,(hm.set (by rw[r0];intro q;simp) rfl).set (by rw[zaa om,r1];intro q;simp) rfl,?_⟩
      ·rw[Nat.zero_add,zaa (.inl om),zaa (.inl om)];exact hc
      ·have h2:2^i≤2^3:=Nat.pow_le_pow_right dd om;omega
    ·have cc:(j:Int)<(k:Int):=om;have m0:=LW.l0;have m1:=LW.l1;have U:=LW.lt;by_cases sb:j=0
     ·subst sb;obtain rfl:xs=[]:=List.length_eq_zero_iff.1 I;obtain rfl:=LW.nil rfl;go_wp2;refine zac (fun R=>R=wr) rfl ?_;rintro R rfl;refine zaq zbf [⟨27,[],[],[5]⟩,⟨28,[0],[0],[]⟩,⟨29,[],[],[]⟩,⟨30,[],[],[5]⟩,⟨31,[3],[3],[]⟩,⟨32,[2,4],[2,3,4],[]⟩,⟨33,[5],[2,3,4,5],[]⟩,⟨34,[6],[2,3,4,5,6],[]⟩] [] kfl 57 rfl kfl (fun (i:Nat) (v:Value) (X:World)=>match i with|0=>v=.pointer (some ⟨w.heap.size+1,1,none⟩)|1=>v=.slice none 0 0|2=>IsInt X v 10|3=>v=.pointer (some ⟨w.heap.size+1,0,none⟩)|4=>v=.int .i64 ((D:Int))|5=>IsInt X v ((10:Int)^D)|6=>∃n,Mag X v (10^D) n|7=>∃g,v=.slice (some ⟨g,0,none⟩) 1 1∧∃u n,X.cell? ⟨g,0,none⟩=some u∧Mag X u (10^D) n|_=>True) (fun _ X=>Below R.heap.size R X) (fun x wy=>Below x.heap.size x wy) (zz).drew (fun i v x wy h hx=>match i,h with|0,h=>h|1,h=>h|3,h=>h|4,h=>h|2,h=>h.below hx|5,h=>h.below hx|6,h=>by obtain⟨n,h⟩:=h;exact⟨n,h.below hx⟩|7,h=>by obtain⟨g,h1,u,n,h2,h3⟩:=h;exact⟨g,h1,u,n,(hx.cell (p:=⟨g,0,none⟩) (zby h2)).trans h2,h3.below hx⟩|n+8,_=>trivial) ?_ ?_
      ·intro i o r s m L fr x E hL ra ma da f l;clear hL ra ma da
       match i,s,m with
       |0,s,m=>?_
       |1,s,m=>?_
       |2,s,m=>obtain rfl:=oi s;obtain rfl:=oi m;clear f l;refine zam rfl rfl fun K M=>?_;go_simp;refine(zfm x 10 om om).mono ?_;rintro e wy ⟨v4,rfl,hb,y⟩;exact M _ _ ⟨y,E.trans (hb.mono E.size),hb,nn⟩
       |3,s,m=>?_
       |4,s,m=>?_
       |5,s,m=>obtain rfl:=oi s;obtain rfl:=oi m;obtain⟨u2,e2,p2⟩:=evr 29 (P:=fun u2=>IsInt x u2 10) (f 2 dd _ rfl);have e4:=evs 31 (f 4 dd _ rfl);clear f l;refine zam rfl rfl fun K M=>?_;go_simp;refine(power_any x _ 10 1 D p2 dd om om om).mono ?_;rintro e wy ⟨v4,rfl,hb,y⟩;exact M _ _ ⟨y,E.trans (hb.mono E.size),hb,nn⟩
       |6,s,m=>obtain rfl:=oi s;obtain rfl:=oi m;obtain⟨u5,e5,p5⟩:=evr 32 (P:=fun u5=>IsInt x u5 ((10:Int)^D)) (f 5 dd _ rfl);clear f l;refine zam rfl rfl fun K M=>?_;go_simp;refine(za6 x _ _ p5).mono ?_;rintro e wy ⟨v4,n4,rfl,hb,y⟩;exact M _ _ ⟨⟨n4,by rw[Int.natAbs_pow]at y;exact y⟩,E.trans (hb.mono E.size),hb,nn⟩
       |7,s,m=>obtain rfl:=oi s;obtain rfl:=oi m;obtain⟨u6,e6,p6⟩:=evr 33 (P:=fun u6=>∃n,Mag x u6 (10^D) n) (f 6 dd _ rfl);clear f l;refine zam rfl rfl fun K M=>?_;obtain⟨n4,y⟩:=p6;obtain⟨ua,ub,uo,uc,rfl,_⟩:=id y;go_simp;exact M _ _ ⟨⟨x.heap.size,rfl,_,n4,(show(x.alloc (.cells #[.slice ua n4 uc] 22)).cell? ⟨x.heap.size,0,none⟩=some (.slice ua n4 uc)by rw[World.cell?_alloc_at (w:=x) _ _ x.heap.size 0 rfl];rfl),y.below (zau x _)⟩,E.trans ((zau x _).mono E.size),zau x _,nn⟩
       |n+8,s,m=>exact absurd m (by simp)
       all_goals obtain rfl:=oi s;obtain rfl:=oi m;simp only[uxw,uw,evt]at f l;have ob:=(E.cell (p:=⟨w.heap.size+1,1,none⟩) U).trans m1;have pb:=(E.cell (p:=⟨w.heap.size+1,0,none⟩) U).trans m0;refine zam rfl rfl fun K M=>?_;go_simp;exact M _ _ ⟨rfl,E,zz,nn⟩
      ·intro vs W d Z aa;clear aa;have e0:vs 0=_:=d 0 dd;have e1:vs 1=_:=d 1 dd;obtain⟨u2,e2,p2⟩:∃u2,vs 2=u2∧(IsInt W u2 10):=⟨_,rfl,d 2 dd⟩;have e3:vs 3=_:=d 3 dd;have e4:vs 4=_:=d 4 dd;obtain⟨u5,e5,p5⟩:∃u5,vs 5=u5∧(IsInt W u5 ((10:Int)^D)):=⟨_,rfl,d 5 dd⟩;obtain⟨u6,e6,p6⟩:∃u6,vs 6=u6∧(∃n,Mag W u6 (10^D) n):=⟨_,rfl,d 6 dd⟩;obtain⟨u7,e7,p7⟩:∃u7,vs 7=u7∧(∃g,u7=.slice (some ⟨g,0,none⟩) 1 1∧∃u n,W.cell? ⟨g,0,none⟩=some u∧Mag W u (10^D) n):=⟨_,rfl,d 7 dd⟩;simp only[zbx,Nat.reduceAdd,e0,e1,e2,e3,e4,e5,e6,e7,Act.put,ll];clear d e0 e1 e2 e3 e4 e5 e6 e7;have S:=LW.below' Z;obtain⟨g7,rfl,u7,n7,ba,C⟩:=p7;clear p2 p5 p6 Z LW;have F:=S.pows.row;have N:w.heap.size+2≤W.heap.size:=S.lt;have qa:=S.l1;have na:=S.g1;clear m0 m1 U;refine wpList_append_lies _ rfl _ _ 93 rfl (w.heap.size+2) 22 i0 (.slice none 0 0) 1 24 zev ib jb kb lb rfl om (.slice none 0 0) 0 [] rfl F ⟨g7,0,none⟩ 1 1 [u7] rfl rfl ?_ ?_ om (by unfold maxLen;omega) om N W.heap.size rfl ?_
       ·intro i v T;cases i with
        |zero=>simp at T;subst T;exact ba
        |succ i=>simp at T
       ·intro v T;simp at T;subst T;obtain⟨ao,b,o,c,rfl,_⟩:=C;rfl
       intro g' va w' G A ea fa;have hE:=S.append G A ea fa (by simpa using C) (C.len_le (by have:=pow10_lt (j:=0) ha;simpa using this)) (fun b o n c he=>⟨by simp[Value.ownBlock],mag_new' C he (Nat.pow_pos dd)⟩);obtain⟨hP,db,fb⟩:=hE;clear G A ea F C ba qa na S;have HP:Hid _:=hP;clear hP;go_wp2;go_roundw
       case rel=>exact⟨0+1,_,_,by go_num,by omega,by first|(simp;done)|(simp;omega),HP.out⟩
       case measure=>simp[intOf];omega
     ·obtain⟨t,rfl⟩:∃t,j=t+1:=⟨j-1,by omega⟩;have wb:¬((t+1:Nat):Int)=0:=om;have e1:((t+1:Nat):Int)-1=(t:Int):=om;obtain⟨g,J,rfl,gb,pa,O,ca,z⟩:=LW.pows.cell om;have mg:=z t om;obtain⟨pn,ga,tb⟩:=LW.pows.mag t om;obtain⟨pw,ja⟩:∃u,xs[t]=u:=⟨_,rfl⟩;rw[ja]at mg ga;have xb:pn≤512:=(by have h2:2^t≤2^2:=Nat.pow_le_pow_right dd om;omega);have ia:10^(D*2^t)*10^(D*2^t)=10^(D*2^(t+1)):=(by rw[←Nat.pow_add,Nat.pow_succ];congr 1;rw[Nat.mul_two,Nat.mul_add]);have yb:=I;rw[I]at m1 O;unfold maxLen at ca;have qb:=pa;have H:0<10^(D*2^(t+1)):=Nat.pow_pos dd;obtain⟨an,ab,ao,ac,rfl,_⟩:=id ga;have wt:IntKind.i64.wrap (t:Int)=(t:Int):=(by rw[IntKind.wrap_i64];omega);have i1:(t:Int)<(t:Int)+1:=om;obtain⟨V,hV⟩:∃V,10^(D*2^(t+1))=V:=⟨_,rfl⟩;obtain⟨Y,hY⟩:∃V,10^(D*2^t)=V:=⟨_,rfl⟩;rw[hV]at ia H;rw[hY]at ga ia;have cb:V<B^(128*2^(t+1)):=(by rw[←hV];exact pow10_lt ha);have mb:Hid (Y*Y=V):=ia;have ta:Hid (0<V):=H;have HV:Hid (10^(D*2^(t+1))=V):=hV;have nb:Hid _:=cb;clear z ja tb pa gb ia H hV hY cb;go_wp2;refine zac (fun R=>R=wr) rfl ?_;rintro R rfl;refine zaq zbf [⟨37,[],[],[5]⟩,⟨38,[0],[0],[]⟩,⟨39,[],[],[5]⟩,⟨40,[2],[2],[]⟩,⟨41,[],[],[6]⟩,⟨42,[4],[4],[]⟩,⟨43,[3,5],[2,3,4,5],[]⟩,⟨44,[6],[2,3,4,5,6],[]⟩,⟨45,[],[],[5]⟩,⟨46,[8],[8],[]⟩,⟨47,[],[],[6]⟩,⟨48,[10],[10],[]⟩,⟨49,[9,11],[8,9,10,11],[]⟩,⟨50,[12],[8,9,10,11,12],[]⟩,⟨51,[7,13],[2,3,4,5,6,7,8,9,10,11,12,13],[]⟩,⟨52,[14],[2,3,4,5,6,7,8,9,10,11,12,13,14],[]⟩] [] kfl 57 rfl kfl (fun (i:Nat) (v:Value) (X:World)=>match i with|0=>v=.pointer (some ⟨w.heap.size+1,1,none⟩)|1=>v=.slice (some ⟨g,0,none⟩) (t+1) (J)|2=>v=.pointer (some ⟨w.heap.size+1,1,none⟩)|3=>v=.slice (some ⟨g,0,none⟩) (t+1) (J)|4=>v=.int .i64 (((t+1:Nat):Int))|5=>v=.int .i64 ((t:Int))|6=>v=.pointer (some ⟨g,t,none⟩)|7=>v=.slice an pn ac|8=>v=.pointer (some ⟨w.heap.size+1,1,none⟩)|9=>v=.slice (some ⟨g,0,none⟩) (t+1) (J)|10=>v=.int .i64 (((t+1:Nat):Int))|11=>v=.int .i64 ((t:Int))|12=>v=.pointer (some ⟨g,t,none⟩)|13=>v=.slice an pn ac|14=>∃n,Mag X v V n∧∀b o n c:Nat,v=.slice (some ⟨b,o,none⟩) n c→R.heap.size≤b|15=>∃g,v=.slice (some ⟨g,0,none⟩) 1 1∧∃u n,X.cell? ⟨g,0,none⟩=some u∧Mag X u V n∧∀b o n c:Nat,u=.slice (some ⟨b,o,none⟩) n c→R.heap.size≤b|_=>True) (fun _ X=>Below R.heap.size R X) (fun x wy=>Below x.heap.size x wy) (zz).drew (fun i v x wy h hx=>match i,h with|0,h=>h|1,h=>h|2,h=>h|3,h=>h|4,h=>h|5,h=>h|6,h=>h|7,h=>h|8,h=>h|9,h=>h|10,h=>h|11,h=>h|12,h=>h|13,h=>h|14,h=>by obtain⟨n,h,h'⟩:=h;exact⟨n,h.below hx,h'⟩|15,h=>by obtain⟨g,h1,u,n,h2,h3,h4⟩:=h;exact⟨g,h1,u,n,(hx.cell (p:=⟨g,0,none⟩) (zby h2)).trans h2,h3.below hx,h4⟩|n+16,_=>trivial) ?_ ?_
      ·intro i o r s m L fr x E hL ra ma da f l;clear hL ra ma da
       match i,s,m with
       |0,s,m=>?_
       |1,s,m=>?_
       |2,s,m=>?_
       |3,s,m=>?_
       |4,s,m=>?_
       |5,s,m=>?_
       |6,s,m=>?_
       |7,s,m=>?_
       |8,s,m=>?_
       |9,s,m=>?_
       |10,s,m=>?_
       |11,s,m=>?_
       |12,s,m=>?_
       |13,s,m=>?_
       |14,s,m=>obtain rfl:=oi s;obtain rfl:=oi m;have e7:=evs 44 (f 7 dd _ rfl);have ka:=evs 50 (f 13 dd _ rfl);clear f l;refine zam rfl rfl fun K M=>?_;go_simp;refine(zc8 x _ _ _ _ _ _ (ga.below E) (ga.below E) om).mono ?_;rintro e wy ⟨v4,n4,rfl,hb,y,_,oa⟩;exact M _ _ ⟨⟨n4,by rw[mb.out]at y;exact y,fun b o n c he=>Nat.le_trans E.size (oa b o n c he)⟩,E.trans (hb.mono E.size),hb,nn⟩
       |15,s,m=>obtain rfl:=oi s;obtain rfl:=oi m;obtain⟨u14,la,sa⟩:=evr 51 (P:=fun u14=>∃n,Mag x u14 V n∧∀b o n c:Nat,u14=.slice (some ⟨b,o,none⟩) n c→R.heap.size≤b) (f 14 dd _ rfl);clear f l;refine zam rfl rfl fun K M=>?_;obtain⟨n4,y,oa⟩:=sa;obtain⟨ua,ub,uo,uc,rfl,_⟩:=id y;go_simp;exact M _ _ ⟨⟨x.heap.size,rfl,_,n4,(show(x.alloc (.cells #[.slice ua n4 uc] 22)).cell? ⟨x.heap.size,0,none⟩=some (.slice ua n4 uc)by rw[World.cell?_alloc_at (w:=x) _ _ x.heap.size 0 rfl];rfl),y.below (zau x _),oa⟩,E.trans ((zau x _).mono E.size),zau x _,nn⟩
       |n+16,s,m=>exact absurd m (by simp)
       all_goals obtain rfl:=oi s;obtain rfl:=oi m;simp only[uxw,uw,evt]at f l;have ob:=(E.cell (p:=⟨w.heap.size+1,1,none⟩) U).trans m1;have pb:=(E.cell (p:=⟨g,t,none⟩) qb).trans mg;refine zam rfl rfl fun K M=>?_;go_simp;exact M _ _ ⟨rfl,E,zz,nn⟩
      ·intro vs W d Z aa;clear aa;have e0:vs 0=_:=d 0 dd;have e1:vs 1=_:=d 1 dd;have e2:vs 2=_:=d 2 dd;have e3:vs 3=_:=d 3 dd;have e4:vs 4=_:=d 4 dd;have e5:vs 5=_:=d 5 dd;have e6:vs 6=_:=d 6 dd;have e7:vs 7=_:=d 7 dd;have e8:vs 8=_:=d 8 dd;have e9:vs 9=_:=d 9 dd;have wa:vs 10=_:=d 10 dd;have xa:vs 11=_:=d 11 dd;have ya:vs 12=_:=d 12 dd;have ka:vs 13=_:=d 13 dd;obtain⟨u14,la,sa⟩:∃u14,vs 14=u14∧(∃n,Mag W u14 V n∧∀b o n c:Nat,u14=.slice (some ⟨b,o,none⟩) n c→R.heap.size≤b):=⟨_,rfl,d 14 dd⟩;obtain⟨u15,za,vb⟩:∃u15,vs 15=u15∧(∃g,u15=.slice (some ⟨g,0,none⟩) 1 1∧∃u n,W.cell? ⟨g,0,none⟩=some u∧Mag W u V n∧∀b o n c:Nat,u=.slice (some ⟨b,o,none⟩) n c→R.heap.size≤b):=⟨_,rfl,d 15 dd⟩;simp only[zbx,Nat.reduceAdd,e0,e1,e2,e3,e4,e5,e6,e7,e8,e9,wa,xa,ya,ka,la,za,Act.put,ll];clear d e0 e1 e2 e3 e4 e5 e6 e7 e8 e9 wa xa ya ka la za;have S:=LW.below' Z;obtain⟨g7,rfl,u7,n7,ba,C,eb⟩:=vb;clear sa Z LW;have F:=S.pows.row;rw[I]at F;have N:w.heap.size+2≤W.heap.size:=S.lt;have qa:=S.l1;have na:=S.g1;clear m0 m1 U;refine wpList_append_lies _ rfl _ _ 93 rfl (w.heap.size+2) 22 i0 (.slice none 0 0) 1 24 zev ib jb kb lb rfl om (.slice (some ⟨g,0,none⟩) (t+1) J) (t+1) xs rfl F ⟨g7,0,none⟩ 1 1 [u7] rfl rfl ?_ ?_ om (by unfold maxLen;omega) om N W.heap.size rfl ?_
       ·intro i v T;cases i with
        |zero=>simp at T;subst T;exact ba
        |succ i=>simp at T
       ·intro v T;simp at T;subst T;obtain⟨ao,b,o,c,rfl,_⟩:=C;rfl
       intro g' va w' G A ea fa;rw[←I]at G;have hE:=S.append G A ea fa (by rw[I,HV.out];exact C) (by rw[I];exact C.len_le nb.out) (fun b o n c he=>⟨by simp only[Value.ownBlock,ne_eq,Option.some.injEq];have:=eb b o n c he;omega,mag_new' C he ta.out⟩);rw[I]at hE;obtain⟨hP,db,fb⟩:=hE;clear G A ea F C ba qa na S;have HP:Hid _:=hP;clear hP;go_wp2;go_roundw
       case rel=>exact⟨(t+1)+1,_,_,by go_num,by omega,by first|(simp;done)|(simp;omega),HP.out⟩
       case measure=>simp[intOf];omega
def txt (z:Int):List UInt8:=Lib.itoa z
def TabP (w : World) : Prop := Lib.TabIs Tryz.prog w "internal/strconv.uint64pow10" .u64 Lib.pow10Tab
theorem dg_val (x j:Nat):(Lib.dg x j).toNat=48+x / 10^j%10:=by unfold Lib.dg;have:x / 10^j%10<10:=Nat.mod_lt _ dd;simp;omega
theorem B_lt_pow (k:Nat):B^k≤10^(20*k):=by rw[Nat.pow_mul];exact Nat.pow_le_pow_left dd k
theorem zdk (x:Nat) (d:0<x):10^(Lib.nDigits x-1)≤x:=by
 induction x using Nat.strongRecOn with
 |ind x ih=>
  by_cases h:x<10
  ·rw[Lib.nDigits_small h];exact d
  ·rw[Lib.nDigits_big h,Nat.add_sub_cancel];have c:=ih (x / 10) om om;have f:=Lib.nDigits_pos (x / 10);obtain⟨k,b⟩:∃k,Lib.nDigits (x / 10)=k+1:=⟨Lib.nDigits (x / 10)-1,by omega⟩;rw[b,Nat.add_sub_cancel]at c;rw[b,Nat.pow_succ];omega
theorem nDigits_le {x k:Nat} (b:0<x) (h:x<10^k):Lib.nDigits x≤k:=by refine Nat.le_of_not_lt fun f=>?_;have c:=zdk x b;have d:10^k≤10^(Lib.nDigits x-1):=Nat.pow_le_pow_right dd om;omega
theorem decDigits_at (x t:Nat) (b:t<(Lib.decDigits x).length):(Lib.decDigits x)[t].toNat=48+x / 10^(Lib.nDigits x-1-t)%10:=by have h:(Lib.decDigits x)[t]? =some (Lib.dg x (Lib.nDigits x-1-t)):=(by rw[Lib.decDigits_length]at b;rw[Lib.decDigits_eq,List.getElem?_map,List.getElem?_range b];rfl);rw[List.getElem?_eq_getElem b]at h;rw[oi h,dg_val]
theorem below_grow (w:World) (k:Nat) (os:Array Obj):Below w.heap.size w (Go.Sort.grow (w.drewN k) os):=⟨rfl,rfl,rfl,by simp[Go.Sort.grow],fun i hi=>by simp[Go.Sort.grow,Array.getElem?_append,hi]⟩
theorem underlying9:Tryz.prog.underlying 9=some .string:=by kernel_rfl
theorem zbo:Tryz.prog.underlying 5=some (.int .u8):=by kernel_rfl
theorem zde (w:World) (v:Value) (z:Int) (hv:IsInt w v z) (H:z.natAbs<B^159) (ht:TabP w):
 Calls Tryz.prog 14 #[v] w fun e w'=>e=.returned (.string ⟨(txt z).toArray⟩)∧Below w.heap.size w w':=by
 have q:=qEq;obtain⟨s,a,n,c,rfl⟩:=hv.form;obtain⟨g1,g2,g3,g4,g5⟩:=hv.sgn;rcases a with _|a
 ·obtain⟨rfl,rfl,rfl⟩:=g5 rfl;have CI:=Tryz.strconv_Itoa s g1 g2 (w.alloc (Obj.cells #[Value.int IntKind.i64 s,Value.slice none 0 0] 24)) (Lib.tabIs_alloc ht _);clear hv g3 g4 g5 H ht;go_enter Tryz.func14,Tryz.ntmps14;go_wp2_with (go_at_call 69;fail);refine CI.mono ?_;rintro e w1 ⟨rfl,k,os,rfl⟩;clear CI;go_wp2;go_ret;exact⟨rfl,(zau w _).trans ((below_grow _ k os).mono (by simp))⟩
 ·obtain⟨R,hs⟩:=hv.mag;obtain⟨x,hx⟩:∃x,x=z.natAbs:=⟨_,rfl⟩;rw[←hx]at R H;have hn:n≤159:=R.len_le H;have M:0<x:=om;have mb:0<n:=by
   rcases Nat.eq_zero_or_pos n with h|h
   ·have:=R.zero_iff.2 h;omega
   ·exact h
  have ja:x<10^(20*n):=Nat.lt_of_lt_of_le R.lt (B_lt_pow n);have hZ:Hid (s=1∧z=(x:Int)∨s= -1∧z= -(x:Int)):=(by show _∨_;omega);have cb:s=1∨s= -1:=om;have b1:=zau w (Obj.cells #[Value.int IntKind.i64 s,Value.slice (some a) n c] 24);obtain⟨N,hN⟩:∃N,N=1+20*n:=⟨_,rfl⟩;have e1:(1:Int)+20*(n:Int)=(N:Int):=om;have HM:Hid (Mag w (.slice (some a) n c) x n):=R;have V:Hid _:=ja;have va:N≤8192:=om;have aa:0<N:=om;have fb:n<N:=om;have HN:Hid (N=1+20*n):=hN;clear hv g3 g4 g5 H R hs hx ja hN;go_enter Tryz.func14,Tryz.ntmps14;go_wp2_with (go_at_call 70;fail);have b2:=bel2 w (Obj.cells #[Value.int IntKind.i64 s,Value.slice (some a) n c] 24) (Obj.cells #[Value.int IntKind.u8 48] 5);have y:((w.alloc (Obj.cells #[Value.int IntKind.i64 s,Value.slice (some a) n c] 24)).alloc (Obj.cells #[Value.int IntKind.u8 48] 5)).heap.size=w.heap.size+1+1:=(by simp);have I:((w.alloc (Obj.cells #[Value.int IntKind.i64 s,Value.slice (some a) n c] 24)).alloc (Obj.cells #[Value.int IntKind.u8 48] 5)).cell? ⟨w.heap.size+1,0,none⟩=some (.int .u8 ((48:Nat):Int)):=qq;have k0:((w.alloc (Obj.cells #[Value.int IntKind.i64 s,Value.slice (some a) n c] 24)).alloc (Obj.cells #[Value.int IntKind.u8 48] 5)).cell? ⟨w.heap.size,0,none⟩=some (.int .i64 s):=qq;have k1:((w.alloc (Obj.cells #[Value.int IntKind.i64 s,Value.slice (some a) n c] 24)).alloc (Obj.cells #[Value.int IntKind.u8 48] 5)).cell? ⟨w.heap.size,1,none⟩=some (.slice (some a) n c):=qq;have O:=zbv I;have CR:=repeat_any _ (w.heap.size+1) 0 1 N (fun i hi=>by obtain rfl:i=0:=om;rw[Nat.add_zero,O];exact⟨I,by omega⟩) O aa va;have M2:=Mag.below HM.out b2;refine CR.mono ?_;rintro e w3 ⟨b,c3,rfl,ya,da,xa,L,r,Y,ba⟩;clear CR;rw[y]at xa;have B3:Below w.heap.size w w3:=b2.trans (r.mono (by rw[y];omega));have ka:=(r.cell (p:=⟨w.heap.size,0,none⟩) (by rw[y];show w.heap.size<_;omega)).trans k0;have na:=(r.cell (p:=⟨w.heap.size,1,none⟩) (by rw[y];show w.heap.size<_;omega)).trans k1;have M3:=M2.below r;have CL:=ladderFor_any w3 n om;clear I k0 k1 O M2 r b2 b1 y;go_wp2_with (go_at_call 71;fail);refine CL.mono ?_;rintro e w4 ⟨A,bp,op,l,C,D,rfl,db,bb,ab,ua,hD,g,Z⟩;clear CL;have ra:w.heap.size<w3.heap.size:=om;have la:=(g.cell (p:=⟨w.heap.size,0,none⟩) ra).trans ka;have oa:=(g.cell (p:=⟨w.heap.size,1,none⟩) ra).trans na;have o:=zau w4 (Obj.cells #[Value.int IntKind.i64 (D:Int),Value.slice A l C] 95);have f:=g.trans (o.mono g.size);have M5:=M3.below f;have sa:w3.heap.size≤(w4.alloc (Obj.cells #[Value.int IntKind.i64 (D:Int),Value.slice A l C] 95)).heap.size:=f.size;have D5:Dig (w4.alloc (Obj.cells #[Value.int IntKind.i64 (D:Int),Value.slice A l C] 95)) b 0 N N 0:=fun i hi=>by rw[f.cell (p:=⟨b,0+(N-1-i),none⟩) L,Nat.zero_add,ba _ om,Nat.zero_div];rfl
  have F5:Free (w4.alloc (Obj.cells #[Value.int IntKind.i64 (D:Int),Value.slice A l C] 95)) b 0 N:=zb7 Y f L;have ia:x<10^N:=Nat.lt_of_lt_of_le V.out (Nat.pow_le_pow_right dd (by have:=HN.out;omega));have X:D*2^l≤1099511627776:=(by have h2:2^l≤2^3:=Nat.pow_le_pow_right dd bb;exact Nat.le_trans (Nat.mul_le_mul hD h2) dd);have CW:=write_any l l (Nat.le_refl _) (w4.alloc (Obj.cells #[Value.int IntKind.i64 (D:Int),Value.slice A l C] 95)) A l C bp op D b 0 N c3 N _ x n db (Nat.le_refl _) (Nat.le_refl _) om ab (Z.below o) ua X aa (Nat.le_refl _) om ya da D5 F5 M5 om ia om;have ma:=(o.cell (p:=⟨w.heap.size,0,none⟩) (by have:=g.size;show w.heap.size<_;omega)).trans la;have pa:=(o.cell (p:=⟨w.heap.size,1,none⟩) (by have:=g.size;show w.heap.size<_;omega)).trans oa;have B5:Below w.heap.size w (w4.alloc (Obj.cells #[Value.int IntKind.i64 (D:Int),Value.slice A l C] 95)):=B3.trans (f.mono B3.size);have HL:Hid (b<(w4.alloc (Obj.cells #[Value.int IntKind.i64 (D:Int),Value.slice A l C] 95)).heap.size):=Nat.lt_of_lt_of_le L sa;clear D5 M5 Z ba Y M3 g o f B3 ka na X ia sa;go_wp2_with (go_at_call 72;fail);refine CW.mono ?_;rintro e m ⟨rfl,u,W⟩;clear CW;have qa:w.heap.size<(w4.alloc (Obj.cells #[Value.int IntKind.i64 (D:Int),Value.slice A l C] 95)).heap.size:=(by have:=HL.out;omega);have pb:=(u.cellAt qa (.inl om):m.cell? ⟨w.heap.size,0,none⟩=_).trans ma;have qb:=(u.cellAt qa (.inl om):m.cell? ⟨w.heap.size,1,none⟩=_).trans pa;have F6:=u.free F5 (fun _=>HL.out);have B6:Below w.heap.size w m:=B5.trans (u.below om om);have fa:=Lib.nDigits_pos x;have ga:=nDigits_le M V.out;obtain⟨P,hP⟩:∃P,P=N-Lib.nDigits x:=⟨_,rfl⟩;have gb:1≤P:=(by have:=HN.out;omega);have wa:P<N:=om;have ca:N-1-P=Lib.nDigits x-1:=om;have C6:∀i,i<N→m.cell? ⟨b,i,none⟩=some (.int .u8 ((48+x / 10^(N-1-i)%10:Nat):Int)):=fun i hi=>by
   have:=W (N-1-i) om
   rwa [Nat.zero_add,show N-1-(N-1-i)=i by omega]at this
  have G:∀i,i<P→m.cell? ⟨b,i,none⟩=some (.int .u8 48):=fun i hi=>by have h1:x / 10^(N-1-i)=0:=Nat.div_eq_of_lt (Nat.lt_of_lt_of_le (Lib.lt_pow_nDigits x) (Nat.pow_le_pow_right dd om));rw[C6 i om,h1];rfl
  have ha:∃d,1≤d∧d≤9∧m.cell? ⟨b,P,none⟩=some (.int .u8 ((48+d:Nat):Int)):=(by refine⟨x / 10^(Lib.nDigits x-1)%10,?_,by omega,by rw[C6 P wa,ca]⟩;have h1:=zdk x M;have h2:=Lib.lt_pow_nDigits x;have h3:1≤x / 10^(Lib.nDigits x-1):=(Nat.le_div_iff_mul_le (Nat.pow_pos dd)).2 om;have h4:x / 10^(Lib.nDigits x-1)<10:=(by refine Nat.div_lt_of_lt_mul ?_;rw[←Nat.pow_succ,show(Lib.nDigits x-1).succ=Lib.nDigits x by omega];exact h2);omega);obtain⟨d,ib,jb,hb⟩:=ha;have F:∀t (h:t<(Lib.decDigits x).length),m.cell? ⟨b,P+t,none⟩=some (.int .u8 (((Lib.decDigits x)[t].toNat:Nat):Int)):=fun t h=>by have h':t<Lib.nDigits x:=(by rwa [Lib.decDigits_length]at h);rw[C6 (P+t) om,decDigits_at,show N-1-(P+t)=Lib.nDigits x-1-t by omega]
  have T:Hid _:=F;have U:Hid (N-P=Lib.nDigits x):=(by show _=_;omega);have E:Hid _:=G;have S:Hid _:=B6;have ta:Hid _:=F6;clear F C6 W u F5 B5 ma pa la oa G B6 F6 hP fa ga ca;go_wp2;go_loop [5] (fun i=>∃i':Nat,i'≤P∧i=.int .i64 (i':Int)) (fun i=>P-(intOf i).toNat)
  case atStart=>exact⟨0,by omega,rfl⟩
  case round=>
   obtain⟨i,lb,rfl⟩:=hrel;by_cases hi:i=P
   ·subst hi;have nb:¬((48+d:Nat):Int)=48:=om;have eb:¬(48:Int)+(d:Int)=48:=om;rcases cb with rfl|rfl
    ·have H:z=(x:Int):=(by have:=hZ.out;omega);have J:(convert 91 9 (.slice (some ⟨b,i,none⟩) (N-i) (c3-i))).run Tryz.prog m=.ok (.string ⟨(txt z).toArray⟩) m:=(by have h0:txt z=Lib.decDigits x:=(by rw[H];exact Lib.itoa_nonneg x);rw[h0,U.out,←Lib.decDigits_length];exact run_convert_bytes_back m 91 9 5 ⟨b,i,none⟩ _ (Lib.decDigits x) za7 zbo underlying9 (fun j hj=>by rw[Lib.add_plain];exact T.out j hj));go_wp2;go_ret;exact⟨rfl,S.out⟩
    ·have H:z= -(x:Int):=(by have:=hZ.out;omega);obtain⟨p,rfl⟩:∃p,i=p+1:=⟨i-1,by omega⟩;have e2:((p+1:Nat):Int)-1=(p:Int):=om;have za:=E.out p om;have kb:m.frozen? ⟨b,p,none⟩=false:=(by have:=ta.out p om;rwa [Nat.zero_add]at this);have J:(convert 91 9 (.slice (some ⟨b,p,none⟩) (N-p) (c3-p))).run Tryz.prog (m.setCell ⟨b,p,none⟩ (.int .u8 45))=.ok (.string ⟨(txt z).toArray⟩) (m.setCell ⟨b,p,none⟩ (.int .u8 45)):=by
      have h0:txt z=45::Lib.decDigits x:=(by rw[H];exact Lib.itoa_neg x M);have ea:N-p=(45::Lib.decDigits x).length:=(by rw[List.length_cons,Lib.decDigits_length,←U.out];omega);rw[h0,ea];refine run_convert_bytes_back _ 91 9 5 ⟨b,p,none⟩ _ (45::Lib.decDigits x) za7 zbo underlying9 (fun j hj=>?_);rw[Lib.add_plain];cases j with
      |zero=>rw[Nat.add_zero,zar za];rfl
      |succ j=>rw[zaa (.inr om),show p+(j+1)=p+1+j by omega];exact T.out j (by simpa using hj)
     have ob:¬c3=p:=om;go_wp2;go_ret;exact⟨rfl,S.out.setCell (by show w.heap.size≤b;omega) _⟩
   ·have hc:=E.out i om;go_wp2;go_round
    case rel=>exact⟨i+1,by omega,by go_num⟩
    case measure=>simp[intOf];omega
end Go.Proofs.YtjlkplidpdhgbaaGreatDoor
namespace Rad
theorem cut_sign (a b:Int) (j:b≠0):
 (0≤a.tmod b→a.tdiv b=a / b∧a.tmod b=a%b)∧
 (a.tmod b<0→b<0→a.tdiv b+1=a / b∧a.tmod b-b=a%b)∧
 (a.tmod b<0→¬b<0→a.tdiv b-1=a / b∧a.tmod b+b=a%b):=by
 have n:b*a.tdiv b+a.tmod b=a:=Int.mul_tdiv_add_tmod a b;have s:(a.tmod b).natAbs<b.natAbs:=(by rw[Int.natAbs_tmod];exact Nat.mod_lt _ om);have d:∀q r:Int,b*q+r=a→0≤r→r<b.natAbs→q=a / b∧r=a%b:=fun q r h p x=>by
  have t:=Int.emod_nonneg a j;have k:=Int.emod_lt_of_neg a (b:=b);have l:=Int.emod_lt_of_pos a (b:=b);have u:=Int.mul_ediv_add_emod a b;have e:b*(q-a / b)=a%b-r:=(by rw[Int.mul_sub];omega);have o:q-a / b=0:=by
   rcases Int.lt_trichotomy (q-a / b) 0 with f|f|f
   ·exfalso;rcases Int.lt_or_lt_of_ne j with c|c
    ·have g:=Int.mul_le_mul_of_nonpos_left (show b≤0 by omega) (show q-a / b≤ -1 by omega);have:=k c;omega
    ·have g:=Int.mul_le_mul_of_nonneg_left (show q-a / b≤ -1 by omega) (show 0≤b by omega);have:=l c;omega
   ·exact f
   ·exfalso;rcases Int.lt_or_lt_of_ne j with c|c
    ·have g:=Int.mul_le_mul_of_nonpos_left (show b≤0 by omega) (show 1≤q-a / b by omega);have:=k c;omega
    ·have g:=Int.mul_le_mul_of_nonneg_left (show 1≤q-a / b by omega) (show 0≤b by omega);have:=l c;omega
  rw[o,Int.mul_zero]at e;omega
 refine⟨fun h=>d _ _ n h om,fun h m=>?_,fun h m=>?_⟩
 ·exact d _ _ (by rw[Int.mul_add];omega) om om
 ·exact d _ _ (by rw[Int.mul_sub];omega) om om
theorem tdiv_range {s t:Int} (k: -9223372036854775808≤s) (l:s≤9223372036854775807) (h:¬(s= -9223372036854775808∧t= -1)):
 -9223372036854775808≤s.tdiv t∧s.tdiv t≤9223372036854775807:=by
 have e:(s.tdiv t).natAbs=s.natAbs / t.natAbs:=Int.natAbs_tdiv s t;have j:s.natAbs / t.natAbs≤s.natAbs:=Nat.div_le_self _ _;refine⟨by omega,?_⟩;rcases Int.lt_or_le (-9223372036854775808) s with f|f
 ·omega
 ·have g:s= -9223372036854775808:=om;have d:t≠ -1:=fun d=>h ⟨g,d⟩;rcases Int.lt_or_le t 0 with b|b
  ·have c:s.natAbs / t.natAbs≤s.natAbs / 2:=Nat.div_le_div_left om dd;omega
  ·have c:0≤(-s).tdiv t:=Int.tdiv_nonneg om b;rw[Int.neg_tdiv]at c;omega
theorem tmod_range {s t:Int} (f: -9223372036854775808≤s) (g:s≤9223372036854775807): -9223372036854775808≤s.tmod t∧s.tmod t≤9223372036854775807:=by
 have e:(s.tmod t).natAbs=s.natAbs%t.natAbs:=Int.natAbs_tmod s t;have d:s.natAbs%t.natAbs≤s.natAbs:=Nat.mod_le _ _;rcases Int.lt_or_le s 0 with b|b
 ·have c:0≤(-s).tmod t:=Int.tmod_nonneg _ om;rw[Int.neg_tmod]at c;omega
 ·have c:0≤s.tmod t:=Int.tmod_nonneg _ b;omega
theorem tdiv_abs_le (a b:Int):(a.tdiv b).natAbs≤a.natAbs:=by rw[Int.natAbs_tdiv];exact Nat.div_le_self _ _
theorem tdiv_sgn (a b:Int) (s t:Bool) (c:s=true↔a<0) (d:t=true↔b<0):
 (if (s !=t)=true then -((a.natAbs / b.natAbs:Nat):Int) else ((a.natAbs / b.natAbs:Nat):Int))=a.tdiv b∧
 (if s=true then -((a.natAbs%b.natAbs:Nat):Int) else ((a.natAbs%b.natAbs:Nat):Int))=a.tmod b:=by
 have f:a=(if s=true then -(a.natAbs:Int) else (a.natAbs:Int)):=by
  cases s
  ·have:¬a<0:=fun h=>by simpa using c.2 h
   simp;omega
  ·have:=c.1 rfl;simp;omega
 have g:b=(if t=true then -(b.natAbs:Int) else (b.natAbs:Int)):=by
  cases t
  ·have:¬b<0:=fun h=>by simpa using d.2 h
   simp;omega
  ·have:=d.1 rfl;simp;omega
 generalize a.natAbs=x at *;generalize b.natAbs=y at *;subst f g;cases s <;> cases t <;> simp[Int.neg_tdiv,Int.tdiv_neg,Int.neg_tmod,Int.tmod_neg] <;> exact(Int.tmod_eq_emod_of_nonneg om).symm
end Rad
