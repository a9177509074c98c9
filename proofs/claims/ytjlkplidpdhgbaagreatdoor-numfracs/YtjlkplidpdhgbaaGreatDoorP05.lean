/- A part of the proof: Draw3, D0, D3a, Tx, Tx2, Row. -/
import Derived.Test.YtjlkplidpdhgbaaGreatDoorP00
import Derived.Test.YtjlkplidpdhgbaaGreatDoorP02
import Derived.Test.YtjlkplidpdhgbaaGreatDoorP04
import Derived.Lib.ItoaMem
import Derived.Lib.AtoiAll
import Derived.Lib.ParseIntB
import Derived.Deep.AppendLies
set_option linter.all false
namespace Go.Rad
open Go Go.RowKit
def rdst (N:Nat) (r:Row):Option Nat:=if r.dst<N then some r.dst else none
def dstAt (tab:List Row) (j:Nat):Nat:=match tab[j]? with|some r=>r.dst|none=>0
def tabOk3 (N:Nat) (ops:List Oper) (tab:List Row):Bool:=
 let n:=ops.length
 let k:=tab.length
 decide (k≤n)&&
 (List.range n).all (fun i=>(zax ops i).all (fun j=>decide (j<i)))&&
 (List.range k).all (fun i=>match tab[i]? with
  |none=>false
  |some r=>
   zd3 ops i==rdst N r&&
   r.preds.all (fun j=>(zax ops i).contains j)&&
   r.anc.all (fun j=>(zax ops i).contains j||(zax ops i).any (fun p=>decide (p<i)&&(zcq tab p).contains j))&&
   (List.range k).all (fun j=>j==i||dstAt tab j !=r.dst)&&
   r.free.all (fun t=>(List.range k).all (fun j=>zd3 ops j !=some t||(zcq tab j).contains i)))&&
 (List.range n).all (fun i=>decide (i≤k)||decide (i<k)||(zax ops i).contains (i-1))&&
 (decide (k=n)||(List.range k).all (fun j=>(zax ops k).contains j||(zax ops k).any (fun p=>decide (p<k)&&(zcq tab p).contains j)))
theorem zei {a:Act} {t:Nat} (h:a.tmps.size≤t):a.eval (.tmp t)=undef:=by simp[Act.eval,Array.getElem?_eq_none h,Array.getD_eq_getD_getElem?]
theorem put_out {a:Act} {t:Nat} {v:Value} (h:a.tmps.size≤t):a.put (some t) v=a:=by obtain⟨c,b⟩:=a;simp only[Act.put];congr 1;exact Array.setIfInBounds_eq_of_size_le h
theorem zc1 {a:Act} {t:Nat} {v:Value} (h:t<a.tmps.size∨v=undef):(a.put (some t) v).eval (.tmp t)=v:=by
 by_cases b:t<a.tmps.size
 ·exact za0 b
 ·rcases h with h|h
  ·exact absurd h b
  ·rw[h];exact zei (by simp[Act.put];omega)
section
variable {P:Program} {Q:Exit→Act→World→Prop} {ops:List Oper}
structure Stage3 (ops:List Oper) (tab:List Row) (al:List Nat) (Φ:Nat→Value→World→Prop) (W:(Nat→Bool)→Act→World→Prop) (a0:Act) (listed:Array Bool) (a:Act) (w:World):Prop where
 size:listed.size=ops.length
 closed:∀j,j<ops.length→listed.getD j true=true→∀e∈zax ops j,listed.getD e true=true
 later:∀j,tab.length≤j→j<ops.length→listed.getD j true=false
 world:W (fun j=>listed.getD j false) a w
 defers:a.defers=a0.defers
 asize:a.tmps.size=a0.tmps.size
 vals:∀i r,tab[i]? =some r→listed.getD i true=true→Φ i (a.eval (.tmp r.dst)) w
 other:∀t,(∀i r,tab[i]? =some r→listed.getD i true=true→r.dst≠t)→a.eval (.tmp t)=a0.eval (.tmp t)
 apart:∀i∈al,∀j∈al,∀r s,i≠j→tab[i]? =some r→tab[j]? =some s→listed.getD i true=true→listed.getD j true=true→a.eval (.tmp r.dst)≠a.eval (.tmp s.dst)
theorem za2 {id:Nat} {T:Act} {w0:World} (hm:P.follows .mixedOrders=true) (c:List Row) (al:List Nat) (N:Nat) (hN:T.tmps.size=N) (wa:tabOk3 N ops c=true)
 (Φ:Nat→Value→World→Prop) (W:(Nat→Bool)→Act→World→Prop) (Ext:World→World→Prop)
 (hW:W (fun _=>false) T w0.drew) (mono:∀i v w w',Φ i v w→Ext w w'→Φ i v w')
 (step:∀i o r,ops[i]? =some o→c[i]? =some r→∀(L:Nat→Bool) a w,W L a w→L i=false→(∀j∈r.preds,L j=true)→(∀j,i∈zcq c j→L j=false)→a.tmps.size=N→(∀j∈r.preds,∀s,c[j]? =some s→Φ j (a.eval (.tmp s.dst)) w)→
  (∀t∈r.free,a.eval (.tmp t)=T.eval (.tmp t))→
  let K:Act→World→Prop:=fun a' w'=>∃v,a'=a.put (some r.dst) v∧(r.dst<N∨v=undef)∧Φ i v w'∧W (fun j=>j==i||L j) (a.put (some r.dst) v) w'∧Ext w w'∧(i∈al→∀j∈al,j≠i→∀u,Φ j u w→v≠u)
  if Region.wanted o (yielded ops.toArray a.tmps) then o.wp P a w K Q else K (a.put (some r.dst) undef) w)
 (rest:∀(vs:Nat→Value) (w:World),(∀i,i<c.length→Φ i (vs i) w)→W (fun j=>decide (j<c.length)) (zbp T c vs 0) w→(∀(m:Nat) (r:Row),c[m]? =some r→(zbp T c vs 0).eval (.tmp r.dst)=vs m)→(∀i∈al,∀j∈al,i<c.length→j<c.length→i≠j→vs i≠vs j)→
  wpList P ops.toArray Q (ops.drop c.length) (zbp T c vs 0) w):
 (Code.region id ops.toArray true).wp P Q T w0:=by
 simp only[tabOk3,Bool.and_eq_true,decide_eq_true_eq,List.all_eq_true,List.mem_range,Bool.or_eq_true,List.contains_iff_mem,List.any_eq_true]at wa;obtain⟨⟨⟨⟨R,C⟩,na⟩,ca⟩,la⟩:=wa;have k:∀(i:Nat) (r:Row),c[i]? =some r→zd3 ops i=rdst N r∧(∀j∈r.preds,j∈zax ops i)∧
  (∀j∈r.anc,j∈zax ops i∨∃p∈zax ops i,p<i∧j∈zcq c p)∧(∀j,j<c.length→j=i∨dstAt c j≠r.dst)∧
  (∀t∈r.free,∀j,j<c.length→zd3 ops j≠some t∨i∈zcq c j):=by
  intro i r g;have hi:i<c.length:=(List.getElem?_eq_some_iff.1 g).1;have h:=na i hi;simp only[g,Bool.and_eq_true,List.all_eq_true,List.mem_range,Bool.or_eq_true,List.contains_iff_mem,List.any_eq_true,decide_eq_true_eq,beq_iff_eq,bne_iff_ne]at h;obtain⟨⟨⟨⟨B,Z⟩,h3⟩,h4⟩,h5⟩:=h;exact⟨B,Z,h3,h4,h5⟩
 have E:∀(i:Nat) (r:Row),c[i]? =some r→∀(j:Nat) (s:Row),c[j]? =some s→s.dst=r.dst→j=i:=fun i r g j s D G=>by
  rcases(k i r g).2.2.2.1 j ((List.getElem?_eq_some_iff.1 D).1)with h|h
  ·exact h
  ·unfold dstAt at h;rw[D]at h;exact absurd G h
 have M:∀i,i<ops.length→c.length<i→i-1∈zax ops i:=fun i hi hk=>by
  rcases ca i hi with (h|h)|h
  ·omega
  ·omega
  ·exact h
 have O:∀(b:Array Bool) (a:Act) (w:World),Stage3 ops c al Φ W T b a w→(∀i,i<c.length→b.getD i true=true)→
  wpList P ops.toArray Q (ops.drop c.length) a w:=by
  intro b a w f l;have ja:a=zbp T c (fun i=>match c[i]? with|some r=>a.eval (.tmp r.dst)|none=>undef) 0:=by
   refine act_ext (by rw[zd8];exact f.defers) (by rw[zeu];exact f.asize) fun t=>?_;by_cases ba:a.tmps.size≤t
   ·rw[zei ba,zei (by rw[zeu,←f.asize];exact ba)]
   by_cases ht:∃(m:Nat) (r:Row),c[m]? =some r∧r.dst=t
   ·obtain⟨m,r,g,rfl⟩:=ht;rw[zgd c T _ 0 m r g (fun m' r' B Z=>E m r g m' r' B Z) (by rw[←f.asize];omega)];simp[g]
   ·rw[zet c T _ 0 t (fun r g G=>ht (by obtain⟨m,hm⟩:=List.getElem?_of_mem g;exact⟨m,r,hm,G⟩))];exact f.other t (fun i r g _ G=>ht ⟨i,r,g,G⟩)
  have g:=rest (fun i=>match c[i]? with|some r=>a.eval (.tmp r.dst)|none=>undef) w (fun i hi=>by
   have hg:=List.getElem?_eq_getElem hi;simp only[hg];exact f.vals i _ hg (l i hi)) (by
   have e:(fun j=>decide (j<c.length))=fun j=>b.getD j false:=funext fun j=>by
    rcases Nat.lt_or_ge j ops.length with n|n
    ·have H:j<b.size:=(by rw[f.size];exact n);have e1:b.getD j false=b.getD j true:=(by simp[Array.getD_eq_getD_getElem?,H]);rw[e1];rcases Nat.lt_or_ge j c.length with h|h
     ·rw[l j h];simpa using h
     ·rw[f.later j h n];simpa using h
    ·have H:¬j<b.size:=(by rw[f.size];omega);have e2:b.getD j false=false:=(by simp[Array.getD_eq_getD_getElem?,H]);rw[e2];simp;omega
   rw[e,←ja];exact f.world) (fun m r g=>by rw[←ja];simp[g]) (fun i hi j n hi' H I=>by
   have hg:=List.getElem?_eq_getElem hi';have ta:=List.getElem?_eq_getElem H;simp only[hg,ta];exact f.apart i hi j n _ _ I hg ta (l i hi') (l j H))
  rw[ja];exact g
 refine wp_region_any hm ?_;have qb:∀(fuel:Nat) (b:Array Bool) (a:Act) (w:World),(List.range ops.length).countP (fun i=>!b.getD i true)≤fuel→
  Stage3 ops c al Φ W T b a w→wpAny P .any ops.toArray Q fuel b a w:=by
  intro fuel
  induction fuel with
  |zero=>
   intro b a w hc f;have l:∀i,i<ops.length→b.getD i true=true:=fun i hi=>by have:=List.countP_eq_zero.1 (Nat.le_zero.1 hc) i (List.mem_range.2 hi);simpa using this
   have gb:c.length=ops.length:=by
    rcases Nat.lt_or_ge c.length ops.length with h|h
    ·have B:=f.later _ (Nat.le_refl _) h;rw[l _ h]at B;cases B
    ·omega
   refine zfh C c.length M 0 ops.length 0 b a w om om (Nat.le_refl _) f.size (fun i hi=>by rw[l i hi];simpa using hi) ?_;have hf:=O b a w f (fun i hi=>l i om)
   rwa [gb]at hf
  |succ fuel ih=>
   intro b a w hc f;by_cases J:∀i,i<c.length→b.getD i true=true
   ·refine zfh C c.length M (ops.length-c.length) c.length (fuel+1) b a w om om ?_ f.size (fun i hi=>?_) (O b a w f J)
    ·refine Nat.le_trans ?_ hc;have B:(List.range ops.length).countP (fun i=>!decide (i<c.length))≤(List.range ops.length).countP (fun i=>!b.getD i true):=List.countP_mono_left fun i hi h=>by have hi':=List.mem_range.1 hi;have Z:c.length≤i:=(by simpa using h);rw[f.later i Z hi'];rfl
     refine Nat.le_trans (Nat.le_of_eq ?_) B;obtain⟨d,hd⟩:=Nat.exists_eq_add_of_le R;rw[hd,List.range_add,List.countP_append];have e1:(List.range c.length).countP (fun i=>!decide (i<c.length))=0:=List.countP_eq_zero.2 fun i hi=>by simpa using List.mem_range.1 hi
     have e2:((List.range d).map (c.length+ ·)).countP (fun i=>!decide (i<c.length))=d:=(by rw[List.countP_map,List.countP_eq_length.2 (by intro i _;simp),List.length_range]);omega
    ·rcases Nat.lt_or_ge i c.length with h|h
     ·rw[J i h];simpa using h
     ·rw[f.later i h hi];simpa using h
   ·have ab:∃m,m<c.length∧b.getD m true=false:=by
     refine Classical.byContradiction fun jb=>J fun i hi=>?_;cases hv:b.getD i true
     ·exact absurd ⟨i,hi,hv⟩ jb
     ·rfl
    obtain⟨m,ib,ga⟩:=ab;refine⟨fun g=>?_,fun i hi=>?_⟩
    ·exfalso;have ea:∀i,i<ops.length→b.getD i true=true:=by
      intro i
      induction i using Nat.strongRecOn with
      |_ i ihi=>
       intro hi;cases hv:b.getD i true
       ·exfalso;have xa:ops[i]? =some ops[i]:=List.getElem?_eq_getElem hi;have:i∈Region.ready .any ops.toArray b:=(by refine mem_ready.2 ⟨hv,ops[i],by simpa using xa,fun e G hb=>?_⟩;have va:e.on<i:=C i hi e.on (by unfold zax;rw[xa];exact List.mem_map.2 ⟨e,List.mem_filter.2 ⟨by simpa using G,hb⟩,rfl⟩);have B:=ihi e.on va om;have Z:e.on<b.size:=(by rw[f.size];omega);simpa [Array.getD_eq_getD_getElem?,Array.getElem?_eq_getElem Z]using B);rw[g]at this;cases this
       ·rfl
     rw[ea m om]at ga;cases ga
    ·obtain⟨h0,o,ho,l⟩:=mem_ready.1 hi;have U:i<ops.length:=(by simpa using (Array.getElem?_eq_some_iff.1 ho).1);have ma:ops[i]? =some o:=(by simpa using ho);have F:∀e∈zax ops i,b.getD e true=true:=(by intro e G;have va:=C i U e G;unfold zax at G;rw[ma]at G;obtain⟨x,hx,rfl⟩:=List.mem_map.1 G;obtain⟨pb,hb⟩:=List.mem_filter.1 hx;have Z:=l x (by simpa using pb) hb;have h3:x.on<b.size:=(by rw[f.size];omega);simpa [Array.getD_eq_getD_getElem?,Array.getElem?_eq_getElem h3]using Z);have db:i<c.length:=by
      rcases Nat.lt_or_ge i c.length with h|h
      ·exact h
      ·exfalso;rcases Nat.lt_or_ge c.length i with h'|h'
       ·have B:=F _ (M i U h');rw[f.later (i-1) om om]at B;cases B
       ·have cb:i=c.length:=om;subst cb;rcases la with B|B
        ·omega
        ·have Z:b.getD m true=true:=by
          rcases B m ib with h3|⟨p,hp,rb,ha⟩
          ·exact F m h3
          ·unfold zcq at ha
           split at ha
           ·rename_i rp hrp
            exact zco (fun i r g=>(k i r g).2.2.1) R f.closed p rp hrp (f.closed p om (F p hp)) m ha
           ·cases ha
         rw[Z]at ga;cases ga
     obtain⟨r,g⟩:∃r,c[i]? =some r:=⟨_,List.getElem?_eq_getElem db⟩;obtain⟨hd,S,_,mb,ka⟩:=k i r g;have kb:o.dst=rdst N r:=(by unfold zd3 at hd;rw[ma]at hd;simpa using hd);have bb:∀t∈r.free,a.eval (.tmp t)=T.eval (.tmp t):=fun t ht=>by
      by_cases ba:a.tmps.size≤t
      ·rw[zei ba,zei (by rw[←f.asize];exact ba)]
      exact f.other t fun j s D q G=>by
       have n:j<c.length:=(List.getElem?_eq_some_iff.1 D).1;rcases ka t ht j n with B|B
       ·rw[(k j s D).1,rdst,G,if_pos (by rw[←hN,←f.asize];omega)]at B;exact B rfl
       ·unfold zcq at B;rw[D]at B;have:=zco (fun i r g=>(k i r g).2.2.1) R f.closed j s D (f.closed j om q) i B;rw[h0]at this;cases this
     have ia:∀j,j<ops.length→b.getD j false=b.getD j true:=fun j n=>by have H:j<b.size:=(by rw[f.size];exact n);simp[Array.getD_eq_getD_getElem?,H]
     have Y:=step i o r ma g (fun j=>b.getD j false) a w f.world (by rw[ia i U];exact h0)
      (fun j n=>by have da:=S j n;have:=C i U j da;rw[ia j om];exact F j da)
      (fun j n=>by
       cases q:b.getD j false
       ·rfl
       ·exfalso;have fb:j<c.length:=by
         unfold zcq at n;split at n
         ·rename_i s D;exact(List.getElem?_eq_some_iff.1 D).1
         ·cases n
        rw[ia j om]at q;obtain⟨s,D⟩:∃s,c[j]? =some s:=⟨_,List.getElem?_eq_getElem fb⟩;unfold zcq at n;rw[D]at n;have:=zco (fun i r g=>(k i r g).2.2.1) R f.closed j s D (f.closed j om q) i n;rw[h0]at this;cases this)
      (f.asize.trans hN) (fun j n s D=>f.vals j s D (F j (S j n))) bb
     have ua:i<b.size:=(by rw[f.size];exact U);have A:∀j,(b.setIfInBounds i true).getD j true=(if j=i then true else b.getD j true):=by
      intro j;by_cases z:j=i
      ·subst z;simp[Array.getD_eq_getD_getElem?,ua]
      ·rw[getD_set_ne true (Ne.symm z),if_neg z]
     have next:∀a' w',(∃v,a'=a.put (some r.dst) v∧(r.dst<N∨v=undef)∧Φ i v w'∧W (fun j=>j==i||b.getD j false) (a.put (some r.dst) v) w'∧Ext w w'∧(i∈al→∀j∈al,j≠i→∀u,Φ j u w→v≠u))→
      wpAny P .any ops.toArray Q fuel (b.setIfInBounds i true) a' w':=by
      rintro a' w' ⟨v,rfl,nb,hv,ob,sa,ra⟩;have oa:r.dst<a.tmps.size∨v=undef:=(by rw[f.asize,hN];exact nb);have za:W (fun j=>(b.setIfInBounds i true).getD j false) (a.put (some r.dst) v) w':=by
       have e:(fun j=>(b.setIfInBounds i true).getD j false)=fun j=>j==i||b.getD j false:=funext fun j=>by
        by_cases z:j=i
        ·subst z;simp[Array.getD_eq_getD_getElem?,ua]
        ·rw[getD_set_ne false (Ne.symm z)];simp[z]
       rw[e];exact ob
      refine ih _ _ _ ?_ ⟨by simpa using f.size,?_,?_,za,f.defers,by simpa [Act.put]using f.asize,?_,?_,?_⟩
      ·refine Nat.le_of_lt_succ (Nat.lt_of_lt_of_le (count_set (i:=i) (List.mem_range.2 U) (by simp[h0]) (by simp[A]) ?_) hc);intro j n;rw[A]at n
       split at n
       ·cases n
       ·exact n
      ·intro j n q e G;rw[A]at q⊢
       split
       ·rfl
       ·split at q
        ·rename_i z;subst z;exact F e G
        ·exact f.closed j n q e G
      ·intro j eb da;rw[A,if_neg om];exact f.later j eb da
      ·intro j s D q;rw[A]at q;by_cases z:j=i
       ·subst z;rw[g]at D;obtain rfl:=oi D;rw[zc1 oa];exact hv
       ·rw[if_neg z]at q;rw[zan (fun h=>z (E i r g j s D h.symm))];exact mono _ _ _ _ (f.vals j s D q) sa
      ·intro t ht;have lb:r.dst≠t:=ht i r g (by rw[A,if_pos rfl]);rw[zan lb];exact f.other t fun j s D q=>ht j s D (by rw[A];split <;> first|rfl|exact q)
      ·intro x hx y hy rx ry I V X fa aa;rw[A]at fa aa;by_cases pa:x=i
       ·subst pa;rw[g]at V;obtain rfl:=oi V;rw[if_neg (Ne.symm I)]at aa;rw[zc1 oa,zan (fun h=>I (E y ry X x r g h))];exact ra hx y hy (Ne.symm I) _ (f.vals y ry X aa)
       ·rw[if_neg pa]at fa;by_cases qa:y=i
        ·subst qa;rw[g]at X;obtain rfl:=oi X;rw[zc1 oa,zan (fun h=>I (E y r g x rx V h.symm))];exact(ra hy x hx I _ (f.vals x rx V fa)).symm
        ·rw[if_neg qa]at aa;rw[zan (fun h=>pa (E i r g x rx V h.symm)),zan (fun h=>qa (E i r g y ry X h.symm))];exact f.apart x hx y hy rx ry I V X fa aa
     unfold wpOp;rw[ho];simp only
     split
     ·rename_i hwt
      simp only[hwt,if_true]at Y;exact .inl (Oper.wp_mono next Y)
     ·rename_i hwt
      simp only[hwt]at Y;rw[kb];refine next _ _ ?_;unfold rdst;by_cases ya:r.dst<N
      ·rw[if_pos ya];exact Y
      ·rw[if_neg ya];rw[put_out (by rw[f.asize,hN];omega)]at Y;exact Y
 refine qb _ _ _ _ (Nat.le_trans List.countP_le_length (by simp)) ⟨by simp,?_,?_,?_,rfl,rfl,?_,fun _ _=>rfl,?_⟩
 ·intro j n h;simp[n]at h
 ·intro j _ n;simp[n]
 ·have e:(fun j=>(Array.replicate ops.toArray.size false).getD j false)=fun _=>false:=funext fun j=>by
   simp[Array.getD_eq_getD_getElem?,Array.getElem?_replicate]
   split <;> rfl
  rw[e];exact hW
 ·intro i r g h;have:i<ops.length:=(by have:=(List.getElem?_eq_some_iff.1 g).1;omega);simp[this]at h
 ·intro i _ j _ r s _ g _ h _;have:i<ops.length:=(by have:=(List.getElem?_eq_some_iff.1 g).1;omega);simp[this]at h
theorem zdp {o:Oper} {a:Act} {w:World} {d:Nat} {G:Value→World→Prop} {N:Nat} {E:Prop} (f:o.guard=none) (g:a.tmps.size=N) (j:N≤d)
 (h:∀K:Act→World→Prop,(∀w',G undef w'→K a w')→o.wp P a w K Q):
 if Region.wanted o (yielded ops.toArray a.tmps)=true then o.wp P a w (fun b w'=>∃v,b=a.put (some d) v∧(d<N∨v=undef)∧G v w') Q else E:=
 stp f (h _ fun w' c=>⟨undef,(put_out om).symm,.inr rfl,c⟩)
theorem zaj {o:Oper} {a:Act} {w:World} {d:Nat} {G:Value→World→Prop} {N:Nat} {E:Prop} (g:o.guard=none) (j:o.dst=some d) (b:d<N)
 (h:∀K:Act→World→Prop,(∀v w',G v w'→K (a.put (some d) v) w')→o.wp P a w K Q):
 if Region.wanted o (yielded ops.toArray a.tmps)=true then o.wp P a w (fun c w'=>∃v,c=a.put (some d) v∧(d<N∨v=undef)∧G v w') Q else E:=
 stp g (h _ fun v w' f=>⟨v,rfl,.inl b,f⟩)
end
end Go.Rad
namespace Go.Proofs.YtjlkplidpdhgbaaGreatDoor
open Go Go.Proofs Go.RowKit Go.Rad
structure Keep (w w':World):Prop where
 size:w.heap.size≤w'.heap.size
 u64:∀b i y,w.cell? ⟨b,i,none⟩=some (.int .u64 y)→w'.cell? ⟨b,i,none⟩=some (.int .u64 y)
theorem Keep.refl (w:World):Keep w w:=⟨Nat.le_refl _,fun _ _ _ h=>h⟩
theorem Keep.trans {a b c:World} (h:Keep a b) (k:Keep b c):Keep a c:=⟨Nat.le_trans h.size k.size,fun _ _ _ e=>k.u64 _ _ _ (h.u64 _ _ _ e)⟩
theorem Keep.drew {a b:World} (h:Keep a b):Keep a b.drew:=⟨h.size,h.u64⟩
theorem Keep.of_below {w w':World} (h:Below w.heap.size w w'):Keep w w':=⟨h.size,fun b i y e=>(h.cell (p:=⟨b,i,none⟩) (zb6 e)).trans e⟩
theorem Keep.word {w w':World} (h:Keep w w') {β b i:Nat} (e:w.cell? ⟨b,i,none⟩=some (.int .u64 ((word w b i:Nat):Int))∧word w b i<β):
 w'.cell? ⟨b,i,none⟩=some (.int .u64 ((word w b i:Nat):Int))∧word w' b i=word w b i:=by
 have c:=h.u64 _ _ _ e.1;exact⟨c,zac (c.trans e.1.symm)⟩
theorem Mag.keep {w w':World} {v:Value} {x n:Nat} (h:Mag w v x n) (k:Keep w w'):Mag w' v x n:=by
 obtain⟨g,b,o,c,r,q,m,d,s,p⟩:=h;refine⟨g,b,o,c,r,q,m,fun i hi=>?_,?_,?_⟩
 ·obtain⟨j,l⟩:=k.word (d i hi);rw[l];exact⟨j,(d i hi).2⟩
 ·rw[←s];exact za1 fun i hi=>(k.word (d i hi)).2
 ·rcases p with f|f
  ·exact .inl f
  ·by_cases t:n=0
   ·exact .inl t
   ·right;rw[(k.word (d (n-1) om)).2];exact f
theorem IsInt.keep {w w':World} {v:Value} {z:Int} (h:IsInt w v z) (k:Keep w w'):IsInt w' v z:=by
 rcases h with h|⟨s,a,n,c,m,d,b,f⟩
 ·exact .inl h
 ·exact .inr ⟨s,a,n,c,m,d,b.keep k,f⟩
structure FB (w:World) (b:Nat) (u0 u1:Value):Prop where
 lt:b<w.heap.size
 c0:w.cell? ⟨b,0,none⟩=some u0
 c1:w.cell? ⟨b,1,none⟩=some u1
 f0:w.frozen? ⟨b,0,none⟩=false
 f1:w.frozen? ⟨b,1,none⟩=false
theorem FB.step {w w':World} {b C:Nat} {u0 u1:Value} (h:FB w b u0 u1) (c:Below C w w') (d:b<C):FB w' b u0 u1:=
 ⟨Nat.lt_of_lt_of_le h.lt c.size,(World.cell?_of_block (c.block b d)).trans h.c0,(World.cell?_of_block (c.block b d)).trans h.c1,
  (World.frozen?_of_block (c.block b d)).trans h.f0,(World.frozen?_of_block (c.block b d)).trans h.f1⟩
theorem FB.below {w w':World} {b:Nat} {u0 u1:Value} (h:FB w b u0 u1) (c:Below w.heap.size w w'):FB w' b u0 u1:=h.step c h.lt
theorem FB.mk0 (w:World) (u0 u1:Value) (T:TypeId):FB (w.alloc (Obj.cells #[u0,u1] T)) w.heap.size u0 u1:=⟨by simp,qq,qq,qq,qq⟩
theorem FB.alloc {w:World} {b:Nat} {u0 u1:Value} (h:FB w b u0 u1) (X:Obj):FB (w.alloc X) b u0 u1:=h.below (zao _ _)
theorem FB.set {w:World} {b:Nat} {u0 u1:Value} (h:FB w b u0 u1) (c d:Value):FB ((w.setCell ⟨b,0,none⟩ c).setCell ⟨b,1,none⟩ d) b c d:=by
 refine⟨by simp;exact h.lt,?_,?_,?_,?_⟩
 ·rw[zaa (.inr om),zav h.c0]
 ·rw[zav (u:=u1) (by rw[zaa (.inr om)];exact h.c1)]
 ·rw[World.frozen?_setCell,World.frozen?_setCell];exact h.f0
 ·rw[World.frozen?_setCell,World.frozen?_setCell];exact h.f1
theorem FB.other {w:World} {b c:Nat} {u0 u1:Value} (h:FB w b u0 u1) (f g:Value) (d:b≠c):FB ((w.setCell ⟨c,0,none⟩ f).setCell ⟨c,1,none⟩ g) b u0 u1:=by
 refine⟨by simp;exact h.lt,?_,?_,?_,?_⟩
 ·rw[zaa (.inl d),zaa (.inl d)];exact h.c0
 ·rw[zaa (.inl d),zaa (.inl d)];exact h.c1
 ·rw[World.frozen?_setCell,World.frozen?_setCell];exact h.f0
 ·rw[World.frozen?_setCell,World.frozen?_setCell];exact h.f1
theorem FB.keep {w:World} {b:Nat} {x:Int} {a:Option Addr} {n c:Nat} (h:FB w b (.int .i64 x) (.slice a n c)) (j k:Value):Keep w ((w.setCell ⟨b,0,none⟩ j).setCell ⟨b,1,none⟩ k):=by
 refine⟨by simp,fun p i y e=>?_⟩;by_cases g:p=b
 ·subst g;have d:i≠0:=fun d=>by rw[d,h.c0]at e;simp at e
  have f:i≠1:=fun f=>by rw[f,h.c1]at e;simp at e
  rw[zaa (.inr f),zaa (.inr d)];exact e
 ·rw[zaa (.inl g),zaa (.inl g)];exact e
theorem FB.drew {w:World} {b:Nat} {u0 u1:Value} (h:FB w b u0 u1):FB w.drew b u0 u1:=⟨h.lt,h.c0,h.c1,h.f0,h.f1⟩
theorem zae (w:World):Below w.heap.size w w.drew:=(zz).drew
theorem zad {W:Nat} {g w:World} {b:Nat} (h:Below W g w) (c:W≤b) (d f:Value):Below W g ((w.setCell ⟨b,0,none⟩ d).setCell ⟨b,1,none⟩ f):=(h.setCell (p:=⟨b,0,none⟩) c d).setCell (p:=⟨b,1,none⟩) c f
def IV (w:World) (b:Nat) (z:Int):Prop:=∃s a n c,FB w b (.int .i64 s) (.slice a n c)∧IsInt w (.agg #[.int .i64 s,.slice a n c]) z
theorem IV.below {w w':World} {b:Nat} {z:Int} (h:IV w b z) (d:Below w.heap.size w w'):IV w' b z:=by obtain⟨s,a,n,c,f,g⟩:=h;exact⟨s,a,n,c,f.below d,g.below d⟩
theorem IV.drew {w:World} {b:Nat} {z:Int} (h:IV w b z):IV w.drew b z:=h.below (zae _)
theorem IV.set {w:World} {b:Nat} {z x s:Int} {a d:Option Addr} {n c j f:Nat} (h:FB w b (.int .i64 x) (.slice d j f)) (g:IsInt w (.agg #[.int .i64 s,.slice a n c]) z):
 IV ((w.setCell ⟨b,0,none⟩ (.int .i64 s)).setCell ⟨b,1,none⟩ (.slice a n c)) b z:=⟨s,a,n,c,h.set _ _,g.keep (h.keep _ _)⟩
theorem IV.other {w:World} {b p:Nat} {z x:Int} {d:Option Addr} {m f:Nat} (h:IV w b z) (l:FB w p (.int .i64 x) (.slice d m f)) (k:b≠p) (o q:Value):
 IV ((w.setCell ⟨p,0,none⟩ o).setCell ⟨p,1,none⟩ q) b z:=by
 obtain⟨s,a,n,c,g,j⟩:=h;exact⟨s,a,n,c,g.other _ _ k,j.keep (l.keep _ _)⟩
theorem fb1 (w:World) (b c:Value) (d:TypeId):Below w.heap.size w (w.alloc (Obj.cells #[b,c] d))∧FB (w.alloc (Obj.cells #[b,c] d)) w.heap.size b c:=⟨zao _ _,FB.mk0 _ _ _ _⟩
theorem fb2 (w:World) (c d f g:Value) (j k:TypeId) {b:World} (h:b=(w.alloc (Obj.cells #[c,d] j)).alloc (Obj.cells #[f,g] k)):
 Below w.heap.size w b∧FB b w.heap.size c d∧FB b (w.heap.size+1) f g:=by
 subst h;exact⟨zd2 _ _ _,(FB.mk0 _ _ _ _).alloc _,by simpa using (FB.mk0 (w.alloc _) _ _ _)⟩
theorem fb3 (w:World) (c d f g j k:Value) (l m n:TypeId) {b:World} (h:b=((w.alloc (Obj.cells #[c,d] l)).alloc (Obj.cells #[f,g] m)).alloc (Obj.cells #[j,k] n)):
 Below w.heap.size w b∧FB b w.heap.size c d∧FB b (w.heap.size+1) f g∧FB b (w.heap.size+1+1) j k:=by
 subst h;exact⟨zc3 _ _ _ _,((FB.mk0 _ _ _ _).alloc _).alloc _,by simpa using ((FB.mk0 (w.alloc _) _ _ _).alloc _),by simpa using (FB.mk0 ((w.alloc _).alloc _) _ _ _)⟩
theorem fb4 (w:World) (c d f g j k d0 d1:Value) (l m n o:TypeId) {b:World}
 (h:b=(((w.alloc (Obj.cells #[c,d] l)).alloc (Obj.cells #[f,g] m)).alloc (Obj.cells #[j,k] n)).alloc (Obj.cells #[d0,d1] o)):
 Below w.heap.size w b∧FB b w.heap.size c d∧FB b (w.heap.size+1) f g∧FB b (w.heap.size+1+1) j k∧FB b (w.heap.size+1+1+1) d0 d1:=by
 subst h;exact⟨(zc3 _ _ _ _).alloc (by simp;omega) _,(((FB.mk0 _ _ _ _).alloc _).alloc _).alloc _,by simpa using (((FB.mk0 (w.alloc _) _ _ _).alloc _).alloc _),by simpa using ((FB.mk0 ((w.alloc _).alloc _) _ _ _).alloc _),by simpa using (FB.mk0 (((w.alloc _).alloc _).alloc _) _ _ _)⟩
def NV (w1:World) (st:Bool) (z:Int) (v:Value) (w:World):Prop:=∃b:Nat,v=.pointer (some ⟨b,0,none⟩)∧w1.heap.size≤b∧∃s a n c,FB w b (.int .i64 s) (.slice a n c)∧(st=true→IsInt w (.agg #[.int .i64 s,.slice a n c]) z)
theorem NV.below {j w w':World} {g:Bool} {z:Int} {v:Value} (h:NV j g z v w) (f:Below w.heap.size w w'):NV j g z v w':=by obtain⟨b,l,d,s,a,n,c,k,hi⟩:=h;exact⟨b,l,d,s,a,n,c,k.below f,fun e=>(hi e).below f⟩
structure TwoV (w1:World) (z1 z2:Int) (Lp Lq Ls Lt:Bool) (xp xq:Value) (w:World):Prop where
 bel:Below w1.heap.size w1 w
 p:Lp=true→NV w1 Ls z1 xp w
 q:Lq=true→NV w1 Lt z2 xq w
 apart:Lp=true→Lq=true→xp≠xq
theorem TwoV.start (b:World) (f g:Int) (c d:Value):TwoV b f g false false false false c d b.drew:=⟨zae _,fun h=>(by cases h),fun h=>(by cases h),fun h=>(by cases h)⟩
theorem TwoV.below {j:World} {m n:Int} {c d f g:Bool} {k l:Value} {w w':World} (h:TwoV j m n c d f g k l w) (b:Below w.heap.size w w'):TwoV j m n c d f g k l w':=⟨h.bel.trans (b.mono h.bel.size),fun e=>(h.p e).below b,fun e=>(h.q e).below b,h.apart⟩
theorem NV.new (b w:World) (z:Int) (c:b.heap.size≤w.heap.size):NV b false z (.pointer (some ⟨w.heap.size,0,none⟩)) (w.alloc (Obj.cells #[.int .i64 0,.slice none 0 0] 24)):=⟨_,rfl,c,0,none,0,0,FB.mk0 _ _ _ _,fun h=>(by cases h)⟩
theorem NV.stored {j w:World} {l:Bool} {z:Int} {b:Nat} (h:NV j l z (.pointer (some ⟨b,0,none⟩)) w) {s:Int} {a:Option Addr} {n c:Nat} (k:IsInt w (.agg #[.int .i64 s,.slice a n c]) z):
 NV j true z (.pointer (some ⟨b,0,none⟩)) ((w.setCell ⟨b,0,none⟩ (.int .i64 s)).setCell ⟨b,1,none⟩ (.slice a n c)):=by
 obtain⟨o,g,d,r,m,q,p,f,hi⟩:=h;simp only[Value.pointer.injEq,Option.some.injEq,Addr.mk.injEq,and_true]at g;subst g;exact⟨_,rfl,d,s,a,n,c,f.set _ _,fun _=>k.keep (f.keep _ _)⟩
theorem NV.kept {l w:World} {o k:Bool} {z y:Int} {b:Nat} {v:Value} (h:NV l o z v w) (t:NV l k y (.pointer (some ⟨b,0,none⟩)) w) (j:v≠ .pointer (some ⟨b,0,none⟩)) (u x:Value):
 NV l o z v ((w.setCell ⟨b,0,none⟩ u).setCell ⟨b,1,none⟩ x):=by
 obtain⟨p,rfl,d,s,a,n,c,r,hi⟩:=h;obtain⟨B,m,q,E,A,D,C,g,hi'⟩:=t;simp only[Value.pointer.injEq,Option.some.injEq,Addr.mk.injEq,and_true]at m;subst m;have f:p≠b:=fun e=>j (by rw[e]);exact⟨_,rfl,d,s,a,n,c,r.other _ _ f,fun e=>(hi e).keep (g.keep _ _)⟩
theorem NV.ge {g w:World} {k:Bool} {z:Int} {b:Nat} (h:NV g k z (.pointer (some ⟨b,0,none⟩)) w):g.heap.size≤b∧∃s a n c,FB w b (.int .i64 s) (.slice a n c):=by obtain⟨m,f,d,q,l,p,o,j,hi⟩:=h;simp only[Value.pointer.injEq,Option.some.injEq,Addr.mk.injEq,and_true]at f;subst f;exact⟨d,_,_,_,_,j⟩
theorem NV.keep {k w:World} {f:Bool} {z:Int} {b:Nat} (h:NV k f z (.pointer (some ⟨b,0,none⟩)) w) (g j:Value):Keep w ((w.setCell ⟨b,0,none⟩ g).setCell ⟨b,1,none⟩ j):=by obtain⟨_,s,a,n,c,d⟩:=h.ge;exact d.keep _ _
theorem zbi {a:Act} {d t:Nat} {v:Value} (h:d≠t):(a.put (some d) v).eval (.tmp t)=a.eval (.tmp t):=zan h
end Go.Proofs.YtjlkplidpdhgbaaGreatDoor
namespace Rad
open Go
abbrev IsDg (b:UInt8):Prop:=48≤b.toNat∧b.toNat≤57
def runD:List UInt8→Nat
 |[]=>0
 |b::r=>if IsDg b then runD r+1 else 0
def dvalF (acc:Nat) (l:List UInt8):Nat:=l.foldl (fun a b=>a*10+(b.toNat-48)) acc
def dval (l:List UInt8):Nat:=dvalF 0 l
def wlen:List UInt8→Nat
 |[]=>0
 |b::r=>if b=45 then 1+(if r.head? =some 48 then 0 else runD r) else if b=48 then 1 else runD (b::r)
def digs:List UInt8→List UInt8
 |[]=>[]
 |b::r=>if b=45 then r else b::r
abbrev Valid (l:List UInt8):Prop:=wlen l=l.length∧digs l≠[]
def val (l:List UInt8):Int:=if l.head? =some 45 then -(dval (digs l):Int) else (dval (digs l):Int)
theorem runD_le:∀l,runD l≤l.length
 |[]=>Nat.le_refl _
 |b::r=>by unfold runD;have:=runD_le r;split <;> simp <;> omega
theorem zfk:∀ {l:List UInt8},runD l=l.length→∀b∈l,IsDg b
 |[],_,b,hb=>by simp at hb
 |c::r,h,b,hb=>by
  unfold runD at h
  split at h
  ·rename_i hc
   rcases List.mem_cons.1 hb with rfl|d
   ·exact hc
   ·exact zfk (by simpa using h) b d
  ·simp at h
theorem zd9:∀ {l:List UInt8},(∀b∈l,IsDg b)→runD l=l.length
 |[],_=>rfl
 |c::r,h=>by unfold runD;rw[if_pos (h c List.mem_cons_self),zd9 fun b d=>h b (List.mem_cons_of_mem _ d)];rfl
theorem runD_at:∀ {l:List UInt8} {i:Nat} (h:i<l.length),i<runD l→IsDg l[i]
 |b::r,i,h,hi=>by
  by_cases c:IsDg b
  ·have e:runD (b::r)=runD r+1:=(by rw[runD,if_pos c]);rw[e]at hi;cases i with
   |zero=>exact c
   |succ i=>exact runD_at (l:=r) (by simpa using h) om
  ·have e:runD (b::r)=0:=(by rw[runD,if_neg c]);omega
theorem runD_stop:∀ {l:List UInt8} (h:runD l<l.length),¬IsDg l[runD l]
 |b::r,h=>by
  by_cases c:IsDg b
  ·have e:runD (b::r)=runD r+1:=(by rw[runD,if_pos c]);simp only[e]at h⊢;exact runD_stop (l:=r) (by simpa using h)
  ·have e:runD (b::r)=0:=(by rw[runD,if_neg c]);simp only[e];exact c
theorem dvalF_append (b:Nat) (l m:List UInt8):dvalF b (l++m)=dvalF (dvalF b l) m:=by unfold dvalF;rw[List.foldl_append]
theorem zeh (c:Nat) (l:List UInt8):dvalF c l=c*10^l.length+dval l:=by
 induction l generalizing c with
 |nil=>simp[dvalF,dval]
 |cons b r ih=>have d:dvalF c (b::r)=dvalF (c*10+(b.toNat-48)) r:=rfl;have f:dval (b::r)=dvalF (0*10+(b.toNat-48)) r:=rfl;rw[d,f,ih,ih (0*10+(b.toNat-48)),List.length_cons,Nat.pow_succ,Nat.add_mul,Nat.zero_mul,Nat.zero_add,Nat.mul_assoc,Nat.mul_comm 10];omega
theorem zc9 (l m:List UInt8):dval (l++m)=dval l*10^m.length+dval m:=by show dvalF 0 (l++m)=_;rw[dvalF_append,zeh];rfl
theorem zdi (b:UInt8) (r:List UInt8):dval (b::r)=(b.toNat-48)*10^r.length+dval r:=by have:dval (b::r)=dvalF (0*10+(b.toNat-48)) r:=rfl;rw[this,zeh];simp
theorem dval_lt:∀ {l:List UInt8},(∀b∈l,IsDg b)→dval l<10^l.length
 |[],_=>by decide
 |b::r,h=>by have g:=dval_lt fun c f=>h c (List.mem_cons_of_mem _ f);have d:=h b List.mem_cons_self;rw[zdi,List.length_cons,Nat.pow_succ];have j:(b.toNat-48)*10^r.length≤9*10^r.length:=Nat.mul_le_mul_right _ (by unfold IsDg at d;omega);omega
theorem dval_ge {b:UInt8} {r:List UInt8} (f:IsDg b) (c:b≠48):10^r.length≤dval (b::r):=by rw[zdi];have d:1≤b.toNat-48:=(by unfold IsDg at f;have:b.toNat≠48:=fun h=>c (UInt8.toNat_inj.1 h);omega);have:=Nat.mul_le_mul_right (10^r.length) d;omega
theorem zgq {l:List UInt8} {b:UInt8} (h:Lib.decDigits (dval l)=l) (d:0<dval l) (c:IsDg b):Lib.decDigits (dval (l++[b]))=l++[b]:=by have e:dval (l++[b])=dval l*10+(b.toNat-48):=(by rw[zc9,zdi];simp[dval,dvalF]);unfold IsDg at c;rw[e,Lib.decDigits,dif_neg om,show(dval l*10+(b.toNat-48)) / 10=dval l by omega,show(dval l*10+(b.toNat-48))%10=b.toNat-48 by omega,h,show 48+(b.toNat-48)=b.toNat by omega];simp
theorem zc0 {b:UInt8} {r:List UInt8} (o:b≠48) (h:∀c∈b::r,IsDg c):Lib.decDigits (dval (b::r))=b::r:=by
 have l:∀n (m:List UInt8),m.length=n→(∀c∈m,IsDg c)→Lib.decDigits (dval (b::m))=b::m:=by
  intro n
  induction n with
  |zero=>intro m j _;obtain rfl:=List.length_eq_zero_iff.1 j;have q:=h b List.mem_cons_self;unfold IsDg at q;have e:dval [b]=b.toNat-48:=(by rw[zdi];simp[dval,dvalF]);rw[e,Lib.decDigits,dif_pos om,show 48+(b.toNat-48)=b.toNat by omega];simp
  |succ n ih=>intro m j f;have g:m≠[]:=(by intro e;rw[e]at j;simp at j);have d:=List.dropLast_concat_getLast g;have p:=ih m.dropLast (by rw[List.length_dropLast];omega) (fun c k=>f c (List.dropLast_subset _ k));rw[←d,←List.cons_append];refine zgq p ?_ (f _ (List.getLast_mem g));exact Nat.lt_of_lt_of_le (Nat.pow_pos dd) (dval_ge (h b List.mem_cons_self) o)
 exact l _ r rfl fun c k=>h c (List.mem_cons_of_mem _ k)
theorem zcy:∀(l:List UInt8) (d:Nat),(∀b∈l,IsDg b)→dvalF d l<18446744073709551616→Lib.parseUint10 d l=.ok (dvalF d l)
 |[],d,_,_=>rfl
 |c::r,d,h,hl=>by have g:=h c List.mem_cons_self;have e:dvalF d (c::r)=dvalF (d*10+(c.toNat-48)) r:=rfl;rw[e]at hl⊢;have j:d*10+(c.toNat-48)≤dvalF (d*10+(c.toNat-48)) r:=(by rw[zeh];have:=Nat.le_mul_of_pos_right (d*10+(c.toNat-48)) (Nat.pow_pos (show 0<10 by decide) (n:=r.length));omega);unfold Lib.parseUint10;rw[if_pos (show 48≤c.toNat∧c.toNat≤57 from g),if_neg om,if_neg om];exact zcy r _ (fun b f=>h b (List.mem_cons_of_mem _ f)) hl
theorem zc5:∀(l:List UInt8) (M d:Nat),(∀b∈l,IsDg b)→dvalF d l≤M→M<18446744073709551616→Lib.parseUintM M d l=.ok (dvalF d l)
 |[],M,d,_,_,_=>rfl
 |c::r,M,d,h,hl,hM=>by have g:=h c List.mem_cons_self;have e:dvalF d (c::r)=dvalF (d*10+(c.toNat-48)) r:=rfl;rw[e]at hl⊢;have j:d*10+(c.toNat-48)≤dvalF (d*10+(c.toNat-48)) r:=(by rw[zeh];have:=Nat.le_mul_of_pos_right (d*10+(c.toNat-48)) (Nat.pow_pos (show 0<10 by decide) (n:=r.length));omega);unfold Lib.parseUintM;rw[if_pos (show 48≤c.toNat∧c.toNat≤57 from g),if_neg om,if_neg om];exact zc5 r M _ (fun b f=>h b (List.mem_cons_of_mem _ f)) hl hM
theorem digs_neg (r:List UInt8):digs (45::r)=r:=by simp[digs]
theorem digs_pos {b:UInt8} (c:b≠45) (r:List UInt8):digs (b::r)=b::r:=by simp[digs,c]
theorem wlen_neg (r:List UInt8):wlen (45::r)=1+(if r.head? =some 48 then 0 else runD r):=by simp[wlen]
theorem wlen_zero (r:List UInt8):wlen (48::r)=1:=by simp[wlen]
theorem wlen_pos {b:UInt8} (d:b≠45) (c:b≠48) (r:List UInt8):wlen (b::r)=runD (b::r):=by simp[wlen,d,c]
theorem Valid.cases {l:List UInt8} (h:Valid l):(∃b r,digs l=b::r∧(∀c∈b::r,IsDg c)∧(b=48→r=[]∧l=[48]))∧(l=digs l∧l.head?≠some 45∨l=45::digs l):=by
 obtain⟨d,j⟩:=h;cases l with
 |nil=>simp[digs]at j
 |cons b r=>
  by_cases g:b=45
  ·subst g;rw[digs_neg]at j⊢;refine⟨?_,.inr rfl⟩;cases r with
   |nil=>simp at j
   |cons c r=>
    rw[wlen_neg]at d;by_cases f:c=48
    ·subst f;simp at d
    ·rw[if_neg (by simpa using f)]at d;refine⟨c,r,rfl,zfk (by simp at d⊢;omega),fun e=>absurd e f⟩
  ·rw[digs_pos g];refine⟨⟨b,r,rfl,?_,fun e=>?_⟩,.inl ⟨rfl,by simpa using g⟩⟩
   ·by_cases m:b=48
    ·subst m;rw[wlen_zero]at d;have k:r=[]:=List.length_eq_zero_iff.1 (by simpa using d.symm);subst k;intro c f;simp at f;subst f;exact⟨by decide,by decide⟩
    ·rw[wlen_pos g m]at d;exact zfk d
   ·subst e;rw[wlen_zero]at d;have k:r=[]:=List.length_eq_zero_iff.1 (by simpa using d.symm);subst k;exact⟨rfl,rfl⟩
theorem Valid.digits {l:List UInt8} (h:Valid l):∀c∈digs l,IsDg c:=by obtain⟨⟨b,r,f,d,_⟩,_⟩:=h.cases;rw[f];exact d
theorem Valid.val_abs {l:List UInt8}: (val l).natAbs=dval (digs l):=by unfold val;split <;> simp
theorem Valid.back {l:List UInt8} (h:Valid l):Lib.itoa (val l)=l:=by
 obtain⟨⟨b,r,f,c,g⟩,m⟩:=h.cases;rcases m with⟨he,hh⟩|he
 ·have e:val l=((dval (digs l):Nat):Int):=(by unfold val;rw[if_neg hh]);rw[e,Lib.itoa_nonneg];by_cases d:b=48
  ·obtain⟨_,j⟩:=g d;subst j;have:dval (digs [48])=0:=dd;rw[this,Lib.decDigits_one dd];rfl
  ·rw[f,zc0 d c,←f];exact he.symm
 ·have e:val l= -((dval (digs l):Nat):Int):=(by unfold val;rw[if_pos (by rw[he];rfl)]);have d:b≠48:=fun d=>by have:=(g d).2;rw[this]at he;simp[digs]at he
  have k:0<dval (digs l):=(by rw[f];exact Nat.lt_of_lt_of_le (Nat.pow_pos dd) (dval_ge (c b List.mem_cons_self) d));rw[e,Lib.itoa_neg _ k,f,zc0 d c,←f];exact he.symm
theorem dg_not_sign {c:UInt8} (h:IsDg c):¬c.toNat=43∧¬c.toNat=45:=by unfold IsDg at h;omega
theorem zgc {d:List UInt8} (c:d≠[]) (h:∀b∈d,IsDg b) (f:d.length≤19):Lib.parseMag d=.ok (dval d):=by unfold Lib.parseMag;rw[if_neg c];refine zcy d 0 h ?_;have g:dvalF 0 d<10^d.length:=dval_lt h;have j:10^d.length≤10^19:=Nat.pow_le_pow_right dd f;omega
theorem pu_ok {d:List UInt8} (c:d≠[]) (h:∀b∈d,IsDg b) (f:d.length≤19):Lib.parseUintB 64 d=.ok (dval d):=by unfold Lib.parseUintB;rw[if_neg c];have g:dvalF 0 d<10^d.length:=dval_lt h;have j:10^d.length≤10^19:=Nat.pow_le_pow_right dd f;exact zc5 d _ 0 h om dd
theorem atoi_ok {l:List UInt8} (h:Valid l) (o:(digs l).length≤18):Lib.atoiAll l=.ok (val l):=by
 have k:=h.digits;have q:dval (digs l)<1000000000000000000:=(by have s:=dval_lt k;have t:10^(digs l).length≤10^18:=Nat.pow_le_pow_right dd o;omega);have g:=zgc h.2 k om;obtain⟨⟨b,r,d,_,_⟩,p⟩:=h.cases;have n:IsDg b:=k b (by rw[d];exact List.mem_cons_self);have f:=dg_not_sign n;rcases p with⟨he,hh⟩|he
 ·have e:val l=((dval (digs l):Nat):Int):=(by unfold val;rw[if_neg hh]);rw[e];have c:l=b::r:=(by rw[he];exact d);rw[←he]at g;rw[he]at c⊢;rw[←he]at c⊢;rw[c]at g⊢;unfold Lib.atoiAll;simp only[f.1,f.2,or_self,if_false,g];have m:digs (b::r)=b::r:=(by rw[←c];exact he.symm);rw[d]at q;rw[m];rw[if_neg om];simp
 ·have e:val l= -((dval (digs l):Nat):Int):=(by unfold val;rw[if_pos (by rw[he];rfl)]);rw[e];rw[he];unfold Lib.atoiAll;simp only[digs_neg];have j:(45:UInt8).toNat=45:=rfl;simp only[j,or_true,if_true,g];simp only[not_true,false_and,if_false,true_and];rw[if_neg om]
theorem chunk_step {W D:Nat} {t:List UInt8} {n V:Nat} (f:n≤t.length) (b:W=0∨n=19) (h:W*10^t.length+dval t=V) (c:D=dval (t.take n)):
 (W*10000000000000000000+D)*10^(t.drop n).length+dval (t.drop n)=V:=by
 have e:=zc9 (t.take n) (t.drop n);rw[List.take_append_drop]at e;have d:t.length=n+(t.drop n).length:=(by rw[List.length_drop];omega);rw[e,d]at h;rw[c,←h,Nat.add_mul,Nat.add_assoc];congr 1;rcases b with b|b
 ·rw[b];simp
 ·rw[b,Nat.pow_add,←Nat.mul_assoc]
end Rad
namespace Go.Rad
open Go Go.RowKit
def lv (β:Nat):List Nat→Nat
 |[]=>0
 |x::r=>x+β*lv β r
theorem lv_append (β:Nat) (xs b:List Nat):lv β (xs++b)=lv β xs+β^xs.length*lv β b:=by
 induction xs with
 |nil=>simp[lv]
 |cons x r ih=>simp only[List.cons_append,lv,ih,List.length_cons,Nat.pow_succ,Nat.mul_add];rw[Nat.mul_comm (β^r.length) β,Nat.mul_assoc];omega
theorem zbu (β:Nat) (xs:List Nat) (x:Nat):lv β (xs++[x])=lv β xs+β^xs.length*x:=by rw[lv_append];simp[lv]
theorem lv_lt {β:Nat} (f:0<β):∀ {xs:List Nat},(∀x∈xs,x<β)→lv β xs<β^xs.length
 |[],_=>by simp[lv]
 |x::r,h=>by have b:=lv_lt f (xs:=r) (fun y d=>h y (List.mem_cons_of_mem _ d));have g:=h x List.mem_cons_self;have c:=Nat.mul_le_mul_left β b;simp only[lv,List.length_cons,Nat.pow_succ];rw[Nat.mul_comm (β^r.length) β];rw[Nat.mul_succ]at c;omega
def RowN (k:IntKind) (e:TypeId) (w:World) (base:Nat) (v:Value) (xs:List Nat):Prop:=w.ownsRow base e 1 v xs.length (xs.map fun (x:Nat)=>Value.int k (x:Int))
theorem RowN.hid {k:IntKind} {e:TypeId} {w:World} {b:Nat} {v:Value} {xs:List Nat} (h:RowN k e w b v xs):Hid (RowN k e w b v xs):=h
theorem RowN.nil (k:IntKind) (e:TypeId) (w:World) (b:Nat):RowN k e w b (.slice none 0 0) []:=World.ownsRow_nil _ _ _ _
theorem RowN.form {k:IntKind} {e:TypeId} {w:World} {d:Nat} {v:Value} {xs:List Nat} (h:RowN k e w d v xs):
 ∃f c,v=.slice f xs.length c∧xs.length≤c∧c≤maxLen∧((f=none∧xs.length=0∧c=0)∨∃b,f=some ⟨b,0,none⟩∧d≤b∧b<w.heap.size):=by
 rcases h.2 with⟨hv,h0⟩|⟨g,cap,cur,hv,hb,hg,hc,hm,_⟩
 ·exact⟨none,0,by rw[hv,h0],by omega,by unfold maxLen;omega,.inl ⟨rfl,h0,rfl⟩⟩
 ·exact⟨_,cap,hv,hc,hm,.inr ⟨g,rfl,hb,(Array.getElem?_eq_some_iff.1 hg).1⟩⟩
theorem RowN.cell {k:IntKind} {e:TypeId} {w:World} {d b n c:Nat} {xs:List Nat} (h:RowN k e w d (.slice (some ⟨b,0,none⟩) n c) xs) {i:Nat} (hi:i<xs.length):
 w.cell? ⟨b,i,none⟩=some (.int k ((xs[i]:Nat):Int)):=by
 obtain⟨_,_,f,_⟩:=h.form;obtain⟨_,rfl,_⟩:=Value.slice.inj f;rw[World.ownsRow.cellAt h i om];simp[hi]
theorem RowN.free {k:IntKind} {e:TypeId} {w:World} {d b n c:Nat} {xs:List Nat} (h:RowN k e w d (.slice (some ⟨b,0,none⟩) n c) xs) (i:Nat):w.frozen? ⟨b,i,none⟩=false:=by obtain⟨_,_,f,_⟩:=h.form;obtain⟨_,rfl,_⟩:=Value.slice.inj f;exact World.ownsRow.frozenAt h i
theorem RowN.keep {k:IntKind} {e:TypeId} {w w':World} {c B:Nat} {v:Value} {xs:List Nat} (h:RowN k e w c v xs) (o:Below B w w') (n:∀b,v.ownBlock=some b→b<B):RowN k e w' c v xs:=by
 refine⟨h.1,?_⟩;rcases h.2 with m|⟨g,d,f,l,j,p,rest⟩
 ·exact .inl m
 ·exact .inr ⟨g,d,f,l,j,(o.block g (n g (by rw[l];rfl))).trans p,rest⟩
theorem RowN.own_lt {k:IntKind} {e:TypeId} {w:World} {c:Nat} {v:Value} {xs:List Nat} (h:RowN k e w c v xs):∀b,v.ownBlock=some b→c≤b∧b<w.heap.size:=World.ownsRow.lt h
theorem RowN.below {k:IntKind} {e:TypeId} {w w':World} {c:Nat} {v:Value} {xs:List Nat} (h:RowN k e w c v xs) (d:Below w.heap.size w w'):RowN k e w' c v xs:=h.keep d fun b f=>(h.own_lt b f).2
theorem RowN.mono {k:IntKind} {e:TypeId} {w:World} {c b:Nat} {v:Value} {xs:List Nat} (h:RowN k e w c v xs) (o:b≤c):RowN k e w b v xs:=by
 refine⟨h.1,?_⟩;rcases h.2 with j|⟨g,d,f,n,m,l,rest⟩
 ·exact .inl j
 ·exact .inr ⟨g,d,f,n,by omega,l,rest⟩
theorem RowN.set {k:IntKind} {e:TypeId} {w:World} {d b n c:Nat} {xs:List Nat} (h:RowN k e w d (.slice (some ⟨b,0,none⟩) n c) xs) (i x:Nat):
 RowN k e (w.setCell ⟨b,i,none⟩ (.int k (x:Int))) d (.slice (some ⟨b,0,none⟩) n c) (xs.set i x):=by
 obtain⟨_,_,g,_⟩:=h.form;obtain⟨_,rfl,_⟩:=Value.slice.inj g;have f:=(World.ownsRow.stored h i (.int k (x:Int))).1;unfold RowN;rw[List.length_set,List.map_set];exact f
theorem RowN.arr {k:IntKind} {e:TypeId} {w:World} {base β:Nat} {v:Value} {xs:List Nat} (h:RowN k e w base v xs) (q:∀x∈xs,x<β):
 ∃d b c,v=.slice d xs.length c∧Sl d b 0 xs.length∧xs.length≤c∧c≤maxLen∧Arr k β w b 0 xs.length∧num β w b 0 xs.length=lv β xs∧Free w b 0 xs.length∧(0<xs.length→base≤b)∧(∀i (hi:i<xs.length),word w b i=xs[i]):=by
 obtain⟨d,c,l,p,j,o⟩:=h.form;rcases o with⟨rfl,h0,rfl⟩|⟨b,rfl,hb,hlt⟩
 ·have:xs=[]:=List.eq_nil_of_length_eq_zero h0;subst this;exact⟨none,0,0,l,fun h=>by simp at h,Nat.le_refl _,j,fun i hi=>by simp at hi,rfl,fun i hi=>by simp at hi,fun h=>by simp at h,fun i hi=>by simp at hi⟩
 ·subst l;have f:∀i (hi:i<xs.length),word w b i=xs[i]:=fun i hi=>zb9 (h.cell hi);have m:Arr k β w b 0 xs.length:=fun i hi=>by rw[Nat.zero_add,f i hi];exact⟨h.cell hi,q _ (List.getElem_mem hi)⟩
  refine⟨_,b,c,rfl,Sl.mk _ _ _,p,j,m,?_,fun i _=>h.free _,fun _=>hb,f⟩;have g:∀n,n≤xs.length→num β w b 0 n=lv β (xs.take n):=by
   intro n
   induction n with
   |zero=>intro _;rfl
   |succ n ih=>intro r;rw[zam,ih om,List.take_succ_eq_append_getElem om,zbu,List.length_take,Nat.min_eq_left om,Nat.zero_add,f n om]
  rw[g _ (Nat.le_refl _),List.take_length]
theorem zay {P:Program} {w:World} {q:Array Oper} {rest:List Oper} {o:Oper} {a:Act} {Q:Exit→Act→World→Prop} (k:IntKind) (e:TypeId) (B:o.guard=none) (s x:Operand) (t:TypeId)
 (O:o.op=.call {callee:= .builtin .append,args:=#[s,x],argTypes:=#[t,t]})
 (S:P.underlying t=some (.slice e)) (bytes:Nat) (hi:(P.info? e).map (fun i=>(i.zero,i.size,i.bytes))=some (some (.int k 0),1,bytes)) (A:bytes≤8)
 (c:Nat) (v:Value) (xs:List Nat) (R:a.eval s=v) (f:RowN k e w c v xs) (r J y:Nat) (T:a.eval x=.slice (some ⟨r,0,none⟩) 1 J) (M:w.cell? ⟨r,0,none⟩=some (.int k (y:Int)))
 (H:xs.length≤1099511627776) (d:c≤w.heap.size)
 (h:∀G w',RowN k e w' c G (xs++[y])→Below c w w'→(∀b,G.ownBlock=some b→v.ownBlock=some b∨b=w.heap.size)→w.grownBy w' v.ownBlock→wpList P q Q rest (a.put o.dst G) w'):wpList P q Q (o::rest) a w:=by
 obtain⟨i,C,n⟩:=Option.map_eq_some_iff.1 hi;simp only[Prod.mk.injEq]at n;obtain⟨U,V,W⟩:=n;have l:w.ownsRow c e 1 v xs.length (xs.map fun (x:Nat)=>Value.int k (x:Int)):=f;refine wpList_append_lies w B s x t O c e i (.int k 0) 1 bytes S C U V W rfl om v xs.length _ R l ⟨r,0,none⟩ 1 J [.int k (y:Int)] T rfl ?_ ?_ om (by unfold maxLen;omega) ?_ d w.heap.size rfl ?_
 ·intro j u D
  match j,D with
  |0,D=>have E:Value.int k (y:Int)=u:=Option.some.inj D;rw[←E];exact M
 ·intro u I;simp at I;subst I;rfl
 ·calc (xs.length+1)*bytes≤(xs.length+1)*8:=Nat.mul_le_mul_left _ A
   _≤140737488355328:=by omega
 ·intro g L w' p m F N;refine h _ w' (by unfold RowN;rw[List.length_append,List.map_append];exact p) ?_ (fun b z=>?_) m
  ·exact(zz).grown m d fun b z=>(f.own_lt b z).1
  ·have:g=b:=Option.some.inj z;subst this;exact F
theorem zgl {P:Program} {w:World} {j:Array Oper} {rest:List Oper} {o:Oper} {a:Act} {Q:Exit→Act→World→Prop} (k:IntKind) (e:TypeId)
 (B:o.guard=none) (l c:Operand) (t:TypeId) (q:o.op=Op.makeSlice t l c) (E:P.underlying t=some (.slice e)) (bytes:Nat)
 (hi:(P.info? e).map (fun i=>(i.zero,i.size,i.bytes))=some (some (.int k 0),1,bytes)) (y:bytes≤8) (s r:IntKind) (C:Int) (n:Nat) (D:a.eval l=.int s 0) (A:a.eval c=.int r C) (u:C=(n:Int)) (H:n≤1099511627776) (b:Nat) (d:b≤w.heap.size)
 (x:∀w',RowN k e w' b (.slice (some ⟨w.heap.size,0,none⟩) 0 n) []→Below w.heap.size w w'→wpList P j Q rest (a.put o.dst (.slice (some ⟨w.heap.size,0,none⟩) 0 n)) w'):
 wpList P j Q (o::rest) a w:=by
 obtain⟨i,p,f⟩:=Option.map_eq_some_iff.1 hi;simp only[Prod.mk.injEq]at f;obtain⟨F,G,I⟩:=f;subst u;refine wpList_plain B fun K m=>?_;have z:i.bytes*n≤8*n:=Nat.mul_le_mul_right _ om;have g:=run_make (P:=P) w t e i (.int k 0) E p F s r 0 n om om (by rw[←Int.natCast_mul];exact(show((i.bytes*n:Nat):Int)≤281474976710656 by omega)) om;unfold Oper.wp;simp[execOp,q,D,A,g,Result.andThen];refine m _ _ (x _ ?_ ((zz).alloc (Nat.le_refl _) _));exact World.ownsRow_made w _ n d (by unfold maxLen;omega) (by simp[madeCells,G])
end Go.Rad
