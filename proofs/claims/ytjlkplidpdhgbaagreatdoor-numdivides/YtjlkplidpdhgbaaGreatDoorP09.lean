/- A part of the proof: Draw3, D0, G4. -/
import Derived.Test.YtjlkplidpdhgbaaGreatDoorP00
import Derived.Test.YtjlkplidpdhgbaaGreatDoorP02
import Derived.Test.YtjlkplidpdhgbaaGreatDoorP04
import Derived.Test.YtjlkplidpdhgbaaGreatDoorP07
import Derived.Test.YtjlkplidpdhgbaaGreatDoorP08
set_option linter.all false
set_option maxRecDepth 10000
set_option maxHeartbeats 4000000
namespace Go.Rad
open Go Go.RowKit
def rdst (N:Nat) (r:Row):Option Nat:=if r.dst<N then some r.dst else none
def dstAt (tab:List Row) (j:Nat):Nat:=match tab[j]? with|some r=>r.dst|none=>0
def tabOk3 (N:Nat) (ops:List Oper) (tab:List Row):Bool:=
 let n:=ops.length
 let k:=tab.length
 decide (k≤n)&&
 (List.range n).all (fun i=>(zaw ops i).all (fun j=>decide (j<i)))&&
 (List.range k).all (fun i=>match tab[i]? with
  |none=>false
  |some r=>
   zdo ops i==rdst N r&&
   r.preds.all (fun j=>(zaw ops i).contains j)&&
   r.anc.all (fun j=>(zaw ops i).contains j||(zaw ops i).any (fun p=>decide (p<i)&&(zcg tab p).contains j))&&
   (List.range k).all (fun j=>j==i||dstAt tab j !=r.dst)&&
   r.free.all (fun t=>(List.range k).all (fun j=>zdo ops j !=some t||(zcg tab j).contains i)))&&
 (List.range n).all (fun i=>decide (i≤k)||decide (i<k)||(zaw ops i).contains (i-1))&&
 (decide (k=n)||(List.range k).all (fun j=>(zaw ops k).contains j||(zaw ops k).any (fun p=>decide (p<k)&&(zcg tab p).contains j)))
theorem zd3 {a:Act} {t:Nat} (h:a.tmps.size≤t):a.eval (.tmp t)=undef:=by simp[Act.eval,Array.getElem?_eq_none h,Array.getD_eq_getD_getElem?]
theorem put_out {a:Act} {t:Nat} {v:Value} (h:a.tmps.size≤t):a.put (some t) v=a:=by obtain⟨c,b⟩:=a;simp only[Act.put];congr 1;exact Array.setIfInBounds_eq_of_size_le h
theorem zcp {a:Act} {t:Nat} {v:Value} (h:t<a.tmps.size∨v=undef):(a.put (some t) v).eval (.tmp t)=v:=by
 by_cases b:t<a.tmps.size
 ·exact zay b
 ·rcases h with h|h
  ·exact absurd h b
  ·rw[h];exact zd3 (by simp[Act.put];omega)
section
variable {P:Program} {Q:Exit→Act→World→Prop} {ops:List Oper}
structure Stage3 (ops:List Oper) (tab:List Row) (al:List Nat) (Φ:Nat→Value→World→Prop) (W:(Nat→Bool)→Act→World→Prop) (a0:Act) (listed:Array Bool) (a:Act) (w:World):Prop where
 size:listed.size=ops.length
 closed:∀j,j<ops.length→listed.getD j true=true→∀e∈zaw ops j,listed.getD e true=true
 later:∀j,tab.length≤j→j<ops.length→listed.getD j true=false
 world:W (fun j=>listed.getD j false) a w
 defers:a.defers=a0.defers
 asize:a.tmps.size=a0.tmps.size
 vals:∀i r,tab[i]? =some r→listed.getD i true=true→Φ i (a.eval (.tmp r.dst)) w
 other:∀t,(∀i r,tab[i]? =some r→listed.getD i true=true→r.dst≠t)→a.eval (.tmp t)=a0.eval (.tmp t)
 apart:∀i∈al,∀j∈al,∀r s,i≠j→tab[i]? =some r→tab[j]? =some s→listed.getD i true=true→listed.getD j true=true→a.eval (.tmp r.dst)≠a.eval (.tmp s.dst)
theorem zdg {id:Nat} {T:Act} {w0:World} (hm:P.follows .mixedOrders=true) (c:List Row) (al:List Nat) (N:Nat) (hN:T.tmps.size=N) (wa:tabOk3 N ops c=true)
 (Φ:Nat→Value→World→Prop) (W:(Nat→Bool)→Act→World→Prop) (Ext:World→World→Prop)
 (hW:W (fun _=>false) T w0.drew) (mono:∀i v w w',Φ i v w→Ext w w'→Φ i v w')
 (step:∀i o r,ops[i]? =some o→c[i]? =some r→∀(L:Nat→Bool) a w,W L a w→L i=false→(∀j∈r.preds,L j=true)→(∀j,i∈zcg c j→L j=false)→a.tmps.size=N→(∀j∈r.preds,∀s,c[j]? =some s→Φ j (a.eval (.tmp s.dst)) w)→
  (∀t∈r.free,a.eval (.tmp t)=T.eval (.tmp t))→
  let K:Act→World→Prop:=fun a' w'=>∃v,a'=a.put (some r.dst) v∧(r.dst<N∨v=undef)∧Φ i v w'∧W (fun j=>j==i||L j) (a.put (some r.dst) v) w'∧Ext w w'∧(i∈al→∀j∈al,j≠i→∀u,Φ j u w→v≠u)
  if Region.wanted o (yielded ops.toArray a.tmps) then o.wp P a w K Q else K (a.put (some r.dst) undef) w)
 (rest:∀(vs:Nat→Value) (w:World),(∀i,i<c.length→Φ i (vs i) w)→W (fun j=>decide (j<c.length)) (zbx T c vs 0) w→(∀(m:Nat) (r:Row),c[m]? =some r→(zbx T c vs 0).eval (.tmp r.dst)=vs m)→(∀i∈al,∀j∈al,i<c.length→j<c.length→i≠j→vs i≠vs j)→
  wpList P ops.toArray Q (ops.drop c.length) (zbx T c vs 0) w):
 (Code.region id ops.toArray true).wp P Q T w0:=by
 simp only[tabOk3,Bool.and_eq_true,decide_eq_true_eq,List.all_eq_true,List.mem_range,Bool.or_eq_true,List.contains_iff_mem,List.any_eq_true]at wa;obtain⟨⟨⟨⟨R,C⟩,na⟩,ca⟩,la⟩:=wa;have k:∀(i:Nat) (r:Row),c[i]? =some r→zdo ops i=rdst N r∧(∀j∈r.preds,j∈zaw ops i)∧
  (∀j∈r.anc,j∈zaw ops i∨∃p∈zaw ops i,p<i∧j∈zcg c p)∧(∀j,j<c.length→j=i∨dstAt c j≠r.dst)∧
  (∀t∈r.free,∀j,j<c.length→zdo ops j≠some t∨i∈zcg c j):=by
  intro i r g;have hi:i<c.length:=(List.getElem?_eq_some_iff.1 g).1;have h:=na i hi;simp only[g,Bool.and_eq_true,List.all_eq_true,List.mem_range,Bool.or_eq_true,List.contains_iff_mem,List.any_eq_true,decide_eq_true_eq,beq_iff_eq,bne_iff_ne]at h;obtain⟨⟨⟨⟨B,Z⟩,h3⟩,h4⟩,h5⟩:=h;exact⟨B,Z,h3,h4,h5⟩
 have E:∀(i:Nat) (r:Row),c[i]? =some r→∀(j:Nat) (s:Row),c[j]? =some s→s.dst=r.dst→j=i:=fun i r g j s D G=>by
  rcases(k i r g).2.2.2.1 j ((List.getElem?_eq_some_iff.1 D).1)with h|h
  ·exact h
  ·unfold dstAt at h;rw[D]at h;exact absurd G h
 have M:∀i,i<ops.length→c.length<i→i-1∈zaw ops i:=fun i hi hk=>by
  rcases ca i hi with (h|h)|h
  ·omega
  ·omega
  ·exact h
 have O:∀(b:Array Bool) (a:Act) (w:World),Stage3 ops c al Φ W T b a w→(∀i,i<c.length→b.getD i true=true)→
  wpList P ops.toArray Q (ops.drop c.length) a w:=by
  intro b a w f l;have ja:a=zbx T c (fun i=>match c[i]? with|some r=>a.eval (.tmp r.dst)|none=>undef) 0:=by
   refine act_ext (by rw[zdt];exact f.defers) (by rw[zec];exact f.asize) fun t=>?_;by_cases ba:a.tmps.size≤t
   ·rw[zd3 ba,zd3 (by rw[zec,←f.asize];exact ba)]
   by_cases ht:∃(m:Nat) (r:Row),c[m]? =some r∧r.dst=t
   ·obtain⟨m,r,g,rfl⟩:=ht;rw[zfo c T _ 0 m r g (fun m' r' B Z=>E m r g m' r' B Z) (by rw[←f.asize];omega)];simp[g]
   ·rw[zeb c T _ 0 t (fun r g G=>ht (by obtain⟨m,hm⟩:=List.getElem?_of_mem g;exact⟨m,r,hm,G⟩))];exact f.other t (fun i r g _ G=>ht ⟨i,r,g,G⟩)
  have g:=rest (fun i=>match c[i]? with|some r=>a.eval (.tmp r.dst)|none=>undef) w (fun i hi=>by
   have hg:=List.getElem?_eq_getElem hi;simp only[hg];exact f.vals i _ hg (l i hi)) (by
   have e:(fun j=>decide (j<c.length))=fun j=>b.getD j false:=funext fun j=>by
    rcases Nat.lt_or_ge j ops.length with n|n
    ·have H:j<b.size:=(by rw[f.size];exact n);have e1:b.getD j false=b.getD j true:=(by simp[Array.getD_eq_getD_getElem?,H]);rw[e1];rcases Nat.lt_or_ge j c.length with h|h
     ·rw[l j h];simpa using h
     ·rw[f.later j h n];simpa using h
    ·have H:¬j<b.size:=(by rw[f.size];omega);have e2:b.getD j false=false:=(by simp[Array.getD_eq_getD_getElem?,H]);rw[e2];simp;omega
   rw[e,←ja];exact f.world) (fun m r g=>by rw[←ja];simp[g]) (fun i hi j n hi' H I=>by
   have hg:=List.getElem?_eq_getElem hi';have ta:=List.getElem?_eq_getElem H;simp only[hg,ta];exact f.apart i hi j n _ _ I hg ta (l i hi') (l j H))
  rw[ja];exact g
 refine wp_region_any hm ?_;have qb:∀(fuel:Nat) (b:Array Bool) (a:Act) (w:World),(List.range ops.length).countP (fun i=>!b.getD i true)≤fuel→
  Stage3 ops c al Φ W T b a w→wpAny P .any ops.toArray Q fuel b a w:=by
  intro fuel
  induction fuel with
  |zero=>
   intro b a w hc f;have l:∀i,i<ops.length→b.getD i true=true:=fun i hi=>by have:=List.countP_eq_zero.1 (Nat.le_zero.1 hc) i (List.mem_range.2 hi);simpa using this
   have gb:c.length=ops.length:=by
    rcases Nat.lt_or_ge c.length ops.length with h|h
    ·have B:=f.later _ (Nat.le_refl _) h;rw[l _ h]at B;cases B
    ·omega
   refine zez C c.length M 0 ops.length 0 b a w om om (Nat.le_refl _) f.size (fun i hi=>by rw[l i hi];simpa using hi) ?_;have hf:=O b a w f (fun i hi=>l i om)
   rwa [gb]at hf
  |succ fuel ih=>
   intro b a w hc f;by_cases J:∀i,i<c.length→b.getD i true=true
   ·refine zez C c.length M (ops.length-c.length) c.length (fuel+1) b a w om om ?_ f.size (fun i hi=>?_) (O b a w f J)
    ·refine Nat.le_trans ?_ hc;have B:(List.range ops.length).countP (fun i=>!decide (i<c.length))≤(List.range ops.length).countP (fun i=>!b.getD i true):=List.countP_mono_left fun i hi h=>by have hi':=List.mem_range.1 hi;have Z:c.length≤i:=(by simpa using h);rw[f.later i Z hi'];rfl
     refine Nat.le_trans (Nat.le_of_eq ?_) B;obtain⟨d,hd⟩:=Nat.exists_eq_add_of_le R;rw[hd,List.range_add,List.countP_append];have e1:(List.range c.length).countP (fun i=>!decide (i<c.length))=0:=List.countP_eq_zero.2 fun i hi=>by simpa using List.mem_range.1 hi
     have e2:((List.range d).map (c.length+ ·)).countP (fun i=>!decide (i<c.length))=d:=(by rw[List.countP_map,List.countP_eq_length.2 (by intro i _;simp),List.length_range]);omega
    ·rcases Nat.lt_or_ge i c.length with h|h
     ·rw[J i h];simpa using h
     ·rw[f.later i h hi];simpa using h
   ·have ab:∃m,m<c.length∧b.getD m true=false:=by
     refine Classical.byContradiction fun jb=>J fun i hi=>?_;cases hv:b.getD i true
     ·exact absurd ⟨i,hi,hv⟩ jb
     ·rfl
    obtain⟨m,ib,ga⟩:=ab;refine⟨fun g=>?_,fun i hi=>?_⟩
    ·exfalso;have ea:∀i,i<ops.length→b.getD i true=true:=by
      intro i
      induction i using Nat.strongRecOn with
      |_ i ihi=>
       intro hi;cases hv:b.getD i true
       ·exfalso;have xa:ops[i]? =some ops[i]:=List.getElem?_eq_getElem hi;have:i∈Region.ready .any ops.toArray b:=(by refine mem_ready.2 ⟨hv,ops[i],by simpa using xa,fun e G hb=>?_⟩;have va:e.on<i:=C i hi e.on (by unfold zaw;rw[xa];exact List.mem_map.2 ⟨e,List.mem_filter.2 ⟨by simpa using G,hb⟩,rfl⟩);have B:=ihi e.on va om;have Z:e.on<b.size:=(by rw[f.size];omega);simpa [Array.getD_eq_getD_getElem?,Array.getElem?_eq_getElem Z]using B);rw[g]at this;cases this
       ·rfl
     rw[ea m om]at ga;cases ga
    ·obtain⟨h0,o,ho,l⟩:=mem_ready.1 hi;have U:i<ops.length:=(by simpa using (Array.getElem?_eq_some_iff.1 ho).1);have ma:ops[i]? =some o:=(by simpa using ho);have F:∀e∈zaw ops i,b.getD e true=true:=(by intro e G;have va:=C i U e G;unfold zaw at G;rw[ma]at G;obtain⟨x,hx,rfl⟩:=List.mem_map.1 G;obtain⟨pb,hb⟩:=List.mem_filter.1 hx;have Z:=l x (by simpa using pb) hb;have h3:x.on<b.size:=(by rw[f.size];omega);simpa [Array.getD_eq_getD_getElem?,Array.getElem?_eq_getElem h3]using Z);have db:i<c.length:=by
      rcases Nat.lt_or_ge i c.length with h|h
      ·exact h
      ·exfalso;rcases Nat.lt_or_ge c.length i with h'|h'
       ·have B:=F _ (M i U h');rw[f.later (i-1) om om]at B;cases B
       ·have cb:i=c.length:=om;subst cb;rcases la with B|B
        ·omega
        ·have Z:b.getD m true=true:=by
          rcases B m ib with h3|⟨p,hp,rb,ha⟩
          ·exact F m h3
          ·unfold zcg at ha
           split at ha
           ·rename_i rp hrp
            exact zcf (fun i r g=>(k i r g).2.2.1) R f.closed p rp hrp (f.closed p om (F p hp)) m ha
           ·cases ha
         rw[Z]at ga;cases ga
     obtain⟨r,g⟩:∃r,c[i]? =some r:=⟨_,List.getElem?_eq_getElem db⟩;obtain⟨hd,S,_,mb,ka⟩:=k i r g;have kb:o.dst=rdst N r:=(by unfold zdo at hd;rw[ma]at hd;simpa using hd);have bb:∀t∈r.free,a.eval (.tmp t)=T.eval (.tmp t):=fun t ht=>by
      by_cases ba:a.tmps.size≤t
      ·rw[zd3 ba,zd3 (by rw[←f.asize];exact ba)]
      exact f.other t fun j s D q G=>by
       have n:j<c.length:=(List.getElem?_eq_some_iff.1 D).1;rcases ka t ht j n with B|B
       ·rw[(k j s D).1,rdst,G,if_pos (by rw[←hN,←f.asize];omega)]at B;exact B rfl
       ·unfold zcg at B;rw[D]at B;have:=zcf (fun i r g=>(k i r g).2.2.1) R f.closed j s D (f.closed j om q) i B;rw[h0]at this;cases this
     have ia:∀j,j<ops.length→b.getD j false=b.getD j true:=fun j n=>by have H:j<b.size:=(by rw[f.size];exact n);simp[Array.getD_eq_getD_getElem?,H]
     have Y:=step i o r ma g (fun j=>b.getD j false) a w f.world (by rw[ia i U];exact h0)
      (fun j n=>by have da:=S j n;have:=C i U j da;rw[ia j om];exact F j da)
      (fun j n=>by
       cases q:b.getD j false
       ·rfl
       ·exfalso;have fb:j<c.length:=by
         unfold zcg at n;split at n
         ·rename_i s D;exact(List.getElem?_eq_some_iff.1 D).1
         ·cases n
        rw[ia j om]at q;obtain⟨s,D⟩:∃s,c[j]? =some s:=⟨_,List.getElem?_eq_getElem fb⟩;unfold zcg at n;rw[D]at n;have:=zcf (fun i r g=>(k i r g).2.2.1) R f.closed j s D (f.closed j om q) i n;rw[h0]at this;cases this)
      (f.asize.trans hN) (fun j n s D=>f.vals j s D (F j (S j n))) bb
     have ua:i<b.size:=(by rw[f.size];exact U);have A:∀j,(b.setIfInBounds i true).getD j true=(if j=i then true else b.getD j true):=by
      intro j;by_cases z:j=i
      ·subst z;simp[Array.getD_eq_getD_getElem?,ua]
      ·rw[getD_set_ne true (Ne.symm z),if_neg z]
     have next:∀a' w',(∃v,a'=a.put (some r.dst) v∧(r.dst<N∨v=undef)∧Φ i v w'∧W (fun j=>j==i||b.getD j false) (a.put (some r.dst) v) w'∧Ext w w'∧(i∈al→∀j∈al,j≠i→∀u,Φ j u w→v≠u))→
      wpAny P .any ops.toArray Q fuel (b.setIfInBounds i true) a' w':=by
      rintro a' w' ⟨v,rfl,nb,hv,ob,sa,ra⟩;have oa:r.dst<a.tmps.size∨v=undef:=(by rw[f.asize,hN];exact nb);have za:W (fun j=>(b.setIfInBounds i true).getD j false) (a.put (some r.dst) v) w':=by
       have e:(fun j=>(b.setIfInBounds i true).getD j false)=fun j=>j==i||b.getD j false:=funext fun j=>by
        by_cases z:j=i
        ·subst z;simp[Array.getD_eq_getD_getElem?,ua]
        ·rw[getD_set_ne false (Ne.symm z)];simp[z]
       rw[e];exact ob
      refine ih _ _ _ ?_ ⟨by simpa using f.size,?_,?_,za,f.defers,by simpa [Act.put]using f.asize,?_,?_,?_⟩
      ·refine Nat.le_of_lt_succ (Nat.lt_of_lt_of_le (count_set (i:=i) (List.mem_range.2 U) (by simp[h0]) (by simp[A]) ?_) hc);intro j n;rw[A]at n
       split at n
       ·cases n
       ·exact n
      ·intro j n q e G;rw[A]at q⊢
       split
       ·rfl
       ·split at q
        ·rename_i z;subst z;exact F e G
        ·exact f.closed j n q e G
      ·intro j eb da;rw[A,if_neg om];exact f.later j eb da
      ·intro j s D q;rw[A]at q;by_cases z:j=i
       ·subst z;rw[g]at D;obtain rfl:=oi D;rw[zcp oa];exact hv
       ·rw[if_neg z]at q;rw[zak (fun h=>z (E i r g j s D h.symm))];exact mono _ _ _ _ (f.vals j s D q) sa
      ·intro t ht;have lb:r.dst≠t:=ht i r g (by rw[A,if_pos rfl]);rw[zak lb];exact f.other t fun j s D q=>ht j s D (by rw[A];split <;> first|rfl|exact q)
      ·intro x hx y hy rx ry I V X fa aa;rw[A]at fa aa;by_cases pa:x=i
       ·subst pa;rw[g]at V;obtain rfl:=oi V;rw[if_neg (Ne.symm I)]at aa;rw[zcp oa,zak (fun h=>I (E y ry X x r g h))];exact ra hx y hy (Ne.symm I) _ (f.vals y ry X aa)
       ·rw[if_neg pa]at fa;by_cases qa:y=i
        ·subst qa;rw[g]at X;obtain rfl:=oi X;rw[zcp oa,zak (fun h=>I (E y r g x rx V h.symm))];exact(ra hy x hx I _ (f.vals x rx V fa)).symm
        ·rw[if_neg qa]at aa;rw[zak (fun h=>pa (E i r g x rx V h.symm)),zak (fun h=>qa (E i r g y ry X h.symm))];exact f.apart x hx y hy rx ry I V X fa aa
     unfold wpOp;rw[ho];simp only
     split
     ·rename_i hwt
      simp only[hwt,if_true]at Y;exact .inl (Oper.wp_mono next Y)
     ·rename_i hwt
      simp only[hwt]at Y;rw[kb];refine next _ _ ?_;unfold rdst;by_cases ya:r.dst<N
      ·rw[if_pos ya];exact Y
      ·rw[if_neg ya];rw[put_out (by rw[f.asize,hN];omega)]at Y;exact Y
 refine qb _ _ _ _ (Nat.le_trans List.countP_le_length (by simp)) ⟨by simp,?_,?_,?_,rfl,rfl,?_,fun _ _=>rfl,?_⟩
 ·intro j n h;simp[n]at h
 ·intro j _ n;simp[n]
 ·have e:(fun j=>(Array.replicate ops.toArray.size false).getD j false)=fun _=>false:=funext fun j=>by
   simp[Array.getD_eq_getD_getElem?,Array.getElem?_replicate]
   split <;> rfl
  rw[e];exact hW
 ·intro i r g h;have:i<ops.length:=(by have:=(List.getElem?_eq_some_iff.1 g).1;omega);simp[this]at h
 ·intro i _ j _ r s _ g _ h _;have:i<ops.length:=(by have:=(List.getElem?_eq_some_iff.1 g).1;omega);simp[this]at h
theorem stpS {o:Oper} {a:Act} {w:World} {d:Nat} {G:Value→World→Prop} {N:Nat} {E:Prop} (f:o.guard=none) (g:a.tmps.size=N) (j:N≤d)
 (h:∀K:Act→World→Prop,(∀w',G undef w'→K a w')→o.wp P a w K Q):
 if Region.wanted o (yielded ops.toArray a.tmps)=true then o.wp P a w (fun b w'=>∃v,b=a.put (some d) v∧(d<N∨v=undef)∧G v w') Q else E:=
 stp f (h _ fun w' c=>⟨undef,(put_out om).symm,.inr rfl,c⟩)
theorem zbs {o:Oper} {a:Act} {w:World} {d:Nat} {G:Value→World→Prop} {N:Nat} {E:Prop} (g:o.guard=none) (j:o.dst=some d) (b:d<N)
 (h:∀K:Act→World→Prop,(∀v w',G v w'→K (a.put (some d) v) w')→o.wp P a w K Q):
 if Region.wanted o (yielded ops.toArray a.tmps)=true then o.wp P a w (fun c w'=>∃v,c=a.put (some d) v∧(d<N∨v=undef)∧G v w') Q else E:=
 stp g (h _ fun v w' f=>⟨v,rfl,.inl b,f⟩)
end
end Go.Rad
namespace Go.Proofs.YtjlkplidpdhgbaaGreatDoor
open Go Go.Proofs Go.RowKit Go.Rad
structure Keep (w w':World):Prop where
 size:w.heap.size≤w'.heap.size
 u64:∀b i y,w.cell? ⟨b,i,none⟩=some (.int .u64 y)→w'.cell? ⟨b,i,none⟩=some (.int .u64 y)
theorem Keep.refl (w:World):Keep w w:=⟨Nat.le_refl _,fun _ _ _ h=>h⟩
theorem Keep.trans {a b c:World} (h:Keep a b) (k:Keep b c):Keep a c:=⟨Nat.le_trans h.size k.size,fun _ _ _ e=>k.u64 _ _ _ (h.u64 _ _ _ e)⟩
theorem Keep.drew {a b:World} (h:Keep a b):Keep a b.drew:=⟨h.size,h.u64⟩
theorem Keep.of_below {w w':World} (h:Below w.heap.size w w'):Keep w w':=⟨h.size,fun b i y e=>(h.cell (p:=⟨b,i,none⟩) (zby e)).trans e⟩
theorem Keep.word {w w':World} (h:Keep w w') {β b i:Nat} (e:w.cell? ⟨b,i,none⟩=some (.int .u64 ((word w b i:Nat):Int))∧word w b i<β):
 w'.cell? ⟨b,i,none⟩=some (.int .u64 ((word w b i:Nat):Int))∧word w' b i=word w b i:=by
 have c:=h.u64 _ _ _ e.1;exact⟨c,zab (c.trans e.1.symm)⟩
theorem Mag.keep {w w':World} {v:Value} {x n:Nat} (h:Mag w v x n) (k:Keep w w'):Mag w' v x n:=by
 obtain⟨g,b,o,c,r,q,m,d,s,p⟩:=h;refine⟨g,b,o,c,r,q,m,fun i hi=>?_,?_,?_⟩
 ·obtain⟨j,l⟩:=k.word (d i hi);rw[l];exact⟨j,(d i hi).2⟩
 ·rw[←s];exact zaz fun i hi=>(k.word (d i hi)).2
 ·rcases p with f|f
  ·exact .inl f
  ·by_cases t:n=0
   ·exact .inl t
   ·right;rw[(k.word (d (n-1) om)).2];exact f
theorem IsInt.keep {w w':World} {v:Value} {z:Int} (h:IsInt w v z) (k:Keep w w'):IsInt w' v z:=by
 rcases h with h|⟨s,a,n,c,m,d,b,f⟩
 ·exact .inl h
 ·exact .inr ⟨s,a,n,c,m,d,b.keep k,f⟩
structure FB (w:World) (b:Nat) (u0 u1:Value):Prop where
 lt:b<w.heap.size
 c0:w.cell? ⟨b,0,none⟩=some u0
 c1:w.cell? ⟨b,1,none⟩=some u1
 f0:w.frozen? ⟨b,0,none⟩=false
 f1:w.frozen? ⟨b,1,none⟩=false
theorem FB.step {w w':World} {b C:Nat} {u0 u1:Value} (h:FB w b u0 u1) (c:Below C w w') (d:b<C):FB w' b u0 u1:=
 ⟨Nat.lt_of_lt_of_le h.lt c.size,(World.cell?_of_block (c.block b d)).trans h.c0,(World.cell?_of_block (c.block b d)).trans h.c1,
  (World.frozen?_of_block (c.block b d)).trans h.f0,(World.frozen?_of_block (c.block b d)).trans h.f1⟩
theorem FB.below {w w':World} {b:Nat} {u0 u1:Value} (h:FB w b u0 u1) (c:Below w.heap.size w w'):FB w' b u0 u1:=h.step c h.lt
theorem FB.mk0 (w:World) (u0 u1:Value) (T:TypeId):FB (w.alloc (Obj.cells #[u0,u1] T)) w.heap.size u0 u1:=⟨by simp,qq,qq,qq,qq⟩
theorem FB.alloc {w:World} {b:Nat} {u0 u1:Value} (h:FB w b u0 u1) (X:Obj):FB (w.alloc X) b u0 u1:=h.below (zau _ _)
theorem FB.set {w:World} {b:Nat} {u0 u1:Value} (h:FB w b u0 u1) (c d:Value):FB ((w.setCell ⟨b,0,none⟩ c).setCell ⟨b,1,none⟩ d) b c d:=by
 refine⟨by simp;exact h.lt,?_,?_,?_,?_⟩
 ·rw[zaa (.inr om),zar h.c0]
 ·rw[zar (u:=u1) (by rw[zaa (.inr om)];exact h.c1)]
 ·rw[World.frozen?_setCell,World.frozen?_setCell];exact h.f0
 ·rw[World.frozen?_setCell,World.frozen?_setCell];exact h.f1
theorem FB.other {w:World} {b c:Nat} {u0 u1:Value} (h:FB w b u0 u1) (f g:Value) (d:b≠c):FB ((w.setCell ⟨c,0,none⟩ f).setCell ⟨c,1,none⟩ g) b u0 u1:=by
 refine⟨by simp;exact h.lt,?_,?_,?_,?_⟩
 ·rw[zaa (.inl d),zaa (.inl d)];exact h.c0
 ·rw[zaa (.inl d),zaa (.inl d)];exact h.c1
 ·rw[World.frozen?_setCell,World.frozen?_setCell];exact h.f0
 ·rw[World.frozen?_setCell,World.frozen?_setCell];exact h.f1
theorem FB.keep {w:World} {b:Nat} {x:Int} {a:Option Addr} {n c:Nat} (h:FB w b (.int .i64 x) (.slice a n c)) (j k:Value):Keep w ((w.setCell ⟨b,0,none⟩ j).setCell ⟨b,1,none⟩ k):=by
 refine⟨by simp,fun p i y e=>?_⟩;by_cases g:p=b
 ·subst g;have d:i≠0:=fun d=>by rw[d,h.c0]at e;simp at e
  have f:i≠1:=fun f=>by rw[f,h.c1]at e;simp at e
  rw[zaa (.inr f),zaa (.inr d)];exact e
 ·rw[zaa (.inl g),zaa (.inl g)];exact e
theorem FB.keepF {w:World} {b:Nat} {x y:Int} (h:FB w b (.int .i64 x) (.int .i64 y)) (g j:Value):Keep w ((w.setCell ⟨b,0,none⟩ g).setCell ⟨b,1,none⟩ j):=by
 refine⟨by simp,fun p i y e=>?_⟩;by_cases f:p=b
 ·subst f;have c:i≠0:=fun c=>by rw[c,h.c0]at e;simp at e
  have d:i≠1:=fun d=>by rw[d,h.c1]at e;simp at e
  rw[zaa (.inr d),zaa (.inr c)];exact e
 ·rw[zaa (.inl f),zaa (.inl f)];exact e
theorem FB.drew {w:World} {b:Nat} {u0 u1:Value} (h:FB w b u0 u1):FB w.drew b u0 u1:=⟨h.lt,h.c0,h.c1,h.f0,h.f1⟩
theorem zad (w:World):Below w.heap.size w w.drew:=(zz).drew
theorem zaf {W:Nat} {g w:World} {b:Nat} (h:Below W g w) (c:W≤b) (d f:Value):Below W g ((w.setCell ⟨b,0,none⟩ d).setCell ⟨b,1,none⟩ f):=(h.setCell (p:=⟨b,0,none⟩) c d).setCell (p:=⟨b,1,none⟩) c f
def IV (w:World) (b:Nat) (z:Int):Prop:=∃s a n c,FB w b (.int .i64 s) (.slice a n c)∧IsInt w (.agg #[.int .i64 s,.slice a n c]) z
theorem IV.below {w w':World} {b:Nat} {z:Int} (h:IV w b z) (d:Below w.heap.size w w'):IV w' b z:=by obtain⟨s,a,n,c,f,g⟩:=h;exact⟨s,a,n,c,f.below d,g.below d⟩
theorem IV.drew {w:World} {b:Nat} {z:Int} (h:IV w b z):IV w.drew b z:=h.below (zad _)
theorem IV.set {w:World} {b:Nat} {z x s:Int} {a d:Option Addr} {n c j f:Nat} (h:FB w b (.int .i64 x) (.slice d j f)) (g:IsInt w (.agg #[.int .i64 s,.slice a n c]) z):
 IV ((w.setCell ⟨b,0,none⟩ (.int .i64 s)).setCell ⟨b,1,none⟩ (.slice a n c)) b z:=⟨s,a,n,c,h.set _ _,g.keep (h.keep _ _)⟩
theorem IV.other {w:World} {b p:Nat} {z x:Int} {d:Option Addr} {m f:Nat} (h:IV w b z) (l:FB w p (.int .i64 x) (.slice d m f)) (k:b≠p) (o q:Value):
 IV ((w.setCell ⟨p,0,none⟩ o).setCell ⟨p,1,none⟩ q) b z:=by
 obtain⟨s,a,n,c,g,j⟩:=h;exact⟨s,a,n,c,g.other _ _ k,j.keep (l.keep _ _)⟩
theorem fb1 (w:World) (b c:Value) (d:TypeId):Below w.heap.size w (w.alloc (Obj.cells #[b,c] d))∧FB (w.alloc (Obj.cells #[b,c] d)) w.heap.size b c:=⟨zau _ _,FB.mk0 _ _ _ _⟩
theorem fb2 (w:World) (c d f g:Value) (j k:TypeId) {b:World} (h:b=(w.alloc (Obj.cells #[c,d] j)).alloc (Obj.cells #[f,g] k)):
 Below w.heap.size w b∧FB b w.heap.size c d∧FB b (w.heap.size+1) f g:=by
 subst h;exact⟨bel2 _ _ _,(FB.mk0 _ _ _ _).alloc _,by simpa using (FB.mk0 (w.alloc _) _ _ _)⟩
theorem fb3 (w:World) (c d f g j k:Value) (l m n:TypeId) {b:World} (h:b=((w.alloc (Obj.cells #[c,d] l)).alloc (Obj.cells #[f,g] m)).alloc (Obj.cells #[j,k] n)):
 Below w.heap.size w b∧FB b w.heap.size c d∧FB b (w.heap.size+1) f g∧FB b (w.heap.size+1+1) j k:=by
 subst h;exact⟨zcr _ _ _ _,((FB.mk0 _ _ _ _).alloc _).alloc _,by simpa using ((FB.mk0 (w.alloc _) _ _ _).alloc _),by simpa using (FB.mk0 ((w.alloc _).alloc _) _ _ _)⟩
theorem fb4 (w:World) (c d f g j k d0 d1:Value) (l m n o:TypeId) {b:World}
 (h:b=(((w.alloc (Obj.cells #[c,d] l)).alloc (Obj.cells #[f,g] m)).alloc (Obj.cells #[j,k] n)).alloc (Obj.cells #[d0,d1] o)):
 Below w.heap.size w b∧FB b w.heap.size c d∧FB b (w.heap.size+1) f g∧FB b (w.heap.size+1+1) j k∧FB b (w.heap.size+1+1+1) d0 d1:=by
 subst h;exact⟨(zcr _ _ _ _).alloc (by simp;omega) _,(((FB.mk0 _ _ _ _).alloc _).alloc _).alloc _,by simpa using (((FB.mk0 (w.alloc _) _ _ _).alloc _).alloc _),by simpa using ((FB.mk0 ((w.alloc _).alloc _) _ _ _).alloc _),by simpa using (FB.mk0 (((w.alloc _).alloc _).alloc _) _ _ _)⟩
end Go.Proofs.YtjlkplidpdhgbaaGreatDoor
namespace Go.Proofs.YtjlkplidpdhgbaaGreatDoor
open Go Go.Proofs Go.RowKit Go.Rad
open _root_.Rad TurnOk
structure ChC (w:World) (p:Nat) (xv yv:Value) (full:Bool) (uv vv:Value) (mi:Bool):Prop where
 lt:p<w.heap.size
 c0:w.cell? ⟨p,0,none⟩=some xv
 c1:w.cell? ⟨p,1,none⟩=some yv
 c2:w.cell? ⟨p,2,none⟩=some (.bool full)
 c3:w.cell? ⟨p,3,none⟩=some uv
 c4:w.cell? ⟨p,4,none⟩=some vv
 c5:w.cell? ⟨p,5,none⟩=some (.bool mi)
 f0:w.frozen? ⟨p,0,none⟩=false
 f1:w.frozen? ⟨p,1,none⟩=false
 f2:w.frozen? ⟨p,2,none⟩=false
 f3:w.frozen? ⟨p,3,none⟩=false
 f4:w.frozen? ⟨p,4,none⟩=false
 f5:w.frozen? ⟨p,5,none⟩=false
theorem ChC.block {w:World} {p:Nat} {g j:Value} {b:Bool} {d f:Value} {c:Bool} {w':World} (h:ChC w p g j b d f c) (k:w.heap.size≤w'.heap.size) (e:w'.heap[p]? =w.heap[p]?):ChC w' p g j b d f c:=⟨Nat.lt_of_lt_of_le h.lt k,(World.cell?_of_block e).trans h.c0,(World.cell?_of_block e).trans h.c1,(World.cell?_of_block e).trans h.c2,(World.cell?_of_block e).trans h.c3,(World.cell?_of_block e).trans h.c4,(World.cell?_of_block e).trans h.c5,(World.frozen?_of_block e).trans h.f0,(World.frozen?_of_block e).trans h.f1,(World.frozen?_of_block e).trans h.f2,(World.frozen?_of_block e).trans h.f3,(World.frozen?_of_block e).trans h.f4,(World.frozen?_of_block e).trans h.f5⟩
theorem ChC.below {w:World} {p:Nat} {j k:Value} {b:Bool} {f g:Value} {d:Bool} {w':World} (h:ChC w p j k b f g d) (c:Below w.heap.size w w'):ChC w' p j k b f g d:=h.block c.size (c.block p h.lt)
theorem ChC.chg {w:World} {p:Nat} {k m:Value} {c:Bool} {g j:Value} {f:Bool} {w':World} {b l r:Nat} (h:ChC w p k m c g j f) (d:Chg w w' b l r) (n:p≠b):ChC w' p k m c g j f:=h.block d.size (d.block p h.lt n)
theorem ChC.chgS {w:World} {p:Nat} {l m:Value} {d:Bool} {j k:Value} {g:Bool} {w':World} {b c:Nat} (h:ChC w p l m d j k g) (f:ChgS w w' (S2 b c)) (o:p≠b) (n:p≠c):ChC w' p l m d j k g:=h.block f.size (f.block p h.lt (fun i hi=>by rcases hi with h|h <;> omega))
theorem ChC.other {w:World} {p:Nat} {j k:Value} {b:Bool} {f g:Value} {d:Bool} (h:ChC w p j k b f g d) {c i:Nat} (l:p≠c) (v:Value):ChC (w.setCell ⟨c,i,none⟩ v) p j k b f g d:=h.block (by simp) (Below.heap_setCell _ _ _ _ l)
theorem ChC.set0 {w:World} {p:Nat} {k j:Value} {b:Bool} {f g:Value} {d:Bool} (h:ChC w p k j b f g d) (c:Value):ChC (w.setCell ⟨p,0,none⟩ c) p c j b f g d:=⟨by simp;exact h.lt,zar h.c0,(zaa (.inr om)).trans h.c1,(zaa (.inr om)).trans h.c2,(zaa (.inr om)).trans h.c3,(zaa (.inr om)).trans h.c4,(zaa (.inr om)).trans h.c5,(World.frozen?_setCell _ _ _ _).trans h.f0,(World.frozen?_setCell _ _ _ _).trans h.f1,(World.frozen?_setCell _ _ _ _).trans h.f2,(World.frozen?_setCell _ _ _ _).trans h.f3,(World.frozen?_setCell _ _ _ _).trans h.f4,(World.frozen?_setCell _ _ _ _).trans h.f5⟩
theorem ChC.set1 {w:World} {p:Nat} {j k:Value} {b:Bool} {f g:Value} {d:Bool} (h:ChC w p j k b f g d) (c:Value):ChC (w.setCell ⟨p,1,none⟩ c) p j c b f g d:=⟨by simp;exact h.lt,(zaa (.inr om)).trans h.c0,zar h.c1,(zaa (.inr om)).trans h.c2,(zaa (.inr om)).trans h.c3,(zaa (.inr om)).trans h.c4,(zaa (.inr om)).trans h.c5,(World.frozen?_setCell _ _ _ _).trans h.f0,(World.frozen?_setCell _ _ _ _).trans h.f1,(World.frozen?_setCell _ _ _ _).trans h.f2,(World.frozen?_setCell _ _ _ _).trans h.f3,(World.frozen?_setCell _ _ _ _).trans h.f4,(World.frozen?_setCell _ _ _ _).trans h.f5⟩
theorem ChC.set3 {w:World} {p:Nat} {g j:Value} {b:Bool} {k f:Value} {d:Bool} (h:ChC w p g j b k f d) (c:Value):ChC (w.setCell ⟨p,3,none⟩ c) p g j b c f d:=⟨by simp;exact h.lt,(zaa (.inr om)).trans h.c0,(zaa (.inr om)).trans h.c1,(zaa (.inr om)).trans h.c2,zar h.c3,(zaa (.inr om)).trans h.c4,(zaa (.inr om)).trans h.c5,(World.frozen?_setCell _ _ _ _).trans h.f0,(World.frozen?_setCell _ _ _ _).trans h.f1,(World.frozen?_setCell _ _ _ _).trans h.f2,(World.frozen?_setCell _ _ _ _).trans h.f3,(World.frozen?_setCell _ _ _ _).trans h.f4,(World.frozen?_setCell _ _ _ _).trans h.f5⟩
theorem ChC.set4 {w:World} {p:Nat} {g j:Value} {b:Bool} {f k:Value} {d:Bool} (h:ChC w p g j b f k d) (c:Value):ChC (w.setCell ⟨p,4,none⟩ c) p g j b f c d:=⟨by simp;exact h.lt,(zaa (.inr om)).trans h.c0,(zaa (.inr om)).trans h.c1,(zaa (.inr om)).trans h.c2,(zaa (.inr om)).trans h.c3,zar h.c4,(zaa (.inr om)).trans h.c5,(World.frozen?_setCell _ _ _ _).trans h.f0,(World.frozen?_setCell _ _ _ _).trans h.f1,(World.frozen?_setCell _ _ _ _).trans h.f2,(World.frozen?_setCell _ _ _ _).trans h.f3,(World.frozen?_setCell _ _ _ _).trans h.f4,(World.frozen?_setCell _ _ _ _).trans h.f5⟩
theorem ChC.set5 {w:World} {p:Nat} {g j:Value} {b:Bool} {d f:Value} {k:Bool} (h:ChC w p g j b d f k) (c:Bool):ChC (w.setCell ⟨p,5,none⟩ (.bool c)) p g j b d f c:=⟨by simp;exact h.lt,(zaa (.inr om)).trans h.c0,(zaa (.inr om)).trans h.c1,(zaa (.inr om)).trans h.c2,(zaa (.inr om)).trans h.c3,(zaa (.inr om)).trans h.c4,zar h.c5,(World.frozen?_setCell _ _ _ _).trans h.f0,(World.frozen?_setCell _ _ _ _).trans h.f1,(World.frozen?_setCell _ _ _ _).trans h.f2,(World.frozen?_setCell _ _ _ _).trans h.f3,(World.frozen?_setCell _ _ _ _).trans h.f4,(World.frozen?_setCell _ _ _ _).trans h.f5⟩
structure XY (base:Nat) (w:World) (p n X Y bx cx by' cy:Nat):Prop where
 hp:base≤p
 hx:base≤bx
 hy:base≤by'
 xy:bx≠by'
 xp:bx≠p
 yp:by'≠p
 ax:Arr .u64 B w bx 0 n
 ay:Arr .u64 B w by' 0 n
 fx:Free w bx 0 n
 fy:Free w by' 0 n
 ex:num B w bx 0 n=X
 ey:num B w by' 0 n=Y
 n0:0<n
 nm:n<160
 cx1:n≤cx
 cy1:n≤cy
 cx2:cx<160
 cy2:cy<160
 le:Y≤X
theorem freeB {w w':World} {b o n:Nat} (h:Free w b o n) (d:b<w.heap.size) (c:Below w.heap.size w w'):Free w' b o n:=fun i hi=>(World.frozen?_of_block (c.block b d)).trans (h i hi)
theorem XY.below {base:Nat} {w w':World} {p n X Y j k c l:Nat} (h:XY base w p n X Y j k c l) (b:Below w.heap.size w w'):XY base w' p n X Y j k c l:=by obtain⟨y,z,A,B,C,D,d,f,q,r,m,o,g,F,s,t,u,x,E⟩:=h;exact⟨y,z,A,B,C,D,zae d b,zae f b,freeB q (d.lt g) b,freeB r (f.lt g) b,(zah d b).trans m,(zah f b).trans o,g,F,s,t,u,x,E⟩
theorem XY.other {base:Nat} {w:World} {p n X Y g k b l:Nat} (h:XY base w p n X Y g k b l) (i:Nat) (v:Value):XY base (w.setCell ⟨p,i,none⟩ v) p n X Y g k b l:=by
 obtain⟨A,B,C,D,c,d,m,o,s,t,q,r,F,G,u,x,y,z,E⟩:=h;refine⟨A,B,C,D,c,d,m.set' (.inl c.symm),o.set' (.inl d.symm),fun j f=>(World.frozen?_setCell _ _ _ _).trans (s j f),fun j f=>(World.frozen?_setCell _ _ _ _).trans (t j f),?_,?_,F,G,u,x,y,z,E⟩
 ·rw[zan (.inl c.symm)];exact q
 ·rw[zan (.inl d.symm)];exact r
inductive Ch (base:Nat) (w:World) (p n X Y:Nat):Prop
 |mk (bx cx by' cy:Nat) (uv vv:Value) (mi:Bool) (c:ChC w p (.slice (some ⟨bx,0,none⟩) n cx) (.slice (some ⟨by',0,none⟩) n cy) false uv vv mi) (r:XY base w p n X Y bx cx by' cy)
theorem zdi {w j f:World} {b o n m c p:Nat} (l:Cleared .u64 B w j b o n) (g:Copied .u64 B j f b o m c p) (s:m≤n):
 Arr .u64 B f b o n∧num B f b o n=num B j c p m∧Chg w f b o (o+n):=by
 have d:∀i,m≤i→f.cell? ⟨b,o+i,none⟩=j.cell? ⟨b,o+i,none⟩:=fun i hi=>g.chg.cell (o+i) om;refine⟨fun i hi=>?_,?_,l.chg.trans (g.chg.mono (Nat.le_refl _) om)⟩
 ·by_cases q:i<m
  ·exact g.arr i q
  ·have e:=d i om;rw[zab e,e];exact l.arr i hi
 ·have k:num B f b o n=num B f b o m:=_root_.Rad.vs_top s fun i k r=>by rw[zab (d i k)];exact l.zero i r
  rw[k];exact zaz g.same
theorem Fr_mono {a b:Nat} {v:Value} (h:a≤b) (f:Fr b v):Fr a v:=fun d o n c e=>Nat.le_trans h (f d o n c e)
theorem step_any (base:Nat) (w:World) (p n X Y:Nat) (hC:Ch base w p n X Y) (qb:0<Y) (N:base≤w.heap.size):
 Calls Tryz.prog 125 #[.pointer (some ⟨p,0,none⟩)] w fun e w'=>e=.returned (.tuple #[])∧Below base w w'∧Ch base w' p n Y (X%Y):=by
 obtain⟨t,E,f,F,uv,vv,mi,C,R⟩:=hC;obtain⟨i0,sb,wb,hc,ic⟩:=info_parts zb0;have HC:Hid (ChC w p (.slice (some ⟨t,0,none⟩) n E) (.slice (some ⟨f,0,none⟩) n F) false uv vv mi):=C;have HR:Hid (XY base w p n X Y t E f F):=R;have ga:Hid (Y≠0):=(by show Y≠0;omega);have pb:Hid (Y≤X):=R.le;have U:Hid (n≤maxLen):=(by have:=R.nm;show n≤maxLen;unfold maxLen;omega);have hn:=R.nm;have fc:=R.cx1;have gc:=R.cy1;have qa:Hid (base≤w.heap.size):=N;have AX:∀l,Below w.heap.size w l→Arr .u64 B l t 0 n∧num B l t 0 n=X:=fun l h=>⟨zae R.ax h,(zah R.ax h).trans R.ex⟩;have AY:∀l,Below w.heap.size w l→Arr .u64 B l f 0 n∧num B l f 0 n=Y:=fun l h=>⟨zae R.ay h,(zah R.ay h).trans R.ey⟩;obtain⟨lp,k0,k1,k2,k3,k4,-,-,-,-,-,-⟩:=id C;clear C R N qb;go_enter Tryz.func125,Tryz.ntmps125;go_wp2;refine zac (fun u=>u=w) rfl ?_;rintro u rfl;refine zaq zbf [⟨6,[],[],[0]⟩,⟨7,[0],[0],[]⟩,⟨8,[1],[0,1],[]⟩,⟨9,[2],[0,1,2],[]⟩,⟨10,[],[],[0]⟩,⟨11,[4],[4],[]⟩,⟨12,[5],[4,5],[]⟩,⟨13,[6],[4,5,6],[]⟩,⟨14,[7],[4,5,6,7],[]⟩,⟨15,[3,8],[0,1,2,3,4,5,6,7,8],[]⟩,⟨16,[],[],[0]⟩,⟨17,[10],[10],[]⟩,⟨18,[11],[10,11],[]⟩,⟨19,[12],[10,11,12],[]⟩,⟨20,[],[],[0]⟩,⟨21,[14],[14],[]⟩,⟨22,[15],[14,15],[]⟩,⟨23,[16],[14,15,16],[]⟩,⟨24,[17],[14,15,16,17],[]⟩,⟨25,[9,13,18],[0,1,2,3,4,5,6,7,8,9,10,11,12,13,14,15,16,17,18],[]⟩,⟨26,[9,19],[0,1,2,3,4,5,6,7,8,9,10,11,12,13,14,15,16,17,18,19],[]⟩,⟨5,[20],[0,1,2,3,4,5,6,7,8,9,10,11,12,13,14,15,16,17,18,19,20],[]⟩,⟨27,[21],[0,1,2,3,4,5,6,7,8,9,10,11,12,13,14,15,16,17,18,19,20,21],[]⟩,⟨28,[21],[0,1,2,3,4,5,6,7,8,9,10,11,12,13,14,15,16,17,18,19,20,21],[]⟩,⟨2,[0,1,2,3,4,5,6,7,8,9,10,11,12,13,14,15,16,17,18,19,20,21,22],[0,1,2,3,4,5,6,7,8,9,10,11,12,13,14,15,16,17,18,19,20,21,22],[]⟩,⟨3,[0,1,2,3,4,5,6,7,8,9,10,11,12,13,14,15,16,17,18,19,20,21,22,23,24],[0,1,2,3,4,5,6,7,8,9,10,11,12,13,14,15,16,17,18,19,20,21,22,23,24],[]⟩] [] kfl 120 rfl kfl (fun (i:Nat) (v:Value) (H:World)=>match i with|0=>v=.pointer (some ⟨p,0,none⟩)|1=>v=.pointer (some ⟨p,0,none⟩)|2=>v=.pointer (some ⟨p,0,none⟩)|3=>v=.slice (some ⟨t,0,none⟩) n (E)|4=>v=.pointer (some ⟨p,0,none⟩)|5=>v=.pointer (some ⟨p,0,none⟩)|6=>v=.pointer (some ⟨p,0,none⟩)|7=>v=.slice (some ⟨t,0,none⟩) n (E)|8=>v=.int .i64 (((n:Nat):Int))|9=>∃k,k≤n∧Mag H v X k|10=>v=.pointer (some ⟨p,0,none⟩)|11=>v=.pointer (some ⟨p,0,none⟩)|12=>v=.pointer (some ⟨p,1,none⟩)|13=>v=.slice (some ⟨f,0,none⟩) n (F)|14=>v=.pointer (some ⟨p,0,none⟩)|15=>v=.pointer (some ⟨p,0,none⟩)|16=>v=.pointer (some ⟨p,1,none⟩)|17=>v=.slice (some ⟨f,0,none⟩) n (F)|18=>v=.int .i64 (((n:Nat):Int))|19=>∃k,k≤n∧Mag H v Y k|20=>∃s j nq q,v=.tuple #[s,j]∧Mag H s (X / Y) nq∧Mag H j (X%Y) q∧Fr u.heap.size j|21=>∃s j nq q,v=.tuple #[s,j]∧Mag H s (X / Y) nq∧Mag H j (X%Y) q∧Fr u.heap.size j|22=>∃n,Mag H v (X / Y) n|23=>∃n,Mag H v (X%Y) n∧Fr u.heap.size v|24=>∃n,Mag H v (X / Y) n|25=>∃n,Mag H v (X%Y) n∧Fr u.heap.size v|_=>True) (fun _ H=>Below u.heap.size u H) (fun l wy=>Below l.heap.size l wy) (zz).drew (fun i v l wy h T=>match i,h with|0,h=>h|1,h=>h|2,h=>h|3,h=>h|4,h=>h|5,h=>h|6,h=>h|7,h=>h|8,h=>h|10,h=>h|11,h=>h|12,h=>h|13,h=>h|14,h=>h|15,h=>h|16,h=>h|17,h=>h|18,h=>h|9,h=>by obtain⟨k,y,W⟩:=h;exact⟨k,y,W.below T⟩|19,h=>by obtain⟨k,y,W⟩:=h;exact⟨k,y,W.below T⟩|20,h=>by obtain⟨s,j,nq,q,h0,y,W,h3⟩:=h;exact⟨s,j,nq,q,h0,y.below T,W.below T,h3⟩|21,h=>by obtain⟨s,j,nq,q,h0,y,W,h3⟩:=h;exact⟨s,j,nq,q,h0,y.below T,W.below T,h3⟩|22,h=>by obtain⟨n,h⟩:=h;exact⟨n,h.below T⟩|23,h=>by obtain⟨n,h,y⟩:=h;exact⟨n,h.below T,y⟩|24,h=>by obtain⟨n,h⟩:=h;exact⟨n,h.below T⟩|25,h=>by obtain⟨n,h,y⟩:=h;exact⟨n,h.below T,y⟩|n+26,_=>trivial) ?_ ?_
 ·intro i o r g d L fr l A hL ub rb lb b m;clear hL ub rb lb
  match i,g,d with
  |0,g,d=>?_
  |1,g,d=>?_
  |2,g,d=>?_
  |3,g,d=>?_
  |4,g,d=>?_
  |5,g,d=>?_
  |6,g,d=>?_
  |7,g,d=>?_
  |8,g,d=>?_
  |9,g,d=>obtain rfl:=oi g;obtain rfl:=oi d;have e3:=evs 9 (b 3 dd _ rfl);have e8:=evs 14 (b 8 dd _ rfl);clear b m;refine zam rfl rfl fun K I=>?_;go_simp;refine(za3 l (some ⟨t,0,none⟩) t 0 n _ n (Sl.mk _ _ _) om U.out U.out (AX l A).1).mono ?_;rintro e wy ⟨v4,k4,rfl,vb,tb,la,O⟩;subst wy;exact I _ _ ⟨⟨k4,la,by rw[Nat.min_self,(AX l A).2]at O;exact O⟩,A,zz,nn⟩
  |10,g,d=>?_
  |11,g,d=>?_
  |12,g,d=>?_
  |13,g,d=>?_
  |14,g,d=>?_
  |15,g,d=>?_
  |16,g,d=>?_
  |17,g,d=>?_
  |18,g,d=>?_
  |19,g,d=>obtain rfl:=oi g;obtain rfl:=oi d;have ha:=evs 19 (b 13 dd _ rfl);have ia:=evs 24 (b 18 dd _ rfl);clear b m;refine zam rfl rfl fun K I=>?_;go_simp;refine(za3 l (some ⟨f,0,none⟩) f 0 n _ n (Sl.mk _ _ _) om U.out U.out (AY l A).1).mono ?_;rintro e wy ⟨v4,k4,rfl,vb,tb,la,O⟩;subst wy;exact I _ _ ⟨⟨k4,la,by rw[Nat.min_self,(AY l A).2]at O;exact O⟩,A,zz,nn⟩
  |20,g,d=>obtain rfl:=oi g;obtain rfl:=oi d;obtain⟨u9,e9,p9⟩:=evr 15 (P:=fun u9=>∃k,k≤n∧Mag l u9 X k) (b 9 dd _ rfl);obtain⟨u19,ja,G⟩:=evr 25 (P:=fun u19=>∃k,k≤n∧Mag l u19 Y k) (b 19 dd _ rfl);clear b m;refine zam rfl rfl fun K I=>?_;obtain⟨k9,h9,p9⟩:=p9;obtain⟨xb,ec,G⟩:=G;go_simp;refine(zdn l _ _ _ _ k9 xb p9 G (Nat.pos_of_ne_zero (fun h=>ga.out (G.zero_iff.2 h))) om om).mono ?_;rintro e wy ⟨s,j,nq,q,rfl,hb,ba,ca,aa⟩;exact I _ _ ⟨⟨s,j,nq,q,rfl,ba,ca,Fr_mono A.size (aa pb.out).1⟩,A.trans (hb.mono A.size),hb,nn⟩
  |21,g,d=>?_
  |22,g,d=>obtain rfl:=oi g;obtain rfl:=oi d;obtain⟨u21,V,S⟩:=evr 5 (P:=fun u21=>∃s j nq q,u21=.tuple #[s,j]∧Mag l s (X / Y) nq∧Mag l j (X%Y) q∧Fr u.heap.size j) (b 21 dd _ rfl);clear b m;refine zam rfl rfl fun K I=>?_;obtain⟨s,j,nq,q,rfl,ba,ca,aa⟩:=S;go_simp;exact I _ _ ⟨⟨nq,ba⟩,A,zz,nn⟩
  |23,g,d=>obtain rfl:=oi g;obtain rfl:=oi d;obtain⟨u21,V,S⟩:=evr 5 (P:=fun u21=>∃s j nq q,u21=.tuple #[s,j]∧Mag l s (X / Y) nq∧Mag l j (X%Y) q∧Fr u.heap.size j) (b 21 dd _ rfl);clear b m;refine zam rfl rfl fun K I=>?_;obtain⟨s,j,nq,q,rfl,ba,ca,aa⟩:=S;go_simp;exact I _ _ ⟨⟨q,ca,aa⟩,A,zz,nn⟩
  |24,g,d=>?_
  |25,g,d=>?_
  |n+26,g,d=>exact absurd d (by simp)
  all_goals
   obtain rfl:=oi g;obtain rfl:=oi d;simp only[uxw,uw,evt]at b m;have c0:=(A.cell (p:=⟨p,0,none⟩) lp).trans k0;have c1:=(A.cell (p:=⟨p,1,none⟩) lp).trans k1;refine zam rfl rfl fun K I=>?_ <;> (go_simp;exact I _ _ ⟨(by first|rfl|exact b|exact b.1|exact b.2|(simp only[b];done)),A,zz,nn⟩)
 ·intro vs x c Z ib;clear ib;have e0:vs 0=_:=c 0 dd;have e1:vs 1=_:=c 1 dd;have e2:vs 2=_:=c 2 dd;have e3:vs 3=_:=c 3 dd;have e4:vs 4=_:=c 4 dd;have e5:vs 5=_:=c 5 dd;have e6:vs 6=_:=c 6 dd;have e7:vs 7=_:=c 7 dd;have e8:vs 8=_:=c 8 dd;obtain⟨u9,e9,p9⟩:∃u9,vs 9=u9∧(∃k,k≤n∧Mag x u9 X k):=⟨_,rfl,c 9 dd⟩;have va:vs 10=_:=c 10 dd;have wa:vs 11=_:=c 11 dd;have xa:vs 12=_:=c 12 dd;have ha:vs 13=_:=c 13 dd;have ya:vs 14=_:=c 14 dd;have za:vs 15=_:=c 15 dd;have ab:vs 16=_:=c 16 dd;have bb:vs 17=_:=c 17 dd;have ia:vs 18=_:=c 18 dd;obtain⟨u19,ja,G⟩:∃u19,vs 19=u19∧(∃k,k≤n∧Mag x u19 Y k):=⟨_,rfl,c 19 dd⟩;obtain⟨u20,cb,yb⟩:∃u20,vs 20=u20∧(∃s j nq q,u20=.tuple #[s,j]∧Mag x s (X / Y) nq∧Mag x j (X%Y) q∧Fr u.heap.size j):=⟨_,rfl,c 20 dd⟩;obtain⟨u21,V,S⟩:∃u21,vs 21=u21∧(∃s j nq q,u21=.tuple #[s,j]∧Mag x s (X / Y) nq∧Mag x j (X%Y) q∧Fr u.heap.size j):=⟨_,rfl,c 21 dd⟩;obtain⟨u22,db,zb⟩:∃u22,vs 22=u22∧(∃n,Mag x u22 (X / Y) n):=⟨_,rfl,c 22 dd⟩;obtain⟨u23,eb,ac⟩:∃u23,vs 23=u23∧(∃n,Mag x u23 (X%Y) n∧Fr u.heap.size u23):=⟨_,rfl,c 23 dd⟩;obtain⟨u24,fb,ob⟩:∃u24,vs 24=u24∧(∃n,Mag x u24 (X / Y) n):=⟨_,rfl,c 24 dd⟩;obtain⟨u25,gb,bc⟩:∃u25,vs 25=u25∧(∃n,Mag x u25 (X%Y) n∧Fr u.heap.size u25):=⟨_,rfl,c 25 dd⟩;simp only[zbx,Nat.reduceAdd,e0,e1,e2,e3,e4,e5,e6,e7,e8,e9,va,wa,xa,ha,ya,za,ab,bb,ia,ja,cb,V,db,eb,fb,gb,Act.put,ll];clear c e0 e1 e2 e3 e4 e5 e6 e7 e8 e9 va wa xa ha ya za ab bb ia ja cb V db eb fb gb;have HQ:Hid _:=ob;obtain⟨q,d,mb⟩:=bc;obtain⟨ar,br,oa,cr,rfl,da,kb,M,na,nb⟩:=d;have C1:=HC.out.below Z;have R1:=HR.out.below Z;have jb:Below base u x:=Z.mono qa.out;have dc:t<u.heap.size:=HR.out.ax.lt HR.out.n0;have ma:q≤n:=(by have hm:Mag x (.slice ar q cr) (X%Y) q:=⟨ar,br,oa,cr,rfl,da,kb,M,na,nb⟩;refine hm.len_le ?_;have y:Y<B^n:=(by rw[←R1.ey];exact za1 R1.ay);exact Nat.lt_trans (Nat.mod_lt _ (Nat.pos_of_ne_zero ga.out)) y);have J:0<q→br≠t:=fun h=>by obtain rfl:=da h;have:=mb _ _ _ _ rfl;omega
  have A1:=R1.ax;have F1:=R1.fx;have ua:Hid (num B x br oa q=X%Y):=na;have ra:Hid (ChC x p (.slice (some ⟨t,0,none⟩) n E) (.slice (some ⟨f,0,none⟩) n F) false uv vv mi):=C1;have D:Hid (XY base x p n X Y t E f F):=R1;have fa:Hid (Below base u x):=jb;obtain⟨lq,q0,q1,q2,-,-,-,-,-,-,-,-⟩:=id C1;have hq:∀l,Chg x l t 0 (0+n)→∀i,l.cell? ⟨p,i,none⟩=x.cell? ⟨p,i,none⟩:=fun l h i=>World.cell?_of_block (h.block p lq D.out.xp.symm);clear p9 G yb S zb ac ob mb na nb C1 R1 jb k0 k1 k2 k3 k4 lp AX AY HC HR Z;go_wp2_with (first
   |(refine zb3 .u64 B za2 rfl _ 22 rfl 98 i0 Tryz.underlying22 sb wb _ _ _ rfl t 0 (Sl.mk _ _ _) A1 F1 ?_;intro w2 z;have cc:=(hq w2 z.chg 0).trans q0;have ea:=z.chg.arr M M.lt (fun h=> .inl (J h));have F2:=z.chg.free F1 (fun _=>A1.lt D.out.n0))
   |(refine zal .u64 B rfl _ _ 22 22 rfl 98 Tryz.underlying22 zb2 _ _ _ _ _ _ rfl rfl t 0 br oa (Sl.mk _ _ _) da z.arr F2 ea ?_;intro w3 ka))
  rw[Nat.min_eq_left ma]at ka;obtain⟨A3,N3,H3⟩:=zdi z ka ma;rw[z.chg.num M.lt (fun h=> .inl (J h)),ua.out]at N3;have C3:=ra.out.chg H3 D.out.xp.symm;have R3:XY base w3 p n Y (X%Y) f F t E:=(by obtain⟨y,W,h3,h4,h5,h6,ax,ay,fx,fy,ex,ey,n0,nm,g1,g2,g3,g4,le⟩:=D.out;exact⟨y,h3,W,h4.symm,h6,h5,H3.arr ay ay.lt (fun _=> .inl h4.symm),A3,H3.free fy (fun _=>ay.lt n0),H3.free fx (fun _=>ax.lt n0),(H3.num (fun _=>ay.lt n0) (fun _=> .inl h4.symm)).trans ey,N3,n0,nm,g2,g1,g4,g3,Nat.le_of_lt (Nat.mod_lt _ (Nat.pos_of_ne_zero ga.out))⟩);have B3:Below base u w3:=fa.out.trans (H3.below D.out.hx (Nat.le_trans qa.out fa.out.size));obtain⟨lp,k0,k1,k2,-,-,-,z0,z1,-,-,-,-⟩:=id C3;have sa:Hid (ChC w3 p (.slice (some ⟨t,0,none⟩) n E) (.slice (some ⟨f,0,none⟩) n F) false uv vv mi):=C3;have ta:Hid (XY base w3 p n Y (X%Y) f F t E):=R3;have pa:Hid (Below base u w3):=B3;clear ra D fa C3 R3 B3 A3 N3 H3 z ka M ea J hq q0 q1 q2 cc lq A1 F1 F2 ua da kb ma;go_wp2;have CF:=(sa.out.set0 (.slice (some ⟨f,0,none⟩) n F)).set1 (.slice (some ⟨t,0,none⟩) n E);have RF:=(ta.out.other 0 (.slice (some ⟨f,0,none⟩) n F)).other 1 (.slice (some ⟨t,0,none⟩) n E);have HF:Hid (Below base u (((w3.setCell ⟨p,0,none⟩ (.slice (some ⟨f,0,none⟩) n F)).setCell ⟨p,1,none⟩ (.slice (some ⟨t,0,none⟩) n E)).drew)∧Ch base (((w3.setCell ⟨p,0,none⟩ (.slice (some ⟨f,0,none⟩) n F)).setCell ⟨p,1,none⟩ (.slice (some ⟨t,0,none⟩) n E)).drew) p n Y (X%Y)):=⟨((pa.out.setCell (p:=⟨p,0,none⟩) RF.hp _).setCell (p:=⟨p,1,none⟩) RF.hp _).drew,.mk _ _ _ _ _ _ _ (CF.below (zad _)) (RF.below (zad _))⟩;clear CF RF pa sa ta HQ;go_region
  all_goals
   go_wp2;refine bodyPost_ret (results_none rfl _ _ _) rfl ?_;exact⟨rfl,HF.out⟩
end Go.Proofs.YtjlkplidpdhgbaaGreatDoor
