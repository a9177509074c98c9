/- A part of the proof: Draw, FBase. -/
import Derived.WalkKit
import Derived.Orders
import Derived.Test.YtffdemplaodbcaaDoorProg
import Derived.Test.YtffdemplaodbcaaDoorP00
set_option linter.all false
namespace Go.Rad
open Go Go.RowKit
structure Row where
 dst:Nat
 preds:List Nat
 anc:List Nat
 free:List Nat
def edgesOf (ops:List Oper) (i:Nat):List Nat:=
 match ops[i]? with
 |some o=>(o.after.toList.filter fun e=>Region.binds .any e).map (·.on)
 |none=>[]
def dstOf (ops:List Oper) (i:Nat):Option Nat:=(ops[i]?).bind (·.dst)
def ancOf (tab:List Row) (i:Nat):List Nat:=match tab[i]? with|some r=>r.anc|none=>[]
def tabOk (ops:List Oper) (tab:List Row):Bool:=
 let n:=ops.length
 let k:=tab.length
 decide (k≤n)&&
 (List.range n).all (fun i=>(edgesOf ops i).all (fun j=>decide (j<i)))&&
 (List.range k).all (fun i=>match tab[i]? with
  |none=>false
  |some r=>
   dstOf ops i==some r.dst&&
   r.preds.all (fun j=>(edgesOf ops i).contains j)&&
   r.anc.all (fun j=>(edgesOf ops i).contains j||(edgesOf ops i).any (fun p=>decide (p<i)&&(ancOf tab p).contains j))&&
   (List.range k).all (fun j=>j==i||dstOf ops j !=some r.dst)&&
   r.free.all (fun t=>(List.range k).all (fun j=>dstOf ops j !=some t||(ancOf tab j).contains i)))&&
 (List.range n).all (fun i=>decide (i≤k)||decide (i<k)||(edgesOf ops i).contains (i-1))&&
 (decide (k=n)||(List.range k).all (fun j=>(edgesOf ops k).contains j||(edgesOf ops k).any (fun p=>decide (p<k)&&(ancOf tab p).contains j)))
def puts (a:Act):List Row→(Nat→Value)→Nat→Act
 |[],_,_=>a
 |r::tab,vs,i=>puts (a.put (some r.dst) (vs i)) tab vs (i+1)
theorem puts_defers:∀(tab:List Row) (a:Act) (vs:Nat→Value) (i:Nat),(puts a tab vs i).defers=a.defers
 |[],_,_,_=>rfl
 |r::tab,a,vs,i=>by rw[puts,puts_defers tab];rfl
theorem puts_size:∀(tab:List Row) (a:Act) (vs:Nat→Value) (i:Nat),(puts a tab vs i).tmps.size=a.tmps.size
 |[],_,_,_=>rfl
 |r::tab,a,vs,i=>by rw[puts,puts_size tab];simp[Act.put]
theorem eval_put_same {a:Act} {t:Nat} {v:Value} (h:t<a.tmps.size):(a.put (some t) v).eval (.tmp t)=v:=by simp[Act.put,Act.eval,h]
theorem eval_put_other {a:Act} {t u:Nat} {v:Value} (h:t≠u):(a.put (some t) v).eval (.tmp u)=a.eval (.tmp u):=by simp[Act.put,Act.eval,Array.getElem?_setIfInBounds_ne h]
theorem puts_none:∀(tab:List Row) (a:Act) (vs:Nat→Value) (i t:Nat),(∀r∈tab,r.dst≠t)→(puts a tab vs i).eval (.tmp t)=a.eval (.tmp t)
 |[],_,_,_,_,_=>rfl
 |r::tab,a,vs,i,t,h=>by rw[puts,puts_none tab _ _ _ _ (fun r' hr=>h r' (List.mem_cons_of_mem _ hr)),eval_put_other (h r (List.mem_cons_self ..))]
theorem puts_some:∀(tab:List Row) (a:Act) (vs:Nat→Value) (i m:Nat) (r:Row),tab[m]? =some r→(∀m' r',tab[m']? =some r'→r'.dst=r.dst→m'=m)→
 r.dst<a.tmps.size→(puts a tab vs i).eval (.tmp r.dst)=vs (i+m)
 |[],_,_,_,_,_,h,_,_=>by simp at h
 |r0::tab,a,vs,i,0,r,h,hu,hs=>by
  simp at h;subst h;rw[puts,puts_none tab,eval_put_same hs];·rfl
  intro r' hr' he;obtain⟨m',hm'⟩:=List.getElem?_of_mem hr';have:=hu (m'+1) r' (by simpa using hm') he;omega
 |r0::tab,a,vs,i,m+1,r,h,hu,hs=>by rw[puts,puts_some tab _ vs (i+1) m r (by simpa using h) (fun m' r' h1 h2=>by have:=hu (m'+1) r' (by simpa using h1) h2;omega) (by simpa [Act.put]using hs)];congr 1;omega
theorem act_ext {a b:Act} (h1:a.defers=b.defers) (h2:a.tmps.size=b.tmps.size) (h3:∀t,a.eval (.tmp t)=b.eval (.tmp t)):a=b:=by obtain⟨ta,da⟩:=a;obtain⟨tb,db⟩:=b;simp only at h1 h2;subst h1;congr 1;refine Array.ext h2 fun i hi1 hi2=>?_;have:=h3 i;simp only[Act.eval,Array.getD_eq_getD_getElem?]at this;simpa [hi1,hi2]using this
theorem count_set {p q:Nat→Bool} {l:List Nat} {i:Nat} (hi:i∈l) (hp:p i=true) (hq:q i=false) (h:∀j,q j=true→p j=true):l.countP q<l.countP p:=by
 induction l with
 |nil=>cases hi
 |cons x l ih=>
  have hle:l.countP q≤l.countP p:=List.countP_mono_left fun j _ hj=>h j hj;rw[List.countP_cons,List.countP_cons];rcases List.mem_cons.1 hi with rfl|hi'
  ·simp[hp,hq];omega
  ·have:=ih hi';have hx:(if q x=true then 1 else 0)≤(if p x=true then 1 else 0:Nat):=by
    split
    ·rename_i hqx;simp[h x hqx]
    ·omega
   omega
section
variable {P:Program} {Q:Exit→Act→World→Prop} {ops:List Oper}
theorem any_rest (hback:∀i,i<ops.length→∀j∈edgesOf ops i,j<i) (k:Nat) (hch:∀i,i<ops.length→k<i→i-1∈edgesOf ops i):
 ∀(d m fuel:Nat) (listed:Array Bool) (a:Act) (w:World),m+d=ops.length→k≤m→d≤fuel→listed.size=ops.length→
  (∀i,i<ops.length→listed.getD i true=decide (i<m))→wpList P ops.toArray Q (ops.drop m) a w→wpAny P .any ops.toArray Q fuel listed a w:=by
 intro d
 induction d with
 |zero=>
  intro m fuel listed a w hm _ _ hsz hl h;have hr:Region.ready .any ops.toArray listed=[]:=(by refine List.eq_nil_iff_forall_not_mem.2 fun j hj=>?_;obtain⟨h0,o,ho,_⟩:=mem_ready.1 hj;have hj':j<ops.length:=(by simpa using (Array.getElem?_eq_some_iff.1 ho).1);rw[hl j hj']at h0;simp at h0;omega);have hq:Q .normal a w:=(by rw[List.drop_of_length_le (by omega)]at h;exact h);cases fuel with
  |zero=>exact⟨hr,hq⟩
  |succ f=>exact⟨fun _=>hq,fun i hi=>by rw[hr]at hi;cases hi⟩
 |succ d ih=>
  intro m fuel listed a w hm hk hf hsz hl h;obtain⟨f,rfl⟩:∃f,fuel=f+1:=⟨fuel-1,by omega⟩;have hml:m<ops.length:=(by omega);have hop:ops[m]? =some ops[m]:=List.getElem?_eq_getElem hml;have hopa:ops.toArray[m]? =some ops[m]:=(by simpa using hop);have hre:m∈Region.ready .any ops.toArray listed:=(by refine mem_ready.2 ⟨by rw[hl m hml];simp,ops[m],hopa,fun e he hb=>?_⟩;have hlt:e.on<m:=hback m hml e.on (by unfold edgesOf;rw[hop];exact List.mem_map.2 ⟨e,List.mem_filter.2 ⟨by simpa using he,hb⟩,rfl⟩);have h1:=hl e.on (by omega);have h2:e.on<listed.size:=(by omega);simp only[Array.getD_eq_getD_getElem?,Array.getElem?_eq_getElem h2,Option.getD_some]at h1⊢;rw[h1];simpa using hlt);refine⟨fun hr=>(by rw[hr]at hre;cases hre),fun i hi=>?_⟩;obtain⟨h0,o,ho,hall⟩:=mem_ready.1 hi;have hil:i<ops.length:=(by simpa using (Array.getElem?_eq_some_iff.1 ho).1);have him:m≤i:=(by rw[hl i hil]at h0;simpa using h0);have hie:i=m:=by
   rcases Nat.lt_or_ge m i with hmi|hmi
   ·exfalso;have h1:=hch i hil (by omega);unfold edgesOf at h1;have hoi:ops[i]? =some o:=(by simpa using ho);rw[hoi]at h1;obtain⟨e,he,he2⟩:=List.mem_map.1 h1;obtain⟨he1,hb⟩:=List.mem_filter.1 he;have h2:=hall e (by simpa using he1) hb;have h3:=hl (i-1) (by omega);have h4:i-1<listed.size:=(by omega);rw[he2]at h2;simp only[Array.getD_eq_getD_getElem?,Array.getElem?_eq_getElem h4,Option.getD_some]at h2 h3;rw[h2]at h3;simp at h3;omega
   ·omega
  subst hie;have hd:ops.drop i=ops[i]::ops.drop (i+1):=List.drop_eq_getElem_cons hil;rw[hd]at h;have step:∀a w,wpList P ops.toArray Q (ops.drop (i+1)) a w→wpAny P .any ops.toArray Q f (listed.setIfInBounds i true) a w:=fun a w h'=>
   ih (i+1) f _ a w (by omega) (by omega) (by omega) (by simpa using hsz) (fun j hj=>by
    by_cases hji:j=i
    ·subst hji;have h4:j<listed.size:=(by omega);simp[Array.getD_eq_getD_getElem?,h4]
    ·rw[getD_set_ne true (Ne.symm hji),hl j hj];simp only[decide_eq_decide];omega) h'
  unfold wpOp;rw[hopa];simp only[wpList]at h⊢
  split
  ·rename_i hw
   rw[if_pos hw]at h;exact h.imp (Oper.wp_mono step) id
  ·rename_i hw
   rw[if_neg hw]at h;exact step _ _ h
structure Stage (ops:List Oper) (tab:List Row) (al:List Nat) (Φ:Nat→Value→World→Prop) (W:(Nat→Bool)→World→Prop) (a0:Act) (listed:Array Bool) (a:Act) (w:World):Prop where
 size:listed.size=ops.length
 closed:∀j,j<ops.length→listed.getD j true=true→∀e∈edgesOf ops j,listed.getD e true=true
 later:∀j,tab.length≤j→j<ops.length→listed.getD j true=false
 world:W (fun j=>listed.getD j false) w
 defers:a.defers=a0.defers
 asize:a.tmps.size=a0.tmps.size
 vals:∀i r,tab[i]? =some r→listed.getD i true=true→Φ i (a.eval (.tmp r.dst)) w
 other:∀t,(∀i r,tab[i]? =some r→listed.getD i true=true→r.dst≠t)→a.eval (.tmp t)=a0.eval (.tmp t)
 apart:∀i∈al,∀j∈al,∀r s,i≠j→tab[i]? =some r→tab[j]? =some s→listed.getD i true=true→listed.getD j true=true→a.eval (.tmp r.dst)≠a.eval (.tmp s.dst)
theorem anc_listed {tab:List Row} {listed:Array Bool} (hanc:∀i r,tab[i]? =some r→∀j∈r.anc,j∈edgesOf ops i∨∃p∈edgesOf ops i,p<i∧j∈ancOf tab p)
 (hlen:tab.length≤ops.length) (closed:∀j,j<ops.length→listed.getD j true=true→∀e∈edgesOf ops j,listed.getD e true=true):
 ∀(i:Nat) (r:Row),tab[i]? =some r→(∀e∈edgesOf ops i,listed.getD e true=true)→∀j∈r.anc,listed.getD j true=true:=by
 intro i
 induction i using Nat.strongRecOn with
 |_ i ih=>
  intro r hr he j hj;rcases hanc i r hr j hj with h|⟨p,hp,hpi,hjp⟩
  ·exact he j h
  ·unfold ancOf at hjp
   split at hjp
   ·rename_i rp hrp
    have hpl:p<tab.length:=(List.getElem?_eq_some_iff.1 hrp).1;exact ih p hpi rp hrp (closed p (by omega) (he p hp)) j hjp
   ·cases hjp
theorem wp_draw {id:Nat} {a0:Act} {w0:World} (hm:P.follows .mixedOrders=true) (tab:List Row) (al:List Nat) (hok:tabOk ops tab=true)
 (hsz:∀r∈tab,r.dst<a0.tmps.size)
 (Φ:Nat→Value→World→Prop) (W:(Nat→Bool)→World→Prop) (Ext:World→World→Prop)
 (hW:W (fun _=>false) w0.drew) (mono:∀i v w w',Φ i v w→Ext w w'→Φ i v w')
 (step:∀i o r,ops[i]? =some o→tab[i]? =some r→∀(L:Nat→Bool) a w,W L w→L i=false→(∀j∈r.preds,L j=true)→(∀j,i∈ancOf tab j→L j=false)→a.defers=a0.defers→(∀j∈r.preds,∀s,tab[j]? =some s→Φ j (a.eval (.tmp s.dst)) w)→
  (∀t∈r.free,a.eval (.tmp t)=a0.eval (.tmp t))→
  let K:Act→World→Prop:=fun a' w'=>∃v,a'=a.put (some r.dst) v∧Φ i v w'∧W (fun j=>j==i||L j) w'∧Ext w w'∧(i∈al→∀j∈al,j≠i→∀u,Φ j u w→v≠u)
  if Region.wanted o (yielded ops.toArray a.tmps) then o.wp P a w K Q else K (a.put (some r.dst) undef) w)
 (rest:∀(vs:Nat→Value) (w:World),(∀i,i<tab.length→Φ i (vs i) w)→W (fun j=>decide (j<tab.length)) w→(∀i∈al,∀j∈al,i<tab.length→j<tab.length→i≠j→vs i≠vs j)→
  wpList P ops.toArray Q (ops.drop tab.length) (puts a0 tab vs 0) w):
 (Code.region id ops.toArray true).wp P Q a0 w0:=by
 simp only[tabOk,Bool.and_eq_true,decide_eq_true_eq,List.all_eq_true,List.mem_range,Bool.or_eq_true,List.contains_iff_mem,List.any_eq_true]at hok;obtain⟨⟨⟨⟨hlen,hback⟩,hrows⟩,hchain⟩,hlast⟩:=hok;have rowsOf:∀(i:Nat) (r:Row),tab[i]? =some r→dstOf ops i=some r.dst∧(∀j∈r.preds,j∈edgesOf ops i)∧
  (∀j∈r.anc,j∈edgesOf ops i∨∃p∈edgesOf ops i,p<i∧j∈ancOf tab p)∧(∀j,j<tab.length→j=i∨dstOf ops j≠some r.dst)∧
  (∀t∈r.free,∀j,j<tab.length→dstOf ops j≠some t∨i∈ancOf tab j):=by
  intro i r hr;have hi:i<tab.length:=(List.getElem?_eq_some_iff.1 hr).1;have h:=hrows i hi;simp only[hr,Bool.and_eq_true,List.all_eq_true,List.mem_range,Bool.or_eq_true,List.contains_iff_mem,List.any_eq_true,decide_eq_true_eq,beq_iff_eq,bne_iff_ne]at h;obtain⟨⟨⟨⟨h1,h2⟩,h3⟩,h4⟩,h5⟩:=h;exact⟨h1,h2,h3,h4,h5⟩
 have hdst:∀(i:Nat) (r:Row),tab[i]? =some r→∀(j:Nat) (s:Row),tab[j]? =some s→s.dst=r.dst→j=i:=fun i r hr j s hs he=>by
  rcases(rowsOf i r hr).2.2.2.1 j ((List.getElem?_eq_some_iff.1 hs).1)with h|h
  ·exact h
  ·rw[(rowsOf j s hs).1,he]at h;exact absurd rfl h
 have hopen:∀i,i<ops.length→tab.length<i→i-1∈edgesOf ops i:=fun i hi hk=>by
  rcases hchain i hi with (h|h)|h
  ·omega
  ·omega
  ·exact h
 have finish:∀(listed:Array Bool) (a:Act) (w:World),Stage ops tab al Φ W a0 listed a w→(∀i,i<tab.length→listed.getD i true=true)→
  wpList P ops.toArray Q (ops.drop tab.length) a w:=by
  intro listed a w hS hall;have hr:=rest (fun i=>match tab[i]? with|some r=>a.eval (.tmp r.dst)|none=>undef) w (fun i hi=>by
   have hg:=List.getElem?_eq_getElem hi;simp only[hg];exact hS.vals i _ hg (hall i hi)) (by
   have e:(fun j=>decide (j<tab.length))=fun j=>listed.getD j false:=funext fun j=>by
    rcases Nat.lt_or_ge j ops.length with hj|hj
    ·have hj':j<listed.size:=(by rw[hS.size];exact hj);have e1:listed.getD j false=listed.getD j true:=(by simp[Array.getD_eq_getD_getElem?,hj']);rw[e1];rcases Nat.lt_or_ge j tab.length with h|h
     ·rw[hall j h];simpa using h
     ·rw[hS.later j h hj];simpa using h
    ·have hj':¬j<listed.size:=(by rw[hS.size];omega);have e2:listed.getD j false=false:=(by simp[Array.getD_eq_getD_getElem?,hj']);rw[e2];simp;omega
   rw[e];exact hS.world) (fun i hi j hj hi' hj' hne=>by
   have hg:=List.getElem?_eq_getElem hi';have hg':=List.getElem?_eq_getElem hj';simp only[hg,hg'];exact hS.apart i hi j hj _ _ hne hg hg' (hall i hi') (hall j hj'))
  have hae:a=puts a0 tab (fun i=>match tab[i]? with|some r=>a.eval (.tmp r.dst)|none=>undef) 0:=by
   refine act_ext (by rw[puts_defers];exact hS.defers) (by rw[puts_size];exact hS.asize) fun t=>?_;by_cases ht:∃(m:Nat) (r:Row),tab[m]? =some r∧r.dst=t
   ·obtain⟨m,r,hr,rfl⟩:=ht;rw[puts_some tab a0 _ 0 m r hr (fun m' r' h1 h2=>hdst m r hr m' r' h1 h2) (hsz r (List.mem_of_getElem? hr))];simp[hr]
   ·rw[puts_none tab a0 _ 0 t (fun r hr he=>ht (by obtain⟨m,hm⟩:=List.getElem?_of_mem hr;exact⟨m,r,hm,he⟩))];exact hS.other t (fun i r hr _ he=>ht ⟨i,r,hr,he⟩)
  rw[hae];exact hr
 refine wp_region_any hm ?_;have key:∀(fuel:Nat) (listed:Array Bool) (a:Act) (w:World),(List.range ops.length).countP (fun i=>!listed.getD i true)≤fuel→
  Stage ops tab al Φ W a0 listed a w→wpAny P .any ops.toArray Q fuel listed a w:=by
  intro fuel
  induction fuel with
  |zero=>
   intro listed a w hc hS;have hall:∀i,i<ops.length→listed.getD i true=true:=fun i hi=>by have:=List.countP_eq_zero.1 (Nat.le_zero.1 hc) i (List.mem_range.2 hi);simpa using this
   have hkn:tab.length=ops.length:=by
    rcases Nat.lt_or_ge tab.length ops.length with h|h
    ·have h1:=hS.later _ (Nat.le_refl _) h;rw[hall _ h]at h1;cases h1
    ·omega
   refine any_rest hback tab.length hopen 0 ops.length 0 listed a w (by omega) (by omega) (Nat.le_refl _) hS.size (fun i hi=>by rw[hall i hi];simpa using hi) ?_;have hf:=finish listed a w hS (fun i hi=>hall i (by omega))
   rwa [hkn]at hf
  |succ fuel ih=>
   intro listed a w hc hS;by_cases hdone:∀i,i<tab.length→listed.getD i true=true
   ·refine any_rest hback tab.length hopen (ops.length-tab.length) tab.length (fuel+1) listed a w (by omega) (by omega) ?_ hS.size (fun i hi=>?_) (finish listed a w hS hdone)
    ·refine Nat.le_trans ?_ hc;have h1:(List.range ops.length).countP (fun i=>!decide (i<tab.length))≤(List.range ops.length).countP (fun i=>!listed.getD i true):=List.countP_mono_left fun i hi h=>by have hi':=List.mem_range.1 hi;have h2:tab.length≤i:=(by simpa using h);rw[hS.later i h2 hi'];rfl
     refine Nat.le_trans (Nat.le_of_eq ?_) h1;obtain⟨d,hd⟩:=Nat.exists_eq_add_of_le hlen;rw[hd,List.range_add,List.countP_append];have e1:(List.range tab.length).countP (fun i=>!decide (i<tab.length))=0:=List.countP_eq_zero.2 fun i hi=>by simpa using List.mem_range.1 hi
     have e2:((List.range d).map (tab.length+ ·)).countP (fun i=>!decide (i<tab.length))=d:=(by rw[List.countP_map,List.countP_eq_length.2 (by intro i _;simp),List.length_range]);omega
    ·rcases Nat.lt_or_ge i tab.length with h|h
     ·rw[hdone i h];simpa using h
     ·rw[hS.later i h hi];simpa using h
   ·have hex:∃m,m<tab.length∧listed.getD m true=false:=by
     refine Classical.byContradiction fun hno=>hdone fun i hi=>?_;cases hv:listed.getD i true
     ·exact absurd ⟨i,hi,hv⟩ hno
     ·rfl
    obtain⟨m,hm1,hm2⟩:=hex;refine⟨fun hr=>?_,fun i hi=>?_⟩
    ·exfalso;have hleast:∀i,i<ops.length→listed.getD i true=true:=by
      intro i
      induction i using Nat.strongRecOn with
      |_ i ihi=>
       intro hi;cases hv:listed.getD i true
       ·exfalso;have hop:ops[i]? =some ops[i]:=List.getElem?_eq_getElem hi;have:i∈Region.ready .any ops.toArray listed:=(by refine mem_ready.2 ⟨hv,ops[i],by simpa using hop,fun e he hb=>?_⟩;have hlt:e.on<i:=hback i hi e.on (by unfold edgesOf;rw[hop];exact List.mem_map.2 ⟨e,List.mem_filter.2 ⟨by simpa using he,hb⟩,rfl⟩);have h1:=ihi e.on hlt (by omega);have h2:e.on<listed.size:=(by rw[hS.size];omega);simpa [Array.getD_eq_getD_getElem?,Array.getElem?_eq_getElem h2]using h1);rw[hr]at this;cases this
       ·rfl
     rw[hleast m (by omega)]at hm2;cases hm2
    ·obtain⟨h0,o,ho,hall⟩:=mem_ready.1 hi;have hil:i<ops.length:=(by simpa using (Array.getElem?_eq_some_iff.1 ho).1);have hoi:ops[i]? =some o:=(by simpa using ho);have hpre:∀e∈edgesOf ops i,listed.getD e true=true:=(by intro e he;have hlt:=hback i hil e he;unfold edgesOf at he;rw[hoi]at he;obtain⟨x,hx,rfl⟩:=List.mem_map.1 he;obtain⟨hx1,hb⟩:=List.mem_filter.1 hx;have h2:=hall x (by simpa using hx1) hb;have h3:x.on<listed.size:=(by rw[hS.size];omega);simpa [Array.getD_eq_getD_getElem?,Array.getElem?_eq_getElem h3]using h2);have hik:i<tab.length:=by
      rcases Nat.lt_or_ge i tab.length with h|h
      ·exact h
      ·exfalso;rcases Nat.lt_or_ge tab.length i with h'|h'
       ·have h1:=hpre _ (hopen i hil h');rw[hS.later (i-1) (by omega) (by omega)]at h1;cases h1
       ·have hie:i=tab.length:=(by omega);subst hie;rcases hlast with h1|h1
        ·omega
        ·have h2:listed.getD m true=true:=by
          rcases h1 m hm1 with h3|⟨p,hp,hpk,hmp⟩
          ·exact hpre m h3
          ·unfold ancOf at hmp
           split at hmp
           ·rename_i rp hrp
            exact anc_listed (fun i r hr=>(rowsOf i r hr).2.2.1) hlen hS.closed p rp hrp (hS.closed p (by omega) (hpre p hp)) m hmp
           ·cases hmp
         rw[h2]at hm2;cases hm2
     obtain⟨r,hr⟩:∃r,tab[i]? =some r:=⟨_,List.getElem?_eq_getElem hik⟩;obtain⟨hd,hpreds,_,huniq,hfree⟩:=rowsOf i r hr;have hod:o.dst=some r.dst:=(by unfold dstOf at hd;rw[hoi]at hd;simpa using hd);have hfr:∀t∈r.free,a.eval (.tmp t)=a0.eval (.tmp t):=fun t ht=>hS.other t fun j s hs hlj he=>by
      have hj:j<tab.length:=(List.getElem?_eq_some_iff.1 hs).1;rcases hfree t ht j hj with h1|h1
      ·rw[(rowsOf j s hs).1,he]at h1;exact h1 rfl
      ·unfold ancOf at h1;rw[hs]at h1;have:=anc_listed (fun i r hr=>(rowsOf i r hr).2.2.1) hlen hS.closed j s hs (hS.closed j (by omega) hlj) i h1;rw[h0]at this;cases this
     have hLt:∀j,j<ops.length→listed.getD j false=listed.getD j true:=fun j hj=>by have hj':j<listed.size:=(by rw[hS.size];exact hj);simp[Array.getD_eq_getD_getElem?,hj']
     have hst:=step i o r hoi hr (fun j=>listed.getD j false) a w hS.world (by rw[hLt i hil];exact h0)
      (fun j hj=>by have hj2:=hpreds j hj;have:=hback i hil j hj2;rw[hLt j (by omega)];exact hpre j hj2)
      (fun j hj=>by
       cases hlj:listed.getD j false
       ·rfl
       ·exfalso;have hjn:j<tab.length:=by
         unfold ancOf at hj;split at hj
         ·rename_i s hs;exact(List.getElem?_eq_some_iff.1 hs).1
         ·cases hj
        rw[hLt j (by omega)]at hlj;obtain⟨s,hs⟩:∃s,tab[j]? =some s:=⟨_,List.getElem?_eq_getElem hjn⟩;unfold ancOf at hj;rw[hs]at hj;have:=anc_listed (fun i r hr=>(rowsOf i r hr).2.2.1) hlen hS.closed j s hs (hS.closed j (by omega) hlj) i hj;rw[h0]at this;cases this)
      hS.defers (fun j hj s hs=>hS.vals j s hs (hpre j (hpreds j hj))) hfr
     have hin:i<listed.size:=(by rw[hS.size];exact hil);have hset:∀j,(listed.setIfInBounds i true).getD j true=(if j=i then true else listed.getD j true):=by
      intro j;by_cases hji:j=i
      ·subst hji;simp[Array.getD_eq_getD_getElem?,hin]
      ·rw[getD_set_ne true (Ne.symm hji),if_neg hji]
     have next:∀a' w',(∃v,a'=a.put (some r.dst) v∧Φ i v w'∧W (fun j=>j==i||listed.getD j false) w'∧Ext w w'∧(i∈al→∀j∈al,j≠i→∀u,Φ j u w→v≠u))→
      wpAny P .any ops.toArray Q fuel (listed.setIfInBounds i true) a' w':=by
      rintro a' w' ⟨v,rfl,hv,hw',hext,hal⟩;have hrs:r.dst<a.tmps.size:=(by rw[hS.asize];exact hsz r (List.mem_of_getElem? hr));have hW':W (fun j=>(listed.setIfInBounds i true).getD j false) w':=by
       have e:(fun j=>(listed.setIfInBounds i true).getD j false)=fun j=>j==i||listed.getD j false:=funext fun j=>by
        by_cases hji:j=i
        ·subst hji;simp[Array.getD_eq_getD_getElem?,hin]
        ·rw[getD_set_ne false (Ne.symm hji)];simp[hji]
       rw[e];exact hw'
      refine ih _ _ _ ?_ ⟨by simpa using hS.size,?_,?_,hW',hS.defers,by simpa [Act.put]using hS.asize,?_,?_,?_⟩
      ·refine Nat.le_of_lt_succ (Nat.lt_of_lt_of_le (count_set (i:=i) (List.mem_range.2 hil) (by simp[h0]) (by simp[hset]) ?_) hc);intro j hj;rw[hset]at hj
       split at hj
       ·cases hj
       ·exact hj
      ·intro j hj hlj e he;rw[hset]at hlj⊢
       split
       ·rfl
       ·split at hlj
        ·rename_i hji;subst hji;exact hpre e he
        ·exact hS.closed j hj hlj e he
      ·intro j hj1 hj2;rw[hset,if_neg (by omega)];exact hS.later j hj1 hj2
      ·intro j s hs hlj;rw[hset]at hlj;by_cases hji:j=i
       ·subst hji;rw[hr]at hs;obtain rfl:=Option.some.inj hs;rw[eval_put_same hrs];exact hv
       ·rw[if_neg hji]at hlj;rw[eval_put_other (fun h=>hji (hdst i r hr j s hs h.symm))];exact mono _ _ _ _ (hS.vals j s hs hlj) hext
      ·intro t ht;have htr:r.dst≠t:=ht i r hr (by rw[hset,if_pos rfl]);rw[eval_put_other htr];exact hS.other t fun j s hs hlj=>ht j s hs (by rw[hset];split <;> first|rfl|exact hlj)
      ·intro x hx y hy rx ry hne hrx hry hlx hly;rw[hset]at hlx hly;by_cases hxi:x=i
       ·subst hxi;rw[hr]at hrx;obtain rfl:=Option.some.inj hrx;rw[if_neg (Ne.symm hne)]at hly;rw[eval_put_same hrs,eval_put_other (fun h=>hne (hdst y ry hry x r hr h))];exact hal hx y hy (Ne.symm hne) _ (hS.vals y ry hry hly)
       ·rw[if_neg hxi]at hlx;by_cases hyi:y=i
        ·subst hyi;rw[hr]at hry;obtain rfl:=Option.some.inj hry;rw[eval_put_same hrs,eval_put_other (fun h=>hne (hdst y r hr x rx hrx h.symm))];exact(hal hy x hx hne _ (hS.vals x rx hrx hlx)).symm
        ·rw[if_neg hyi]at hly;rw[eval_put_other (fun h=>hxi (hdst i r hr x rx hrx h.symm)),eval_put_other (fun h=>hyi (hdst i r hr y ry hry h.symm))];exact hS.apart x hx y hy rx ry hne hrx hry hlx hly
     unfold wpOp;rw[ho];simp only
     split
     ·rename_i hwt
      simp only[hwt,if_true]at hst;exact .inl (Oper.wp_mono next hst)
     ·rename_i hwt
      simp only[hwt]at hst;rw[hod];exact next _ _ hst
 refine key _ _ _ _ (Nat.le_trans (List.countP_le_length) (by simp)) ⟨by simp,?_,?_,?_,rfl,rfl,?_,fun _ _=>rfl,?_⟩
 ·intro j hj h;simp[hj]at h
 ·intro j _ hj;simp[hj]
 ·have e:(fun j=>(Array.replicate ops.toArray.size false).getD j false)=fun _=>false:=funext fun j=>by
   simp[Array.getD_eq_getD_getElem?,Array.getElem?_replicate]
   split <;> rfl
  rw[e];exact hW
 ·intro i r hr h;have:i<ops.length:=(by have:=(List.getElem?_eq_some_iff.1 hr).1;omega);simp[this]at h
 ·intro i _ j _ r s _ hr _ h _;have:i<ops.length:=(by have:=(List.getElem?_eq_some_iff.1 hr).1;omega);simp[this]at h
theorem wp_drawn {id:Nat} {a0:Act} {w0:World} (hm:P.follows .mixedOrders=true) (tab:List Row) (al:List Nat) (hok:tabOk ops tab=true) (N:Nat) (hN:a0.tmps.size=N)
 (hsz:tab.all (fun r=>decide (r.dst<N))=true)
 (Φ:Nat→Value→World→Prop) (W:(Nat→Bool)→World→Prop) (Ext:World→World→Prop)
 (hW:W (fun _=>false) w0.drew) (mono:∀i v w w',Φ i v w→Ext w w'→Φ i v w')
 (step:∀i o r,ops[i]? =some o→tab[i]? =some r→∀(L:Nat→Bool) a w,W L w→L i=false→(∀j∈r.preds,L j=true)→(∀j,i∈ancOf tab j→L j=false)→a.defers=a0.defers→
  (∀j∈r.preds,∀s,tab[j]? =some s→Φ j (a.eval (.tmp s.dst)) w)→(∀t∈r.free,a.eval (.tmp t)=a0.eval (.tmp t))→
  let K:Act→World→Prop:=fun a' w'=>∃v,a'=a.put (some r.dst) v∧Φ i v w'∧W (fun j=>j==i||L j) w'∧Ext w w'∧(i∈al→∀j∈al,j≠i→∀u,Φ j u w→v≠u)
  if Region.wanted o (yielded ops.toArray a.tmps) then o.wp P a w K Q else K (a.put (some r.dst) undef) w)
 (rest:∀(vs:Nat→Value) (w:World),(∀i,i<tab.length→Φ i (vs i) w)→W (fun j=>decide (j<tab.length)) w→(∀i∈al,∀j∈al,i<tab.length→j<tab.length→i≠j→vs i≠vs j)→
  wpList P ops.toArray Q (ops.drop tab.length) (puts a0 tab vs 0) w):
 (Code.region id ops.toArray true).wp P Q a0 w0:=
 wp_draw hm tab al hok (fun r hr=>by have:=List.all_eq_true.1 hsz r hr;rw[hN];simpa using this) Φ W Ext hW mono step rest
theorem stp {o:Oper} {a:Act} {w:World} {K:Act→World→Prop} {E:Prop} (hg:o.guard=none) (h:o.wp P a w K Q):
 if Region.wanted o (yielded ops.toArray a.tmps)=true then o.wp P a w K Q else E:=by
 rw[if_pos (by simp[Region.wanted,hg])];exact h
theorem stp_g {o:Oper} {a:Act} {w:World} {K:Act→World→Prop} {E:Prop} {j:Nat} {b:Bool} {d:Nat} (hg:o.guard=some (j,b)) (hd:dstOf ops j=some d) (hv:a.eval (.tmp d)= .bool b)
 (h:o.wp P a w K Q):if Region.wanted o (yielded ops.toArray a.tmps)=true then o.wp P a w K Q else E:=by
 have hy:yielded ops.toArray a.tmps j=some b:=by
  unfold yielded;unfold dstOf at hd;have:(ops.toArray[j]?.bind (·.dst))=some d:=(by simpa using hd);rw[this];simp only[Act.eval,Array.getD_eq_getD_getElem?]at hv;cases h2:a.tmps[d]? with
  |none=>rw[h2]at hv;simp[undef]at hv
  |some u=>rw[h2]at hv;simp at hv;subst hv;simp[h2]
 rw[if_pos (by simp[Region.wanted,hg,hy])];exact h
theorem ev_tmp {a:Act} {t:Nat} {v:Value} (h:a.eval (.tmp t)=v):a.tmps[t]?.getD undef=v:=by simpa only[Act.eval,Array.getD_eq_getD_getElem?]using h
theorem evt {a:Act} {t:Nat}: a.eval (.tmp t)=a.tmps[t]?.getD undef:=(ev_tmp rfl).symm
theorem stpK {o:Oper} {a:Act} {w:World} {d:Nat} {G:Value→World→Prop} {E:Prop} (hg:o.guard=none) (hd:o.dst=some d)
 (h:∀K:Act→World→Prop,(∀v w',G v w'→K (a.put (some d) v) w')→o.wp P a w K Q):
 if Region.wanted o (yielded ops.toArray a.tmps)=true then o.wp P a w (fun a' w'=>∃v,a'=a.put (some d) v∧G v w') Q else E:=
 stp hg (h _ fun v w' hG=>⟨v,rfl,hG⟩)
theorem stpK_g {o:Oper} {a:Act} {w:World} {d:Nat} {G:Value→World→Prop} {E:Prop} {j:Nat} {b:Bool} {dj:Nat} (hg:o.guard=some (j,b)) (hdj:dstOf ops j=some dj)
 (hv:a.tmps[dj]?.getD undef= .bool b) (hd:o.dst=some d)
 (h:∀K:Act→World→Prop,(∀v w',G v w'→K (a.put (some d) v) w')→o.wp P a w K Q):
 if Region.wanted o (yielded ops.toArray a.tmps)=true then o.wp P a w (fun a' w'=>∃v,a'=a.put (some d) v∧G v w') Q else E:=
 stp_g hg hdj (by simpa only[Act.eval,Array.getD_eq_getD_getElem?]using hv) (h _ fun v w' hG=>⟨v,rfl,hG⟩)
end
end Go.Rad
namespace Go.Proofs.YtffdemplaodbcaaDoor
open Go Go.Proofs Go.RowKit Go.Rad
theorem mixed:Tryd.prog.follows .mixedOrders=true:=by kernel_rfl
theorem wp_world {P:Program} {Q:Exit→Act→World→Prop} {a:Act} {w:World} {c:Code} (F:World→Prop) (hF:F w) (h:∀w1,F w1→c.wp P Q a w1):c.wp P Q a w:=h w hF
theorem bel1 (w:World) (X:Obj):Below w.heap.size w (w.alloc X):=(Below.refl _ _).alloc (Nat.le_refl _) _
theorem bel2 (w:World) (X Y:Obj):Below w.heap.size w ((w.alloc X).alloc Y):=(bel1 w X).alloc (by simp) _
theorem bel3 (w:World) (X Y Z:Obj):Below w.heap.size w (((w.alloc X).alloc Y).alloc Z):=(bel2 w X Y).alloc (by simp;omega) _
theorem bel_drew (w:World):Below w.heap.size w w.drew:=(Below.refl _ _).drew
structure FB (w:World) (b:Nat) (u0 u1:Value):Prop where
 lt:b<w.heap.size
 c0:w.cell? ⟨b,0,none⟩=some u0
 c1:w.cell? ⟨b,1,none⟩=some u1
 f0:w.frozen? ⟨b,0,none⟩=false
 f1:w.frozen? ⟨b,1,none⟩=false
theorem FB.step {w w':World} {b C:Nat} {u0 u1:Value} (h:FB w b u0 u1) (hb:Below C w w') (hC:b<C):FB w' b u0 u1:=
 ⟨Nat.lt_of_lt_of_le h.lt hb.size,(World.cell?_of_block (hb.block b hC)).trans h.c0,(World.cell?_of_block (hb.block b hC)).trans h.c1,
  (World.frozen?_of_block (hb.block b hC)).trans h.f0,(World.frozen?_of_block (hb.block b hC)).trans h.f1⟩
theorem FB.below {w w':World} {b:Nat} {u0 u1:Value} (h:FB w b u0 u1) (hb:Below w.heap.size w w'):FB w' b u0 u1:=h.step hb h.lt
theorem FB.mk0 (w:World) (u0 u1:Value) (T:TypeId):FB (w.alloc (Obj.cells #[u0,u1] T)) w.heap.size u0 u1:=⟨by simp,by simp[go_sem],by simp[go_sem],by simp[go_sem],by simp[go_sem]⟩
theorem FB.alloc {w:World} {b:Nat} {u0 u1:Value} (h:FB w b u0 u1) (X:Obj):FB (w.alloc X) b u0 u1:=h.below (bel1 _ _)
theorem FB.set {w:World} {b:Nat} {u0 u1:Value} (h:FB w b u0 u1) (v0 v1:Value):FB ((w.setCell ⟨b,0,none⟩ v0).setCell ⟨b,1,none⟩ v1) b v0 v1:=by
 refine⟨by simp;exact h.lt,?_,?_,?_,?_⟩
 ·rw[cell_other (.inr (by omega)),cell_same h.c0]
 ·rw[cell_same (u:=u1) (by rw[cell_other (.inr (by omega))];exact h.c1)]
 ·rw[World.frozen?_setCell,World.frozen?_setCell];exact h.f0
 ·rw[World.frozen?_setCell,World.frozen?_setCell];exact h.f1
theorem FB.other {w:World} {b c:Nat} {u0 u1:Value} (h:FB w b u0 u1) (v0 v1:Value) (hc:b≠c):FB ((w.setCell ⟨c,0,none⟩ v0).setCell ⟨c,1,none⟩ v1) b u0 u1:=by
 refine⟨by simp;exact h.lt,?_,?_,?_,?_⟩
 ·rw[cell_other (.inl hc),cell_other (.inl hc)];exact h.c0
 ·rw[cell_other (.inl hc),cell_other (.inl hc)];exact h.c1
 ·rw[World.frozen?_setCell,World.frozen?_setCell];exact h.f0
 ·rw[World.frozen?_setCell,World.frozen?_setCell];exact h.f1
theorem FB.drew {w:World} {b:Nat} {u0 u1:Value} (h:FB w b u0 u1):FB w.drew b u0 u1:=⟨h.lt,h.c0,h.c1,h.f0,h.f1⟩
theorem below_set2 {W:Nat} {w0 w:World} {b:Nat} (h:Below W w0 w) (hb:W≤b) (v0 v1:Value):Below W w0 ((w.setCell ⟨b,0,none⟩ v0).setCell ⟨b,1,none⟩ v1):=(h.setCell (p:=⟨b,0,none⟩) hb v0).setCell (p:=⟨b,1,none⟩) hb v1
theorem fb1 (w:World) (a0 a1:Value) (T1:TypeId):Below w.heap.size w (w.alloc (Obj.cells #[a0,a1] T1))∧FB (w.alloc (Obj.cells #[a0,a1] T1)) w.heap.size a0 a1:=⟨bel1 _ _,FB.mk0 _ _ _ _⟩
theorem fb2 (w:World) (a0 a1 b0 b1:Value) (T1 T2:TypeId) {w1:World} (h:w1=(w.alloc (Obj.cells #[a0,a1] T1)).alloc (Obj.cells #[b0,b1] T2)):
 Below w.heap.size w w1∧FB w1 w.heap.size a0 a1∧FB w1 (w.heap.size+1) b0 b1:=by
 subst h;exact⟨bel2 _ _ _,(FB.mk0 _ _ _ _).alloc _,by simpa using (FB.mk0 (w.alloc _) _ _ _)⟩
theorem fb3 (w:World) (a0 a1 b0 b1 c0 c1:Value) (T1 T2 T3:TypeId) {w1:World} (h:w1=((w.alloc (Obj.cells #[a0,a1] T1)).alloc (Obj.cells #[b0,b1] T2)).alloc (Obj.cells #[c0,c1] T3)):
 Below w.heap.size w w1∧FB w1 w.heap.size a0 a1∧FB w1 (w.heap.size+1) b0 b1∧FB w1 (w.heap.size+1+1) c0 c1:=by
 subst h;exact⟨bel3 _ _ _ _,((FB.mk0 _ _ _ _).alloc _).alloc _,by simpa using ((FB.mk0 (w.alloc _) _ _ _).alloc _),by simpa using (FB.mk0 ((w.alloc _).alloc _) _ _ _)⟩
theorem fb4 (w:World) (a0 a1 b0 b1 c0 c1 d0 d1:Value) (T1 T2 T3 T4:TypeId) {w1:World}
 (h:w1=(((w.alloc (Obj.cells #[a0,a1] T1)).alloc (Obj.cells #[b0,b1] T2)).alloc (Obj.cells #[c0,c1] T3)).alloc (Obj.cells #[d0,d1] T4)):
 Below w.heap.size w w1∧FB w1 w.heap.size a0 a1∧FB w1 (w.heap.size+1) b0 b1∧FB w1 (w.heap.size+1+1) c0 c1∧FB w1 (w.heap.size+1+1+1) d0 d1:=by
 subst h;exact⟨(bel3 _ _ _ _).alloc (by simp;omega) _,(((FB.mk0 _ _ _ _).alloc _).alloc _).alloc _,by simpa using (((FB.mk0 (w.alloc _) _ _ _).alloc _).alloc _),by simpa using ((FB.mk0 ((w.alloc _).alloc _) _ _ _).alloc _),by simpa using (FB.mk0 (((w.alloc _).alloc _).alloc _) _ _ _)⟩
abbrev FV (p q:Int):Value:= .agg #[.int .i64 p, .int .i64 q]
theorem ret_int {x y:Int} (h:x=y):Ending.returned (.int .i64 x)=Ending.returned (.int .i64 y):=by rw[h]
theorem ret_bool {x y:Bool} (h:x=y):Ending.returned (.bool x)=Ending.returned (.bool y):=by rw[h]
theorem sq_lt {x y:Int} (h0:0≤x) (hx:x<2147483648) (h1:0≤y) (hy:y<2147483648):0≤x*y∧x*y<4611686018427387904:=by refine⟨Int.mul_nonneg h0 h1,?_⟩;have h2:=Int.mul_le_mul (show x≤2147483647 by omega) (show y≤2147483647 by omega) h1 (by omega);omega
theorem wrap_in {x:Int} (h0:0≤x) (h:x<9223372036854775808):wrap64 x=x:=by unfold wrap64;omega
set_option maxRecDepth 10000 in
theorem fieldOf_any (w:World) (p q:Int) (h0:0≤p) (hp:p<2147483648) (hq:q=p*p):
 Calls Tryd.prog 31 #[.int .i64 p] w fun e w'=>e= .returned (FV p q)∧Below w.heap.size w w':=by
 have h1:=sq_lt h0 hp h0 hp;have h2:wrap64 (p*p)=p*p:=wrap_in h1.1 (by omega);subst hq;go_enter Tryd.func31,Tryd.ntmps31;go_wp2;refine bodyPost_ret (v:=FV p (p*p)) (by simp[results,go_sem,loadVar]) rfl ?_;exact⟨rfl,bel1 _ _⟩
set_option maxRecDepth 10000 in
theorem least_any (w:World) (p q a:Int) (h0:0<p) (hp:p<2147483648) (ha0:0≤a) (ha:a<9223372036854775808):
 Calls Tryd.prog 56 #[FV p q, .int .i64 a] w fun e w'=>e= .returned (.int .i64 (a%p))∧Below w.heap.size w w':=by
 have h2:=Int.emod_nonneg a (show p≠0 by omega);have h3:=Int.emod_lt_of_pos a h0;have h4:wrap64 (a%p)=a%p:=wrap_in h2 (by omega);go_enter Tryd.func56,Tryd.ntmps56;go_wp2;go_ret;exact⟨rfl,bel1 _ _⟩
set_option maxRecDepth 10000 in
theorem opposite_any (w:World) (p q a:Int) (hp:p<2147483648) (h0:0≤a) (ha:a<p):
 Calls Tryd.prog 59 #[FV p q, .int .i64 a] w fun e w'=>e= .returned (.int .i64 (-a%p))∧Below w.heap.size w w':=by
 go_enter Tryd.func59,Tryd.ntmps59;go_wp2
 ·have h:(a==0)=true:=(by assumption);have h0:a=0:=(by simpa using h);go_ret;exact⟨ret_int (by rw[h0];simp),bel1 _ _⟩
 ·have h:(a==0)=false:=(by assumption);have h0:a≠0:=(by simpa using h);go_ret;exact⟨ret_int (by rw[←Int.add_emod_left,Int.emod_eq_of_lt (by omega) (by omega)];omega),bel1 _ _⟩
end Go.Proofs.YtffdemplaodbcaaDoor
