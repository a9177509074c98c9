/- A part of the proof: Draw, Pm3. -/
import Derived.Test.YtjlkplidpdhgbaaGreatDoorP00
import Derived.WalkKit
import Derived.Orders
import Derived.Test.YtjlkplidpdhgbaaGreatDoorP01
set_option linter.all false
namespace Go.Rad
open Go Go.RowKit
structure Row where
 dst:Nat
 preds:List Nat
 anc:List Nat
 free:List Nat
def zaw (ops:List Oper) (i:Nat):List Nat:=
 match ops[i]? with
 |some o=>(o.after.toList.filter fun e=>Region.binds .any e).map (·.on)
 |none=>[]
def zdo (ops:List Oper) (i:Nat):Option Nat:=(ops[i]?).bind (·.dst)
def zcg (tab:List Row) (i:Nat):List Nat:=match tab[i]? with|some r=>r.anc|none=>[]
def tabOk (ops:List Oper) (tab:List Row):Bool:=
 let n:=ops.length
 let k:=tab.length
 decide (k≤n)&&
 (List.range n).all (fun i=>(zaw ops i).all (fun j=>decide (j<i)))&&
 (List.range k).all (fun i=>match tab[i]? with
  |none=>false
  |some r=>
   zdo ops i==some r.dst&&
   r.preds.all (fun j=>(zaw ops i).contains j)&&
   r.anc.all (fun j=>(zaw ops i).contains j||(zaw ops i).any (fun p=>decide (p<i)&&(zcg tab p).contains j))&&
   (List.range k).all (fun j=>j==i||zdo ops j !=some r.dst)&&
   r.free.all (fun t=>(List.range k).all (fun j=>zdo ops j !=some t||(zcg tab j).contains i)))&&
 (List.range n).all (fun i=>decide (i≤k)||decide (i<k)||(zaw ops i).contains (i-1))&&
 (decide (k=n)||(List.range k).all (fun j=>(zaw ops k).contains j||(zaw ops k).any (fun p=>decide (p<k)&&(zcg tab p).contains j)))
def zbx (a:Act):List Row→(Nat→Value)→Nat→Act
 |[],_,_=>a
 |r::tab,vs,i=>zbx (a.put (some r.dst) (vs i)) tab vs (i+1)
theorem zdt:∀(b:List Row) (a:Act) (vs:Nat→Value) (i:Nat),(zbx a b vs i).defers=a.defers
 |[],_,_,_=>rfl
 |r::b,a,vs,i=>by rw[zbx,zdt b];rfl
theorem zec:∀(b:List Row) (a:Act) (vs:Nat→Value) (i:Nat),(zbx a b vs i).tmps.size=a.tmps.size
 |[],_,_,_=>rfl
 |r::b,a,vs,i=>by rw[zbx,zec b];simp[Act.put]
theorem zay {a:Act} {t:Nat} {v:Value} (h:t<a.tmps.size):(a.put (some t) v).eval (.tmp t)=v:=by simp[Act.put,Act.eval,h]
theorem zak {a:Act} {t u:Nat} {v:Value} (h:t≠u):(a.put (some t) v).eval (.tmp u)=a.eval (.tmp u):=by simp[Act.put,Act.eval,Array.getElem?_setIfInBounds_ne h]
theorem zeb:∀(b:List Row) (a:Act) (vs:Nat→Value) (i t:Nat),(∀r∈b,r.dst≠t)→(zbx a b vs i).eval (.tmp t)=a.eval (.tmp t)
 |[],_,_,_,_,_=>rfl
 |r::b,a,vs,i,t,h=>by rw[zbx,zeb b _ _ _ _ (fun d c=>h d (List.mem_cons_of_mem _ c)),zak (h r (List.mem_cons_self ..))]
theorem zfo:∀(b:List Row) (a:Act) (vs:Nat→Value) (i m:Nat) (r:Row),b[m]? =some r→(∀c d,b[c]? =some d→d.dst=r.dst→c=m)→
 r.dst<a.tmps.size→(zbx a b vs i).eval (.tmp r.dst)=vs (i+m)
 |[],_,_,_,_,_,h,_,_=>by simp at h
 |r0::b,a,vs,i,0,r,h,hu,hs=>by
  simp at h;subst h;rw[zbx,zeb b,zay hs];·rfl
  intro d g l;obtain⟨c,f⟩:=List.getElem?_of_mem g;have:=hu (c+1) d (by simpa using f) l;omega
 |r0::b,a,vs,i,m+1,r,h,hu,hs=>by rw[zbx,zfo b _ vs (i+1) m r (by simpa using h) (fun c d j k=>by have:=hu (c+1) d (by simpa using j) k;omega) (by simpa [Act.put]using hs)];congr 1;omega
theorem act_ext {a b:Act} (f:a.defers=b.defers) (g:a.tmps.size=b.tmps.size) (j:∀t,a.eval (.tmp t)=b.eval (.tmp t)):a=b:=by obtain⟨m,k⟩:=a;obtain⟨n,l⟩:=b;simp only at f g;subst f;congr 1;refine Array.ext g fun i c d=>?_;have:=j i;simp only[Act.eval,Array.getD_eq_getD_getElem?]at this;simpa [c,d]using this
theorem count_set {p q:Nat→Bool} {l:List Nat} {i:Nat} (hi:i∈l) (d:p i=true) (f:q i=false) (h:∀j,q j=true→p j=true):l.countP q<l.countP p:=by
 induction l with
 |nil=>cases hi
 |cons x l ih=>
  have c:l.countP q≤l.countP p:=List.countP_mono_left fun j _ b=>h j b;rw[List.countP_cons,List.countP_cons];rcases List.mem_cons.1 hi with rfl|hi'
  ·simp[d,f];omega
  ·have:=ih hi';have g:(if q x=true then 1 else 0)≤(if p x=true then 1 else 0:Nat):=by
    split
    ·rename_i hqx;simp[h x hqx]
    ·omega
   omega
section
variable {P:Program} {Q:Exit→Act→World→Prop} {ops:List Oper}
theorem zez (g:∀i,i<ops.length→∀j∈zaw ops i,j<i) (k:Nat) (F:∀i,i<ops.length→k<i→i-1∈zaw ops i):
 ∀(d m fuel:Nat) (b:Array Bool) (a:Act) (w:World),m+d=ops.length→k≤m→d≤fuel→b.size=ops.length→
  (∀i,i<ops.length→b.getD i true=decide (i<m))→wpList P ops.toArray Q (ops.drop m) a w→wpAny P .any ops.toArray Q fuel b a w:=by
 intro d
 induction d with
 |zero=>
  intro m fuel b a w W _ _ z n h;have B:Region.ready .any ops.toArray b=[]:=(by refine List.eq_nil_iff_forall_not_mem.2 fun j L=>?_;obtain⟨r,o,A,_⟩:=mem_ready.1 L;have M:j<ops.length:=(by simpa using (Array.getElem?_eq_some_iff.1 A).1);rw[n j M]at r;simp at r;omega);have S:Q .normal a w:=(by rw[List.drop_of_length_le om]at h;exact h);cases fuel with
  |zero=>exact⟨B,S⟩
  |succ f=>exact⟨fun _=>S,fun i hi=>by rw[B]at hi;cases hi⟩
 |succ d ih=>
  intro m fuel b a w W Y X z n h;obtain⟨f,rfl⟩:∃f,fuel=f+1:=⟨fuel-1,by omega⟩;have p:m<ops.length:=om;have x:ops[m]? =some ops[m]:=List.getElem?_eq_getElem p;have c:ops.toArray[m]? =some ops[m]:=(by simpa using x);have y:m∈Region.ready .any ops.toArray b:=(by refine mem_ready.2 ⟨by rw[n m p];simp,ops[m],c,fun e G E=>?_⟩;have N:e.on<m:=g m p e.on (by unfold zaw;rw[x];exact List.mem_map.2 ⟨e,List.mem_filter.2 ⟨by simpa using G,E⟩,rfl⟩);have q:=n e.on om;have s:e.on<b.size:=om;simp only[Array.getD_eq_getD_getElem?,Array.getElem?_eq_getElem s,Option.getD_some]at q⊢;rw[q];simpa using N);refine⟨fun B=>(by rw[B]at y;cases y),fun i hi=>?_⟩;obtain⟨r,o,A,t⟩:=mem_ready.1 hi;have l:i<ops.length:=(by simpa using (Array.getElem?_eq_some_iff.1 A).1);have V:m≤i:=(by rw[n i l]at r;simpa using r);have J:i=m:=by
   rcases Nat.lt_or_ge m i with O|O
   ·exfalso;have q:=F i l om;unfold zaw at q;have R:ops[i]? =some o:=(by simpa using A);rw[R]at q;obtain⟨e,G,I⟩:=List.mem_map.1 q;obtain⟨H,E⟩:=List.mem_filter.1 G;have s:=t e (by simpa using H) E;have C:=n (i-1) om;have D:i-1<b.size:=om;rw[I]at s;simp only[Array.getD_eq_getD_getElem?,Array.getElem?_eq_getElem D,Option.getD_some]at s C;rw[s]at C;simp at C;omega
   ·omega
  subst J;have U:ops.drop i=ops[i]::ops.drop (i+1):=List.drop_eq_getElem_cons l;rw[U]at h;have step:∀a w,wpList P ops.toArray Q (ops.drop (i+1)) a w→wpAny P .any ops.toArray Q f (b.setIfInBounds i true) a w:=fun a w T=>
   ih (i+1) f _ a w om om om (by simpa using z) (fun j L=>by
    by_cases u:j=i
    ·subst u;have D:j<b.size:=om;simp[Array.getD_eq_getD_getElem?,D]
    ·rw[getD_set_ne true (Ne.symm u),n j L];simp only[decide_eq_decide];omega) T
  unfold wpOp;rw[c];simp only[wpList]at h⊢
  split
  ·rename_i hw
   rw[if_pos hw]at h;exact h.imp (Oper.wp_mono step) id
  ·rename_i hw
   rw[if_neg hw]at h;exact step _ _ h
structure Stage (ops:List Oper) (tab:List Row) (al:List Nat) (Φ:Nat→Value→World→Prop) (W:(Nat→Bool)→World→Prop) (a0:Act) (listed:Array Bool) (a:Act) (w:World):Prop where
 size:listed.size=ops.length
 closed:∀j,j<ops.length→listed.getD j true=true→∀e∈zaw ops j,listed.getD e true=true
 later:∀j,tab.length≤j→j<ops.length→listed.getD j true=false
 world:W (fun j=>listed.getD j false) w
 defers:a.defers=a0.defers
 asize:a.tmps.size=a0.tmps.size
 vals:∀i r,tab[i]? =some r→listed.getD i true=true→Φ i (a.eval (.tmp r.dst)) w
 other:∀t,(∀i r,tab[i]? =some r→listed.getD i true=true→r.dst≠t)→a.eval (.tmp t)=a0.eval (.tmp t)
 apart:∀i∈al,∀j∈al,∀r s,i≠j→tab[i]? =some r→tab[j]? =some s→listed.getD i true=true→listed.getD j true=true→a.eval (.tmp r.dst)≠a.eval (.tmp s.dst)
theorem zcf {c:List Row} {b:Array Bool} (g:∀i r,c[i]? =some r→∀j∈r.anc,j∈zaw ops i∨∃p∈zaw ops i,p<i∧j∈zcg c p)
 (m:c.length≤ops.length) (d:∀j,j<ops.length→b.getD j true=true→∀e∈zaw ops j,b.getD e true=true):
 ∀(i:Nat) (r:Row),c[i]? =some r→(∀e∈zaw ops i,b.getD e true=true)→∀j∈r.anc,b.getD j true=true:=by
 intro i
 induction i using Nat.strongRecOn with
 |_ i ih=>
  intro r s l j n;rcases g i r s j n with h|⟨p,o,k,f⟩
  ·exact l j h
  ·unfold zcg at f
   split at f
   ·rename_i rp hrp
    have q:p<c.length:=(List.getElem?_eq_some_iff.1 hrp).1;exact ih p k rp hrp (d p om (l p o)) j f
   ·cases f
theorem wp_draw {id:Nat} {V:Act} {w0:World} (hm:P.follows .mixedOrders=true) (c:List Row) (al:List Nat) (ta:tabOk ops c=true)
 (va:∀r∈c,r.dst<V.tmps.size)
 (Φ:Nat→Value→World→Prop) (W:(Nat→Bool)→World→Prop) (Ext:World→World→Prop)
 (hW:W (fun _=>false) w0.drew) (mono:∀i v w w',Φ i v w→Ext w w'→Φ i v w')
 (step:∀i o r,ops[i]? =some o→c[i]? =some r→∀(L:Nat→Bool) a w,W L w→L i=false→(∀j∈r.preds,L j=true)→(∀j,i∈zcg c j→L j=false)→a.defers=V.defers→(∀j∈r.preds,∀s,c[j]? =some s→Φ j (a.eval (.tmp s.dst)) w)→
  (∀t∈r.free,a.eval (.tmp t)=V.eval (.tmp t))→
  let K:Act→World→Prop:=fun a' w'=>∃v,a'=a.put (some r.dst) v∧Φ i v w'∧W (fun j=>j==i||L j) w'∧Ext w w'∧(i∈al→∀j∈al,j≠i→∀u,Φ j u w→v≠u)
  if Region.wanted o (yielded ops.toArray a.tmps) then o.wp P a w K Q else K (a.put (some r.dst) undef) w)
 (rest:∀(vs:Nat→Value) (w:World),(∀i,i<c.length→Φ i (vs i) w)→W (fun j=>decide (j<c.length)) w→(∀i∈al,∀j∈al,i<c.length→j<c.length→i≠j→vs i≠vs j)→
  wpList P ops.toArray Q (ops.drop c.length) (zbx V c vs 0) w):
 (Code.region id ops.toArray true).wp P Q V w0:=by
 simp only[tabOk,Bool.and_eq_true,decide_eq_true_eq,List.all_eq_true,List.mem_range,Bool.or_eq_true,List.contains_iff_mem,List.any_eq_true]at ta;obtain⟨⟨⟨⟨O,C⟩,ka⟩,Z⟩,ia⟩:=ta;have k:∀(i:Nat) (r:Row),c[i]? =some r→zdo ops i=some r.dst∧(∀j∈r.preds,j∈zaw ops i)∧
  (∀j∈r.anc,j∈zaw ops i∨∃p∈zaw ops i,p<i∧j∈zcg c p)∧(∀j,j<c.length→j=i∨zdo ops j≠some r.dst)∧
  (∀t∈r.free,∀j,j<c.length→zdo ops j≠some t∨i∈zcg c j):=by
  intro i r g;have hi:i<c.length:=(List.getElem?_eq_some_iff.1 g).1;have h:=ka i hi;simp only[g,Bool.and_eq_true,List.all_eq_true,List.mem_range,Bool.or_eq_true,List.contains_iff_mem,List.any_eq_true,decide_eq_true_eq,beq_iff_eq,bne_iff_ne]at h;obtain⟨⟨⟨⟨B,X⟩,h3⟩,h4⟩,h5⟩:=h;exact⟨B,X,h3,h4,h5⟩
 have E:∀(i:Nat) (r:Row),c[i]? =some r→∀(j:Nat) (s:Row),c[j]? =some s→s.dst=r.dst→j=i:=fun i r g j s D G=>by
  rcases(k i r g).2.2.2.1 j ((List.getElem?_eq_some_iff.1 D).1)with h|h
  ·exact h
  ·rw[(k j s D).1,G]at h;exact absurd rfl h
 have M:∀i,i<ops.length→c.length<i→i-1∈zaw ops i:=fun i hi hk=>by
  rcases Z i hi with (h|h)|h
  ·omega
  ·omega
  ·exact h
 have N:∀(b:Array Bool) (a:Act) (w:World),Stage ops c al Φ W V b a w→(∀i,i<c.length→b.getD i true=true)→
  wpList P ops.toArray Q (ops.drop c.length) a w:=by
  intro b a w f l;have g:=rest (fun i=>match c[i]? with|some r=>a.eval (.tmp r.dst)|none=>undef) w (fun i hi=>by
   have hg:=List.getElem?_eq_getElem hi;simp only[hg];exact f.vals i _ hg (l i hi)) (by
   have e:(fun j=>decide (j<c.length))=fun j=>b.getD j false:=funext fun j=>by
    rcases Nat.lt_or_ge j ops.length with n|n
    ·have H:j<b.size:=(by rw[f.size];exact n);have e1:b.getD j false=b.getD j true:=(by simp[Array.getD_eq_getD_getElem?,H]);rw[e1];rcases Nat.lt_or_ge j c.length with h|h
     ·rw[l j h];simpa using h
     ·rw[f.later j h n];simpa using h
    ·have H:¬j<b.size:=(by rw[f.size];omega);have e2:b.getD j false=false:=(by simp[Array.getD_eq_getD_getElem?,H]);rw[e2];simp;omega
   rw[e];exact f.world) (fun i hi j n hi' H I=>by
   have hg:=List.getElem?_eq_getElem hi';have qa:=List.getElem?_eq_getElem H;simp only[hg,qa];exact f.apart i hi j n _ _ I hg qa (l i hi') (l j H))
  have xa:a=zbx V c (fun i=>match c[i]? with|some r=>a.eval (.tmp r.dst)|none=>undef) 0:=by
   refine act_ext (by rw[zdt];exact f.defers) (by rw[zec];exact f.asize) fun t=>?_;by_cases ht:∃(m:Nat) (r:Row),c[m]? =some r∧r.dst=t
   ·obtain⟨m,r,g,rfl⟩:=ht;rw[zfo c V _ 0 m r g (fun m' r' B X=>E m r g m' r' B X) (va r (List.mem_of_getElem? g))];simp[g]
   ·rw[zeb c V _ 0 t (fun r g G=>ht (by obtain⟨m,hm⟩:=List.getElem?_of_mem g;exact⟨m,r,hm,G⟩))];exact f.other t (fun i r g _ G=>ht ⟨i,r,g,G⟩)
  rw[xa];exact g
 refine wp_region_any hm ?_;have nb:∀(fuel:Nat) (b:Array Bool) (a:Act) (w:World),(List.range ops.length).countP (fun i=>!b.getD i true)≤fuel→
  Stage ops c al Φ W V b a w→wpAny P .any ops.toArray Q fuel b a w:=by
  intro fuel
  induction fuel with
  |zero=>
   intro b a w hc f;have l:∀i,i<ops.length→b.getD i true=true:=fun i hi=>by have:=List.countP_eq_zero.1 (Nat.le_zero.1 hc) i (List.mem_range.2 hi);simpa using this
   have eb:c.length=ops.length:=by
    rcases Nat.lt_or_ge c.length ops.length with h|h
    ·have B:=f.later _ (Nat.le_refl _) h;rw[l _ h]at B;cases B
    ·omega
   refine zez C c.length M 0 ops.length 0 b a w om om (Nat.le_refl _) f.size (fun i hi=>by rw[l i hi];simpa using hi) ?_;have hf:=N b a w f (fun i hi=>l i om)
   rwa [eb]at hf
  |succ fuel ih=>
   intro b a w hc f;by_cases J:∀i,i<c.length→b.getD i true=true
   ·refine zez C c.length M (ops.length-c.length) c.length (fuel+1) b a w om om ?_ f.size (fun i hi=>?_) (N b a w f J)
    ·refine Nat.le_trans ?_ hc;have B:(List.range ops.length).countP (fun i=>!decide (i<c.length))≤(List.range ops.length).countP (fun i=>!b.getD i true):=List.countP_mono_left fun i hi h=>by have hi':=List.mem_range.1 hi;have X:c.length≤i:=(by simpa using h);rw[f.later i X hi'];rfl
     refine Nat.le_trans (Nat.le_of_eq ?_) B;obtain⟨d,hd⟩:=Nat.exists_eq_add_of_le O;rw[hd,List.range_add,List.countP_append];have e1:(List.range c.length).countP (fun i=>!decide (i<c.length))=0:=List.countP_eq_zero.2 fun i hi=>by simpa using List.mem_range.1 hi
     have e2:((List.range d).map (c.length+ ·)).countP (fun i=>!decide (i<c.length))=d:=(by rw[List.countP_map,List.countP_eq_length.2 (by intro i _;simp),List.length_range]);omega
    ·rcases Nat.lt_or_ge i c.length with h|h
     ·rw[J i h];simpa using h
     ·rw[f.later i h hi];simpa using h
   ·have ya:∃m,m<c.length∧b.getD m true=false:=by
     refine Classical.byContradiction fun gb=>J fun i hi=>?_;cases hv:b.getD i true
     ·exact absurd ⟨i,hi,hv⟩ gb
     ·rfl
    obtain⟨m,fb,da⟩:=ya;refine⟨fun g=>?_,fun i hi=>?_⟩
    ·exfalso;have ba:∀i,i<ops.length→b.getD i true=true:=by
      intro i
      induction i using Nat.strongRecOn with
      |_ i ihi=>
       intro hi;cases hv:b.getD i true
       ·exfalso;have ua:ops[i]? =some ops[i]:=List.getElem?_eq_getElem hi;have:i∈Region.ready .any ops.toArray b:=(by refine mem_ready.2 ⟨hv,ops[i],by simpa using ua,fun e G hb=>?_⟩;have sa:e.on<i:=C i hi e.on (by unfold zaw;rw[ua];exact List.mem_map.2 ⟨e,List.mem_filter.2 ⟨by simpa using G,hb⟩,rfl⟩);have B:=ihi e.on sa om;have X:e.on<b.size:=(by rw[f.size];omega);simpa [Array.getD_eq_getD_getElem?,Array.getElem?_eq_getElem X]using B);rw[g]at this;cases this
       ·rfl
     rw[ba m om]at da;cases da
    ·obtain⟨h0,o,ho,l⟩:=mem_ready.1 hi;have S:i<ops.length:=(by simpa using (Array.getElem?_eq_some_iff.1 ho).1);have ja:ops[i]? =some o:=(by simpa using ho);have F:∀e∈zaw ops i,b.getD e true=true:=(by intro e G;have sa:=C i S e G;unfold zaw at G;rw[ja]at G;obtain⟨x,hx,rfl⟩:=List.mem_map.1 G;obtain⟨mb,hb⟩:=List.mem_filter.1 hx;have X:=l x (by simpa using mb) hb;have h3:x.on<b.size:=(by rw[f.size];omega);simpa [Array.getD_eq_getD_getElem?,Array.getElem?_eq_getElem h3]using X);have bb:i<c.length:=by
      rcases Nat.lt_or_ge i c.length with h|h
      ·exact h
      ·exfalso;rcases Nat.lt_or_ge c.length i with h'|h'
       ·have B:=F _ (M i S h');rw[f.later (i-1) om om]at B;cases B
       ·have ab:i=c.length:=om;subst ab;rcases ia with B|B
        ·omega
        ·have X:b.getD m true=true:=by
          rcases B m fb with h3|⟨p,hp,ob,ea⟩
          ·exact F m h3
          ·unfold zcg at ea
           split at ea
           ·rename_i rp hrp
            exact zcf (fun i r g=>(k i r g).2.2.1) O f.closed p rp hrp (f.closed p om (F p hp)) m ea
           ·cases ea
         rw[X]at da;cases da
     obtain⟨r,g⟩:∃r,c[i]? =some r:=⟨_,List.getElem?_eq_getElem bb⟩;obtain⟨hd,R,_,kb,ha⟩:=k i r g;have ib:o.dst=some r.dst:=(by unfold zdo at hd;rw[ja]at hd;simpa using hd);have za:∀t∈r.free,a.eval (.tmp t)=V.eval (.tmp t):=fun t ht=>f.other t fun j s D q G=>by
      have n:j<c.length:=(List.getElem?_eq_some_iff.1 D).1;rcases ha t ht j n with B|B
      ·rw[(k j s D).1,G]at B;exact B rfl
      ·unfold zcg at B;rw[D]at B;have:=zcf (fun i r g=>(k i r g).2.2.1) O f.closed j s D (f.closed j om q) i B;rw[h0]at this;cases this
     have ga:∀j,j<ops.length→b.getD j false=b.getD j true:=fun j n=>by have H:j<b.size:=(by rw[f.size];exact n);simp[Array.getD_eq_getD_getElem?,H]
     have fa:=step i o r ja g (fun j=>b.getD j false) a w f.world (by rw[ga i S];exact h0)
      (fun j n=>by have aa:=R j n;have:=C i S j aa;rw[ga j om];exact F j aa)
      (fun j n=>by
       cases q:b.getD j false
       ·rfl
       ·exfalso;have db:j<c.length:=by
         unfold zcg at n;split at n
         ·rename_i s D;exact(List.getElem?_eq_some_iff.1 D).1
         ·cases n
        rw[ga j om]at q;obtain⟨s,D⟩:∃s,c[j]? =some s:=⟨_,List.getElem?_eq_getElem db⟩;unfold zcg at n;rw[D]at n;have:=zcf (fun i r g=>(k i r g).2.2.1) O f.closed j s D (f.closed j om q) i n;rw[h0]at this;cases this)
      f.defers (fun j n s D=>f.vals j s D (F j (R j n))) za
     have ra:i<b.size:=(by rw[f.size];exact S);have A:∀j,(b.setIfInBounds i true).getD j true=(if j=i then true else b.getD j true):=by
      intro j;by_cases z:j=i
      ·subst z;simp[Array.getD_eq_getD_getElem?,ra]
      ·rw[getD_set_ne true (Ne.symm z),if_neg z]
     have next:∀a' w',(∃v,a'=a.put (some r.dst) v∧Φ i v w'∧W (fun j=>j==i||b.getD j false) w'∧Ext w w'∧(i∈al→∀j∈al,j≠i→∀u,Φ j u w→v≠u))→
      wpAny P .any ops.toArray Q fuel (b.setIfInBounds i true) a' w':=by
      rintro a' w' ⟨v,rfl,hv,lb,pa,oa⟩;have la:r.dst<a.tmps.size:=(by rw[f.asize];exact va r (List.mem_of_getElem? g));have wa:W (fun j=>(b.setIfInBounds i true).getD j false) w':=by
       have e:(fun j=>(b.setIfInBounds i true).getD j false)=fun j=>j==i||b.getD j false:=funext fun j=>by
        by_cases z:j=i
        ·subst z;simp[Array.getD_eq_getD_getElem?,ra]
        ·rw[getD_set_ne false (Ne.symm z)];simp[z]
       rw[e];exact lb
      refine ih _ _ _ ?_ ⟨by simpa using f.size,?_,?_,wa,f.defers,by simpa [Act.put]using f.asize,?_,?_,?_⟩
      ·refine Nat.le_of_lt_succ (Nat.lt_of_lt_of_le (count_set (i:=i) (List.mem_range.2 S) (by simp[h0]) (by simp[A]) ?_) hc);intro j n;rw[A]at n
       split at n
       ·cases n
       ·exact n
      ·intro j n q e G;rw[A]at q⊢
       split
       ·rfl
       ·split at q
        ·rename_i z;subst z;exact F e G
        ·exact f.closed j n q e G
      ·intro j cb aa;rw[A,if_neg om];exact f.later j cb aa
      ·intro j s D q;rw[A]at q;by_cases z:j=i
       ·subst z;rw[g]at D;obtain rfl:=Option.some.inj D;rw[zay la];exact hv
       ·rw[if_neg z]at q;rw[zak (fun h=>z (E i r g j s D h.symm))];exact mono _ _ _ _ (f.vals j s D q) pa
      ·intro t ht;have jb:r.dst≠t:=ht i r g (by rw[A,if_pos rfl]);rw[zak jb];exact f.other t fun j s D q=>ht j s D (by rw[A];split <;> first|rfl|exact q)
      ·intro x hx y hy rx ry I T U ca Y;rw[A]at ca Y;by_cases ma:x=i
       ·subst ma;rw[g]at T;obtain rfl:=Option.some.inj T;rw[if_neg (Ne.symm I)]at Y;rw[zay la,zak (fun h=>I (E y ry U x r g h))];exact oa hx y hy (Ne.symm I) _ (f.vals y ry U Y)
       ·rw[if_neg ma]at ca;by_cases na:y=i
        ·subst na;rw[g]at U;obtain rfl:=Option.some.inj U;rw[zay la,zak (fun h=>I (E y r g x rx T h.symm))];exact(oa hy x hx I _ (f.vals x rx T ca)).symm
        ·rw[if_neg na]at Y;rw[zak (fun h=>ma (E i r g x rx T h.symm)),zak (fun h=>na (E i r g y ry U h.symm))];exact f.apart x hx y hy rx ry I T U ca Y
     unfold wpOp;rw[ho];simp only
     split
     ·rename_i hwt
      simp only[hwt,if_true]at fa;exact .inl (Oper.wp_mono next fa)
     ·rename_i hwt
      simp only[hwt]at fa;rw[ib];exact next _ _ fa
 refine nb _ _ _ _ (Nat.le_trans List.countP_le_length (by simp)) ⟨by simp,?_,?_,?_,rfl,rfl,?_,fun _ _=>rfl,?_⟩
 ·intro j n h;simp[n]at h
 ·intro j _ n;simp[n]
 ·have e:(fun j=>(Array.replicate ops.toArray.size false).getD j false)=fun _=>false:=funext fun j=>by
   simp[Array.getD_eq_getD_getElem?,Array.getElem?_replicate]
   split <;> rfl
  rw[e];exact hW
 ·intro i r g h;have:i<ops.length:=(by have:=(List.getElem?_eq_some_iff.1 g).1;omega);simp[this]at h
 ·intro i _ j _ r s _ g _ h _;have:i<ops.length:=(by have:=(List.getElem?_eq_some_iff.1 g).1;omega);simp[this]at h
theorem zaq {id:Nat} {c:Act} {k:World} (p:P.follows .mixedOrders=true) (b:List Row) (d:List Nat) (f:tabOk ops b=true) (N:Nat) (m:c.tmps.size=N)
 (g:b.all (fun r=>decide (r.dst<N))=true)
 (Φ:Nat→Value→World→Prop) (W:(Nat→Bool)→World→Prop) (Ext:World→World→Prop)
 (n:W (fun _=>false) k.drew) (mono:∀i v w w',Φ i v w→Ext w w'→Φ i v w')
 (step:∀i o r,ops[i]? =some o→b[i]? =some r→∀(L:Nat→Bool) a w,W L w→L i=false→(∀j∈r.preds,L j=true)→(∀j,i∈zcg b j→L j=false)→a.defers=c.defers→
  (∀j∈r.preds,∀s,b[j]? =some s→Φ j (a.eval (.tmp s.dst)) w)→(∀t∈r.free,a.eval (.tmp t)=c.eval (.tmp t))→
  let K:Act→World→Prop:=fun l w'=>∃v,l=a.put (some r.dst) v∧Φ i v w'∧W (fun j=>j==i||L j) w'∧Ext w w'∧(i∈d→∀j∈d,j≠i→∀u,Φ j u w→v≠u)
  if Region.wanted o (yielded ops.toArray a.tmps) then o.wp P a w K Q else K (a.put (some r.dst) undef) w)
 (rest:∀(vs:Nat→Value) (w:World),(∀i,i<b.length→Φ i (vs i) w)→W (fun j=>decide (j<b.length)) w→(∀i∈d,∀j∈d,i<b.length→j<b.length→i≠j→vs i≠vs j)→
  wpList P ops.toArray Q (ops.drop b.length) (zbx c b vs 0) w):
 (Code.region id ops.toArray true).wp P Q c k:=
 wp_draw p b d f (fun r q=>by have:=List.all_eq_true.1 g r q;rw[m];simpa using this) Φ W Ext n mono step rest
theorem stp {o:Oper} {a:Act} {w:World} {K:Act→World→Prop} {E:Prop} (b:o.guard=none) (h:o.wp P a w K Q):
 if Region.wanted o (yielded ops.toArray a.tmps)=true then o.wp P a w K Q else E:=by
 rw[if_pos (by simp[Region.wanted,b])];exact h
theorem stp_g {o:Oper} {a:Act} {w:World} {K:Act→World→Prop} {E:Prop} {j:Nat} {b:Bool} {d:Nat} (g:o.guard=some (j,b)) (f:zdo ops j=some d) (c:a.eval (.tmp d)=.bool b)
 (h:o.wp P a w K Q):if Region.wanted o (yielded ops.toArray a.tmps)=true then o.wp P a w K Q else E:=by
 have k:yielded ops.toArray a.tmps j=some b:=by
  unfold yielded;unfold zdo at f;have:(ops.toArray[j]?.bind (·.dst))=some d:=(by simpa using f);rw[this];simp only[Act.eval,Array.getD_eq_getD_getElem?]at c;cases h2:a.tmps[d]? with
  |none=>rw[h2]at c;simp[undef]at c
  |some u=>rw[h2]at c;simp at c;subst c;simp[h2]
 rw[if_pos (by simp[Region.wanted,g,k])];exact h
theorem zbr {a:Act} {t:Nat} {v:Value} (h:a.eval (.tmp t)=v):a.tmps[t]?.getD undef=v:=by simpa only[Act.eval,Array.getD_eq_getD_getElem?]using h
theorem evt {a:Act} {t:Nat}: a.eval (.tmp t)=a.tmps[t]?.getD undef:=(zbr rfl).symm
theorem zam {o:Oper} {a:Act} {w:World} {d:Nat} {G:Value→World→Prop} {E:Prop} (f:o.guard=none) (g:o.dst=some d)
 (h:∀K:Act→World→Prop,(∀v w',G v w'→K (a.put (some d) v) w')→o.wp P a w K Q):
 if Region.wanted o (yielded ops.toArray a.tmps)=true then o.wp P a w (fun b w'=>∃v,b=a.put (some d) v∧G v w') Q else E:=
 stp f (h _ fun v w' c=>⟨v,rfl,c⟩)
theorem zcj {o:Oper} {a:Act} {w:World} {d:Nat} {G:Value→World→Prop} {E:Prop} {j:Nat} {b:Bool} {f:Nat} (l:o.guard=some (j,b)) (c:zdo ops j=some f)
 (m:a.tmps[f]?.getD undef=.bool b) (n:o.dst=some d)
 (h:∀K:Act→World→Prop,(∀v w',G v w'→K (a.put (some d) v) w')→o.wp P a w K Q):
 if Region.wanted o (yielded ops.toArray a.tmps)=true then o.wp P a w (fun g w'=>∃v,g=a.put (some d) v∧G v w') Q else E:=
 stp_g l c (by simpa only[Act.eval,Array.getD_eq_getD_getElem?]using m) (h _ fun v w' k=>⟨v,rfl,k⟩)
end
end Go.Rad
namespace Rad
theorem middle_add {x0 c y0 y1:Nat} (h:(x0<c∧y1≤y0)∨(c≤x0∧y0<y1)) {a b:Nat} (f:a=if x0<c then c-x0 else x0-c) (g:b=if y0<y1 then y1-y0 else y0-y1):
 x0*y0+c*y1+a*b=x0*y1+c*y0:=by
 rcases h with⟨h1,h2⟩|⟨h1,h2⟩
 ·rw[if_pos h1]at f;rw[if_neg om]at g;obtain⟨d,rfl⟩:=Nat.exists_eq_add_of_le (Nat.le_of_lt h1);obtain⟨e,rfl⟩:=Nat.exists_eq_add_of_le h2;rw[Nat.add_sub_cancel_left]at f g;subst f;subst g;simp only[Nat.mul_add,Nat.add_mul];omega
 ·rw[if_neg om]at f;rw[if_pos h2]at g;obtain⟨d,rfl⟩:=Nat.exists_eq_add_of_le h1;obtain⟨e,rfl⟩:=Nat.exists_eq_add_of_le (Nat.le_of_lt h2);rw[Nat.add_sub_cancel_left]at f g;subst f;subst g;simp only[Nat.mul_add,Nat.add_mul];omega
theorem middle_sub {x0 c y0 y1:Nat} (h:(x0<c∧y0<y1)∨(c≤x0∧y1≤y0)) {a b:Nat} (f:a=if x0<c then c-x0 else x0-c) (g:b=if y0<y1 then y1-y0 else y0-y1):
 x0*y0+c*y1=x0*y1+c*y0+a*b:=by
 rcases h with⟨h1,h2⟩|⟨h1,h2⟩
 ·rw[if_pos h1]at f;rw[if_pos h2]at g;obtain⟨d,rfl⟩:=Nat.exists_eq_add_of_le (Nat.le_of_lt h1);obtain⟨e,rfl⟩:=Nat.exists_eq_add_of_le (Nat.le_of_lt h2);rw[Nat.add_sub_cancel_left]at f g;subst f;subst g;simp only[Nat.mul_add,Nat.add_mul];omega
 ·rw[if_neg om]at f;rw[if_neg om]at g;obtain⟨d,rfl⟩:=Nat.exists_eq_add_of_le h1;obtain⟨e,rfl⟩:=Nat.exists_eq_add_of_le h2;rw[Nat.add_sub_cancel_left]at f g;subst f;subst g;simp only[Nat.mul_add,Nat.add_mul];omega
theorem mul_lt_pow {β a b m n:Nat} (c:a<β^m) (d:b<β^n):a*b<β^(m+n):=by
 rw[Nat.pow_add];rcases Nat.eq_zero_or_pos b with h|h
 ·subst h;rw[Nat.mul_zero];exact Nat.mul_pos om om
 ·exact Nat.lt_of_lt_of_le (Nat.mul_lt_mul_of_pos_right c h) (Nat.mul_le_mul_left _ (Nat.le_of_lt d))
theorem middle_words {β x0 x1 y0 y1 q l k mid:Nat} (n:2≤β) (g:x0<β^q) (j:x1<β^l) (d:y0<β^q) (f:y1<β^l) (s:mid=x0*y1+x1*y0)
 (m:k=0∨β^(k-1)≤mid):k≤q+l+1:=by
 have o:=mul_lt_pow g f;have c:=mul_lt_pow j d;rw[Nat.add_comm l q]at c;have p:=pow_dbl n (q+l);rcases m with h|h
 ·omega
 ·rcases Nat.lt_or_ge (q+l+1) k with b|b
  ·have r:β^(q+l+1)≤β^(k-1):=Nat.pow_le_pow_right om om;omega
  ·exact b
theorem halves_sum {β x0 x1 y0 y1 q l zl zu zu' c mid:Nat} (z:x0<β^q) (m:x1<β^l) (y:y0<β^q) (k:y1<β^l)
 (o:mid=x0*y1+x1*y0) (A:zl+β^q*zu=x0*y0+β^(2*q)*(x1*y1)) (n:zu'+β^(q+2*l)*c=zu+mid):
 zl+β^q*zu'=(x0+β^q*x1)*(y0+β^q*y1):=by
 have s:(x0+β^q*x1)*(y0+β^q*y1)=x0*y0+β^(2*q)*(x1*y1)+β^q*mid:=(by have:β^(2*q)=β^q*β^q:=(by rw[←Nat.pow_add];congr 1;omega);rw[this,o];generalize β^q=p;simp only[Nat.mul_add,Nat.add_mul];have t:p*x1*(p*y1)=p*p*(x1*y1):=(by rw[Nat.mul_mul_mul_comm]);have u:x0*(p*y1)=p*(x0*y1):=Nat.mul_left_comm _ _ _;have x:p*x1*y0=p*(x1*y0):=Nat.mul_assoc _ _ _;omega);have d:β^q*zu'+β^q*(β^(q+2*l)*c)=β^q*zu+β^q*mid:=(by rw[←Nat.mul_add,n,Nat.mul_add]);have j:β^q*(β^(q+2*l)*c)=β^(q+l+(q+l))*c:=(by rw[←Nat.mul_assoc,←Nat.pow_add];congr 2;omega);have f:x0+β^q*x1<β^(q+l):=(by rw[Nat.pow_add];have:β^q*(x1+1)≤β^q*β^l:=Nat.mul_le_mul_left _ m;rw[Nat.mul_add]at this;omega);have g:y0+β^q*y1<β^(q+l):=(by rw[Nat.pow_add];have:β^q*(y1+1)≤β^q*β^l:=Nat.mul_le_mul_left _ k;rw[Nat.mul_add]at this;omega);have r:=mul_lt_pow f g;rcases Nat.eq_zero_or_pos c with b|b
 ·subst b;rw[Nat.mul_zero,Nat.mul_zero]at d;omega
 ·exfalso;have:=Nat.mul_le_mul_left (β^(q+l+(q+l))) b;rw[j]at d;omega
end Rad
