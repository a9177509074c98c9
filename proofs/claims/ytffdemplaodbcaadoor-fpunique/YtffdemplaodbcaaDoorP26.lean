/- A part of the proof: DrawIn, ZI. -/
import Derived.Test.YtffdemplaodbcaaDoorP01
import Derived.OrdersIn
import Derived.TacticsIn
import Derived.ControlIn
import Derived.RangeFuncCalls
import Derived.Test.YtffdemplaodbcaaDoorP24
set_option linter.all false
namespace Go.Rad
open Go Go.RowKit
theorem opIn_of_wp {P:Program} {o:Oper} {n:Nat} (hn:1≤n) {a:Act} {w:World} {K:Act→World→Prop} {Q:Exit→Act→World→Prop} (h:o.wp P a w K Q):o.wpIn Fence.wide n P a w K Q:=by
 refine⟨fun _ _=>trivial,?_⟩;have e:o.semAt Fence.wide.round a.eval=execOp a.eval o:=rfl;rw[e];unfold Oper.wp at h;generalize (execOp a.eval o).run P w=r at *;cases r with
 |ok x w'=>
  cases x <;> simp only[Oper.upon]at h <;> simp only[Oper.uponIn]
  all_goals first
   |exact h
   |exact⟨fun _=>hn,callsIn_wide.2 h⟩
   |exact⟨fun _=>hn,fun c cs _=>by obtain⟨v,w2,hr,hs⟩:=h c cs;exact⟨v,w2,hr,stepsIn_wide.2 hs⟩⟩
 |halt x w'=>cases x <;> simp only[Oper.upon]at h <;> simp only[Oper.uponIn] <;> exact h
theorem opIn_of_wpR {P:Program} {o:Oper} {l n:Nat} {a:Act} {w:World} {K:Act→World→Prop} {Q:Exit→Act→World→Prop} (hd:∀c,o.op≠ .defer c) (h:o.wp P a w K Q):o.wpIn (Fence.wide.inRound l) n P a w K Q:=by
 refine⟨fun _ _=>trivial,?_⟩;have e:o.semAt (Fence.wide.inRound l).round a.eval=execOp a.eval o:=Oper.semAt_eq _ _ _ hd;rw[e];unfold Oper.wp at h;generalize (execOp a.eval o).run P w=r at *;cases r with
 |ok x w'=>
  cases x <;> simp only[Oper.upon]at h <;> simp only[Oper.uponIn]
  all_goals first
   |exact h
   |exact⟨fun h=>Bool.noConfusion (show false=true from h),CallsIn.inRound l (callsIn_wide.2 h)⟩
   |exact⟨fun h=>Bool.noConfusion (show false=true from h),fun c cs _=>by obtain⟨v,w2,hr,hs⟩:=h c cs;exact⟨v,w2,hr,stepsIn_wide.2 hs⟩⟩
 |halt x w'=>cases x <;> simp only[Oper.upon]at h <;> simp only[Oper.uponIn] <;> exact h
section
variable {P:Program} {Q:Exit→Act→World→Prop} {ops:List Oper}
theorem any_restI {F:Fence} {n:Nat} (hback:∀i,i<ops.length→∀j∈edgesOf ops i,j<i) (k:Nat) (hch:∀i,i<ops.length→k<i→i-1∈edgesOf ops i):
 ∀(d m fuel:Nat) (listed:Array Bool) (a:Act) (w:World),m+d=ops.length→k≤m→d≤fuel→listed.size=ops.length→
  (∀i,i<ops.length→listed.getD i true=decide (i<m))→wpListIn F n P ops.toArray Q (ops.drop m) a w→wpAnyIn F n P .any ops.toArray Q fuel listed a w:=by
 intro d
 induction d with
 |zero=>
  intro m fuel listed a w hm _ _ hsz hl h;have hr:Region.ready .any ops.toArray listed=[]:=(by refine List.eq_nil_iff_forall_not_mem.2 fun j hj=>?_;obtain⟨h0,o,ho,_⟩:=mem_ready.1 hj;have hj':j<ops.length:=(by simpa using (Array.getElem?_eq_some_iff.1 ho).1);rw[hl j hj']at h0;simp at h0;omega);have hq:Q .normal a w:=(by rw[List.drop_of_length_le (by omega)]at h;exact h);cases fuel with
  |zero=>exact⟨hr,hq⟩
  |succ f=>exact⟨fun _=>hq,fun i hi=>by rw[hr]at hi;cases hi⟩
 |succ d ih=>
  intro m fuel listed a w hm hk hf hsz hl h;obtain⟨f,rfl⟩:∃f,fuel=f+1:=⟨fuel-1,by omega⟩;have hml:m<ops.length:=(by omega);have hop:ops[m]? =some ops[m]:=List.getElem?_eq_getElem hml;have hopa:ops.toArray[m]? =some ops[m]:=(by simpa using hop);have hre:m∈Region.ready .any ops.toArray listed:=(by refine mem_ready.2 ⟨by rw[hl m hml];simp,ops[m],hopa,fun e he hb=>?_⟩;have hlt:e.on<m:=hback m hml e.on (by unfold edgesOf;rw[hop];exact List.mem_map.2 ⟨e,List.mem_filter.2 ⟨by simpa using he,hb⟩,rfl⟩);have h1:=hl e.on (by omega);have h2:e.on<listed.size:=(by omega);simp only[Array.getD_eq_getD_getElem?,Array.getElem?_eq_getElem h2,Option.getD_some]at h1⊢;rw[h1];simpa using hlt);refine⟨fun hr=>(by rw[hr]at hre;cases hre),fun i hi=>?_⟩;obtain⟨h0,o,ho,hall⟩:=mem_ready.1 hi;have hil:i<ops.length:=(by simpa using (Array.getElem?_eq_some_iff.1 ho).1);have him:m≤i:=(by rw[hl i hil]at h0;simpa using h0);have hie:i=m:=by
   rcases Nat.lt_or_ge m i with hmi|hmi
   ·exfalso;have h1:=hch i hil (by omega);unfold edgesOf at h1;have hoi:ops[i]? =some o:=(by simpa using ho);rw[hoi]at h1;obtain⟨e,he,he2⟩:=List.mem_map.1 h1;obtain⟨he1,hb⟩:=List.mem_filter.1 he;have h2:=hall e (by simpa using he1) hb;have h3:=hl (i-1) (by omega);have h4:i-1<listed.size:=(by omega);rw[he2]at h2;simp only[Array.getD_eq_getD_getElem?,Array.getElem?_eq_getElem h4,Option.getD_some]at h2 h3;rw[h2]at h3;simp at h3;omega
   ·omega
  subst hie;have hd:ops.drop i=ops[i]::ops.drop (i+1):=List.drop_eq_getElem_cons hil;rw[hd]at h;have step:∀a w,wpListIn F n P ops.toArray Q (ops.drop (i+1)) a w→wpAnyIn F n P .any ops.toArray Q f (listed.setIfInBounds i true) a w:=fun a w h'=>
   ih (i+1) f _ a w (by omega) (by omega) (by omega) (by simpa using hsz) (fun j hj=>by
    by_cases hji:j=i
    ·subst hji;have h4:j<listed.size:=(by omega);simp[Array.getD_eq_getD_getElem?,h4]
    ·rw[getD_set_ne true (Ne.symm hji),hl j hj];simp only[decide_eq_decide];omega) h'
  unfold wpOpIn;rw[hopa];simp only[wpListIn]at h⊢
  split
  ·rename_i hw
   rw[if_pos hw]at h;exact Oper.wpIn_mono step h
  ·rename_i hw
   rw[if_neg hw]at h;exact⟨h.1,step _ _ h.2⟩
theorem wpI_draw {F:Fence} {n:Nat} (hfn:∀f,F.fn f) (br:∀(o:Oper) (a:Act) (w:World) (K:Act→World→Prop),(∀c,o.op≠ .defer c)→o.wp P a w K Q→o.wpIn F n P a w K Q) (hnd:∀o,o∈ops→∀c,o.op≠ .defer c) {id:Nat} {a0:Act} {w0:World} (hm:P.follows .mixedOrders=true) (tab:List Row) (al:List Nat) (hok:tabOk ops tab=true)
 (hsz:∀r∈tab,r.dst<a0.tmps.size)
 (Φ:Nat→Value→World→Prop) (W:(Nat→Bool)→World→Prop) (Ext:World→World→Prop)
 (hW:W (fun _=>false) w0.drew) (mono:∀i v w w',Φ i v w→Ext w w'→Φ i v w')
 (step:∀i o r,ops[i]? =some o→tab[i]? =some r→∀(L:Nat→Bool) a w,W L w→L i=false→(∀j∈r.preds,L j=true)→(∀j,i∈ancOf tab j→L j=false)→a.defers=a0.defers→(∀j∈r.preds,∀s,tab[j]? =some s→Φ j (a.eval (.tmp s.dst)) w)→
  (∀t∈r.free,a.eval (.tmp t)=a0.eval (.tmp t))→
  let K:Act→World→Prop:=fun a' w'=>∃v,a'=a.put (some r.dst) v∧Φ i v w'∧W (fun j=>j==i||L j) w'∧Ext w w'∧(i∈al→∀j∈al,j≠i→∀u,Φ j u w→v≠u)
  if Region.wanted o (yielded ops.toArray a.tmps) then o.wp P a w K Q else K (a.put (some r.dst) undef) w)
 (rest:∀(vs:Nat→Value) (w:World),(∀i,i<tab.length→Φ i (vs i) w)→W (fun j=>decide (j<tab.length)) w→(∀i∈al,∀j∈al,i<tab.length→j<tab.length→i≠j→vs i≠vs j)→
  wpListIn F n P ops.toArray Q (ops.drop tab.length) (puts a0 tab vs 0) w):
 (Code.region id ops.toArray true).wpIn F n P Q a0 w0:=by
 simp only[tabOk,Bool.and_eq_true,decide_eq_true_eq,List.all_eq_true,List.mem_range,Bool.or_eq_true,List.contains_iff_mem,List.any_eq_true]at hok;obtain⟨⟨⟨⟨hlen,hback⟩,hrows⟩,hchain⟩,hlast⟩:=hok;have rowsOf:∀(i:Nat) (r:Row),tab[i]? =some r→dstOf ops i=some r.dst∧(∀j∈r.preds,j∈edgesOf ops i)∧
  (∀j∈r.anc,j∈edgesOf ops i∨∃p∈edgesOf ops i,p<i∧j∈ancOf tab p)∧(∀j,j<tab.length→j=i∨dstOf ops j≠some r.dst)∧
  (∀t∈r.free,∀j,j<tab.length→dstOf ops j≠some t∨i∈ancOf tab j):=by
  intro i r hr;have hi:i<tab.length:=(List.getElem?_eq_some_iff.1 hr).1;have h:=hrows i hi;simp only[hr,Bool.and_eq_true,List.all_eq_true,List.mem_range,Bool.or_eq_true,List.contains_iff_mem,List.any_eq_true,decide_eq_true_eq,beq_iff_eq,bne_iff_ne]at h;obtain⟨⟨⟨⟨h1,h2⟩,h3⟩,h4⟩,h5⟩:=h;exact⟨h1,h2,h3,h4,h5⟩
 have hdst:∀(i:Nat) (r:Row),tab[i]? =some r→∀(j:Nat) (s:Row),tab[j]? =some s→s.dst=r.dst→j=i:=fun i r hr j s hs he=>by
  rcases(rowsOf i r hr).2.2.2.1 j ((List.getElem?_eq_some_iff.1 hs).1)with h|h
  ·exact h
  ·rw[(rowsOf j s hs).1,he]at h;exact absurd rfl h
 have hopen:∀i,i<ops.length→tab.length<i→i-1∈edgesOf ops i:=fun i hi hk=>by
  rcases hchain i hi with (h|h)|h
  ·omega
  ·omega
  ·exact h
 have finish:∀(listed:Array Bool) (a:Act) (w:World),Stage ops tab al Φ W a0 listed a w→(∀i,i<tab.length→listed.getD i true=true)→
  wpListIn F n P ops.toArray Q (ops.drop tab.length) a w:=by
  intro listed a w hS hall;have hr:=rest (fun i=>match tab[i]? with|some r=>a.eval (.tmp r.dst)|none=>undef) w (fun i hi=>by
   have hg:=List.getElem?_eq_getElem hi;simp only[hg];exact hS.vals i _ hg (hall i hi)) (by
   have e:(fun j=>decide (j<tab.length))=fun j=>listed.getD j false:=funext fun j=>by
    rcases Nat.lt_or_ge j ops.length with hj|hj
    ·have hj':j<listed.size:=(by rw[hS.size];exact hj);have e1:listed.getD j false=listed.getD j true:=(by simp[Array.getD_eq_getD_getElem?,hj']);rw[e1];rcases Nat.lt_or_ge j tab.length with h|h
     ·rw[hall j h];simpa using h
     ·rw[hS.later j h hj];simpa using h
    ·have hj':¬j<listed.size:=(by rw[hS.size];omega);have e2:listed.getD j false=false:=(by simp[Array.getD_eq_getD_getElem?,hj']);rw[e2];simp;omega
   rw[e];exact hS.world) (fun i hi j hj hi' hj' hne=>by
   have hg:=List.getElem?_eq_getElem hi';have hg':=List.getElem?_eq_getElem hj';simp only[hg,hg'];exact hS.apart i hi j hj _ _ hne hg hg' (hall i hi') (hall j hj'))
  have hae:a=puts a0 tab (fun i=>match tab[i]? with|some r=>a.eval (.tmp r.dst)|none=>undef) 0:=by
   refine act_ext (by rw[puts_defers];exact hS.defers) (by rw[puts_size];exact hS.asize) fun t=>?_;by_cases ht:∃(m:Nat) (r:Row),tab[m]? =some r∧r.dst=t
   ·obtain⟨m,r,hr,rfl⟩:=ht;rw[puts_some tab a0 _ 0 m r hr (fun m' r' h1 h2=>hdst m r hr m' r' h1 h2) (hsz r (List.mem_of_getElem? hr))];simp[hr]
   ·rw[puts_none tab a0 _ 0 t (fun r hr he=>ht (by obtain⟨m,hm⟩:=List.getElem?_of_mem hr;exact⟨m,r,hm,he⟩))];exact hS.other t (fun i r hr _ he=>ht ⟨i,r,hr,he⟩)
  rw[hae];exact hr
 refine wpIn_region_any hm ?_;have key:∀(fuel:Nat) (listed:Array Bool) (a:Act) (w:World),(List.range ops.length).countP (fun i=>!listed.getD i true)≤fuel→
  Stage ops tab al Φ W a0 listed a w→wpAnyIn F n P .any ops.toArray Q fuel listed a w:=by
  intro fuel
  induction fuel with
  |zero=>
   intro listed a w hc hS;have hall:∀i,i<ops.length→listed.getD i true=true:=fun i hi=>by have:=List.countP_eq_zero.1 (Nat.le_zero.1 hc) i (List.mem_range.2 hi);simpa using this
   have hkn:tab.length=ops.length:=by
    rcases Nat.lt_or_ge tab.length ops.length with h|h
    ·have h1:=hS.later _ (Nat.le_refl _) h;rw[hall _ h]at h1;cases h1
    ·omega
   refine any_restI hback tab.length hopen 0 ops.length 0 listed a w (by omega) (by omega) (Nat.le_refl _) hS.size (fun i hi=>by rw[hall i hi];simpa using hi) ?_;have hf:=finish listed a w hS (fun i hi=>hall i (by omega))
   rwa [hkn]at hf
  |succ fuel ih=>
   intro listed a w hc hS;by_cases hdone:∀i,i<tab.length→listed.getD i true=true
   ·refine any_restI hback tab.length hopen (ops.length-tab.length) tab.length (fuel+1) listed a w (by omega) (by omega) ?_ hS.size (fun i hi=>?_) (finish listed a w hS hdone)
    ·refine Nat.le_trans ?_ hc;have h1:(List.range ops.length).countP (fun i=>!decide (i<tab.length))≤(List.range ops.length).countP (fun i=>!listed.getD i true):=List.countP_mono_left fun i hi h=>by have hi':=List.mem_range.1 hi;have h2:tab.length≤i:=(by simpa using h);rw[hS.later i h2 hi'];rfl
     refine Nat.le_trans (Nat.le_of_eq ?_) h1;obtain⟨d,hd⟩:=Nat.exists_eq_add_of_le hlen;rw[hd,List.range_add,List.countP_append];have e1:(List.range tab.length).countP (fun i=>!decide (i<tab.length))=0:=List.countP_eq_zero.2 fun i hi=>by simpa using List.mem_range.1 hi
     have e2:((List.range d).map (tab.length+ ·)).countP (fun i=>!decide (i<tab.length))=d:=(by rw[List.countP_map,List.countP_eq_length.2 (by intro i _;simp),List.length_range]);omega
    ·rcases Nat.lt_or_ge i tab.length with h|h
     ·rw[hdone i h];simpa using h
     ·rw[hS.later i h hi];simpa using h
   ·have hex:∃m,m<tab.length∧listed.getD m true=false:=by
     refine Classical.byContradiction fun hno=>hdone fun i hi=>?_;cases hv:listed.getD i true
     ·exact absurd ⟨i,hi,hv⟩ hno
     ·rfl
    obtain⟨m,hm1,hm2⟩:=hex;refine⟨fun hr=>?_,fun i hi=>?_⟩
    ·exfalso;have hleast:∀i,i<ops.length→listed.getD i true=true:=by
      intro i
      induction i using Nat.strongRecOn with
      |_ i ihi=>
       intro hi;cases hv:listed.getD i true
       ·exfalso;have hop:ops[i]? =some ops[i]:=List.getElem?_eq_getElem hi;have:i∈Region.ready .any ops.toArray listed:=(by refine mem_ready.2 ⟨hv,ops[i],by simpa using hop,fun e he hb=>?_⟩;have hlt:e.on<i:=hback i hi e.on (by unfold edgesOf;rw[hop];exact List.mem_map.2 ⟨e,List.mem_filter.2 ⟨by simpa using he,hb⟩,rfl⟩);have h1:=ihi e.on hlt (by omega);have h2:e.on<listed.size:=(by rw[hS.size];omega);simpa [Array.getD_eq_getD_getElem?,Array.getElem?_eq_getElem h2]using h1);rw[hr]at this;cases this
       ·rfl
     rw[hleast m (by omega)]at hm2;cases hm2
    ·obtain⟨h0,o,ho,hall⟩:=mem_ready.1 hi;have hil:i<ops.length:=(by simpa using (Array.getElem?_eq_some_iff.1 ho).1);have hoi:ops[i]? =some o:=(by simpa using ho);have hpre:∀e∈edgesOf ops i,listed.getD e true=true:=(by intro e he;have hlt:=hback i hil e he;unfold edgesOf at he;rw[hoi]at he;obtain⟨x,hx,rfl⟩:=List.mem_map.1 he;obtain⟨hx1,hb⟩:=List.mem_filter.1 hx;have h2:=hall x (by simpa using hx1) hb;have h3:x.on<listed.size:=(by rw[hS.size];omega);simpa [Array.getD_eq_getD_getElem?,Array.getElem?_eq_getElem h3]using h2);have hik:i<tab.length:=by
      rcases Nat.lt_or_ge i tab.length with h|h
      ·exact h
      ·exfalso;rcases Nat.lt_or_ge tab.length i with h'|h'
       ·have h1:=hpre _ (hopen i hil h');rw[hS.later (i-1) (by omega) (by omega)]at h1;cases h1
       ·have hie:i=tab.length:=(by omega);subst hie;rcases hlast with h1|h1
        ·omega
        ·have h2:listed.getD m true=true:=by
          rcases h1 m hm1 with h3|⟨p,hp,hpk,hmp⟩
          ·exact hpre m h3
          ·unfold ancOf at hmp
           split at hmp
           ·rename_i rp hrp
            exact anc_listed (fun i r hr=>(rowsOf i r hr).2.2.1) hlen hS.closed p rp hrp (hS.closed p (by omega) (hpre p hp)) m hmp
           ·cases hmp
         rw[h2]at hm2;cases hm2
     obtain⟨r,hr⟩:∃r,tab[i]? =some r:=⟨_,List.getElem?_eq_getElem hik⟩;obtain⟨hd,hpreds,_,huniq,hfree⟩:=rowsOf i r hr;have hod:o.dst=some r.dst:=(by unfold dstOf at hd;rw[hoi]at hd;simpa using hd);have hfr:∀t∈r.free,a.eval (.tmp t)=a0.eval (.tmp t):=fun t ht=>hS.other t fun j s hs hlj he=>by
      have hj:j<tab.length:=(List.getElem?_eq_some_iff.1 hs).1;rcases hfree t ht j hj with h1|h1
      ·rw[(rowsOf j s hs).1,he]at h1;exact h1 rfl
      ·unfold ancOf at h1;rw[hs]at h1;have:=anc_listed (fun i r hr=>(rowsOf i r hr).2.2.1) hlen hS.closed j s hs (hS.closed j (by omega) hlj) i h1;rw[h0]at this;cases this
     have hLt:∀j,j<ops.length→listed.getD j false=listed.getD j true:=fun j hj=>by have hj':j<listed.size:=(by rw[hS.size];exact hj);simp[Array.getD_eq_getD_getElem?,hj']
     have hst:=step i o r hoi hr (fun j=>listed.getD j false) a w hS.world (by rw[hLt i hil];exact h0)
      (fun j hj=>by have hj2:=hpreds j hj;have:=hback i hil j hj2;rw[hLt j (by omega)];exact hpre j hj2)
      (fun j hj=>by
       cases hlj:listed.getD j false
       ·rfl
       ·exfalso;have hjn:j<tab.length:=by
         unfold ancOf at hj;split at hj
         ·rename_i s hs;exact(List.getElem?_eq_some_iff.1 hs).1
         ·cases hj
        rw[hLt j (by omega)]at hlj;obtain⟨s,hs⟩:∃s,tab[j]? =some s:=⟨_,List.getElem?_eq_getElem hjn⟩;unfold ancOf at hj;rw[hs]at hj;have:=anc_listed (fun i r hr=>(rowsOf i r hr).2.2.1) hlen hS.closed j s hs (hS.closed j (by omega) hlj) i hj;rw[h0]at this;cases this)
      hS.defers (fun j hj s hs=>hS.vals j s hs (hpre j (hpreds j hj))) hfr
     have hin:i<listed.size:=(by rw[hS.size];exact hil);have hset:∀j,(listed.setIfInBounds i true).getD j true=(if j=i then true else listed.getD j true):=by
      intro j;by_cases hji:j=i
      ·subst hji;simp[Array.getD_eq_getD_getElem?,hin]
      ·rw[getD_set_ne true (Ne.symm hji),if_neg hji]
     have next:∀a' w',(∃v,a'=a.put (some r.dst) v∧Φ i v w'∧W (fun j=>j==i||listed.getD j false) w'∧Ext w w'∧(i∈al→∀j∈al,j≠i→∀u,Φ j u w→v≠u))→
      wpAnyIn F n P .any ops.toArray Q fuel (listed.setIfInBounds i true) a' w':=by
      rintro a' w' ⟨v,rfl,hv,hw',hext,hal⟩;have hrs:r.dst<a.tmps.size:=(by rw[hS.asize];exact hsz r (List.mem_of_getElem? hr));have hW':W (fun j=>(listed.setIfInBounds i true).getD j false) w':=by
       have e:(fun j=>(listed.setIfInBounds i true).getD j false)=fun j=>j==i||listed.getD j false:=funext fun j=>by
        by_cases hji:j=i
        ·subst hji;simp[Array.getD_eq_getD_getElem?,hin]
        ·rw[getD_set_ne false (Ne.symm hji)];simp[hji]
       rw[e];exact hw'
      refine ih _ _ _ ?_ ⟨by simpa using hS.size,?_,?_,hW',hS.defers,by simpa [Act.put]using hS.asize,?_,?_,?_⟩
      ·refine Nat.le_of_lt_succ (Nat.lt_of_lt_of_le (count_set (i:=i) (List.mem_range.2 hil) (by simp[h0]) (by simp[hset]) ?_) hc);intro j hj;rw[hset]at hj
       split at hj
       ·cases hj
       ·exact hj
      ·intro j hj hlj e he;rw[hset]at hlj⊢
       split
       ·rfl
       ·split at hlj
        ·rename_i hji;subst hji;exact hpre e he
        ·exact hS.closed j hj hlj e he
      ·intro j hj1 hj2;rw[hset,if_neg (by omega)];exact hS.later j hj1 hj2
      ·intro j s hs hlj;rw[hset]at hlj;by_cases hji:j=i
       ·subst hji;rw[hr]at hs;obtain rfl:=Option.some.inj hs;rw[eval_put_same hrs];exact hv
       ·rw[if_neg hji]at hlj;rw[eval_put_other (fun h=>hji (hdst i r hr j s hs h.symm))];exact mono _ _ _ _ (hS.vals j s hs hlj) hext
      ·intro t ht;have htr:r.dst≠t:=ht i r hr (by rw[hset,if_pos rfl]);rw[eval_put_other htr];exact hS.other t fun j s hs hlj=>ht j s hs (by rw[hset];split <;> first|rfl|exact hlj)
      ·intro x hx y hy rx ry hne hrx hry hlx hly;rw[hset]at hlx hly;by_cases hxi:x=i
       ·subst hxi;rw[hr]at hrx;obtain rfl:=Option.some.inj hrx;rw[if_neg (Ne.symm hne)]at hly;rw[eval_put_same hrs,eval_put_other (fun h=>hne (hdst y ry hry x r hr h))];exact hal hx y hy (Ne.symm hne) _ (hS.vals y ry hry hly)
       ·rw[if_neg hxi]at hlx;by_cases hyi:y=i
        ·subst hyi;rw[hr]at hry;obtain rfl:=Option.some.inj hry;rw[eval_put_same hrs,eval_put_other (fun h=>hne (hdst y r hr x rx hrx h.symm))];exact(hal hy x hx hne _ (hS.vals x rx hrx hlx)).symm
        ·rw[if_neg hyi]at hly;rw[eval_put_other (fun h=>hxi (hdst i r hr x rx hrx h.symm)),eval_put_other (fun h=>hyi (hdst i r hr y ry hry h.symm))];exact hS.apart x hx y hy rx ry hne hrx hry hlx hly
     unfold wpOpIn;rw[ho];simp only
     split
     ·rename_i hwt
      simp only[hwt,if_true]at hst;exact br o a w _ (hnd o (List.mem_of_getElem? hoi)) (Oper.wp_mono next hst)
     ·rename_i hwt
      simp only[hwt]at hst;exact⟨fun f _=>hfn f,by rw[hod];exact next _ _ hst⟩
 refine key _ _ _ _ (Nat.le_trans (List.countP_le_length) (by simp)) ⟨by simp,?_,?_,?_,rfl,rfl,?_,fun _ _=>rfl,?_⟩
 ·intro j hj h;simp[hj]at h
 ·intro j _ hj;simp[hj]
 ·have e:(fun j=>(Array.replicate ops.toArray.size false).getD j false)=fun _=>false:=funext fun j=>by
   simp[Array.getD_eq_getD_getElem?,Array.getElem?_replicate]
   split <;> rfl
  rw[e];exact hW
 ·intro i r hr h;have:i<ops.length:=(by have:=(List.getElem?_eq_some_iff.1 hr).1;omega);simp[this]at h
 ·intro i _ j _ r s _ hr _ h _;have:i<ops.length:=(by have:=(List.getElem?_eq_some_iff.1 hr).1;omega);simp[this]at h
theorem wpF_drawn {F:Fence} (n:Nat) (hfn:∀f,F.fn f) (br:∀(o:Oper) (a:Act) (w:World) (K:Act→World→Prop),(∀c,o.op≠ .defer c)→o.wp P a w K Q→o.wpIn F n P a w K Q) (hnd:(ops.all fun o=>match o.op with| .defer _=>false|_=>true)=true) {id:Nat} {a0:Act} {w0:World} (hm:P.follows .mixedOrders=true) (tab:List Row) (al:List Nat) (hok:tabOk ops tab=true) (N:Nat) (hN:a0.tmps.size=N)
 (hsz:tab.all (fun r=>decide (r.dst<N))=true)
 (Φ:Nat→Value→World→Prop) (W:(Nat→Bool)→World→Prop) (Ext:World→World→Prop)
 (hW:W (fun _=>false) w0.drew) (mono:∀i v w w',Φ i v w→Ext w w'→Φ i v w')
 (step:∀i o r,ops[i]? =some o→tab[i]? =some r→∀(L:Nat→Bool) a w,W L w→L i=false→(∀j∈r.preds,L j=true)→(∀j,i∈ancOf tab j→L j=false)→a.defers=a0.defers→
  (∀j∈r.preds,∀s,tab[j]? =some s→Φ j (a.eval (.tmp s.dst)) w)→(∀t∈r.free,a.eval (.tmp t)=a0.eval (.tmp t))→
  let K:Act→World→Prop:=fun a' w'=>∃v,a'=a.put (some r.dst) v∧Φ i v w'∧W (fun j=>j==i||L j) w'∧Ext w w'∧(i∈al→∀j∈al,j≠i→∀u,Φ j u w→v≠u)
  if Region.wanted o (yielded ops.toArray a.tmps) then o.wp P a w K Q else K (a.put (some r.dst) undef) w)
 (rest:∀(vs:Nat→Value) (w:World),(∀i,i<tab.length→Φ i (vs i) w)→W (fun j=>decide (j<tab.length)) w→(∀i∈al,∀j∈al,i<tab.length→j<tab.length→i≠j→vs i≠vs j)→
  wpListIn F n P ops.toArray Q (ops.drop tab.length) (puts a0 tab vs 0) w):
 (Code.region id ops.toArray true).wpIn F n P Q a0 w0:=
 wpI_draw hfn br (fun o ho c hc=>by have:=List.all_eq_true.1 hnd o ho;rw[hc]at this;cases this) hm tab al hok (fun r hr=>by have:=List.all_eq_true.1 hsz r hr;rw[hN];simpa using this) Φ W Ext hW mono step rest
theorem wpI_drawn (n:Nat) (hn:1≤n) (hnd:(ops.all fun o=>match o.op with| .defer _=>false|_=>true)=true) {id:Nat} {a0:Act} {w0:World} (hm:P.follows .mixedOrders=true) (tab:List Row) (al:List Nat) (hok:tabOk ops tab=true) (N:Nat) (hN:a0.tmps.size=N)
 (hsz:tab.all (fun r=>decide (r.dst<N))=true)
 (Φ:Nat→Value→World→Prop) (W:(Nat→Bool)→World→Prop) (Ext:World→World→Prop)
 (hW:W (fun _=>false) w0.drew) (mono:∀i v w w',Φ i v w→Ext w w'→Φ i v w')
 (step:∀i o r,ops[i]? =some o→tab[i]? =some r→∀(L:Nat→Bool) a w,W L w→L i=false→(∀j∈r.preds,L j=true)→(∀j,i∈ancOf tab j→L j=false)→a.defers=a0.defers→
  (∀j∈r.preds,∀s,tab[j]? =some s→Φ j (a.eval (.tmp s.dst)) w)→(∀t∈r.free,a.eval (.tmp t)=a0.eval (.tmp t))→
  let K:Act→World→Prop:=fun a' w'=>∃v,a'=a.put (some r.dst) v∧Φ i v w'∧W (fun j=>j==i||L j) w'∧Ext w w'∧(i∈al→∀j∈al,j≠i→∀u,Φ j u w→v≠u)
  if Region.wanted o (yielded ops.toArray a.tmps) then o.wp P a w K Q else K (a.put (some r.dst) undef) w)
 (rest:∀(vs:Nat→Value) (w:World),(∀i,i<tab.length→Φ i (vs i) w)→W (fun j=>decide (j<tab.length)) w→(∀i∈al,∀j∈al,i<tab.length→j<tab.length→i≠j→vs i≠vs j)→
  wpListIn Fence.wide n P ops.toArray Q (ops.drop tab.length) (puts a0 tab vs 0) w):
 (Code.region id ops.toArray true).wp P Q a0 w0:=
 (wpIn_wide (n:=n)).1 (wpF_drawn n (fun _=>trivial) (fun _ _ _ _ _ h=>opIn_of_wp hn h) hnd hm tab al hok N hN hsz Φ W Ext hW mono step rest)
theorem wpR_drawn (l n:Nat) (hnd:(ops.all fun o=>match o.op with| .defer _=>false|_=>true)=true) {id:Nat} {a0:Act} {w0:World} (hm:P.follows .mixedOrders=true) (tab:List Row) (al:List Nat) (hok:tabOk ops tab=true) (N:Nat) (hN:a0.tmps.size=N)
 (hsz:tab.all (fun r=>decide (r.dst<N))=true)
 (Φ:Nat→Value→World→Prop) (W:(Nat→Bool)→World→Prop) (Ext:World→World→Prop)
 (hW:W (fun _=>false) w0.drew) (mono:∀i v w w',Φ i v w→Ext w w'→Φ i v w')
 (step:∀i o r,ops[i]? =some o→tab[i]? =some r→∀(L:Nat→Bool) a w,W L w→L i=false→(∀j∈r.preds,L j=true)→(∀j,i∈ancOf tab j→L j=false)→a.defers=a0.defers→
  (∀j∈r.preds,∀s,tab[j]? =some s→Φ j (a.eval (.tmp s.dst)) w)→(∀t∈r.free,a.eval (.tmp t)=a0.eval (.tmp t))→
  let K:Act→World→Prop:=fun a' w'=>∃v,a'=a.put (some r.dst) v∧Φ i v w'∧W (fun j=>j==i||L j) w'∧Ext w w'∧(i∈al→∀j∈al,j≠i→∀u,Φ j u w→v≠u)
  if Region.wanted o (yielded ops.toArray a.tmps) then o.wp P a w K Q else K (a.put (some r.dst) undef) w)
 (rest:∀(vs:Nat→Value) (w:World),(∀i,i<tab.length→Φ i (vs i) w)→W (fun j=>decide (j<tab.length)) w→(∀i∈al,∀j∈al,i<tab.length→j<tab.length→i≠j→vs i≠vs j)→
  wpListIn (Fence.wide.inRound l) n P ops.toArray Q (ops.drop tab.length) (puts a0 tab vs 0) w):
 (Code.region id ops.toArray true).wpIn (Fence.wide.inRound l) n P Q a0 w0:=
 wpF_drawn n (fun _=>trivial) (fun _ _ _ _ hd h=>opIn_of_wpR hd h) hnd hm tab al hok N hN hsz Φ W Ext hW mono step rest
end
end Go.Rad
namespace Rad
open CR
variable {A:Type} [CR A]
structure PD (A:Type) [CR A] (sz:A→Nat):Prop where
 z:∀a:A,sz a=0↔a=0
 m:∀a b:A,a≠0→b≠0→a*b≠0∧sz (a*b)+1=sz a+sz b
 u:∀a:A,sz a=1→∃b,b*a=1
 one:sz (1:A)=1
 bez:∀x y:A,∃g u v c e:A,g=u*x+v*y∧x=g*c∧y=g*e
def Dv (a b:A):Prop:=∃c,b=a*c
structure Irr (sz:A→Nat) (a:A):Prop where
 two:2≤sz a
 ir:∀x y,a=x*y→sz x=1∨sz y=1
def Vl (g a:A) (e:Nat):Prop:=∃u,a=pw g e*u∧¬Dv g u
theorem Dv.refl (a:A):Dv a a:=⟨1,(mul_one a).symm⟩
theorem Dv.trans {a b c:A} (h:Dv a b) (k:Dv b c):Dv a c:=by obtain⟨x,rfl⟩:=h;obtain⟨y,rfl⟩:=k;exact⟨x*y,mul_assoc _ _ _⟩
theorem Dv.mul {a b:A} (h:Dv a b) (c:A):Dv a (b*c):=by obtain⟨x,rfl⟩:=h;exact⟨x*c,mul_assoc _ _ _⟩
theorem Dv.lmul {a b:A} (h:Dv a b) (c:A):Dv a (c*b):=by rw[mul_comm];exact h.mul c
theorem Dv.add {a b c:A} (h:Dv a b) (k:Dv a c):Dv a (b+c):=by obtain⟨x,rfl⟩:=h;obtain⟨y,rfl⟩:=k;exact⟨x+y,(mul_add _ _ _).symm⟩
theorem Dv.zero (a:A):Dv a 0:=⟨0,(mul_zero a).symm⟩
theorem Dv.pw_le {g:A} {m n:Nat} (h:m≤n):Dv (pw g m) (pw g n):=⟨pw g (n-m),by rw[←CR.pw_add];congr 1;omega⟩
namespace PD
variable {sz:A→Nat} (P:PD A sz)
include P
theorem ne {a:A} (h:1≤sz a):a≠0:=fun e=>by have:=(P.z a).2 e;omega
theorem pos {a:A} (h:a≠0):1≤sz a:=by
 rcases Nat.eq_zero_or_pos (sz a)with h1|h1
 ·exact absurd ((P.z a).1 h1) h
 ·exact h1
theorem ir_ne {g:A} (h:Irr sz g):g≠0:=P.ne (by have:=h.two;omega)
theorem ne_mul {a b:A} (h:a*b≠0):a≠0∧b≠0:=⟨fun e=>h (by rw[e,zero_mul]),fun e=>h (by rw[e,mul_zero])⟩
theorem cancel {a b c:A} (h:a≠0) (e:a*b=a*c):b=c:=by refine sub_zero (Classical.byContradiction fun hn=>?_);refine(P.m a (b+ -c) h hn).1 ?_;rw[mul_add,mul_neg,e,add_neg]
theorem unit {a b:A} (h:b*a=1):sz a=1:=by have h1:b*a≠0:=(by rw[h];exact P.ne (by rw[P.one];exact Nat.le_refl _));have h2:=P.ne_mul h1;have h3:=P.m b a h2.1 h2.2;have h4:=P.pos h2.1;have h5:=P.pos h2.2;have h6:=P.one;rw[h]at h3;omega
theorem dv_sz {a b:A} (h:Dv a b) (hb:b≠0):sz a≤sz b:=by obtain⟨c,rfl⟩:=h;have h2:=P.ne_mul hb;have h3:=P.m a c h2.1 h2.2;have h5:=P.pos h2.2;omega
theorem ndv_one {g:A} (h:Irr sz g):¬Dv g 1:=fun hd=>by have h1:=P.dv_sz hd (P.ne (by rw[P.one];exact Nat.le_refl _));have:=h.two;have:=P.one;omega
theorem ndv_small {a b:A} (hb:b≠0) (h:sz b<sz a):¬Dv a b:=fun hd=>by have:=P.dv_sz hd hb;omega
theorem prime {g:A} (h:Irr sz g) {x y:A} (hd:Dv g (x*y)):Dv g x∨Dv g y:=by
 obtain⟨d,u,v,c,e,h1,h2,h3⟩:=P.bez g x;rcases h.ir d c h2 with h4|h4
 ·obtain⟨w,hw⟩:=P.u d h4;refine .inr ?_;have h5:y=g*(w*u*y)+(x*y)*(w*v):=by
   have e1:y=w*d*y:=(by rw[hw,one_mul])
   conv=>lhs;rw[e1,h1]
   rw[mul_add,add_mul];congr 1 <;> ac_rfl
  rw[h5];exact((Dv.refl g).mul _).add (hd.mul _)
 ·obtain⟨w,hw⟩:=P.u c h4;refine .inl ⟨w*e,?_⟩;have h5:d=g*w:=(by rw[h2,mul_assoc,mul_comm c w,hw,mul_one]);rw[h3,h5,mul_assoc]
theorem pw_ne {g:A} (h:g≠0):∀n,pw g n≠0
 |0=>P.ne (by show 1≤sz (1:A);rw[P.one];exact Nat.le_refl _)
 |n+1=>(P.m _ _ (pw_ne h n) h).1
theorem vl_ex {g:A} (h:Irr sz g):∀(n:Nat) (a:A),sz a≤n→a≠0→∃e,Vl g a e
 |0,a,hn,ha=>absurd ((P.z a).1 (by omega)) ha
 |n+1,a,hn,ha=>by
  by_cases hd:Dv g a
  ·obtain⟨b,rfl⟩:=hd;have h2:=P.ne_mul ha;have h3:=P.m g b h2.1 h2.2;have h4:=h.two;obtain⟨e,u,hu,hnd⟩:=vl_ex h n b (by omega) h2.2;refine⟨e+1,u,?_,hnd⟩;show g*b=pw g e*g*u
   conv=>lhs;rw[hu]
   ac_rfl
  ·exact⟨0,a,(one_mul a).symm,hd⟩
theorem vl {g a:A} (h:Irr sz g) (ha:a≠0):∃e,Vl g a e:=P.vl_ex h _ a (Nat.le_refl _) ha
theorem vl_le {g a:A} (h:Irr sz g) {e k:Nat} (hv:Vl g a e) (hd:Dv (pw g k) a):k≤e:=by
 refine Classical.byContradiction fun hn=>?_;obtain⟨u,hu,hnd⟩:=hv;obtain⟨c,hc⟩:=hd;refine hnd ⟨pw g (k-e-1)*c,?_⟩;have h1:pw g k=pw g e*(g*pw g (k-e-1)):=by
  have e1:k=e+(1+(k-e-1)):=(by omega)
  conv=>lhs;rw[e1]
  rw[CR.pw_add,CR.pw_add,CR.pw_one]
 rw[h1]at hc;exact P.cancel (P.pw_ne (P.ir_ne h) e) (by rw[←hu,hc];ac_rfl)
theorem vl_dv {g a:A} {e k:Nat} (hv:Vl g a e) (hk:k≤e):Dv (pw g k) a:=by obtain⟨u,hu,_⟩:=hv;rw[hu];exact(Dv.pw_le hk).mul u
theorem vl_uniq {g a:A} (h:Irr sz g) {e f:Nat} (hv:Vl g a e) (hw:Vl g a f):e=f:=Nat.le_antisymm (P.vl_le h hw (P.vl_dv hv (Nat.le_refl _))) (P.vl_le h hv (P.vl_dv hw (Nat.le_refl _)))
theorem vl_zero {g a:A}: Vl g a 0↔¬Dv g a:=by
 constructor
 ·rintro⟨u,hu,hnd⟩;have e:a=u:=(by rw[hu];exact one_mul u);rw[e];exact hnd
 ·exact fun h=>⟨a,(one_mul a).symm,h⟩
theorem vl_pos {g a:A} (h:Irr sz g) {e:Nat} (hv:Vl g a e):Dv g a↔0<e:=by
 constructor
 ·intro hd;exact P.vl_le h (k:=1) hv (by rw[CR.pw_one];exact hd)
 ·intro he;have:=P.vl_dv hv (k:=1) he
  rwa [CR.pw_one]at this
theorem vl_mul {g a b:A} (h:Irr sz g) {e f:Nat} (hv:Vl g a e) (hw:Vl g b f):Vl g (a*b) (e+f):=by
 obtain⟨u,hu,hnu⟩:=hv;obtain⟨v,hv,hnv⟩:=hw;refine⟨u*v,by rw[hu,hv,CR.pw_add];ac_rfl,fun hd=>?_⟩;rcases P.prime h hd with h1|h1
 ·exact hnu h1
 ·exact hnv h1
theorem vl_one {g:A} (h:Irr sz g):Vl g 1 0:=P.vl_zero.2 (P.ndv_one h)
theorem vl_pw {g a:A} (h:Irr sz g) {e:Nat} (hv:Vl g a e):∀n,Vl g (pw a n) (n*e)
 |0=>by rw[Nat.zero_mul];exact P.vl_one h
 |n+1=>by rw[Nat.succ_mul];exact P.vl_mul h (vl_pw h hv n) hv
theorem vl_self {g:A} (h:Irr sz g):Vl g g 1:=⟨1,by rw[CR.pw_one,mul_one],P.ndv_one h⟩
theorem vl_ne {g a:A} (h:Irr sz g) {e:Nat} (hv:Vl g a e):a≠0:=fun e0=>by
 obtain⟨u,hu,hnd⟩:=hv;rw[e0]at hu;by_cases hu0:u=0
 ·rw[hu0]at hnd;exact hnd (.zero g)
 ·exact(P.m _ _ (P.pw_ne (P.ir_ne h) e) hu0).1 hu.symm
theorem vl_quo {g a b q:A} (h:Irr sz g) {e f:Nat} (ha:Vl g a e) (hb:Vl g b f) (hq:a=q*b):Vl g q (e-f)∧f≤e:=by have ha0:=P.vl_ne h ha;rw[hq]at ha0;obtain⟨k,hk⟩:=P.vl h (P.ne_mul ha0).1;have h1:=P.vl_mul h hk hb;rw[←hq]at h1;have h2:=P.vl_uniq h ha h1;exact⟨by rw[show e-f=k by omega];exact hk,by omega⟩
theorem ex_irr:∀(n:Nat) (a:A),sz a≤n→2≤sz a→∃g,Irr sz g∧Dv g a
 |0,a,hn,h2=>by omega
 |n+1,a,hn,h2=>by
  by_cases hi:Irr sz a
  ·exact⟨a,hi, .refl a⟩
  ·have h3:∃x y,a=x*y∧sz x≠1∧sz y≠1:=(by refine Classical.byContradiction fun hc=>hi ⟨h2,fun x y e=>?_⟩;refine Classical.byContradiction fun hc2=>hc ⟨x,y,e,fun h=>hc2 (.inl h),fun h=>hc2 (.inr h)⟩);obtain⟨x,y,e,hx,hy⟩:=h3;have ha:x*y≠0:=(by rw[←e];exact P.ne (by omega));have h4:=P.ne_mul ha;have h5:=P.m x y h4.1 h4.2;rw[←e]at h5;have h6:=P.pos h4.1;have h7:=P.pos h4.2;obtain⟨g,hg,hd⟩:=ex_irr n x (by omega) (by omega);exact⟨g,hg,by rw[e];exact hd.mul y⟩
theorem irr_of {a:A} (h:2≤sz a):∃g,Irr sz g∧Dv g a:=P.ex_irr _ a (Nat.le_refl _) h
theorem same_n:∀(n:Nat) (a b:A),sz a≤n→a≠0→b≠0→(∀g,Irr sz g→∀e,Vl g a e→Vl g b e)→∃w,sz w=1∧a=w*b
 |0,a,b,hn,ha,_,_=>absurd ((P.z a).1 (by omega)) ha
 |n+1,a,b,hn,ha,hb,hv=>by
  by_cases h2:2≤sz a
  ·obtain⟨g,hg,a',rfl⟩:=P.irr_of h2;have ha':=(P.ne_mul ha).2;obtain⟨e,he⟩:=P.vl hg ha;have h3:=(P.vl_pos hg he).1 ((Dv.refl g).mul a');obtain⟨b',rfl⟩:=(P.vl_pos hg (hv g hg e he)).2 h3;have hb':=(P.ne_mul hb).2;have h4:=(P.m g a' (P.ir_ne hg) ha').2;have h5:=hg.two;obtain⟨w,hw,e2⟩:=same_n n a' b' (by omega) ha' hb' fun h hh e' hv'=>by obtain⟨t,ht⟩:=P.vl hh (P.ir_ne hg);obtain⟨f,hf⟩:=P.vl hh hb';have h6:=P.vl_uniq hh (hv h hh _ (P.vl_mul hh ht hv')) (P.vl_mul hh ht hf);rw[show e'=f by omega];exact hf
   exact⟨w,hw,by rw[e2];ac_rfl⟩
  ·have h3:=P.pos ha;have h4:sz b=1:=(by refine Classical.byContradiction fun hn=>?_;have h5:=P.pos hb;obtain⟨g,hg,hd⟩:=P.irr_of (a:=b) (by omega);have h6:Vl g a 0:=P.vl_zero.2 (P.ndv_small ha (by have:=hg.two;omega));exact P.vl_zero.1 (hv g hg 0 h6) hd);obtain⟨b',hb'⟩:=P.u b h4;refine⟨a*b',?_,by rw[mul_assoc,hb',mul_one]⟩;have h6:=P.unit (a:=b') (b:=b) (by rw[mul_comm];exact hb');have h7:=P.m a b' ha (P.ne (by omega));omega
theorem same {a b:A} (ha:a≠0) (hb:b≠0) (hv:∀g,Irr sz g→∀e,Vl g a e→Vl g b e):∃w,sz w=1∧a=w*b:=P.same_n _ a b (Nat.le_refl _) ha hb hv
theorem vl_gcd {g x y d u v c c':A} (h:Irr sz g) (hd:d=u*x+v*y) (hx:x=d*c) (hy:y=d*c') {i j:Nat} (hi:Vl g x i) (hj:Vl g y j):Vl g d (min i j):=by have hx0:=P.vl_ne h hi;have hd0:d≠0:=fun e=>hx0 (by rw[hx,e,zero_mul]);obtain⟨k,hk⟩:=P.vl h hd0;have h1:Dv (pw g k) d:=P.vl_dv hk (Nat.le_refl _);have h2:=P.vl_le h hi (by rw[hx];exact h1.mul c);have h3:=P.vl_le h hj (by rw[hy];exact h1.mul c');have h4:=P.vl_le h hk (k:=min i j) (by rw[hd];exact((P.vl_dv hi (Nat.min_le_left _ _)).lmul u).add ((P.vl_dv hj (Nat.min_le_right _ _)).lmul v));rw[show min i j=k by omega];exact hk
theorem vl_gcd_ge {g x y d u v c:A} (h:Irr sz g) (hd:d=u*x+v*y) (hx:x=d*c) {i:Nat} (hi:Vl g x i) (hy:Dv (pw g i) y):Vl g d i:=by have hx0:=P.vl_ne h hi;have hd0:d≠0:=fun e=>hx0 (by rw[hx,e,zero_mul]);obtain⟨k,hk⟩:=P.vl h hd0;have h2:=P.vl_le h hi (by rw[hx];exact(P.vl_dv hk (Nat.le_refl _)).mul c);have h4:=P.vl_le h hk (k:=i) (by rw[hd];exact((P.vl_dv hi (Nat.le_refl _)).lmul u).add (hy.lmul v));rw[show i=k by omega];exact hk
end PD
end Rad
