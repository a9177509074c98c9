/- A part of the proof: SO, DrawP. -/
import Derived.Test.YtffdemplaodbcaaDoorP37
import Derived.Test.YtffdemplaodbcaaDoorP22
import Derived.Shelf.SlSortCmp.WholeK
import Derived.Test.YtffdemplaodbcaaDoorP26
set_option linter.all false
namespace Go.Proofs.YtffdemplaodbcaaDoor
open Go Go.Proofs Go.RowKit Go.Rad
theorem cmpI_neg (a b:Int):cmpI a b<0↔a<b:=by
 unfold cmpI;by_cases h1:a<b
 ·rw[if_pos h1];exact⟨fun _=>h1,fun _=>by decide⟩
 ·rw[if_neg h1];by_cases h2:b<a
  ·rw[if_pos h2];exact⟨fun h=>by omega,fun h=>absurd h h1⟩
  ·rw[if_neg h2];exact⟨fun h=>by omega,fun h=>absurd h h1⟩
theorem cmpT_succ (F G:Nat→Int) (n:Nat):cmpT F G (n+1)<0↔F n<G n∨(F n=G n∧cmpT F G n<0):=by
 show(if F n=G n then cmpT F G n else cmpI (F n) (G n))<0↔_;by_cases h:F n=G n
 ·rw[if_pos h];exact⟨fun k=> .inr ⟨h,k⟩,fun k=>k.elim (fun k=>by omega) fun k=>k.2⟩
 ·rw[if_neg h,cmpI_neg];exact⟨.inl,fun k=>k.elim id fun k=>absurd k.1 h⟩
theorem cmpT_irrefl (F:Nat→Int):∀n,¬cmpT F F n<0
 |0=>by show ¬(0:Int)<0;omega
 |n+1=>by
  rw[cmpT_succ];intro h;rcases h with h|h
  ·omega
  ·exact cmpT_irrefl F n h.2
theorem cmpT_trans (F G H:Nat→Int):∀n,cmpT F G n<0→cmpT G H n<0→cmpT F H n<0
 |0=>fun h _=>h
 |n+1=>by
  rw[cmpT_succ,cmpT_succ,cmpT_succ];intro h k;rcases h with h|h <;> rcases k with k|k
  ·exact .inl (by omega)
  ·exact .inl (by omega)
  ·exact .inl (by omega)
  ·exact .inr ⟨by omega,cmpT_trans F G H n h.2 k.2⟩
theorem cmpT_ntrans (F G H:Nat→Int):∀n,¬cmpT F G n<0→¬cmpT G H n<0→¬cmpT F H n<0
 |0=>fun h _=>h
 |n+1=>by
  rw[cmpT_succ,cmpT_succ,cmpT_succ];intro h k e;have h1:¬F n<G n:=fun x=>h (.inl x);have k1:¬G n<H n:=fun x=>k (.inl x);rcases e with e|e
  ·omega
  ·have e1:F n=G n:=(by omega);have e2:G n=H n:=(by omega);exact cmpT_ntrans F G H n (fun x=>h (.inr ⟨e1,x⟩)) (fun x=>k (.inr ⟨e2,x⟩)) e.2
theorem cmpL_neg (f g:List Int):cmpL f g<0↔f.length<g.length∨(f.length=g.length∧cmpT (fun j=>f.getD j 0) (fun j=>g.getD j 0) f.length<0):=by
 unfold cmpL;by_cases h:f.length=g.length
 ·rw[if_pos h];exact⟨fun k=> .inr ⟨h,k⟩,fun k=>k.elim (fun k=>by omega) fun k=>k.2⟩
 ·rw[if_neg h,cmpI_neg];exact⟨fun k=> .inl (by omega),fun k=>k.elim (fun k=>by omega) fun k=>absurd k.1 h⟩
theorem cmpL_irrefl (f:List Int):¬cmpL f f<0:=by
 rw[cmpL_neg];intro h;rcases h with h|h
 ·omega
 ·exact cmpT_irrefl _ _ h.2
theorem cmpL_trans (f g h:List Int) (a:cmpL f g<0) (b:cmpL g h<0):cmpL f h<0:=by
 rw[cmpL_neg]at *;rcases a with a|a <;> rcases b with b|b
 ·exact .inl (by omega)
 ·exact .inl (by omega)
 ·exact .inl (by omega)
 ·refine .inr ⟨by omega,cmpT_trans _ _ _ _ a.2 ?_⟩;rw[a.1];exact b.2
theorem cmpL_ntrans (f g h:List Int) (a:¬cmpL f g<0) (b:¬cmpL g h<0):¬cmpL f h<0:=by
 rw[cmpL_neg]at *;intro e;have a1:¬f.length<g.length:=fun x=>a (.inl x);have b1:¬g.length<h.length:=fun x=>b (.inl x);rcases e with e|e
 ·omega
 ·have e1:f.length=g.length:=(by omega);have e2:g.length=h.length:=(by omega);refine cmpT_ntrans _ _ _ _ (fun x=>a (.inr ⟨e1,x⟩)) (fun x=>b (.inr ⟨e2,?_⟩)) e.2;rw[←e1];exact x
theorem cmpT_same (F G:Nat→Int):∀n,¬cmpT F G n<0→¬cmpT G F n<0→∀j,j<n→F j=G j
 |0=>fun _ _ j hj=>by omega
 |n+1=>by
  rw[cmpT_succ,cmpT_succ];intro h k j hj;have h1:¬F n<G n:=fun x=>h (.inl x);have k1:¬G n<F n:=fun x=>k (.inl x);have e:F n=G n:=(by omega);rcases Nat.lt_or_ge j n with h2|h2
  ·exact cmpT_same F G n (fun x=>h (.inr ⟨e,x⟩)) (fun x=>k (.inr ⟨e.symm,x⟩)) j h2
  ·rw[show j=n by omega];exact e
theorem cmpL_same (f g:List Int) (a:¬cmpL f g<0) (b:¬cmpL g f<0):f=g:=by rw[cmpL_neg]at *;have a1:¬f.length<g.length:=fun x=>a (.inl x);have b1:¬g.length<f.length:=fun x=>b (.inl x);have e:f.length=g.length:=(by omega);refine List.ext_getElem e fun i h1 h2=>?_;have h3:=cmpT_same (fun j=>f.getD j 0) (fun j=>g.getD j 0) f.length (fun x=>a (.inr ⟨e,x⟩)) (fun x=>b (.inr ⟨e.symm,by rw[←e];exact x⟩)) i h1;simpa [List.getD_eq_getElem?_getD,h1,h2]using h3
structure SpE (W:World) (blk:Nat) where
 v:Value
 n:Int
 l:List Int
 hV:VC W v l
 hb:∀b,v.ownBlock=some b→b≠blk
 hl:l.length≤65
def SpE.enc {W:World} {blk:Nat} (e:SpE W blk):List Value:=[e.v, .int .i64 e.n]
def SpE.cf {W:World} {blk:Nat} (x y:SpE W blk):Int:=cmpL x.l y.l
theorem SpE.swo {W:World} {blk:Nat}: Sort.SWO (Go.Proofs.ltOf (SpE.cf (W:=W) (blk:=blk))) where
 irrefl x:=decide_eq_false (cmpL_irrefl x.l)
 trans x y z h1 h2:=decide_eq_true (cmpL_trans x.l y.l z.l (of_decide_eq_true h1) (of_decide_eq_true h2))
 ntrans x y z h1 h2:=decide_eq_false (cmpL_ntrans x.l y.l z.l (of_decide_eq_false h1) (of_decide_eq_false h2))
theorem kept_sort {W:World} {g n:Nat} (d:Array (SpE W g)) [Inhabited (SpE W g)] (os:Array Obj):Kept (·= g) W (sortWorldK SpE.enc 2 W g 0 n d os):=by
 refine⟨rfl,rfl,rfl,?_,fun b hb hne=>?_⟩
 ·simp[sortWorldK,Sort.grow,Sort.putRowK,Sort.putRow,Sort.mapBlock,Sort.ahead]
 ·have hne':¬g=b:=fun e=>hne e.symm;simp only[sortWorldK,Sort.grow,Sort.putRowK,Sort.putRow,Sort.mapBlock,Sort.ahead];rw[Array.getElem?_append_left (by simpa using hb),Array.getElem?_modify,if_neg hne']
theorem sort_any (W:World) (g cap:Nat) (d:Array (SpE W g)) [Inhabited (SpE W g)] (hH:Sort.HoldsK SpE.enc 2 W g 0 d) (hg:g<W.heap.size) (hsz:d.size≤100000):
 Calls Tryd.prog 47 #[.slice (some ⟨g,0,none⟩) d.size cap, .func (.func 48) #[] #[]] W fun e w'=>e= .returned (.tuple #[])∧∃d':Array (SpE W g),Sort.PermIn 0 d.size d d'∧Sort.SortedIn (Go.Proofs.ltOf SpE.cf) 0 d.size d'∧Sort.HoldsK SpE.enc 2 w' g 0 d'∧Kept (·= g) W w':=by
 have eg:∀args w,(callFunc 48 args).run Tryd.prog w= .ok (.enter 48 args) w:=enters_of Tryd.func48 (by kernel_rfl) rfl;have hc:CmpLays Tryd.prog 48 #[] SpE.enc 2 SpE.cf g 0 d.size W:=fun m os dk _ x y=>by have hx:VC (sortWorldK SpE.enc 2 W g 0 m dk os) x.v x.l:=x.hV.kept (kept_sort dk os) x.hb;have hy:VC (sortWorldK SpE.enc 2 W g 0 m dk os) y.v y.l:=y.hV.kept (kept_sort dk os) y.hb;exact less1_any _ x.v y.v x.n y.n x.l y.l hx.vw hy.vw (by have:=x.hl;omega) (by have:=y.hl;omega)
 have hcon:=AnyQ.slices_SortFunc Tryd.sortF 2 Tryd.isAgg45 Tryd.sizeOf45 (SpE.enc (W:=W) (blk:=g)) (fun _=>rfl) (fun x v hv=>by
  simp only[SpE.enc,List.mem_cons,List.not_mem_nil,or_false]at hv;rcases hv with rfl|rfl
  ·obtain⟨b,o,c,hv,-⟩:=x.hV;rw[hv];rfl
  ·rfl) SpE.cf SpE.swo 48 #[] g 0 cap d W eg hc hH hg (by omega)
 change Calls Tryd.prog 47 _ _ _ at hcon;refine hcon.mono ?_;rintro e w' ⟨rfl,d',n,os,hp,hs,rfl⟩;exact⟨rfl,d',hp,hs,holdsK_sortWorldK SpE.enc 2 W g 0 n d d' os hg hH hp.1,kept_sort d' os⟩
set_option maxRecDepth 10000 in
theorem ins_nil (w:World) (v:Value):Calls Tryd.prog 81 #[.slice none 0 0, .int .i64 0, .int .i64 0,v] w fun e w'=>e= .returned (.tuple #[])∧Below w.heap.size w w':=by go_enter Tryd.func81,Tryd.ntmps81;have hw1:wrap64 1=1:=wrap_in (by decide) (by decide);go_wp2;refine wp_loop_rounds 1 ?_;rw[rounds_succ];go_wp2;go_end0;exact⟨rfl,Below.refl _ _⟩
set_option maxRecDepth 10000 in
theorem pdq_nil (w:World) (v:Value) (k:Int):Calls Tryd.prog 68 #[.slice none 0 0, .int .i64 0, .int .i64 0, .int .i64 k,v] w fun e w'=>e= .returned (.tuple #[])∧Below w.heap.size w w':=by go_enter Tryd.func68,Tryd.ntmps68;have hw1:wrap64 0=0:=wrap_in (by decide) (by decide);go_wp2;refine wp_loop_rounds 1 ?_;rw[rounds_succ];go_wp2_with (go_at_call 81;fail);refine(ins_nil w v).mono ?_;rintro e w1 ⟨rfl,hb1⟩;have HB:Hid (Below w.heap.size w w1):=hb1;clear hb1;go_wp2;refine bodyPost_ret (results_none rfl _ _ _) rfl ?_;exact⟨rfl,HB.out⟩
set_option maxRecDepth 10000 in
theorem sort_nil (w:World) (v:Value):Calls Tryd.prog 47 #[.slice none 0 0,v] w fun e w'=>e= .returned (.tuple #[])∧Below w.heap.size w w':=by have CL:=fun w=>Tryd.bits_Len 0 w (by decide) (by decide);go_enter Tryd.func47,Tryd.ntmps47;go_wp2_with (go_at_call 61;fail);refine(CL w).mono ?_;rintro e w1 ⟨rfl,rfl⟩;go_wp2_with (go_at_call 68;fail);refine(pdq_nil _ v _).mono ?_;rintro e w2 ⟨rfl,hb2⟩;have HB:Hid (Below w1.heap.size w1 w2):=hb2;clear hb2;go_wp2;go_end0;exact⟨rfl,HB.out⟩
end Go.Proofs.YtffdemplaodbcaaDoor
namespace Go.Rad
open Go Go.RowKit
def vsOf (tab:List Row) (a:Act):Nat→Value:=fun m=>match tab[m]? with|some r=>a.eval (.tmp r.dst)|none=>undef
section
variable {P:Program} {Q:Exit→Act→World→Prop} {ops:List Oper}
theorem wpI_drawP {F:Fence} {n:Nat} (hfn:∀f,F.fn f) (br:∀(o:Oper) (a:Act) (w:World) (K:Act→World→Prop),(∀c,o.op≠ .defer c)→o.wp P a w K Q→o.wpIn F n P a w K Q) (hnd:∀o,o∈ops→∀c,o.op≠ .defer c) {id:Nat} {a0:Act} {w0:World} (hm:P.follows .mixedOrders=true) (tab:List Row) (al:List Nat) (hok:tabOk ops tab=true)
 (hsz:∀r∈tab,r.dst<a0.tmps.size)
 (Φ:Nat→Value→World→Prop) (W:(Nat→Bool)→World→Prop) (Ext:World→World→Prop)
 (hW:W (fun _=>false) w0.drew) (mono:∀i v w w',Φ i v w→Ext w w'→Φ i v w')
 (Ψ:Nat→(Nat→Value)→World→Prop) (hΨm:∀i vs w w',Ψ i vs w→Ext w w'→Ψ i vs w') (hΨd:∀i vs vs' w,(∀j,(j=i∨j∈ancOf tab i)→vs j=vs' j)→Ψ i vs w→Ψ i vs' w)
 (step:∀i o r,ops[i]? =some o→tab[i]? =some r→∀(L:Nat→Bool) a w,W L w→L i=false→(∀j∈r.preds,L j=true)→(∀j,i∈ancOf tab j→L j=false)→a.defers=a0.defers→(∀j∈r.preds,∀s,tab[j]? =some s→Φ j (a.eval (.tmp s.dst)) w)→
  (∀t∈r.free,a.eval (.tmp t)=a0.eval (.tmp t))→(∀j∈r.preds,Ψ j (vsOf tab a) w)→
  let K:Act→World→Prop:=fun a' w'=>∃v,a'=a.put (some r.dst) v∧Φ i v w'∧W (fun j=>j==i||L j) w'∧Ext w w'∧(i∈al→∀j∈al,j≠i→∀u,Φ j u w→v≠u)∧Ψ i (fun m=>if m=i then v else vsOf tab a m) w'
  if Region.wanted o (yielded ops.toArray a.tmps) then o.wp P a w K Q else K (a.put (some r.dst) undef) w)
 (rest:∀(vs:Nat→Value) (w:World),(∀i,i<tab.length→Φ i (vs i) w)→W (fun j=>decide (j<tab.length)) w→(∀i∈al,∀j∈al,i<tab.length→j<tab.length→i≠j→vs i≠vs j)→(∀i,i<tab.length→Ψ i vs w)→
  wpListIn F n P ops.toArray Q (ops.drop tab.length) (puts a0 tab vs 0) w):
 (Code.region id ops.toArray true).wpIn F n P Q a0 w0:=by
 simp only[tabOk,Bool.and_eq_true,decide_eq_true_eq,List.all_eq_true,List.mem_range,Bool.or_eq_true,List.contains_iff_mem,List.any_eq_true]at hok;obtain⟨⟨⟨⟨hlen,hback⟩,hrows⟩,hchain⟩,hlast⟩:=hok;have rowsOf:∀(i:Nat) (r:Row),tab[i]? =some r→dstOf ops i=some r.dst∧(∀j∈r.preds,j∈edgesOf ops i)∧
  (∀j∈r.anc,j∈edgesOf ops i∨∃p∈edgesOf ops i,p<i∧j∈ancOf tab p)∧(∀j,j<tab.length→j=i∨dstOf ops j≠some r.dst)∧
  (∀t∈r.free,∀j,j<tab.length→dstOf ops j≠some t∨i∈ancOf tab j):=by
  intro i r hr;have hi:i<tab.length:=(List.getElem?_eq_some_iff.1 hr).1;have h:=hrows i hi;simp only[hr,Bool.and_eq_true,List.all_eq_true,List.mem_range,Bool.or_eq_true,List.contains_iff_mem,List.any_eq_true,decide_eq_true_eq,beq_iff_eq,bne_iff_ne]at h;obtain⟨⟨⟨⟨h1,h2⟩,h3⟩,h4⟩,h5⟩:=h;exact⟨h1,h2,h3,h4,h5⟩
 have hdst:∀(i:Nat) (r:Row),tab[i]? =some r→∀(j:Nat) (s:Row),tab[j]? =some s→s.dst=r.dst→j=i:=fun i r hr j s hs he=>by
  rcases(rowsOf i r hr).2.2.2.1 j ((List.getElem?_eq_some_iff.1 hs).1)with h|h
  ·exact h
  ·rw[(rowsOf j s hs).1,he]at h;exact absurd rfl h
 have hopen:∀i,i<ops.length→tab.length<i→i-1∈edgesOf ops i:=fun i hi hk=>by
  rcases hchain i hi with (h|h)|h
  ·omega
  ·omega
  ·exact h
 have finish:∀(listed:Array Bool) (a:Act) (w:World),Stage ops tab al Φ W a0 listed a w→(∀i r,tab[i]? =some r→listed.getD i true=true→Ψ i (vsOf tab a) w)→(∀i,i<tab.length→listed.getD i true=true)→
  wpListIn F n P ops.toArray Q (ops.drop tab.length) a w:=by
  intro listed a w hS hP hall;have hr:=rest (fun i=>match tab[i]? with|some r=>a.eval (.tmp r.dst)|none=>undef) w (fun i hi=>by
   have hg:=List.getElem?_eq_getElem hi;simp only[hg];exact hS.vals i _ hg (hall i hi)) (by
   have e:(fun j=>decide (j<tab.length))=fun j=>listed.getD j false:=funext fun j=>by
    rcases Nat.lt_or_ge j ops.length with hj|hj
    ·have hj':j<listed.size:=(by rw[hS.size];exact hj);have e1:listed.getD j false=listed.getD j true:=(by simp[Array.getD_eq_getD_getElem?,hj']);rw[e1];rcases Nat.lt_or_ge j tab.length with h|h
     ·rw[hall j h];simpa using h
     ·rw[hS.later j h hj];simpa using h
    ·have hj':¬j<listed.size:=(by rw[hS.size];omega);have e2:listed.getD j false=false:=(by simp[Array.getD_eq_getD_getElem?,hj']);rw[e2];simp;omega
   rw[e];exact hS.world) (fun i hi j hj hi' hj' hne=>by
   have hg:=List.getElem?_eq_getElem hi';have hg':=List.getElem?_eq_getElem hj';simp only[hg,hg'];exact hS.apart i hi j hj _ _ hne hg hg' (hall i hi') (hall j hj')) (fun i hi=>hP i _ (List.getElem?_eq_getElem hi) (hall i hi))
  have hae:a=puts a0 tab (fun i=>match tab[i]? with|some r=>a.eval (.tmp r.dst)|none=>undef) 0:=by
   refine act_ext (by rw[puts_defers];exact hS.defers) (by rw[puts_size];exact hS.asize) fun t=>?_;by_cases ht:∃(m:Nat) (r:Row),tab[m]? =some r∧r.dst=t
   ·obtain⟨m,r,hr,rfl⟩:=ht;rw[puts_some tab a0 _ 0 m r hr (fun m' r' h1 h2=>hdst m r hr m' r' h1 h2) (hsz r (List.mem_of_getElem? hr))];simp[hr]
   ·rw[puts_none tab a0 _ 0 t (fun r hr he=>ht (by obtain⟨m,hm⟩:=List.getElem?_of_mem hr;exact⟨m,r,hm,he⟩))];exact hS.other t (fun i r hr _ he=>ht ⟨i,r,hr,he⟩)
  rw[hae];exact hr
 refine wpIn_region_any hm ?_;have key:∀(fuel:Nat) (listed:Array Bool) (a:Act) (w:World),(List.range ops.length).countP (fun i=>!listed.getD i true)≤fuel→
  Stage ops tab al Φ W a0 listed a w→(∀i r,tab[i]? =some r→listed.getD i true=true→Ψ i (vsOf tab a) w)→wpAnyIn F n P .any ops.toArray Q fuel listed a w:=by
  intro fuel
  induction fuel with
  |zero=>
   intro listed a w hc hS hP;have hall:∀i,i<ops.length→listed.getD i true=true:=fun i hi=>by have:=List.countP_eq_zero.1 (Nat.le_zero.1 hc) i (List.mem_range.2 hi);simpa using this
   have hkn:tab.length=ops.length:=by
    rcases Nat.lt_or_ge tab.length ops.length with h|h
    ·have h1:=hS.later _ (Nat.le_refl _) h;rw[hall _ h]at h1;cases h1
    ·omega
   refine any_restI hback tab.length hopen 0 ops.length 0 listed a w (by omega) (by omega) (Nat.le_refl _) hS.size (fun i hi=>by rw[hall i hi];simpa using hi) ?_;have hf:=finish listed a w hS hP (fun i hi=>hall i (by omega))
   rwa [hkn]at hf
  |succ fuel ih=>
   intro listed a w hc hS hP;by_cases hdone:∀i,i<tab.length→listed.getD i true=true
   ·refine any_restI hback tab.length hopen (ops.length-tab.length) tab.length (fuel+1) listed a w (by omega) (by omega) ?_ hS.size (fun i hi=>?_) (finish listed a w hS hP hdone)
    ·refine Nat.le_trans ?_ hc;have h1:(List.range ops.length).countP (fun i=>!decide (i<tab.length))≤(List.range ops.length).countP (fun i=>!listed.getD i true):=List.countP_mono_left fun i hi h=>by have hi':=List.mem_range.1 hi;have h2:tab.length≤i:=(by simpa using h);rw[hS.later i h2 hi'];rfl
     refine Nat.le_trans (Nat.le_of_eq ?_) h1;obtain⟨d,hd⟩:=Nat.exists_eq_add_of_le hlen;rw[hd,List.range_add,List.countP_append];have e1:(List.range tab.length).countP (fun i=>!decide (i<tab.length))=0:=List.countP_eq_zero.2 fun i hi=>by simpa using List.mem_range.1 hi
     have e2:((List.range d).map (tab.length+ ·)).countP (fun i=>!decide (i<tab.length))=d:=(by rw[List.countP_map,List.countP_eq_length.2 (by intro i _;simp),List.length_range]);omega
    ·rcases Nat.lt_or_ge i tab.length with h|h
     ·rw[hdone i h];simpa using h
     ·rw[hS.later i h hi];simpa using h
   ·have hex:∃m,m<tab.length∧listed.getD m true=false:=by
     refine Classical.byContradiction fun hno=>hdone fun i hi=>?_;cases hv:listed.getD i true
     ·exact absurd ⟨i,hi,hv⟩ hno
     ·rfl
    obtain⟨m,hm1,hm2⟩:=hex;refine⟨fun hr=>?_,fun i hi=>?_⟩
    ·exfalso;have hleast:∀i,i<ops.length→listed.getD i true=true:=by
      intro i
      induction i using Nat.strongRecOn with
      |_ i ihi=>
       intro hi;cases hv:listed.getD i true
       ·exfalso;have hop:ops[i]? =some ops[i]:=List.getElem?_eq_getElem hi;have:i∈Region.ready .any ops.toArray listed:=(by refine mem_ready.2 ⟨hv,ops[i],by simpa using hop,fun e he hb=>?_⟩;have hlt:e.on<i:=hback i hi e.on (by unfold edgesOf;rw[hop];exact List.mem_map.2 ⟨e,List.mem_filter.2 ⟨by simpa using he,hb⟩,rfl⟩);have h1:=ihi e.on hlt (by omega);have h2:e.on<listed.size:=(by rw[hS.size];omega);simpa [Array.getD_eq_getD_getElem?,Array.getElem?_eq_getElem h2]using h1);rw[hr]at this;cases this
       ·rfl
     rw[hleast m (by omega)]at hm2;cases hm2
    ·obtain⟨h0,o,ho,hall⟩:=mem_ready.1 hi;have hil:i<ops.length:=(by simpa using (Array.getElem?_eq_some_iff.1 ho).1);have hoi:ops[i]? =some o:=(by simpa using ho);have hpre:∀e∈edgesOf ops i,listed.getD e true=true:=(by intro e he;have hlt:=hback i hil e he;unfold edgesOf at he;rw[hoi]at he;obtain⟨x,hx,rfl⟩:=List.mem_map.1 he;obtain⟨hx1,hb⟩:=List.mem_filter.1 hx;have h2:=hall x (by simpa using hx1) hb;have h3:x.on<listed.size:=(by rw[hS.size];omega);simpa [Array.getD_eq_getD_getElem?,Array.getElem?_eq_getElem h3]using h2);have hik:i<tab.length:=by
      rcases Nat.lt_or_ge i tab.length with h|h
      ·exact h
      ·exfalso;rcases Nat.lt_or_ge tab.length i with h'|h'
       ·have h1:=hpre _ (hopen i hil h');rw[hS.later (i-1) (by omega) (by omega)]at h1;cases h1
       ·have hie:i=tab.length:=(by omega);subst hie;rcases hlast with h1|h1
        ·omega
        ·have h2:listed.getD m true=true:=by
          rcases h1 m hm1 with h3|⟨p,hp,hpk,hmp⟩
          ·exact hpre m h3
          ·unfold ancOf at hmp
           split at hmp
           ·rename_i rp hrp
            exact anc_listed (fun i r hr=>(rowsOf i r hr).2.2.1) hlen hS.closed p rp hrp (hS.closed p (by omega) (hpre p hp)) m hmp
           ·cases hmp
         rw[h2]at hm2;cases hm2
     obtain⟨r,hr⟩:∃r,tab[i]? =some r:=⟨_,List.getElem?_eq_getElem hik⟩;obtain⟨hd,hpreds,_,huniq,hfree⟩:=rowsOf i r hr;have hod:o.dst=some r.dst:=(by unfold dstOf at hd;rw[hoi]at hd;simpa using hd);have hfr:∀t∈r.free,a.eval (.tmp t)=a0.eval (.tmp t):=fun t ht=>hS.other t fun j s hs hlj he=>by
      have hj:j<tab.length:=(List.getElem?_eq_some_iff.1 hs).1;rcases hfree t ht j hj with h1|h1
      ·rw[(rowsOf j s hs).1,he]at h1;exact h1 rfl
      ·unfold ancOf at h1;rw[hs]at h1;have:=anc_listed (fun i r hr=>(rowsOf i r hr).2.2.1) hlen hS.closed j s hs (hS.closed j (by omega) hlj) i h1;rw[h0]at this;cases this
     have hLt:∀j,j<ops.length→listed.getD j false=listed.getD j true:=fun j hj=>by have hj':j<listed.size:=(by rw[hS.size];exact hj);simp[Array.getD_eq_getD_getElem?,hj']
     have hst:=step i o r hoi hr (fun j=>listed.getD j false) a w hS.world (by rw[hLt i hil];exact h0)
      (fun j hj=>by have hj2:=hpreds j hj;have:=hback i hil j hj2;rw[hLt j (by omega)];exact hpre j hj2)
      (fun j hj=>by
       cases hlj:listed.getD j false
       ·rfl
       ·exfalso;have hjn:j<tab.length:=by
         unfold ancOf at hj;split at hj
         ·rename_i s hs;exact(List.getElem?_eq_some_iff.1 hs).1
         ·cases hj
        rw[hLt j (by omega)]at hlj;obtain⟨s,hs⟩:∃s,tab[j]? =some s:=⟨_,List.getElem?_eq_getElem hjn⟩;unfold ancOf at hj;rw[hs]at hj;have:=anc_listed (fun i r hr=>(rowsOf i r hr).2.2.1) hlen hS.closed j s hs (hS.closed j (by omega) hlj) i hj;rw[h0]at this;cases this)
      hS.defers (fun j hj s hs=>hS.vals j s hs (hpre j (hpreds j hj))) hfr (fun j hj=>by have hj2:=hpreds j hj;have hjt:j<tab.length:=(by have:=hback i hil j hj2;omega);exact hP j _ (List.getElem?_eq_getElem hjt) (hpre j hj2))
     have hin:i<listed.size:=(by rw[hS.size];exact hil);have hset:∀j,(listed.setIfInBounds i true).getD j true=(if j=i then true else listed.getD j true):=by
      intro j;by_cases hji:j=i
      ·subst hji;simp[Array.getD_eq_getD_getElem?,hin]
      ·rw[getD_set_ne true (Ne.symm hji),if_neg hji]
     have next:∀a' w',(∃v,a'=a.put (some r.dst) v∧Φ i v w'∧W (fun j=>j==i||listed.getD j false) w'∧Ext w w'∧(i∈al→∀j∈al,j≠i→∀u,Φ j u w→v≠u)∧Ψ i (fun m=>if m=i then v else vsOf tab a m) w')→
      wpAnyIn F n P .any ops.toArray Q fuel (listed.setIfInBounds i true) a' w':=by
      rintro a' w' ⟨v,rfl,hv,hw',hext,hal,hpsi⟩;have hrs:r.dst<a.tmps.size:=(by rw[hS.asize];exact hsz r (List.mem_of_getElem? hr));have hW':W (fun j=>(listed.setIfInBounds i true).getD j false) w':=by
       have e:(fun j=>(listed.setIfInBounds i true).getD j false)=fun j=>j==i||listed.getD j false:=funext fun j=>by
        by_cases hji:j=i
        ·subst hji;simp[Array.getD_eq_getD_getElem?,hin]
        ·rw[getD_set_ne false (Ne.symm hji)];simp[hji]
       rw[e];exact hw'
      have hvs:∀m,vsOf tab (a.put (some r.dst) v) m=if m=i then v else vsOf tab a m:=fun m=>by
       unfold vsOf;by_cases hmi:m=i
       ·subst hmi;rw[hr,if_pos rfl];exact eval_put_same hrs
       ·rw[if_neg hmi];cases hm:tab[m]? with
        |none=>rfl
        |some s=>exact eval_put_other (fun h=>hmi (hdst i r hr m s hm h.symm))
      refine ih _ _ _ ?_ ⟨by simpa using hS.size,?_,?_,hW',hS.defers,by simpa [Act.put]using hS.asize,?_,?_,?_⟩ ?hps
      case hps=>
       intro j s hs hlj;rw[hset]at hlj;by_cases hji:j=i
       ·subst hji;exact hΨd j _ _ _ (fun m _=>(hvs m).symm) hpsi
       ·rw[if_neg hji]at hlj;refine hΨd j (vsOf tab a) _ _ (fun m hm=>?_) (hΨm _ _ _ _ (hP j s hs hlj) hext);rw[hvs,if_neg];intro hmi;rcases hm with h1|h1
        ·omega
        ·unfold ancOf at h1;rw[hs]at h1;have hjn:j<tab.length:=(List.getElem?_eq_some_iff.1 hs).1;have:=anc_listed (fun i r hr=>(rowsOf i r hr).2.2.1) hlen hS.closed j s hs (hS.closed j (by omega) hlj) m h1;rw[hmi,h0]at this;cases this
      ·refine Nat.le_of_lt_succ (Nat.lt_of_lt_of_le (count_set (i:=i) (List.mem_range.2 hil) (by simp[h0]) (by simp[hset]) ?_) hc);intro j hj;rw[hset]at hj
       split at hj
       ·cases hj
       ·exact hj
      ·intro j hj hlj e he;rw[hset]at hlj⊢
       split
       ·rfl
       ·split at hlj
        ·rename_i hji;subst hji;exact hpre e he
        ·exact hS.closed j hj hlj e he
      ·intro j hj1 hj2;rw[hset,if_neg (by omega)];exact hS.later j hj1 hj2
      ·intro j s hs hlj;rw[hset]at hlj;by_cases hji:j=i
       ·subst hji;rw[hr]at hs;obtain rfl:=Option.some.inj hs;rw[eval_put_same hrs];exact hv
       ·rw[if_neg hji]at hlj;rw[eval_put_other (fun h=>hji (hdst i r hr j s hs h.symm))];exact mono _ _ _ _ (hS.vals j s hs hlj) hext
      ·intro t ht;have htr:r.dst≠t:=ht i r hr (by rw[hset,if_pos rfl]);rw[eval_put_other htr];exact hS.other t fun j s hs hlj=>ht j s hs (by rw[hset];split <;> first|rfl|exact hlj)
      ·intro x hx y hy rx ry hne hrx hry hlx hly;rw[hset]at hlx hly;by_cases hxi:x=i
       ·subst hxi;rw[hr]at hrx;obtain rfl:=Option.some.inj hrx;rw[if_neg (Ne.symm hne)]at hly;rw[eval_put_same hrs,eval_put_other (fun h=>hne (hdst y ry hry x r hr h))];exact hal hx y hy (Ne.symm hne) _ (hS.vals y ry hry hly)
       ·rw[if_neg hxi]at hlx;by_cases hyi:y=i
        ·subst hyi;rw[hr]at hry;obtain rfl:=Option.some.inj hry;rw[eval_put_same hrs,eval_put_other (fun h=>hne (hdst y r hr x rx hrx h.symm))];exact(hal hy x hx hne _ (hS.vals x rx hrx hlx)).symm
        ·rw[if_neg hyi]at hly;rw[eval_put_other (fun h=>hxi (hdst i r hr x rx hrx h.symm)),eval_put_other (fun h=>hyi (hdst i r hr y ry hry h.symm))];exact hS.apart x hx y hy rx ry hne hrx hry hlx hly
     unfold wpOpIn;rw[ho];simp only
     split
     ·rename_i hwt
      simp only[hwt,if_true]at hst;exact br o a w _ (hnd o (List.mem_of_getElem? hoi)) (Oper.wp_mono next hst)
     ·rename_i hwt
      simp only[hwt]at hst;exact⟨fun f _=>hfn f,by rw[hod];exact next _ _ hst⟩
 refine key _ _ _ _ (Nat.le_trans (List.countP_le_length) (by simp)) ⟨by simp,?_,?_,?_,rfl,rfl,?_,fun _ _=>rfl,?_⟩ ?hps
 case hps=>intro i r hr h;have:i<ops.length:=(by have:=(List.getElem?_eq_some_iff.1 hr).1;omega);simp[this]at h
 ·intro j hj h;simp[hj]at h
 ·intro j _ hj;simp[hj]
 ·have e:(fun j=>(Array.replicate ops.toArray.size false).getD j false)=fun _=>false:=funext fun j=>by
   simp[Array.getD_eq_getD_getElem?,Array.getElem?_replicate]
   split <;> rfl
  rw[e];exact hW
 ·intro i r hr h;have:i<ops.length:=(by have:=(List.getElem?_eq_some_iff.1 hr).1;omega);simp[this]at h
 ·intro i _ j _ r s _ hr _ h _;have:i<ops.length:=(by have:=(List.getElem?_eq_some_iff.1 hr).1;omega);simp[this]at h
theorem wpF_drawnP {F:Fence} (n:Nat) (hfn:∀f,F.fn f) (br:∀(o:Oper) (a:Act) (w:World) (K:Act→World→Prop),(∀c,o.op≠ .defer c)→o.wp P a w K Q→o.wpIn F n P a w K Q) (hnd:(ops.all fun o=>match o.op with| .defer _=>false|_=>true)=true) {id:Nat} {a0:Act} {w0:World} (hm:P.follows .mixedOrders=true) (tab:List Row) (al:List Nat) (hok:tabOk ops tab=true) (N:Nat) (hN:a0.tmps.size=N)
 (hsz:tab.all (fun r=>decide (r.dst<N))=true)
 (Φ:Nat→Value→World→Prop) (W:(Nat→Bool)→World→Prop) (Ext:World→World→Prop)
 (hW:W (fun _=>false) w0.drew) (mono:∀i v w w',Φ i v w→Ext w w'→Φ i v w')
 (Ψ:Nat→(Nat→Value)→World→Prop) (hΨm:∀i vs w w',Ψ i vs w→Ext w w'→Ψ i vs w') (hΨd:∀i vs vs' w,(∀j,(j=i∨j∈ancOf tab i)→vs j=vs' j)→Ψ i vs w→Ψ i vs' w)
 (step:∀i o r,ops[i]? =some o→tab[i]? =some r→∀(L:Nat→Bool) a w,W L w→L i=false→(∀j∈r.preds,L j=true)→(∀j,i∈ancOf tab j→L j=false)→a.defers=a0.defers→
  (∀j∈r.preds,∀s,tab[j]? =some s→Φ j (a.eval (.tmp s.dst)) w)→(∀t∈r.free,a.eval (.tmp t)=a0.eval (.tmp t))→(∀j∈r.preds,Ψ j (vsOf tab a) w)→
  let K:Act→World→Prop:=fun a' w'=>∃v,a'=a.put (some r.dst) v∧Φ i v w'∧W (fun j=>j==i||L j) w'∧Ext w w'∧(i∈al→∀j∈al,j≠i→∀u,Φ j u w→v≠u)∧Ψ i (fun m=>if m=i then v else vsOf tab a m) w'
  if Region.wanted o (yielded ops.toArray a.tmps) then o.wp P a w K Q else K (a.put (some r.dst) undef) w)
 (rest:∀(vs:Nat→Value) (w:World),(∀i,i<tab.length→Φ i (vs i) w)→W (fun j=>decide (j<tab.length)) w→(∀i∈al,∀j∈al,i<tab.length→j<tab.length→i≠j→vs i≠vs j)→(∀i,i<tab.length→Ψ i vs w)→
  wpListIn F n P ops.toArray Q (ops.drop tab.length) (puts a0 tab vs 0) w):
 (Code.region id ops.toArray true).wpIn F n P Q a0 w0:=
 wpI_drawP hfn br (fun o ho c hc=>by have:=List.all_eq_true.1 hnd o ho;rw[hc]at this;cases this) hm tab al hok (fun r hr=>by have:=List.all_eq_true.1 hsz r hr;rw[hN];simpa using this) Φ W Ext hW mono Ψ hΨm hΨd step rest
theorem wpR_drawnP (l n:Nat) (hnd:(ops.all fun o=>match o.op with| .defer _=>false|_=>true)=true) {id:Nat} {a0:Act} {w0:World} (hm:P.follows .mixedOrders=true) (tab:List Row) (al:List Nat) (hok:tabOk ops tab=true) (N:Nat) (hN:a0.tmps.size=N)
 (hsz:tab.all (fun r=>decide (r.dst<N))=true)
 (Φ:Nat→Value→World→Prop) (W:(Nat→Bool)→World→Prop) (Ext:World→World→Prop)
 (hW:W (fun _=>false) w0.drew) (mono:∀i v w w',Φ i v w→Ext w w'→Φ i v w')
 (Ψ:Nat→(Nat→Value)→World→Prop) (hΨm:∀i vs w w',Ψ i vs w→Ext w w'→Ψ i vs w') (hΨd:∀i vs vs' w,(∀j,(j=i∨j∈ancOf tab i)→vs j=vs' j)→Ψ i vs w→Ψ i vs' w)
 (step:∀i o r,ops[i]? =some o→tab[i]? =some r→∀(L:Nat→Bool) a w,W L w→L i=false→(∀j∈r.preds,L j=true)→(∀j,i∈ancOf tab j→L j=false)→a.defers=a0.defers→
  (∀j∈r.preds,∀s,tab[j]? =some s→Φ j (a.eval (.tmp s.dst)) w)→(∀t∈r.free,a.eval (.tmp t)=a0.eval (.tmp t))→(∀j∈r.preds,Ψ j (vsOf tab a) w)→
  let K:Act→World→Prop:=fun a' w'=>∃v,a'=a.put (some r.dst) v∧Φ i v w'∧W (fun j=>j==i||L j) w'∧Ext w w'∧(i∈al→∀j∈al,j≠i→∀u,Φ j u w→v≠u)∧Ψ i (fun m=>if m=i then v else vsOf tab a m) w'
  if Region.wanted o (yielded ops.toArray a.tmps) then o.wp P a w K Q else K (a.put (some r.dst) undef) w)
 (rest:∀(vs:Nat→Value) (w:World),(∀i,i<tab.length→Φ i (vs i) w)→W (fun j=>decide (j<tab.length)) w→(∀i∈al,∀j∈al,i<tab.length→j<tab.length→i≠j→vs i≠vs j)→(∀i,i<tab.length→Ψ i vs w)→
  wpListIn (Fence.wide.inRound l) n P ops.toArray Q (ops.drop tab.length) (puts a0 tab vs 0) w):
 (Code.region id ops.toArray true).wpIn (Fence.wide.inRound l) n P Q a0 w0:=
 wpF_drawnP n (fun _=>trivial) (fun _ _ _ _ hd h=>opIn_of_wpR hd h) hnd hm tab al hok N hN hsz Φ W Ext hW mono Ψ hΨm hΨd step rest
end
end Go.Rad
