/- A part of the proof: FKa, FM. -/
import Derived.Test.YtffdemplaodbcaaDoorP43
import Derived.Test.YtffdemplaodbcaaDoorP38
set_option linter.all false
namespace Go.Proofs.YtffdemplaodbcaaDoor
open Go Go.Proofs Go.RowKit Go.Rad
open _root_.Rad (CR Prm PD Dv Irr Vl)
inductive GE (P:Nat):List (List Int×Nat)→List (List Int×Nat)→Prop
 |nil:GE P [] []
 |snoc {E G:List (List Int×Nat)} (h:GE P E G) (a:List Int) (n:Nat) (gs:List (List Int)) (hg:Pcs P (mq a) gs) (hp:∀g,g∈gs→Pm P (mq g)) (hq:SqF (mq a:Ap P)) (hl:sz (mq a:Ap P)≤65):GE P (E++[(a,n)]) (G++gs.map fun g=>(g,n))
theorem GE.len {P:Nat} (hP:PrC P) {E G:List (List Int×Nat)} (h:GE P E G):G.length≤65*E.length:=by
 induction h with
 |nil=>exact Nat.le_refl _
 |snoc h a n gs hg hp hq hl ih=>have h1:=(pcs_len hP gs hg.mon).2;rw[←hg.pr]at h1;simp only[List.length_append,List.length_map,List.length_cons,List.length_nil];omega
theorem EM.len {P:Nat} (hP:PrC P) {f0:Ap P} {E:List (List Int×Nat)} {cov:Nat→Prop} (h:EM P f0 E cov) (hl:sz f0≤65):E.length≤65:=by
 have h1:=nd_le (E.map Prod.snd) (List.range 65) h.nd fun n hn=>by obtain⟨⟨a,m⟩,hm,rfl⟩:=List.mem_map.1 hn;obtain⟨h1,h2,h3,h4,h5⟩:=h.mem a m hm;obtain⟨g,hg,hd⟩:=hP.pd.irr_of (a:=(mq a:Ap P)) (by rw[h1.sz];exact h2);have h6:=vl_lt hP hg (h5 g hg hd).1;rw[List.mem_range];show m<65;omega
 rwa [List.length_map,List.length_range]at h1
structure JS (w:World) (P:Nat) (q:Int) (b6 b8 bs B3 B4:Nat) (OL OP:Nat→Prop) (u:Value) (T:List (Value×Int)) (G:List (List Int×Nat)) (W:World):Prop where
 hb:Below w.heap.size w W
 h6:FB W b6 (.int .i64 0) (.int .i64 0)
 h8:FB W b8 (.int .i64 P) (.int .i64 q)
 hs:F1 W bs u
 hu:OWP W B4 u T
 hv:PcV W (T.map Prod.fst) (G.map Prod.fst)
 hn:T.map Prod.snd=G.map fun g=>(g.2:Int)
 hbk:∀v,v∈T.map Prod.fst→∀b,v.ownBlock=some b→B3≤b∧u.ownBlock≠some b∧¬OP b
 ho:∀b,u.ownBlock=some b→¬OL b
 hz:T=[]→u= .slice none 0 0
theorem JS.kept {w:World} {P:Nat} {q:Int} {b6 b8 bs B3 B4:Nat} {OL OP OL' OP' S:Nat→Prop} {u:Value} {T:List (Value×Int)} {G:List (List Int×Nat)} {W W':World} (h:JS w P q b6 b8 bs B3 B4 OL OP u T G W) (hk:Kept S W W')
 (hw:∀k,k<B3→¬S k) (hB:w.heap.size≤B3) (h68:b6<B3∧b8<B3∧bs<B3) (hS:∀b,u.ownBlock=some b→¬S b∧¬OL' b) (hP:∀v,v∈T.map Prod.fst→∀b,v.ownBlock=some b→¬S b∧¬OP' b):JS w P q b6 b8 bs B3 B4 OL' OP' u T G W':=
 ⟨h.hb.trans (hk.below h.hb.size fun k hk=>hw k (by omega)),h.h6.kept hk (hw _ h68.1),h.h8.kept hk (hw _ h68.2.1),h.hs.kept hk (hw _ h68.2.2),h.hu.kept hk fun b hb=>(hS b hb).1,h.hv.kept hk fun v hv b hb=>(hP v hv b hb).1,h.hn,
  fun v hv b hb=>⟨(h.hbk v hv b hb).1,(h.hbk v hv b hb).2.1,(hP v hv b hb).2⟩,fun b hb=>(hS b hb).2,h.hz⟩
theorem JS.add {w:World} {P:Nat} {q:Int} {b6 b8 bs B3 B4:Nat} {OL OP:Nat→Prop} {u u' v:Value} {T:List (Value×Int)} {G:List (List Int×Nat)} {g:List Int} {n:Nat} {W W':World} (h:JS w P q b6 b8 bs B3 B4 OL OP u T G W)
 (hB:w.heap.size≤B3) (hB4:B3≤B4) (h68:b6<B3∧b8<B3∧bs<B3) (hne:b6≠bs∧b8≠bs) (hws:w.heap.size≤bs) (hk:Kept (fun k=>u.ownBlock=some k) W W') (ho:OWP W' B4 u' (T++[(v,(n:Int))])) (hg:∀k,u'.ownBlock=some k→u.ownBlock=some k∨W.heap.size≤k)
 (hV:VC W v g) (hvb:∀b,v.ownBlock=some b→B3≤b∧u.ownBlock≠some b∧¬OP b) (hlt:∀k,OL k→k<W.heap.size):JS w P q b6 b8 bs B3 B4 OL OP u' (T++[(v,(n:Int))]) (G++[(g,n)]) (W'.setCell ⟨bs,0,none⟩ u'):=by
 have hub:∀k,u.ownBlock=some k→B4≤k:=fun k hk=>(h.hu.at hk).1;have hub':∀k,u'.ownBlock=some k→B4≤k:=fun k hk=>(ho.at hk).1;have k2:Kept (fun k=>k=bs) W' (W'.setCell ⟨bs,0,none⟩ u'):=Kept.set (S:=fun k=>k=bs) (Kept.refl _ _) rfl _;have n6:∀k,k<B3→¬u.ownBlock=some k:=fun k hk e=>by have:=hub k e;omega
 refine⟨(h.hb.trans (hk.below h.hb.size fun k hk=>n6 k (by omega))).setCell (p:=⟨bs,0,none⟩) ?_ _,(h.h6.kept hk (n6 _ h68.1)).kept k2 hne.1,(h.h8.kept hk (n6 _ h68.2.1)).kept k2 hne.2,(h.hs.kept hk (n6 _ h68.2.2)).set _,
  ho.kept k2 fun k hk e=>by have:=hub' k hk;omega,?_,by rw[List.map_append,List.map_append,h.hn];rfl,?_,fun b hb=>?_,fun e=>absurd e (by simp)⟩
 ·exact hws
 ·rw[List.map_append,List.map_append];refine(((h.hv.kept hk fun v hv b hb=>(h.hbk v hv b hb).2.1).append (.cons (hV.kept hk fun b hb=>(hvb b hb).2.1) .nil))).kept k2 fun v' hv' b hb e=>?_;rcases List.mem_append.1 hv' with h1|h1
  ·have:=(h.hbk v' h1 b hb).1;omega
  ·have h2:v'=v:=(by simpa using h1);rw[h2]at hb;have:=(hvb b hb).1;omega
 ·intro v' hv' b hb;rw[List.map_append]at hv';have h0:B3≤b∧u.ownBlock≠some b∧¬OP b∧b<W.heap.size:=by
   rcases List.mem_append.1 hv' with h1|h1
   ·exact⟨(h.hbk v' h1 b hb).1,(h.hbk v' h1 b hb).2.1,(h.hbk v' h1 b hb).2.2,h.hv.lt v' h1 b hb⟩
   ·have h2:v'=v:=(by simpa using h1);rw[h2]at hb;exact⟨(hvb b hb).1,(hvb b hb).2.1,(hvb b hb).2.2,hV.lt hb⟩
  refine⟨h0.1,fun e=>?_,h0.2.2.1⟩;rcases hg b e with h1|h1
  ·exact h0.2.1 h1
  ·omega
 ·intro hO;rcases hg b hb with h1|h1
  ·exact h.ho b h1 hO
  ·have:=hlt b hO;omega
end Go.Proofs.YtffdemplaodbcaaDoor
namespace Go.Proofs.YtffdemplaodbcaaDoor
open Go Go.Proofs Go.RowKit Go.Rad
open _root_.Rad (CR Prm PD Dv Irr Vl)
theorem spe_list {W:World} {blk:Nat}:∀(T:List (Value×Int)) (G:List (List Int×Nat)),PcV W (T.map Prod.fst) (G.map Prod.fst)→(T.map Prod.snd=G.map fun g=>(g.2:Int))→(∀v,v∈T.map Prod.fst→∀b,v.ownBlock=some b→b≠blk)→(∀g,g∈G.map Prod.fst→g.length≤65)→
 ∃S:List (SpE W blk),(S.map fun e=>(e.v,e.n))=T∧(S.map fun e=>(e.l,e.n))=G.map fun g=>(g.1,(g.2:Int))
 |[],G,h,_,_,_=>by
  cases G with
  |nil=>exact⟨[],rfl,rfl⟩
  |cons g G=>exact absurd h.len (by simp)
 |t::T,G,h,hn,hb,hl=>by
  cases G with
  |nil=>exact absurd h.len (by simp)
  |cons g G=>
   rw[List.map_cons,List.map_cons]at h hn;cases h with
   |cons hv ht=>obtain⟨S,h1,h2⟩:=spe_list T G ht (by injection hn) (fun v hv=>hb v (List.mem_cons_of_mem _ hv)) (fun g hg=>hl g (List.mem_cons_of_mem _ hg));have e:t.2=(g.2:Int):=(by injection hn);refine⟨⟨t.1,t.2,g.1,hv,hb t.1 (by simp),hl g.1 (by simp)⟩::S,congrArg (t:: ·) h1,?_⟩;show(g.1,t.2)::(S.map fun e=>(e.l,e.n))=(g.1,(g.2:Int))::G.map fun g=>(g.1,(g.2:Int));rw[h2,e]
theorem fl2_get (T:List (Value×Int)):∀(i:Nat) (v:Value) (n:Int),T[i]? =some (v,n)→(fl2 T)[2*i]? =some v∧(fl2 T)[2*i+1]? =some (.int .i64 n):=by
 induction T with
 |nil=>intro i v n h;simp at h
 |cons t T ih=>
  intro i v n h;have e:fl2 (t::T)=t.1::Value.int .i64 t.2::fl2 T:=rfl;rw[e];cases i with
  |zero=>simp at h;subst h;exact⟨rfl,rfl⟩
  |succ i=>have h1:=ih i v n (by simpa using h);exact⟨by rw[show 2*(i+1)=2*i+1+1 by omega];simpa using h1.1,by rw[show 2*(i+1)+1=(2*i+1)+1+1 by omega];simpa using h1.2⟩
theorem OWP.cell {w:World} {B g k n:Nat} {T:List (Value×Int)} (h:OWP w B (.slice (some ⟨g,0,none⟩) n k) T) (hn:n=T.length) {i:Nat} {v:Value} {m:Int} (hi:T[i]? =some (v,m)):
 w.cell? ⟨g,2*i,none⟩=some v∧w.cell? ⟨g,2*i+1,none⟩=some (.int .i64 m)∧w.frozen? ⟨g,2*i,none⟩=false∧w.frozen? ⟨g,2*i+1,none⟩=false:=by
 subst hn;have hil:i<T.length:=(List.getElem?_eq_some_iff.1 hi).1;have h1:=fl2_get T i v m hi;have h2:=World.ownsRow.cellAt h (2*i) (by omega);have h3:=World.ownsRow.cellAt h (2*i+1) (by omega);exact⟨by rw[h2,h1.1],by rw[h3,h1.2],World.ownsRow.frozenAt h _,World.ownsRow.frozenAt h _⟩
theorem OWP.holds {W:World} {B g k:Nat} {S:List (SpE W g)} [Inhabited (SpE W g)] (h:OWP W B (.slice (some ⟨g,0,none⟩) S.length k) (S.map fun e=>(e.v,e.n))):Sort.HoldsK SpE.enc 2 W g 0 S.toArray:=by
 intro j hj;rw[Sort.size_flatK]at hj;have hs:S.toArray.size=S.length:=(by simp);rw[hs]at hj;have hi:j / 2<S.length:=(by omega);have hget:S.toArray[j / 2]! =S[j / 2]:=(by simp[hi]);have hT:(S.map fun e=>(e.v,e.n))[j / 2]? =some (S[j / 2].v,S[j / 2].n):=(by simp[hi]);obtain⟨c1,c2,z1,z2⟩:=h.cell (by simp) hT;rw[Sort.get_flatK _ _ _ _ (by rw[hs];exact hj),hget,Nat.zero_add];rcases Nat.mod_two_eq_zero_or_one j with e|e
 ·have e2:2*(j / 2)=j:=(by omega);rw[e2]at c1 z1;rw[e];exact⟨c1,z1⟩
 ·have e2:2*(j / 2)+1=j:=(by omega);rw[e2]at c2 z2;rw[e];exact⟨c2,z2⟩
theorem OWP.slice {w:World} {B:Nat} {v:Value} {T:List (Value×Int)} (h:OWP w B v T) (h0:0<T.length):∃g k,v= .slice (some ⟨g,0,none⟩) T.length k:=by
 rcases h.2 with⟨hv,h1⟩|⟨g,cap,cur,hv,_⟩
 ·omega
 ·exact⟨g,cap,hv⟩
structure FcL (W:World) (u:Value) (R:List (Value×Int×List Int)):Prop where
 form:∃a k,u= .slice a R.length k∧(0<R.length→∃g,a=some ⟨g,0,none⟩∧g<W.heap.size∧∀(i:Nat) v n l,R[i]? =some (v,n,l)→W.cell? ⟨g,2*i,none⟩=some v∧W.cell? ⟨g,2*i+1,none⟩=some (.int .i64 n))
 vc:∀v n l,(v,n,l)∈R→VC W v l
theorem FcL.kept {W W':World} {u:Value} {R:List (Value×Int×List Int)} {S:Nat→Prop} (h:FcL W u R) (hk:Kept S W W') (hu:∀b,u.ownBlock=some b→¬S b) (hv:∀v n l,(v,n,l)∈R→∀b,v.ownBlock=some b→¬S b):FcL W' u R:=by obtain⟨a,k,he,hf⟩:=h.form;refine⟨⟨a,k,he,fun h0=>?_⟩,fun v n l hm=>(h.vc v n l hm).kept hk (hv v n l hm)⟩;obtain⟨g,hg,hlt,hc⟩:=hf h0;have hn:=hu g (by rw[he,hg];rfl);exact⟨g,hg,Nat.lt_of_lt_of_le hlt hk.size,fun i v n l hi=>⟨(hk.cell hlt hn).trans (hc i v n l hi).1,(hk.cell hlt hn).trans (hc i v n l hi).2⟩⟩
inductive SoP (W:World) (u:Value) (T:List (Value×Int)) (G:List (List Int×Nat)) (w':World):Prop
 |mk (R:List (Value×Int×List Int)) (hL:FcL w' u R) (hp:(R.map fun r=>(r.2.2,r.2.1)).Perm (G.map fun g=>(g.1,(g.2:Int))))
  (hs:∀(i j:Nat) v n l v' n' l',i<j→R[i]? =some (v,n,l)→R[j]? =some (v',n',l')→¬cmpL l' l<0) (hk:Kept (fun k=>u.ownBlock=some k) W w') (hm:∀v n l,(v,n,l)∈R→v∈T.map Prod.fst)
theorem sort_js {w:World} {P:Nat} {q:Int} {b6 b8 bs B3 B4:Nat} {OL OP:Nat→Prop} {u:Value} {T:List (Value×Int)} {G:List (List Int×Nat)} {W:World} (h:JS w P q b6 b8 bs B3 B4 OL OP u T G W) (hl:T.length≤100000) (hg:∀g,g∈G.map Prod.fst→g.length≤65):
 Calls Tryd.prog 47 #[u, .func (.func 48) #[] #[]] W fun e w'=>e= .returned (.tuple #[])∧SoP W u T G w':=by
 rcases Nat.eq_zero_or_pos T.length with h0|h0
 ·have hT:T=[]:=List.length_eq_zero_iff.1 h0;subst hT;have hG:G=[]:=(by have h1:=h.hv.len;simp only[List.map_nil,List.length_nil,List.length_map]at h1;exact List.length_eq_zero_iff.1 h1.symm);subst hG;have hu:u= .slice none 0 0:=h.hz rfl;subst hu;refine(sort_nil W _).mono ?_;rintro e w' ⟨rfl,hb⟩;exact⟨rfl,[],⟨⟨none,0,rfl,fun h=>absurd h (by simp)⟩,fun v n l hm=>by simp at hm⟩,List.Perm.refl _,(fun i j v n l v' n' l' _ hi=>by simp at hi), .of_below hb,fun v n l hm=>by simp at hm⟩
 ·obtain⟨g,k,hu⟩:=h.hu.slice h0;obtain⟨S,h1,h2⟩:=spe_list (blk:=g) T G h.hv h.hn (fun v hv b hb e=>(h.hbk v hv b hb).2.1 (by rw[hu,e];rfl)) hg;have hSl:S.length=T.length:=(by rw[←h1,List.length_map])
  haveI:Inhabited (SpE W g):=⟨S[0]⟩
  have hO:=h.hu;rw[hu,←h1,List.length_map]at hO;have hg2:=(h.hu.at (g:=g) (by rw[hu];rfl)).2;have hsort:=sort_any W g k S.toArray hO.holds hg2 (by simp;omega);have hsz:S.toArray.size=S.length:=(by simp);rw[hsz]at hsort;rw[hu,←hSl];refine hsort.mono ?_;rintro e w' ⟨rfl,d,hp,hs,hH,hk⟩;have hds:d.size=S.length:=(by rw[hp.1,hsz]);have hget:∀i v n l,(d.toList.map fun e=>(e.v,e.n,e.l))[i]? =some (v,n,l)→∃hi:i<d.size,d[i]! =d[i]∧d[i].v=v∧d[i].n=n∧d[i].l=l:=fun i v n l hi=>by have hil:i<d.size:=(by have:=(List.getElem?_eq_some_iff.1 hi).1;simpa using this);refine⟨hil,getElem!_pos d i hil,?_⟩;have h3:(d.toList.map fun e=>(e.v,e.n,e.l))[i]? =some (d[i].v,d[i].n,d[i].l):=(by simp[hil]);rw[h3]at hi;injection hi with hi;injection hi with e1 e2;injection e2 with e2 e3;exact⟨e1,e2,e3⟩
  refine⟨rfl,d.toList.map fun e=>(e.v,e.n,e.l),⟨⟨some ⟨g,0,none⟩,k,by rw[List.length_map,show d.toList.length=S.length from hds],fun _=>⟨g,rfl,Nat.lt_of_lt_of_le hg2 hk.size,fun i v n l hi=>?_⟩⟩,fun v n l hm=>?_⟩,?_,fun i j v n l v' n' l' hij hi hj=>?_,hk.mono fun b hb=>(by rw[hb];rfl),fun v n l hm=>?_⟩
  ·obtain⟨hil,e0,e1,e2,-⟩:=hget i v n l hi;have c1:=(hH (2*i) (by rw[Sort.size_flatK];omega)).1;have c2:=(hH (2*i+1) (by rw[Sort.size_flatK];omega)).1;rw[Sort.get_flatK _ _ _ _ (by omega),Nat.zero_add,show 2*i / 2=i by omega,show 2*i%2=0 by omega,e0]at c1;rw[Sort.get_flatK _ _ _ _ (by omega),Nat.zero_add,show(2*i+1) / 2=i by omega,show(2*i+1)%2=1 by omega,e0]at c2;rw[←e1,←e2];exact⟨c1,c2⟩
  ·obtain⟨e,-,he⟩:=List.mem_map.1 hm;injection he with e1 e2;injection e2 with e2 e3;rw[←e1,←e3];exact e.hV.kept hk e.hb
  ·have h3:=hp.2.2;have e1:d.extract 0 S.toArray.size=d:=(by rw[←hp.1];simp);have e2:S.toArray.extract 0 S.toArray.size=S.toArray:=(by simp);rw[hsz]at e1 e2;rw[e1,e2]at h3;have h4:=h3.map fun e:SpE W g=>(e.l,e.n);rw[←h2];rw[List.map_map];exact h4
  ·obtain⟨hil,e0,-,-,e3⟩:=hget i v n l hi;obtain⟨hjl,f0,-,-,f3⟩:=hget j v' n' l' hj;have h3:=hs i j (Nat.zero_le _) hij (by rw[←hds];exact hjl);rw[e0,f0]at h3;have h5:=of_decide_eq_false h3;rw[←e3,←f3];exact h5
  ·obtain⟨e,hem,he⟩:=List.mem_map.1 hm;injection he with e1 e2;have h3:=hp.2.2;have k1:d.extract 0 S.toArray.size=d:=(by rw[←hp.1];simp);have k2:S.toArray.extract 0 S.toArray.size=S.toArray:=(by simp);rw[hsz]at k1 k2;rw[k1,k2]at h3;have h4:e∈S:=h3.mem_iff.1 hem;rw[←e1,←h1];exact List.mem_map.2 ⟨(e.v,e.n),List.mem_map.2 ⟨e,h4,rfl⟩,rfl⟩
end Go.Proofs.YtffdemplaodbcaaDoor
