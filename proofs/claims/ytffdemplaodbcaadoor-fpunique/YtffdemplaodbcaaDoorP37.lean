/- A part of the proof: ZQ, SPa, CM, TS. -/
import Derived.Test.YtffdemplaodbcaaDoorP33
import Derived.Test.YtffdemplaodbcaaDoorP34
import Derived.Test.YtffdemplaodbcaaDoorP36
import Derived.Sort.Grow
import Derived.Shelf.SlSortCmp.WholeK
import Derived.Shelf.SlGeneric
import Derived.Ground.SlsfProg
import Derived.Test.YtffdemplaodbcaaDoorProg
set_option linter.all false
namespace Go.Proofs.YtffdemplaodbcaaDoor
open Go Go.Proofs Go.RowKit Go.Rad
open _root_.Rad (CR Prm PD Dv Irr Vl)
theorem nd_le {α:Type} [DecidableEq α]:∀(l m:List α),l.Nodup→(∀x,x∈l→x∈m)→l.length≤m.length
 |[],m,_,_=>Nat.zero_le _
 |a::l,m,hn,hs=>by have h1:=List.nodup_cons.1 hn;have ha:=hs a (by simp);have h2:=nd_le l (m.erase a) h1.2 fun x hx=>(List.mem_erase_of_ne (fun e=>h1.1 (by rw[←e];exact hx))).2 (hs x (List.mem_cons_of_mem _ hx));rw[List.length_erase_of_mem ha]at h2;have h3:=List.length_pos_of_mem ha;simp only[List.length_cons];omega
theorem nd_all {α:Type} [DecidableEq α] {l m:List α} (hn:l.Nodup) (hs:∀x,x∈l→x∈m) (hl:m.length≤l.length) {x:α} (hx:x∈m):x∈l:=by
 refine Classical.byContradiction fun h=>?_;have h1:=nd_le (x::l) m (List.nodup_cons.2 ⟨h,hn⟩) fun y hy=>by
  rcases List.mem_cons.1 hy with rfl|h2
  ·exact hx
  ·exact hs y h2
 simp only[List.length_cons]at h1;omega
theorem dv_pr {P:Nat}:∀(gs:List (Ap P)) (i:Nat),i<gs.length→Dv (gs.getD i 1) (CR.pr gs)
 |[],i,h=>by simp at h
 |g::gs,0,_=>(Dv.refl g).mul _
 |g::gs,i+1,h=>(dv_pr gs i (by simpa using h)).lmul g
theorem all_dv {P:Nat}:∀(gs:List (Ap P)) (X:Ap P),SqF (CR.pr gs)→(∀i,i<gs.length→Dv (gs.getD i 1) X)→Dv (CR.pr gs) X
 |[],X,_,_=>⟨X,(CR.one_mul X).symm⟩
 |g::gs,X,hq,h=>by have hq1:SqF (g*CR.pr gs):=hq;obtain⟨a,ha⟩:=h 0 (by simp);have h1:=all_dv gs X hq1.right fun i hi=>h (i+1) (by simpa using hi);have ha:X=g*a:=ha;rw[ha]at h1;obtain⟨b,hb⟩:=Cop.dv hq1.cop h1;exact⟨b,by rw[ha,hb];exact(CR.mul_assoc _ _ _).symm⟩
theorem crt {P:Nat}:∀(gs:List (Ap P)) (cs:List Int),SqF (CR.pr gs)→cs.length=gs.length→∃w:Ap P,∀i,i<gs.length→Dv (gs.getD i 1) (w+ -(mq [cs.getD i 0]))
 |[],_,_,_=>⟨0,fun i h=>by simp at h⟩
 |g::gs,[],_,h=>by simp at h
 |g::gs,c::cs,hq,h=>by
  have hq1:SqF (g*CR.pr gs):=hq;obtain⟨w,hw⟩:=crt gs cs hq1.right (by simpa using h);obtain⟨u,v,e⟩:=hq1.cop;refine⟨mq [c]*(v*CR.pr gs)+w*(u*g),fun i hi=>?_⟩;cases i with
  |zero=>
   show Dv g (mq [c]*(v*CR.pr gs)+w*(u*g)+ -(mq [c]));have e1:(mq [c]:Ap P)=mq [c]*(u*g)+mq [c]*(v*CR.pr gs):=(by rw[←CR.mul_add,e,CR.mul_one]);have e2:mq [c]*(v*CR.pr gs)+w*(u*g)+ -(mq [c])=w*(u*g)+ -(mq [c]*(u*g):Ap P):=by
    conv=>lhs;rhs;rw[e1]
    rw[CR.neg_add_rev];have e3:mq [c]*(v*CR.pr gs)+w*(u*g)+(-(mq [c]*(u*g))+ -(mq [c]*(v*CR.pr gs)):Ap P)=w*(u*g)+ -(mq [c]*(u*g))+(mq [c]*(v*CR.pr gs)+ -(mq [c]*(v*CR.pr gs))):=by
     generalize mq [c]*(v*CR.pr gs)=A;generalize mq [c]*(u*g)=B;generalize w*(u*g)=C
     ac_rfl
    rw[e3,CR.add_neg,CR.add_zero]
   rw[e2,←CR.neg_mul,←CR.add_mul];exact((Dv.refl g).lmul u).lmul _
  |succ i=>
   have hi:i<gs.length:=(by simpa using hi);show Dv (gs.getD i 1) (mq [c]*(v*CR.pr gs)+w*(u*g)+ -(mq [cs.getD i 0]));have h1:=dv_pr gs i hi;have e1:w=w*(u*g)+w*(v*CR.pr gs):=(by rw[←CR.mul_add,e,CR.mul_one]);have e2:mq [c]*(v*CR.pr gs)+w*(u*g)+ -(mq [cs.getD i 0])=(w+ -(mq [cs.getD i 0]))+(mq [c]*(v*CR.pr gs)+ -(w*(v*CR.pr gs)):Ap P):=by
    conv=>rhs;lhs;lhs;rw[e1]
    generalize mq [c]*(v*CR.pr gs)=A;generalize w*(u*g)=B;generalize w*(v*CR.pr gs)=C;generalize -(mq [cs.getD i 0]:Ap P)=D;have e3:B+C+D+(A+ -C)=A+B+D+(C+ -C):=(by ac_rfl);rw[e3,CR.add_neg,CR.add_zero]
   rw[e2,←CR.neg_mul,←CR.add_mul];exact(hw i hi).add ((h1.lmul v).lmul _)
theorem crt_fix {P:Nat} (hP:PrC P) {gs:List (Ap P)} (hq:SqF (CR.pr gs)) {cs:List Int} {w:Ap P} (hw:∀i,i<gs.length→Dv (gs.getD i 1) (w+ -(mq [cs.getD i 0]))):Dv (CR.pr gs) (CR.pw w P+ -w):=by refine all_dv gs _ hq fun i hi=>?_;have h1:=pw_sub (hw i hi) P;rw[mq_fermat hP.pm]at h1;exact dv_chain h1 (dv_symm (hw i hi))
theorem all_count {P:Nat} (hP:PrC P) {f:List Int} {n:Nat} (hf:Mon P f) (hn:f.length=n+1) {M0:Nat→Nat→Int} (hE:EqF P f n M0) {k:Nat} {N:Nat→Nat→Int} {pv:Nat→Nat} {m:Nat} {fr:Nat→Nat} {V:Nat→Nat→Int} (h:FX P n M0 n k N pv m fr V)
 {gs:List (Ap P)} (hgl:gs.length=m) (hpr:mq f=CR.pr gs) (hq:SqF (mq f:Ap P)) (h2:∀i,i<m→2≤sz (gs.getD i 1)) (v:Ap P) (hv:Dv (mq f) (CR.pw v P+ -v)) (i:Nat) (hi:i<m):∃k:Int,Dv (gs.getD i 1) (v+ -(mq [k])):=by
 have hp2:=hP.pm.two;obtain⟨R,hR⟩:∃R:List Int→List Int→Prop,∀cs l,R cs l↔∃(w:Ap P) (x:Nat→Int),(∀i,i<gs.length→Dv (gs.getD i 1) (w+ -(mq [cs.getD i 0])))∧Dv (mq f) (w+ -(mq (lst x n)))∧Sol P n N x∧l=(List.range m).map fun i=>x (fr i)%P:=⟨_,fun _ _=>Iff.rfl⟩;have crd:∀x:Nat→Int,((List.range m).map fun i=>x (fr i)%P)∈allL P m:=fun x=>allL_mem.2 ⟨by simp,fun a ha=>by obtain⟨i,_,rfl⟩:=List.mem_map.1 ha;exact⟨Int.emod_nonneg _ (by omega),Int.emod_lt_of_pos _ (by omega)⟩⟩;have same:∀x x':Nat→Int,Sol P n N x→Sol P n N x'→((List.range m).map fun i=>x (fr i)%P)=((List.range m).map fun i=>x' (fr i)%(P:Int))→(mq (lst x n):Ap P)=mq (lst x' n):=fun x x' h1 h3 h4=>by
  have h5:=h.zer (h1.sub h3 1) fun i hi=>by have h6:=congrArg (fun l=>l.getD i 0) h4;simp[List.getD_eq_getElem?_getD,hi]at h6;show(x (fr i)-1*x' (fr i))%(P:Int)=0;rw[Int.one_mul];exact Int.emod_eq_emod_iff_emod_sub_eq_zero.1 h6
  refine mq_all.2 fun j=>?_;rw[row_lst,row_lst];unfold cut
  split
  ·rename_i hj
   have h6:=h5 j hj;rw[Int.one_mul]at h6;exact Int.emod_eq_emod_iff_emod_sub_eq_zero.2 h6
  ·rfl
 have ex:∀cs,cs∈allL P m→∃l,R cs l:=fun cs hcs=>by obtain⟨w,hw⟩:=crt gs cs (by rw[←hpr];exact hq) (by rw[(allL_mem.1 hcs).1,hgl]);obtain⟨x,hx1,hx2⟩:=hE.sol hP hf hn (v:=w) (by rw[hpr];exact crt_fix hP (by rw[←hpr];exact hq) hw);exact⟨_,(hR _ _).2 ⟨w,x,hw,hx1,h.fwd x hx2,rfl⟩⟩
 have inj:∀cs cs' l,cs∈allL P m→cs'∈allL P m→R cs l→R cs' l→cs=cs':=fun cs cs' l h1 h3 h4 h5=>by
  obtain⟨w,x,hw,hx1,hx2,hl⟩:=(hR _ _).1 h4;obtain⟨w',x',hw',hx1',hx2',hl'⟩:=(hR _ _).1 h5;have h6:=same x x' hx2 hx2' (by rw[←hl,←hl']);have h7:Dv (mq f) (w+ -w'):=dv_chain hx1 (by rw[h6];exact dv_symm hx1');have h8:=allL_mem.1 h1;have h9:=allL_mem.1 h3;refine List.ext_getElem (by rw[h8.1,h9.1]) fun i hi hi'=>?_;have him:i<m:=(by rw[←h8.1];exact hi);have him2:i<gs.length:=(by rw[hgl];exact him);have hgf:Dv (gs.getD i 1) (mq f):=(by rw[hpr];exact dv_pr gs i him2);have h10:=dv_chain (dv_symm (hw i him2)) (dv_chain (hgf.trans h7) (hw' i him2));rw[mq_sub]at h10;have h11:=num_dv hP (h2 i him) h10;have h12:=h8.2 cs[i] (List.getElem_mem hi);have h13:=h9.2 cs'[i] (List.getElem_mem hi');have e1:cs.getD i 0=cs[i]:=(by simp[List.getD_eq_getElem?_getD,hi]);have e2:cs'.getD i 0=cs'[i]:=(by simp[List.getD_eq_getElem?_getD,hi']);rw[e1,e2]at h11;have h14:=Int.emod_eq_emod_iff_emod_sub_eq_zero.2 h11
  rwa [Int.emod_eq_of_lt h12.1 h12.2,Int.emod_eq_of_lt h13.1 h13.2]at h14
 obtain⟨F,hF⟩:∃F:List Int→List Int,∀cs,cs∈allL P m→R cs (F cs):=(by exact⟨fun cs=>Classical.epsilon (R cs),fun cs hcs=>Classical.epsilon_spec (ex cs hcs)⟩);have hnd:((allL P m).map F).Nodup:=(by refine List.pairwise_map.2 ?_;refine(List.Pairwise.imp_of_mem (R:=fun a b=>a≠b) (fun {a b} ha hb hne e=>hne (inj a b (F a) ha hb (hF a ha) ?_)) (allL_nodup P m));rw[e];exact hF b hb);obtain⟨x,hx1,hx2⟩:=hE.sol hP hf hn hv;have hmem:=nd_all (m:=allL P m) hnd (fun l hl=>by obtain⟨cs,hcs,rfl⟩:=List.mem_map.1 hl;obtain⟨_,x',_,_,_,hl'⟩:=(hR _ _).1 (hF cs hcs);rw[hl'];exact crd x') (by rw[List.length_map];exact Nat.le_refl _) (crd x);obtain⟨cs,hcs,he⟩:=List.mem_map.1 hmem;obtain⟨w,x',hw,hx1',hx2',hl'⟩:=(hR _ _).1 (hF cs hcs);have h6:=same x x' (h.fwd x hx2) hx2' (by rw[←hl',he]);have h7:Dv (mq f) (v+ -w):=dv_chain hx1 (by rw[h6];exact dv_symm hx1');have him2:i<gs.length:=(by rw[hgl];exact hi);have hgf:Dv (gs.getD i 1) (mq f):=(by rw[hpr];exact dv_pr gs i him2);exact⟨cs.getD i 0,dv_chain (hgf.trans h7) (hw i him2)⟩
end Go.Proofs.YtffdemplaodbcaaDoor
namespace Go.Proofs.YtffdemplaodbcaaDoor
open Go Go.Proofs Go.RowKit Go.Rad
open _root_.Rad (CR Prm PD Dv Irr Vl)
def VC (w:World) (v:Value) (x:List Int):Prop:=∃b o c,v= .slice (some ⟨b,o,none⟩) x.length c∧x.length≤c∧b<w.heap.size∧AR w b o x.length (fun j=>x.getD j 0)
theorem VC.vw {w:World} {v:Value} {x:List Int} (h:VC w v x):VW w v x:=by obtain⟨b,o,c,hv,hc,hb,hA⟩:=h;exact⟨some ⟨b,o,none⟩,b,o,c,hv,fun _=>rfl,hA⟩
theorem VC.kept {S:Nat→Prop} {w w':World} {v:Value} {x:List Int} (h:VC w v x) (hk:Kept S w w') (hs:∀b,v.ownBlock=some b→¬S b):VC w' v x:=by obtain⟨b,o,c,hv,hc,hb,hA⟩:=h;have hn:=hs b (by rw[hv];rfl);exact⟨b,o,c,hv,hc,Nat.lt_of_lt_of_le hb hk.size,fun i hi=>(hk.cell hb hn).trans (hA i hi)⟩
theorem VC.below {w w':World} {v:Value} {x:List Int} (h:VC w v x) (hb:Below w.heap.size w w'):VC w' v x:=h.kept (.of_below (S:=fun _=>False) hb) fun _ _ h=>h
theorem VC.lt {w:World} {v:Value} {x:List Int} (h:VC w v x) {b:Nat} (hb:v.ownBlock=some b):b<w.heap.size:=by obtain⟨b',o,c,hv,hc,hb',hA⟩:=h;rw[hv]at hb;obtain rfl:b'=b:=(by simpa [Value.ownBlock]using hb);exact hb'
theorem SR.vc {w:World} {B:Nat} {v:Value} {x:List Int} (h:SR w B v x) (h0:0<x.length):VC w v x∧∀b,v.ownBlock=some b→B≤b:=by
 cases h with
 |nil a c hv hx=>rw[hx]at h0;simp at h0
 |row b o c hv h0' hc hb hl hA hz=>refine⟨⟨b,o,c,hv,hc,hl,hA⟩,fun b' hb'=>?_⟩;rw[hv]at hb';obtain rfl:b=b':=(by simpa [Value.ownBlock]using hb');exact hb
theorem VC.md {w:World} {P:Nat} (hP:PrC P) {v:Value} {x:List Int} (h:VC w v x) (hM:Mon P x) (hl:x.length≤1000) {n:Nat} (hn:x.length=n+1):
 ∃b o c,v= .slice (some ⟨b,o,none⟩) (n+1:Nat) c∧MD w (P:Int) b o n c (fun j=>x.getD j 0)∧b<w.heap.size∧lst (fun j=>x.getD j 0) (n+1)=x:=by
 obtain⟨b,o,c,hv,hc,hb,hA⟩:=h;have ht:=hM.one;rw[hn,Nat.add_sub_cancel]at ht;refine⟨b,o,c,by rw[hv,hn],⟨by rw[←hn];exact hA,by omega,fun i _=>hM.isP.bd i,?_,by rw[ht];decide,by omega⟩,hb,by rw[←hn];exact lst_self x⟩;rw[ht];exact Int.one_gcd
inductive PcV (w:World):List Value→List (List Int)→Prop
 |nil:PcV w [] []
 |cons {v:Value} {g:List Int} {us:List Value} {gs:List (List Int)} (h:VC w v g) (t:PcV w us gs):PcV w (v::us) (g::gs)
theorem PcV.kept {S:Nat→Prop} {w w':World} {us:List Value} {gs:List (List Int)} (h:PcV w us gs) (hk:Kept S w w') (hs:∀v,v∈us→∀b,v.ownBlock=some b→¬S b):PcV w' us gs:=by
 induction h with
 |nil=>exact .nil
 |cons h t ih=>exact .cons (h.kept hk (hs _ (by simp))) (ih fun v hv=>hs v (List.mem_cons_of_mem _ hv))
theorem PcV.under {w w':World} {us:List Value} {gs:List (List Int)} (h:PcV w us gs) (hb:Below w.heap.size w w'):PcV w' us gs:=h.kept (.of_below (S:=fun _=>False) hb) fun _ _ _ _ h=>h
theorem PcV.append {w:World} {us us':List Value} {gs gs':List (List Int)} (h:PcV w us gs) (k:PcV w us' gs'):PcV w (us++us') (gs++gs'):=by
 induction h with
 |nil=>exact k
 |cons h t ih=>exact .cons h ih
theorem PcV.len {w:World} {us:List Value} {gs:List (List Int)} (h:PcV w us gs):us.length=gs.length:=by
 induction h with
 |nil=>rfl
 |cons h t ih=>simp[ih]
theorem PcV.get {w:World} {us:List Value} {gs:List (List Int)} (h:PcV w us gs):∀i,i<us.length→∃v g,us[i]? =some v∧gs[i]? =some g∧VC w v g:=by
 induction h with
 |nil=>intro i hi;simp at hi
 |cons h t ih=>
  intro i hi;cases i with
  |zero=>exact⟨_,_,rfl,rfl,h⟩
  |succ i=>obtain⟨v,g,h1,h2,h3⟩:=ih i (by simpa using hi);exact⟨v,g,by simpa using h1,by simpa using h2,h3⟩
theorem PcV.lt {w:World} {us:List Value} {gs:List (List Int)} (h:PcV w us gs):∀v,v∈us→∀b,v.ownBlock=some b→b<w.heap.size:=by
 induction h with
 |nil=>intro v hv;simp at hv
 |cons h t ih=>
  intro v hv b hb;rcases List.mem_cons.1 hv with rfl|h1
  ·exact h.lt hb
  ·exact ih v h1 b hb
structure Pcs (P:Nat) (f:Ap P) (gs:List (List Int)):Prop where
 mon:∀g,g∈gs→Mon P g∧2≤g.length
 pr:f=CR.pr (gs.map fun g=>(mq g:Ap P))
theorem pr_append {A:Type} [CR A]:∀l m:List A,CR.pr (l++m)=CR.pr l*CR.pr m
 |[],m=>(CR.one_mul _).symm
 |a::l,m=>by show a*CR.pr (l++m)=a*CR.pr l*CR.pr m;rw[pr_append l m,CR.mul_assoc]
theorem Pcs.append {P:Nat} {f h:Ap P} {gs hs:List (List Int)} (a:Pcs P f gs) (b:Pcs P h hs):Pcs P (f*h) (gs++hs):=
 ⟨fun g hg=>by
  rcases List.mem_append.1 hg with h1|h1
  ·exact a.mon g h1
  ·exact b.mon g h1,by rw[List.map_append,pr_append,←a.pr,←b.pr]⟩
theorem dv_pr_mem {P:Nat} {g:List Int}:∀ {gs:List (List Int)},g∈gs→Dv (mq g:Ap P) (CR.pr (gs.map fun g=>(mq g:Ap P)))
 |h::gs,hg=>by
  rcases List.mem_cons.1 hg with rfl|h1
  ·exact(Dv.refl _).mul _
  ·exact(dv_pr_mem h1).lmul _
theorem Pcs.dv {P:Nat} {f:Ap P} {gs:List (List Int)} (h:Pcs P f gs) {g:List Int} (hg:g∈gs):Dv (mq g:Ap P) f:=by rw[h.pr];exact dv_pr_mem hg
inductive SpP (w:World) (P:Nat) (fv:Value) (fl vl:List Int) (e:Ending) (w':World):Prop
 |mk (u:Value) (us:List Value) (gs:List (List Int)) (he:e= .returned u) (hb:Below w.heap.size w w') (hO:OWS w' w.heap.size u us) (hL:PcV w' us gs) (hg:Pcs P (mq fl) gs)
  (hc:∀g,g∈gs→∃k:Int,Dv (mq g:Ap P) (mq vl+ -(mq [k]))) (hbk:∀v,v∈us→∀b,v.ownBlock=some b→fv.ownBlock=some b∨w.heap.size≤b) (hnu:∀v,v∈us→∀b,v.ownBlock=some b→u.ownBlock≠some b)
theorem wpListIn_appendSS {F:Fence} {m:Nat} {w:World} {ops:Array Oper} {rest:List Oper} {o:Oper} {a:Act} {Q:Exit→Act→World→Prop} (hgd:o.guard=none) (s x:Operand)
 (ho:o.op= .call {callee:= .builtin .append,args:=#[s,x],argTypes:=#[64,64]}) {B B2:Nat} {v v2:Value} {xs ys:List Value} (hs:a.eval s=v) (hown:OWS w B v xs) (hx:a.eval x=v2) (hown2:OWS w B2 v2 ys) (hy:0<ys.length) (hsl:∀u,u∈ys→u.oneCell'=true)
 (hl:xs.length+ys.length≤1048576) (hB:B≤w.heap.size)
 (h:∀v' w',OWS w' B v' (xs++ys)→Kept (fun g=>v.ownBlock=some g) w w'→(∀g,v'.ownBlock=some g→v.ownBlock=some g∨w.heap.size≤g)→wpListIn F m Tryd.prog ops Q rest (a.put o.dst v') w'):wpListIn F m Tryd.prog ops Q (o::rest) a w:=by
 obtain⟨i,hi0,hi1⟩:=Option.map_eq_some_iff.1 info22;simp only[Prod.mk.injEq]at hi1;obtain⟨z0,z1,z2⟩:=hi1;obtain⟨g7,m7,hv2⟩:∃g7 m7,v2= .slice (some ⟨g7,0,none⟩) ys.length m7:=by
  rcases hown2.2 with⟨hv,h0⟩|⟨g,cap,cur,hv,_⟩
  ·omega
  ·exact⟨g,cap,hv⟩
 have hc:∀j u,ys[j]? =some u→w.cell? ((⟨g7,0,none⟩:Addr).add j)=some u:=fun j u hj=>by
  have hjl:j<ys.length:=(List.getElem?_eq_some_iff.1 hj).1;have h1:=hown2;rw[hv2]at h1;have h2:=World.ownsRow.cellAt h1 j (by omega);have e:(⟨g7,0,none⟩:Addr).add j=⟨g7,j,none⟩:=by
   cases j with
   |zero=>rfl
   |succ j=>simp[Addr.add]
  rw[e,h2,hj]
 obtain⟨g,cap,w',hrun,hrow,hgr,hg,hlt⟩:=run_append_lies (P:=Tryd.prog) w 64 o.type B 22 i (.slice none 0 0) 1 24 Tryd.underlying64 hi0 z0 z1 z2 rfl (by omega) v xs.length _ hown ⟨g7,0,none⟩ ys.length m7 ys (by omega)
  hc hsl hy (by unfold maxLen;omega) (by omega) hB w.heap.size rfl
 refine wpListIn_plain hgd fun K hK=>?_;refine⟨by simp[Oper.about,ho,resolve,Target.leads,Sem.run_pure],?_⟩;rw[Oper.semAt_plain F _ _ (by rw[ho];intro c hc';cases hc')];unfold execOp;simp only[ho,resolve,invoke,builtin,Sem.run_bind,Sem.run_pure,Result.andThen_ok,List.map_toArray,List.map_cons,List.map_nil,hs,hx,hv2,hrun];refine hK _ _ (h _ _ ?_ ⟨hgr.os,hgr.tape,hgr.output,hgr.size,fun k hk hne=>hgr.block k hk fun e=>hne e.symm⟩ fun g' hg'=>?_)
 ·unfold OWS;rw[List.length_append];exact hrow
 ·obtain rfl:g=g':=(by simpa [Value.ownBlock]using hg');exact hg.imp id fun h=>by omega
end Go.Proofs.YtffdemplaodbcaaDoor
namespace Go.Proofs.YtffdemplaodbcaaDoor
open Go Go.Proofs Go.RowKit Go.Rad
def cmpI (a b:Int):Int:=if a<b then -1 else if b<a then 1 else 0
def cmpT (f g:Nat→Int):Nat→Int
 |0=>0
 |n+1=>if f n=g n then cmpT f g n else cmpI (f n) (g n)
def cmpL (f g:List Int):Int:=if f.length=g.length then cmpT (fun j=>f.getD j 0) (fun j=>g.getD j 0) f.length else cmpI f.length g.length
def Dw (w w':World):Prop:=∃q,w'=w.drewN q
theorem Dw.refl (w:World):Dw w w:=⟨0,rfl⟩
theorem Dw.trans {a b c:World} (h:Dw a b) (k:Dw b c):Dw a c:=by obtain⟨m,rfl⟩:=h;obtain⟨n,rfl⟩:=k;exact⟨m+n,World.drewN_drewN _ _ _⟩
theorem Dw.drew {w w':World} (h:Dw w w'):Dw w w'.drew:=by obtain⟨m,rfl⟩:=h;exact⟨m+1,rfl⟩
theorem Dw.cell {w w':World} (h:Dw w w') {p:Addr} (_:p.block<w.heap.size):w'.cell? p=w.cell? p:=by obtain⟨m,rfl⟩:=h;rfl
theorem Dw.below {w w':World} (h:Dw w w'):Below w.heap.size w w':=by obtain⟨m,rfl⟩:=h;exact⟨rfl,rfl,rfl,Nat.le_refl _,fun _ _=>rfl⟩
theorem wrapN {x:Int} (h0: -1≤x) (h:x<1000000):wrap64 x=x:=by
 by_cases h1:x= -1
 ·subst h1;first|rfl|(unfold wrap64;omega)|simp[wrap64]
 ·exact wrap_in (by omega) (by omega)
theorem isNaN_any (w:World) (x:Int):Calls Tryd.prog 89 #[.int .i64 x] w fun e w'=>e= .returned (.bool false)∧w'=w:=by go_enter Tryd.func89,Tryd.ntmps89;go_wp2;refine bodyPost_ret (v:= .bool false) (by simp[results,go_sem,loadVar]) rfl ?_;exact⟨rfl,rfl⟩
theorem cmp_any (w:World) (x y:Int):Calls Tryd.prog 69 #[.int .i64 x, .int .i64 y] w fun e w'=>e= .returned (.int .i64 (cmpI x y))∧w'=w:=by
 have HC:Hid (cmpI x y=if x<y then -1 else if y<x then 1 else 0):=rfl;go_enter Tryd.func69,Tryd.ntmps69;go_wp2_with (go_at_call 89;fail);refine(isNaN_any w x).mono ?_;rintro e w1 ⟨rfl,rfl⟩;go_wp2_with (go_at_call 89;fail);refine(isNaN_any _ y).mono ?_;rintro e w2 ⟨rfl,rfl⟩;by_cases h1:x<y
 ·have e1:cmpI x y= -1:=(by rw[HC.out,if_pos h1]);go_wp2;refine bodyPost_ret (v:= .int .i64 (-1)) (by simp[results,go_sem,loadVar]) rfl ?_;exact⟨by rw[e1],rfl⟩
 ·by_cases h2:y<x
  ·have e1:cmpI x y=1:=(by rw[HC.out,if_neg h1,if_pos h2]);go_wp2;refine bodyPost_ret (v:= .int .i64 1) (by simp[results,go_sem,loadVar]) rfl ?_;exact⟨by rw[e1],rfl⟩
  ·have e1:cmpI x y=0:=(by rw[HC.out,if_neg h1,if_neg h2]);go_wp2;refine bodyPost_ret (v:= .int .i64 0) (by simp[results,go_sem,loadVar]) rfl ?_;exact⟨by rw[e1],rfl⟩
set_option maxRecDepth 10000 in
set_option maxHeartbeats 2000000 in
theorem compare_any (w:World) (v1 v2:Value) (f g:List Int) (h1:VW w v1 f) (h2:VW w v2 g) (hl:f.length≤1000) (hl2:g.length≤1000):Calls Tryd.prog 49 #[v1,v2] w fun e w'=>e= .returned (.int .i64 (cmpL f g))∧Dw w w':=by
 obtain⟨a1,b1,o1,c1,hv1,ha1,hA1⟩:=h1;obtain⟨a2,b2,o2,c2,hv2,ha2,hA2⟩:=h2;obtain⟨L1,hL1⟩:∃L,L=f.length:=⟨_,rfl⟩;obtain⟨L2,hL2⟩:∃L,L=g.length:=⟨_,rfl⟩;obtain⟨F,hF⟩:∃F:Nat→Int,F=fun j=>f.getD j 0:=⟨_,rfl⟩;obtain⟨G,hG⟩:∃G:Nat→Int,G=fun j=>g.getD j 0:=⟨_,rfl⟩;rw[←hL1]at hv1 ha1 hA1 hl;rw[←hL2]at hv2 ha2 hA2 hl2;rw[←hF]at hA1;rw[←hG]at hA2;have HC:Hid (cmpL f g=if L1=L2 then cmpT F G L1 else cmpI L1 L2):=(by show cmpL f g=_;unfold cmpL;rw[hL1,hL2,hF,hG]);have HA1:Hid (AR w b1 o1 L1 F):=hA1;have HA2:Hid (AR w b2 o2 L2 G):=hA2;have HR1:Hid ((0<L1→a1=some ⟨b1,o1,none⟩)∧(0<L2→a2=some ⟨b2,o2,none⟩)):=⟨ha1,ha2⟩;subst hv1;subst hv2;clear hL1 hL2 hF hG hA1 hA2 ha1 ha2;by_cases hne:L1=L2
 ·subst hne;have HC2:Hid (cmpL f g=cmpT F G L1):=(by have h:=HC.out;rw[if_pos rfl]at h;exact h);have hli:(L1:Int)≤1000:=(by omega);have hsub:wrap64 ((L1:Int)-1)=(L1:Int)-1:=wrapN (by omega) (by omega);go_enter Tryd.func49,Tryd.ntmps49;go_wp2;go_loopw [5] (fun i wr=>∃n:Nat,i= .int .i64 ((n:Int)-1)∧n≤L1∧cmpT F G n=cmpT F G L1∧Dw w wr) (fun i _=>(Lib.intOf i+1).toNat)
  case atStart=>exact⟨L1,by first|rfl|(rw[hsub]),Nat.le_refl _,rfl,Dw.refl _⟩
  case round=>
   obtain⟨n,rfl,hn,hc,hB⟩:=hrel;have HB:Hid (Dw w wr):=hB;have HC3:Hid (cmpT F G n=cmpT F G L1):=hc;clear hB hc;cases n with
   |zero=>have hi0:((0:Nat):Int)-1= -1:=rfl;have HE:Hid (cmpL f g=0):=(by rw[HC2.out,←HC3.out];rfl);rw[hi0];go_wp2;refine bodyPost_ret (v:= .int .i64 0) (by simp[results,go_sem,loadVar]) rfl ?_;exact⟨by rw[HE.out],HB.out⟩
   |succ m=>
    have hi1:((m+1:Nat):Int)-1=(m:Int):=(by omega);rw[hi1];have hg1:=HR1.out.1 (by omega);have hg2:=HR1.out.2 (by omega);subst hg1;subst hg2;have hm0:¬((m:Int)<0):=(by omega);have hml:(m:Int)<(L1:Int):=(by omega);have ca:=(HB.out.cell (p:=⟨b1,o1+m,none⟩) (block_lt (HA1.out m hn))).trans (HA1.out m hn);have cb:=(HB.out.cell (p:=⟨b2,o2+m,none⟩) (block_lt (HA2.out m hn))).trans (HA2.out m hn);obtain⟨X,hX⟩:∃x,x=F m:=⟨_,rfl⟩;obtain⟨Y,hY⟩:∃x,x=G m:=⟨_,rfl⟩;rw[←hX]at ca;rw[←hY]at cb;have HXY:Hid (X=F m∧Y=G m):=⟨hX,hY⟩;have HCE:Hid (cmpT F G (m+1)=if X=Y then cmpT F G m else cmpI X Y):=(by rw[hX,hY];rfl);clear hX hY hi1;have hw5:wrap64 ((m:Int)-1)=(m:Int)-1:=wrapN (by omega) (by omega);by_cases hxy:X=Y
    ·subst hxy;have HC4:Hid (cmpT F G m=cmpT F G L1):=(by show _=_;have h:=HCE.out;rw[if_pos rfl]at h;rw[←h,HC3.out]);go_upto_region 6 with fail;go_region
     all_goals
      go_wp2
      try rw[hw5]
      exact⟨⟨m,rfl,by omega,HC4.out,by first|exact HB.out|exact HB.out.drew⟩,by simp only[Lib.intOf];omega⟩
    ·have hxd:decide (X=Y)=false:=decide_eq_false hxy;have HC4:Hid (cmpL f g=cmpI X Y):=(by show _=_;have h:=HCE.out;rw[if_neg hxy]at h;rw[HC2.out,←HC3.out,h]);have hxb:(X !=Y)=true:=(by simpa using hxy);go_upto_region 6 with fail;go_region
     all_goals
      have la:b1<wr.heap.size:=block_lt ca;have lb:b2<wr.heap.size:=block_lt cb;obtain⟨wz,hwz⟩:∃x,x=wr.drew:=⟨_,rfl⟩;have ca7:wz.cell? ⟨b1,o1+m,none⟩=some (.int .i64 X):=(by rw[hwz];exact ca);have cb7:wz.cell? ⟨b2,o2+m,none⟩=some (.int .i64 Y):=(by rw[hwz];exact cb);have la7:b1<wz.heap.size:=(by rw[hwz];exact la);have lb7:b2<wz.heap.size:=(by rw[hwz];exact lb);have HBz:Hid (Dw w wz):=(by show Dw _ _;rw[hwz];first|exact HB.out.drew|exact HB.out);go_upto_region 7 with fail
      first|rw[←hwz]|skip
      refine wp_drawn mixed [⟨32,[],[],[0]⟩,⟨33,[],[],[5]⟩,⟨34,[0,1],[0,1],[]⟩,⟨35,[2],[0,1,2],[]⟩,⟨36,[],[],[1]⟩,⟨37,[],[],[5]⟩,⟨38,[4,5],[4,5],[]⟩,⟨39,[6],[4,5,6],[]⟩,⟨40,[3,7],[0,1,2,3,4,5,6,7],[]⟩] [] (by kernel_rfl) 41 rfl (by kernel_rfl) (fun (i:Nat) (v:Value) (wq:World)=>match i with|0=>v= .slice (some ⟨b1,o1,none⟩) (L1) (c1)|1=>v= .int .i64 ((m:Int))|2=>v= .pointer (some ⟨b1,o1+m,none⟩)|3=>v= .int .i64 (X)|4=>v= .slice (some ⟨b2,o2,none⟩) (L1) (c2)|5=>v= .int .i64 ((m:Int))|6=>v= .pointer (some ⟨b2,o2+m,none⟩)|7=>v= .int .i64 (Y)|8=>v= .int .i64 (cmpI X Y)|_=>True) (fun _ wq=>Dw wz wq) (fun wx wy=>Dw wx wy) (Dw.refl _).drew (fun i v wx wy h hx=>match i,h with|0,h=>h|1,h=>h|2,h=>h|3,h=>h|4,h=>h|5,h=>h|6,h=>h|7,h=>h|8,h=>h|n+9,_=>trivial) ?_ ?_
      ·intro i o r ho hr L fr wx hW hL hpr hds hdef hpre hfree;clear hL hpr hds hdef
       match i,ho,hr with
       |0,ho,hr=>?_
       |1,ho,hr=>?_
       |2,ho,hr=>?_
       |3,ho,hr=>?_
       |4,ho,hr=>?_
       |5,ho,hr=>?_
       |6,ho,hr=>?_
       |7,ho,hr=>?_
       |8,ho,hr=>obtain rfl:=Option.some.inj ho;obtain rfl:=Option.some.inj hr;have e3:=ev_tmp (show fr.eval (.tmp 35)= .int .i64 (X)from hpre 3 (by decide) _ rfl);have e7:=ev_tmp (show fr.eval (.tmp 39)= .int .i64 (Y)from hpre 7 (by decide) _ rfl);clear hpre hfree;refine stpK rfl rfl fun K hK=>?_;go_simp;refine(cmp_any wx X Y).mono ?_;rintro e wy ⟨rfl,rfl⟩;exact hK _ _ ⟨rfl,hW,Dw.refl _,fun h=>(List.not_mem_nil h).elim⟩
       |n+9,ho,hr=>exact absurd hr (by simp)
       all_goals
        obtain rfl:=Option.some.inj ho;obtain rfl:=Option.some.inj hr;simp only[List.mem_cons,List.not_mem_nil,or_false,false_imp_iff,implies_true,forall_eq_or_imp,forall_eq,List.getElem?_cons_zero,List.getElem?_cons_succ,Option.some.injEq,forall_eq',evt]at hpre hfree;have c0:=(hW.cell (p:=⟨b1,o1+m,none⟩) la7).trans ca7;have c1:=(hW.cell (p:=⟨b2,o2+m,none⟩) lb7).trans cb7;refine stpK rfl rfl fun K hK=>?_ <;> (go_simp;exact hK _ _ ⟨rfl,hW,Dw.refl _,fun h=>(List.not_mem_nil h).elim⟩)
      ·intro vs wm hvs hW1 hap0;clear hap0;have e0:vs 0= .slice (some ⟨b1,o1,none⟩) (L1) (c1):=hvs 0 (by decide);have e1:vs 1= .int .i64 ((m:Int)):=hvs 1 (by decide);have e2:vs 2= .pointer (some ⟨b1,o1+m,none⟩):=hvs 2 (by decide);have e3:vs 3= .int .i64 (X):=hvs 3 (by decide);have e4:vs 4= .slice (some ⟨b2,o2,none⟩) (L1) (c2):=hvs 4 (by decide);have e5:vs 5= .int .i64 ((m:Int)):=hvs 5 (by decide);have e6:vs 6= .pointer (some ⟨b2,o2+m,none⟩):=hvs 6 (by decide);have e7:vs 7= .int .i64 (Y):=hvs 7 (by decide);have e8:vs 8= .int .i64 (cmpI X Y):=hvs 8 (by decide);simp only[puts,Nat.reduceAdd,e0,e1,e2,e3,e4,e5,e6,e7,e8,Act.put,List.setIfInBounds_toArray,List.set_cons_zero,List.set_cons_succ,List.drop_succ_cons,List.drop_zero,List.length_cons,List.length_nil];clear hvs e0 e1 e2 e3 e4 e5 e6 e7 e8;have HBm:Hid (Dw w wm):=HBz.out.trans (hW1);clear hW1;go_wp2;refine bodyPost_ret (v:= .int .i64 (cmpI X Y)) (by simp[results,go_sem,loadVar]) rfl ?_;exact⟨by rw[HC4.out],HBm.out⟩
 ·have hnei:¬((L1:Int)=(L2:Int)):=fun e=>hne (by omega);have hd1:decide ((L1:Int)=(L2:Int))=false:=decide_eq_false hnei;have HC2:Hid (cmpL f g=cmpI L1 L2):=(by have h:=HC.out;rw[if_neg hne]at h;exact h);clear hne;go_enter Tryd.func49,Tryd.ntmps49;go_wp2_with (go_at_call 69;fail);refine(cmp_any _ (L1:Int) (L2:Int)).mono ?_;rintro e w1 ⟨rfl,rfl⟩;go_wp2;refine bodyPost_ret (v:= .int .i64 (cmpI L1 L2)) (by simp[results,go_sem,loadVar]) rfl ?_;exact⟨by rw[HC2.out],Dw.refl _⟩
set_option maxRecDepth 10000 in
theorem less1_any (w:World) (v1 v2:Value) (n1 n2:Int) (f g:List Int) (h1:VW w v1 f) (h2:VW w v2 g) (hl:f.length≤1000) (hl2:g.length≤1000):Calls Tryd.prog 48 #[.agg #[v1, .int .i64 n1], .agg #[v2, .int .i64 n2]] w fun e w'=>e= .returned (.int .i64 (cmpL f g))∧∃q os',w'=Sort.grow (w.drewN q) os':=by
 have HV1:Hid (VW w v1 f):=h1;have HV2:Hid (VW w v2 g):=h2;obtain⟨a1,b1,o1,c1,hv1,-⟩:=h1;obtain⟨a2,b2,o2,c2,hv2,-⟩:=h2;obtain⟨L1,hL1⟩:∃L,L=f.length:=⟨_,rfl⟩;obtain⟨L2,hL2⟩:∃L,L=g.length:=⟨_,rfl⟩;rw[←hL1]at hv1;rw[←hL2]at hv2;subst hv1;subst hv2;have HLL:Hid (f.length≤1000∧g.length≤1000):=⟨hl,hl2⟩;clear hL1 hL2 hl hl2;go_enter Tryd.func48,Tryd.ntmps48;go_upto_region 1 with fail;refine wp_world (fun w1=>(Below w.heap.size w w1∧∃os',w1=Sort.grow w os')∧FB w1 w.heap.size (.slice a1 L1 c1) (.int .i64 n1)∧FB w1 (w.heap.size+1) (.slice a2 L2 c2) (.int .i64 n2)) ⟨⟨bel2 _ _ _,_,by rw[Sort.alloc_eq_grow,Sort.alloc_eq_grow,Sort.grow_grow]⟩,(FB.mk0 w (.slice a1 L1 c1) (.int .i64 n1) 45).alloc _,?_⟩ ?_
 ·have h:=FB.mk0 (w.alloc (Obj.cells #[.slice a1 L1 c1, .int .i64 n1] 45)) (.slice a2 L2 c2) (.int .i64 n2) 45
  rwa [World.size_alloc]at h
 rintro w1 ⟨⟨hB1,hG1⟩,hK1,hK2⟩;have HG1:Hid (∃os',w1=Sort.grow w os'):=hG1;obtain⟨k1,hk1⟩:∃x,x=w.heap.size:=⟨_,rfl⟩;obtain⟨k2,hk2⟩:∃x,x=w.heap.size+1:=⟨_,rfl⟩;have HB1:Hid (Below w.heap.size w w1):=hB1;rw[←hk2]at hK2⊢;rw[←hk1]at hK1⊢;obtain⟨l1,x0,x1,z0,z1⟩:=hK1;obtain⟨l2,y0,y1,z2,z3⟩:=hK2;clear hB1 hG1 hk1 hk2;go_wp2_with (go_at_call 49;fail);refine(compare_any w1 _ _ f g (HV1.out.below HB1.out) (HV2.out.below HB1.out) HLL.out.1 HLL.out.2).mono ?_;rintro e w2 ⟨rfl,hb2⟩;have HB2:Hid (∃q os',w2=Sort.grow (w.drewN q) os'):=(by obtain⟨q,hq⟩:=hb2;obtain⟨os',ho⟩:=HG1.out;exact⟨q,os',by rw[hq,ho];rfl⟩);clear hb2;go_wp2;refine bodyPost_ret (v:= .int .i64 (cmpL f g)) (by simp[results,go_sem,loadVar]) rfl ?_;exact⟨rfl,HB2.out⟩
end Go.Proofs.YtffdemplaodbcaaDoor
namespace Go.Proofs
open Go.Shelf
def Tryd.sortF_ren:Go.Shelf.Ren:=⟨fun|6=>47|15=>61|14=>68|28=>76|29=>77|20=>81|21=>82|22=>83|23=>84|24=>85|25=>86|26=>87|27=>88|46=>103|47=>104|48=>105|49=>106|50=>107|57=>111|n=>n,fun|22=>38|24=>45|25=>68|3=>3|39=>75|0=>0|53=>85|55=>87|4=>4|46=>93|45=>92|50=>97|5=>5|9=>9|66=>104|70=>108|76=>114|77=>115|n=>n,fun|n=>n⟩
theorem Tryd.sortF:Go.Proofs.SlLaysF0.n6 Tryd.prog Tryd.sortF_ren:={
 mixed:=by kernel_rfl
 f6:=⟨Tryd.f47.name,by decide,Tryd.func47.trans (congrArg some (by kernel_rfl))⟩
 f14:=⟨Tryd.f68.name,by decide,Tryd.func68.trans (congrArg some (by kernel_rfl))⟩
 f15:=Tryd.func61.trans (congrArg some (by kernel_rfl))
 f20:=⟨Tryd.f81.name,by decide,Tryd.func81.trans (congrArg some (by kernel_rfl))⟩
 f21:=⟨Tryd.f82.name,by decide,Tryd.func82.trans (congrArg some (by kernel_rfl))⟩
 f22:=⟨Tryd.f83.name,by decide,Tryd.func83.trans (congrArg some (by kernel_rfl))⟩
 f23:=⟨Tryd.f84.name,by decide,Tryd.func84.trans (congrArg some (by kernel_rfl))⟩
 f24:=⟨Tryd.f85.name,by decide,Tryd.func85.trans (congrArg some (by kernel_rfl))⟩
 f25:=⟨Tryd.f86.name,by decide,Tryd.func86.trans (congrArg some (by kernel_rfl))⟩
 f26:=⟨Tryd.f87.name,by decide,Tryd.func87.trans (congrArg some (by kernel_rfl))⟩
 f27:=⟨Tryd.f88.name,by decide,Tryd.func88.trans (congrArg some (by kernel_rfl))⟩
 f28:=Tryd.func76.trans (congrArg some (by kernel_rfl))
 f29:=Tryd.func77.trans (congrArg some (by kernel_rfl))
 f46:=⟨Tryd.f103.name,by decide,Tryd.func103.trans (congrArg some (by kernel_rfl))⟩
 f47:=Tryd.func104.trans (congrArg some (by kernel_rfl))
 f48:=Tryd.func105.trans (congrArg some (by kernel_rfl))
 f49:=⟨Tryd.f106.name,by decide,Tryd.func106.trans (congrArg some (by kernel_rfl))⟩
 f50:=⟨Tryd.f107.name,by decide,Tryd.func107.trans (congrArg some (by kernel_rfl))⟩
 f57:=⟨Tryd.f111.name,by decide,Tryd.func111.trans (congrArg some (by kernel_rfl))⟩
 t0:=Tryd.underlying0
 a0:=Tryd.isAgg0
 z0:=Tryd.sizeOf0
 v0:=Tryd.zeroValue0
 t3:=Tryd.underlying3
 a3:=Tryd.isAgg3
 z3:=Tryd.sizeOf3
 v3:=Tryd.zeroValue3
 t4:=Tryd.underlying4
 a4:=Tryd.isAgg4
 z4:=Tryd.sizeOf4
 v4:=Tryd.zeroValue4
 t5:=Tryd.underlying5
 a5:=Tryd.isAgg5
 z5:=Tryd.sizeOf5
 v5:=Tryd.zeroValue5
 t9:=Tryd.underlying9
 a9:=Tryd.isAgg9
 z9:=Tryd.sizeOf9
 v9:=Tryd.zeroValue9
 t22:=Tryd.underlying38
 a22:=Tryd.isAgg38
 z22:=Tryd.sizeOf38
 v22:=Tryd.zeroValue38
 t25:=Tryd.underlying68
 a25:=Tryd.isAgg68
 z25:=Tryd.sizeOf68
 v25:=Tryd.zeroValue68
 t39:=Tryd.underlying75
 a39:=Tryd.isAgg75
 z39:=Tryd.sizeOf75
 v39:=Tryd.zeroValue75
 t45:=Tryd.underlying92
 a45:=Tryd.isAgg92
 z45:=Tryd.sizeOf92
 v45:=Tryd.zeroValue92
 t46:=Tryd.underlying93
 a46:=Tryd.isAgg93
 z46:=Tryd.sizeOf93
 v46:=Tryd.zeroValue93
 t50:=Tryd.underlying97
 a50:=Tryd.isAgg97
 z50:=Tryd.sizeOf97
 v50:=Tryd.zeroValue97
 t53:=Tryd.underlying85
 a53:=Tryd.isAgg85
 z53:=Tryd.sizeOf85
 v53:=Tryd.zeroValue85
 t55:=Tryd.underlying87
 a55:=Tryd.isAgg87
 z55:=Tryd.sizeOf87
 v55:=Tryd.zeroValue87
 t66:=Tryd.underlying104
 a66:=Tryd.isAgg104
 z66:=Tryd.sizeOf104
 v66:=Tryd.zeroValue104
 t70:=Tryd.underlying108
 a70:=Tryd.isAgg108
 z70:=Tryd.sizeOf108
 v70:=Tryd.zeroValue108
 t76:=Tryd.underlying114
 a76:=Tryd.isAgg114
 z76:=Tryd.sizeOf114
 v76:=Tryd.zeroValue114
 t77:=Tryd.underlying115
 a77:=Tryd.isAgg115
 z77:=Tryd.sizeOf115
 v77:=Tryd.zeroValue115}
end Go.Proofs
