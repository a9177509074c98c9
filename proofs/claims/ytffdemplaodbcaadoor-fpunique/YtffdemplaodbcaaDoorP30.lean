/- A part of the proof: ZN, ZO, MA. -/
import Derived.Test.YtffdemplaodbcaaDoorP29
import Derived.Test.YtffdemplaodbcaaDoorP17
set_option linter.all false
namespace Rad
namespace CR
variable {A:Type} [CR A]
theorem synth (t0:A):∀(l:List A) (n:Nat),l.length=n+2→l.getLast? =some 1→∃(e:A) (k:List A),k.length=n+1∧k.getLast? =some 1∧∀t,ev l t=e+(t+ -t0)*ev k t
 |[],n,h,_=>by simp at h
 |a::l,n,h,hl=>by
  rcases Nat.eq_zero_or_pos n with h0|h0
  ·subst h0;obtain⟨b,rfl⟩:∃b,l=[b]:=by
    match l,h with
    |[b],_=>exact⟨b,rfl⟩
   simp at hl;subst hl;refine⟨a+t0,[1],rfl,rfl,fun t=>?_⟩;show a+t*(1+t*0)=a+t0+(t+ -t0)*(1+t*0);rw[mul_zero,add_zero,mul_one,mul_one,add_assoc,add_left_comm t0 t,add_neg,add_zero]
  ·obtain⟨m,rfl⟩:∃m,n=m+1:=⟨n-1,by omega⟩;have h1:l.length=m+2:=(by simpa using h);have h2:l.getLast? =some 1:=by
    rw[List.getLast?_cons]at hl;cases hg:l.getLast? with
    |none=>rw[List.getLast?_eq_none_iff]at hg;rw[hg]at h1;simp at h1
    |some b=>rw[hg]at hl;simpa using hl
   obtain⟨e,k,hk,hkl,he⟩:=synth t0 l m h1 h2;refine⟨a+t0*e,e::k,by simp[hk],by rw[List.getLast?_cons,hkl];rfl,fun t=>?_⟩;show a+t*ev l t=a+t0*e+(t+ -t0)*(e+t*ev k t);rw[he,mul_add,mul_add,add_mul t (-t0) e,neg_mul];have e1:t0*e+(t*e+ -(t0*e)+(t+ -t0)*(t*ev k t))=t*e+(t+ -t0)*(t*ev k t):=(by rw[add_assoc,add_left_comm,←add_assoc (t0*e),add_neg,zero_add]);rw[add_assoc,e1];congr 2
   ac_rfl
theorem by_roots:∀(cs l:List A),l.length=cs.length+1→l.getLast? =some 1→cs.Pairwise (fun c d=>∃u,u*(d+ -c)=1)→(∀c,c∈cs→ev l c=0)→∀t,ev l t=pr (cs.map fun c=>t+ -c)
 |[],l,h,hl,_,_,t=>by
  obtain⟨b,rfl⟩:∃b,l=[b]:=by
   match l,h with
   |[b],_=>exact⟨b,rfl⟩
  simp at hl;subst hl;show 1+t*0=1;rw[mul_zero,add_zero]
 |c::cs,l,h,hl,hp,hr,t=>by
  obtain⟨e,k,hk,hkl,he⟩:=synth c l cs.length (by simpa using h) hl;have e0:e=0:=(by have h1:=he c;rw[hr c (by simp),add_neg,zero_mul,add_zero]at h1;exact h1.symm);subst e0;obtain⟨hp1,hp2⟩:=List.pairwise_cons.1 hp;have h2:=by_roots cs k hk hkl hp2 fun d hd=>by
   have h3:=he d;rw[hr d (List.mem_cons_of_mem _ hd),zero_add]at h3;obtain⟨u,hu⟩:=hp1 d hd;have h4:u*((d+ -c)*ev k d)=0:=(by rw[←h3,mul_zero])
   rwa [←mul_assoc,hu,one_mul]at h4
  rw[he,zero_add,h2 t];rfl
end CR
end Rad
namespace Go.Proofs.YtffdemplaodbcaaDoor
open Go Go.Proofs Go.RowKit Go.Rad
open _root_.Rad (CR Prm PD Dv Irr Vl)
theorem mq_sub {P:Nat} {m:List Int} (a b:Int):(mq [a]:Am (P:Int) m)+ -(mq [b])=mq [a-b]:=by rw[mk_neg,mk_add];show(mq [a+ -1*b]:Am (P:Int) m)=mq [a-b];rw[show a+ -1*b=a-b by omega]
theorem unit_sub {P:Nat} (hP:PrC P) {a b:Nat} (ha:a<P) (hb:b<P) (h:a≠b):∃u:Ap P,u*(mq [(b:Int)]+ -(mq [(a:Int)]))=1:=by
 rw[mq_sub];obtain⟨r,_,_,hr⟩:=hP.pr.inv (a:=((b:Int)-a)%P) (by
  have:=Int.emod_nonneg ((b:Int)-a) (show(P:Int)≠0 by omega);have h1:((b:Int)-a)%P≠0:=fun e=>by
   obtain⟨k,hk⟩:=Int.dvd_of_emod_eq_zero e;rcases Int.lt_trichotomy k 0 with h2|h2|h2
   ·have:=Int.mul_le_mul_of_nonneg_left (show k≤ -1 by omega) (show(0:Int)≤P by omega);omega
   ·subst h2;omega
   ·have:=Int.mul_le_mul_of_nonneg_left (show 1≤k by omega) (show(0:Int)≤P by omega);omega
  omega) (Int.emod_lt_of_pos _ (by omega))
 refine⟨mq [r],?_⟩;rw[mk_mul,mk_one];refine mq_all.2 fun j=>?_;rw[pmul_one,row_getD,row_getD];cases j with
 |zero=>show r*((b:Int)-a)%P=1%P;rw[Int.mul_emod,Int.emod_emod,←Int.mul_emod]at hr;rw[hr,Int.emod_eq_of_lt (by omega) hP.two]
 |succ j=>rfl
theorem all_roots {P:Nat} (hP:PrC P) (t:Ap P):CR.pw t P+ -t=CR.pr (((List.range P).map fun c:Nat=>(mq [(c:Int)]:Ap P)).map fun c=>t+ -c):=by
 have h2:=hP.pm.two;obtain⟨q,hq⟩:∃q,P=q+2:=⟨P-2,by omega⟩;have hev:∀x:Ap P,CR.ev ((0:Ap P)::(-1)::(List.replicate q 0++[1])) x=CR.pw x (q+2)+ -x:=fun x=>by
  have h1:∀n,CR.ev (List.replicate n (0:Ap P)++[1]) x=CR.pw x n:=fun n=>by
   induction n with
   |zero=>show(1:Ap P)+x*0=1;rw[CR.mul_zero,CR.add_zero]
   |succ n ih=>rw[List.replicate_succ];show 0+x*CR.ev (List.replicate n (0:Ap P)++[1]) x=CR.pw x n*x;rw[ih,CR.zero_add,CR.mul_comm]
  show 0+x*(-1+x*CR.ev (List.replicate q (0:Ap P)++[1]) x)=_;rw[h1,CR.zero_add,CR.mul_add,CR.mul_neg,CR.mul_one,CR.add_comm];congr 1;show x*(x*CR.pw x q)=CR.pw x q*x*x
  ac_rfl
 have hpw:∀x:Ap P,CR.pw x (q+2)=CR.pw x P:=fun x=>congrArg (CR.pw x) hq.symm;have h3:=CR.by_roots ((List.range P).map fun c:Nat=>(mq [(c:Int)]:Ap P)) ((0:Ap P)::(-1)::(List.replicate q 0++[1])) (by simp;omega) (by simp[List.getLast?_cons]) ?_ ?_ t
 ·rw[←h3,hev,hpw]
 ·refine List.pairwise_map.2 (List.pairwise_iff_getElem.2 fun i j hi hj hij=>?_);simp only[List.length_range]at hi hj;simp only[List.getElem_range];exact unit_sub hP hi hj (by omega)
 ·intro c hc;obtain⟨k,_,rfl⟩:=List.mem_map.1 hc;rw[hev,hpw,mq_fermat hP.pm,CR.add_neg]
def Cop {P:Nat} (a b:Ap P):Prop:=∃u v:Ap P,u*a+v*b=1
theorem ncop {P:Nat} (hP:PrC P) {a b:Ap P} (hb:b≠0) (h:¬Cop a b):∃d:Ap P,2≤sz d∧Dv d a∧Dv d b:=by obtain⟨d,u,v,c,c',h1,h2,h3⟩:=hP.pd.bez a b;have hd0:d≠0:=fun e=>hb (by rw[h3,e,CR.zero_mul]);have h4:=hP.pd.pos hd0;refine⟨d,?_,⟨c,h2⟩,⟨c',h3⟩⟩;refine Classical.byContradiction fun hn=>h ?_;obtain⟨w,hw⟩:=hP.pd.u d (by omega);exact⟨w*u,w*v,by rw[←hw,h1,CR.mul_add,CR.mul_assoc,CR.mul_assoc]⟩
theorem Cop.dv {P:Nat} {x f y:Ap P} (h:Cop x f) (hd:Dv f (x*y)):Dv f y:=by
 obtain⟨u,v,e⟩:=h;have h1:y=u*(x*y)+f*(v*y):=by
  have e1:y=1*y:=(CR.one_mul y).symm
  conv=>lhs;rw[e1,←e,CR.add_mul]
  congr 1 <;> ac_rfl
 rw[h1];exact(hd.lmul u).add ((Dv.refl f).mul _)
theorem cop_pr {P:Nat} {f y:Ap P}:∀l:List (Ap P),(∀x,x∈l→Cop x f)→Dv f (y*CR.pr l)→Dv f y
 |[],_,h=>by have e:y*CR.pr []=y:=CR.mul_one y;rwa [e]at h
 |x::l,hl,h=>cop_pr l (fun z hz=>hl z (List.mem_cons_of_mem _ hz)) ((hl x (by simp)).dv (y:=y*CR.pr l) (by
  have e:y*CR.pr (x::l)=x*(y*CR.pr l):=by
   show y*(x*CR.pr l)=_
   ac_rfl
  rwa [e]at h))
theorem two_values {P:Nat} (hP:PrC P) {f t:Ap P} (hf:2≤sz f) (hv:Dv f (CR.pw t P+ -t)) (hn:∀k:Nat,¬Dv f (t+ -(mq [(k:Int)]))):
 ∃a b:Nat,a<P∧b<P∧a≠b∧(∃d,2≤sz d∧Dv d (t+ -(mq [(a:Int)]))∧Dv d f)∧∃d,2≤sz d∧Dv d (t+ -(mq [(b:Int)]))∧Dv d f:=by
 have hf0:f≠0:=hP.pd.ne (by omega);have hpos:=hP.pm.two;rw[all_roots hP]at hv;rw[List.map_map]at hv;have hv:Dv f (CR.pr ((List.range P).map fun c:Nat=>t+ -(mq [(c:Int)]))):=hv;have key:∀a,a<P→(∀b,b<P→b≠a→Cop (t+ -(mq [(b:Int)])) f)→False:=fun a ha hc=>by have h1:(List.range P).Perm (a::(List.range P).erase a):=List.perm_cons_erase (List.mem_range.2 ha);rw[CR.pr_perm (h1.map fun c:Nat=>t+ -(mq [(c:Int)]))]at hv;refine hn a (cop_pr (((List.range P).erase a).map fun c:Nat=>t+ -(mq [(c:Int)])) (fun x hx=>?_) hv);obtain⟨b,hb,rfl⟩:=List.mem_map.1 hx;have hb2:=(List.nodup_range.mem_erase_iff).1 hb;exact hc b (List.mem_range.1 hb2.2) hb2.1
 have h1:∃a,a<P∧¬Cop (t+ -(mq [(a:Int)])) f:=(by refine Classical.byContradiction fun hc=>key 0 (by omega) fun b hb _=>?_;refine Classical.byContradiction fun hb2=>hc ⟨b,hb,hb2⟩);obtain⟨a,ha,hca⟩:=h1;have h2:∃b,b<P∧b≠a∧¬Cop (t+ -(mq [(b:Int)])) f:=(by refine Classical.byContradiction fun hc=>key a ha fun b hb hne=>?_;refine Classical.byContradiction fun hb2=>hc ⟨b,hb,hne,hb2⟩);obtain⟨b,hb,hne,hcb⟩:=h2;exact⟨a,b,ha,hb,Ne.symm hne,ncop hP hf0 hca,ncop hP hf0 hcb⟩
end Go.Proofs.YtffdemplaodbcaaDoor
namespace Go.Proofs.YtffdemplaodbcaaDoor
open Go Go.Proofs Go.RowKit Go.Rad
open _root_.Rad (CR Prm PD Dv Irr Vl)
theorem pow_per {P x y:Nat} (h:x%P=y%P) (q:Nat):x^q%P=y^q%P:=by rw[Nat.pow_mod,h,←Nat.pow_mod]
theorem sep {P:Nat} (hP:PrC P) {a b:Nat} (ha:a<P) (hb:b<P) (hne:a≠b):∃s,s<P∧¬((a+s)^(P / 2)%P=1↔(b+s)^(P / 2)%P=1):=by
 refine Classical.byContradiction fun hc=>?_;have h2:=hP.pm.two;have h1:∀s,((a+s)^(P / 2)%P=1↔(b+s)^(P / 2)%P=1):=fun s=>by have h3:((a+s%P)^(P / 2)%P=1↔(b+s%P)^(P / 2)%P=1):=(by refine Classical.byContradiction fun h4=>hc ⟨s%P,Nat.mod_lt _ (by omega),h4⟩);rw[pow_per (x:=a+s%P) (y:=a+s) (by rw[Nat.add_mod,Nat.mod_mod,←Nat.add_mod]),pow_per (x:=b+s%P) (y:=b+s) (by rw[Nat.add_mod,Nat.mod_mod,←Nat.add_mod])]at h3;exact h3
 obtain⟨d,hd⟩:∃d,d=b+P-a:=⟨_,rfl⟩;have h3:∀x,(x^(P / 2)%P=1↔(x+d)^(P / 2)%P=1):=fun x=>by have h4:=h1 (x+P-a);rw[show a+(x+P-a)=x+P by omega,show b+(x+P-a)=x+d by omega,pow_per (x:=x+P) (y:=x) (Nat.add_mod_right x P)]at h4;exact h4
 have h4:∀k,(1+k*d)^(P / 2)%P=1:=fun k=>by
  induction k with
  |zero=>rw[Nat.zero_mul,Nat.add_zero,Nat.one_pow,Nat.mod_eq_of_lt (by omega)]
  |succ k ih=>rw[Nat.succ_mul,←Nat.add_assoc];exact(h3 _).1 ih
 have hdP:d%P≠0:=fun e=>by
  by_cases h5:d<P
  ·rw[Nat.mod_eq_of_lt h5]at e;omega
  ·rw[Nat.mod_eq_sub_mod (by omega),Nat.mod_eq_of_lt (by omega)]at e;omega
 obtain⟨r,hr0,_,hr⟩:=hP.pr.inv (a:=((d%P:Nat):Int)) (by omega) (by have:=Nat.mod_lt d (show 0<P by omega);omega);obtain⟨R,rfl⟩:∃R:Nat,r=R:=⟨r.toNat,by omega⟩;have h5:R*d%P=1:=(by have h6:R*(d%P)%P=1:=(by exact_mod_cast hr);rw[Nat.mul_mod,Nat.mod_mod,←Nat.mul_mod]at h6;exact h6);have h6:=h4 ((P-1)*R);rw[pow_per (x:=1+(P-1)*R*d) (y:=0) (by rw[Nat.mul_assoc,Nat.add_mod,Nat.mul_mod,h5,Nat.mul_one,Nat.mod_mod,←Nat.add_mod,show 1+(P-1)=P by omega,Nat.mod_self,Nat.zero_mod]),Nat.zero_pow (by omega),Nat.zero_mod]at h6;omega
theorem num_dv {P:Nat} (hP:PrC P) {d:Ap P} (hd:2≤sz d) {k:Int} (h:Dv d (mq [k])):k%P=0:=by
 refine Classical.byContradiction fun hk=>?_;have h2:=hP.two;obtain⟨r,_,_,hr⟩:=hP.pr.inv (a:=k%P) (by have:=Int.emod_nonneg k (show(P:Int)≠0 by omega);omega) (Int.emod_lt_of_pos _ (by omega));have h1:Dv d (1:Ap P):=by
  have e:(1:Ap P)=mq [k]*mq [r]:=by
   rw[mk_mul,mk_one];refine mq_all.2 fun j=>?_;rw[pmul_one,row_getD,row_getD];cases j with
   |zero=>show 1%(P:Int)=k*r%P;rw[Int.mul_emod,Int.emod_emod,←Int.mul_emod]at hr;rw[Int.mul_comm k r,hr,Int.emod_eq_of_lt (by omega) (by omega)]
   |succ j=>rfl
  rw[e];exact h.mul _
 have h3:=hP.pd.dv_sz h1 (hP.pd.ne (by rw[hP.pd.one];exact Nat.le_refl _));rw[hP.pd.one]at h3;omega
theorem pw_sub {A:Type} [CR A] {d x y:A} (h:Dv d (x+ -y)):∀n,Dv d (CR.pw x n+ -(CR.pw y n))
 |0=>by show Dv d ((1:A)+ -1);rw[CR.add_neg];exact .zero d
 |n+1=>by have e:CR.pw x (n+1)+ -(CR.pw y (n+1))=(CR.pw x n+ -(CR.pw y n))*x+CR.pw y n*(x+ -y):=(by show CR.pw x n*x+ -(CR.pw y n*y)=_;rw[CR.add_mul,CR.mul_add,CR.neg_mul,CR.mul_neg,CR.add_assoc];congr 1;rw[←CR.add_assoc,CR.neg_add,CR.zero_add]);rw[e];exact((pw_sub h n).mul x).add (h.lmul _)
theorem dv_chain {A:Type} [CR A] {d x y z:A} (h:Dv d (x+ -y)) (k:Dv d (y+ -z)):Dv d (x+ -z):=by have e:x+ -z=(x+ -y)+(y+ -z):=(by rw[CR.add_assoc,←CR.add_assoc (-y) y,CR.neg_add,CR.zero_add]);rw[e];exact h.add k
theorem dv_symm {A:Type} [CR A] {d x y:A} (h:Dv d (x+ -y)):Dv d (y+ -x):=by obtain⟨c,hc⟩:=h;refine⟨-c,?_⟩;rw[CR.mul_neg,←hc,CR.neg_add_rev,CR.neg_neg,CR.add_comm]
theorem num_pw {P:Nat} (a:Nat) (n:Nat):CR.pw (mq [(a:Int)]:Ap P) n=mq [((a^n:Nat):Int)]:=by rw[mq_num_pw,Int.natCast_pow]
theorem trial_ex {P:Nat} (hP:PrC P) {fl:List Int} (hf:Mon P fl) (h2:2≤fl.length) {v:Ap P} (hv:Dv (mq fl) (CR.pw v P+ -v)) (hn:∀k:Nat,¬Dv (mq fl) (v+ -(mq [(k:Int)]))):
 ∃s,s<P∧∀(t z:List Int),Dv (mq fl:Ap P) (mq t+ -(CR.pw (v+mq [(s:Int)]) (P / 2)+ -1))→GcdR (P:Int) t fl z→1<z.length∧z.length<fl.length:=by
 have hsz:2≤sz (mq fl:Ap P):=(by rw[hf.sz];exact h2);obtain⟨a,b,ha,hb,hne,⟨da,hda,hda1,hda2⟩,⟨db,hdb,hdb1,hdb2⟩⟩:=two_values hP hsz hv hn;obtain⟨s,hs,hab⟩:=sep hP ha hb hne;refine⟨s,hs,fun t z ht hG=>?_⟩;have val:∀(c:Nat) (d:Ap P),Dv d (v+ -(mq [(c:Int)]))→Dv d (mq fl)→Dv d (mq t+ -(mq [(((c+s)^(P / 2):Nat):Int)]+ -1)):=fun c d h1 h3=>by have h4:Dv d ((v+mq [(s:Int)])+ -(mq [((c+s:Nat):Int)])):=(by have e:(mq [((c+s:Nat):Int)]:Ap P)=mq [(c:Int)]+mq [(s:Int)]:=(by rw[mk_add];show(mq [((c+s:Nat):Int)]:Ap P)=mq [(c:Int)+s];rw[Int.natCast_add]);rw[e,CR.neg_add_rev];have e2:v+mq [(s:Int)]+(-(mq [(c:Int)])+ -(mq [(s:Int)]))=(v+ -(mq [(c:Int)]))+(mq [(s:Int)]+ -(mq [(s:Int)]):Ap P):=(by ac_rfl);rw[e2,CR.add_neg,CR.add_zero];exact h1);have h5:=pw_sub h4 (P / 2);rw[num_pw]at h5;refine dv_chain (h3.trans ht) ?_;have e3:(CR.pw (v+mq [(s:Int)]) (P / 2)+ -1)+ -(mq [(((c+s)^(P / 2):Nat):Int)]+ -1:Ap P)=CR.pw (v+mq [(s:Int)]) (P / 2)+ -(mq [(((c+s)^(P / 2):Nat):Int)]):=(by rw[CR.neg_add_rev,CR.neg_neg];have e4:CR.pw (v+mq [(s:Int)]) (P / 2)+ -1+(-(mq [(((c+s)^(P / 2):Nat):Int)])+1)=CR.pw (v+mq [(s:Int)]) (P / 2)+ -(mq [(((c+s)^(P / 2):Nat):Int)])+(-1+1:Ap P):=(by ac_rfl);rw[e4,CR.neg_add,CR.add_zero]);rw[e3];exact h5
 have hz:Mon P z:=hG.mon hP (.inr hf.pos);obtain⟨u,w,hc⟩:=hG.comb;obtain⟨⟨c1,hx⟩,⟨c2,hy⟩⟩:=hG.dv;have one_:∀c:Nat,(c+s)^(P / 2)%P=1→(mq [(((c+s)^(P / 2):Nat):Int)]+ -1:Ap P)=0:=fun c h1=>by
  rw[mk_one,mq_sub,mk_zero];refine mq_all.2 fun j=>?_;rw[row_getD,row_nil];cases j with
  |zero=>show((((c+s)^(P / 2):Nat):Int)-1)%P=0%P;rw[Int.sub_emod,←Int.natCast_emod,h1,Int.natCast_one,Int.emod_eq_of_lt (a:=1) (by omega) hP.two,Int.sub_self]
  |succ j=>rfl
 have yes:∀(c:Nat) (d:Ap P),2≤sz d→Dv d (v+ -(mq [(c:Int)]))→Dv d (mq fl)→(c+s)^(P / 2)%P=1→1<z.length:=fun c d hd h1 h3 h4=>by have h5:=val c d h1 h3;rw[one_ c h4,CR.neg_zero,CR.add_zero]at h5;have h6:Dv d (mq z):=(by rw[hc];exact(h5.lmul u).add (h3.lmul w));have h7:=hP.pd.dv_sz h6 (hz.ne hP);rw[hz.sz]at h7;omega
 have no:∀(c:Nat) (d:Ap P),2≤sz d→Dv d (v+ -(mq [(c:Int)]))→Dv d (mq fl)→¬(c+s)^(P / 2)%P=1→z.length<fl.length:=fun c d hd h1 h3 h4=>by
  have hc20:c2≠0:=fun e=>hf.ne hP (by rw[hy,e,CR.mul_zero]);have h5:=(hP.pd.m _ c2 (hz.ne hP) hc20).2;rw[←hy,hf.sz,hz.sz]at h5;have h6:=hP.pd.pos hc20;refine Classical.byContradiction fun hn2=>?_;obtain⟨c3,hc3⟩:=hP.pd.u c2 (by omega);have h7:Dv (mq fl:Ap P) (mq t):=(by refine⟨c3*c1,?_⟩;rw[hx,hy,CR.mul_assoc,←CR.mul_assoc c2,CR.mul_comm c2,hc3,CR.one_mul]);have h8:=h3.trans h7;have h9:=dv_symm (val c d h1 h3);have h10:Dv d (mq [(((c+s)^(P / 2):Nat):Int)]+ -1:Ap P):=(by have e:(mq [(((c+s)^(P / 2):Nat):Int)]+ -1:Ap P)=(mq [(((c+s)^(P / 2):Nat):Int)]+ -1+ -(mq t))+mq t:=(by rw[CR.add_assoc,CR.neg_add,CR.add_zero]);rw[e];exact h9.add h8);rw[mk_one,mq_sub]at h10;have h11:=num_dv hP hd h10;refine h4 ?_;have h12:(((c+s)^(P / 2):Nat):Int)%P=1%P:=Int.emod_eq_emod_iff_emod_sub_eq_zero.2 h11;have h13:=hP.two;rw[Int.emod_eq_of_lt (a:=1) (by omega) h13]at h12
  exact_mod_cast h12
 by_cases h3:(a+s)^(P / 2)%P=1
 ·have h4:¬(b+s)^(P / 2)%P=1:=fun h=>hab ⟨fun _=>h,fun _=>h3⟩;exact⟨yes a da hda hda1 hda2 h3,no b db hdb hdb1 hdb2 h4⟩
 ·have h4:(b+s)^(P / 2)%P=1:=(by refine Classical.byContradiction fun h=>hab ⟨fun h5=>absurd h5 h3,fun h5=>absurd h5 h⟩);exact⟨yes b db hdb hdb1 hdb2 h4,no a da hda hda1 hda2 h3⟩
theorem irr_piece {P:Nat} (hP:PrC P) {f g h:Ap P} (hq:SqF f) (hf:f=g*h) (h2:2≤sz g) (hc:∀v:Ap P,Dv f (CR.pw v P+ -v)→∃k:Int,Dv g (v+ -(mq [k]))):Pm P g:=by
 refine⟨h2,fun a b hab=>?_⟩;refine Classical.byContradiction fun hn=>?_;have hg0:g≠0:=hP.pd.ne (by omega);have hab0:a≠0∧b≠0:=hP.pd.ne_mul (by rw[←hab];exact hg0);have ha:=hP.pd.pos hab0.1;have hb:=hP.pd.pos hab0.2;have ha2:2≤sz a:=(by refine Classical.byContradiction fun h3=>hn (.inl (by omega)));have hb2:2≤sz b:=(by refine Classical.byContradiction fun h3=>hn (.inr (by omega)));rw[hf]at hq;obtain⟨u',v',e2⟩:=hq.cop;have hq2:=hq.left;rw[hab]at hq2;obtain⟨u,v,e1⟩:=hq2.cop;obtain⟨E,hE⟩:∃E,E=u*a*(v'*h):=⟨_,rfl⟩;have hb1:Dv b (1+ -E):=by
  refine⟨v+u'*a*(u*a),?_⟩;have e3:E+b*(v+u'*a*(u*a))=1:=by
   have e4:u*a*(v'*h)+b*(v+u'*a*(u*a))=u*a*(u'*(a*b)+v'*h)+v*b:=by
    simp only[CR.mul_add]
    ac_rfl
   rw[hE,e4,←hab,e2,CR.mul_one,e1]
  rw[←e3];have e5:E+b*(v+u'*a*(u*a))+ -E=(E+ -E)+b*(v+u'*a*(u*a)):=(by ac_rfl);rw[e5,CR.add_neg,CR.zero_add]
 have hid:Dv f (E*E+ -E):=by
  obtain⟨c,hc1⟩:=hb1;refine⟨-(u*v'*c),?_⟩;have e6:E*E+ -E= -(E*(1+ -E)):=(by rw[CR.mul_add,CR.mul_one,CR.mul_neg,CR.neg_add_rev,CR.neg_neg,CR.add_comm]);rw[e6,hc1,hE,hf,hab,CR.mul_neg];congr 1
  ac_rfl
 have hpw:Dv f (CR.pw E P+ -E):=by
  have h3:∀n,Dv f (CR.pw E (n+1)+ -E):=fun n=>by
   induction n with
   |zero=>show Dv f (1*E+ -E);rw[CR.one_mul,CR.add_neg];exact .zero f
   |succ n ih=>show Dv f (CR.pw E (n+1)*E+ -E);have e7:CR.pw E (n+1)*E+ -(E*E)=(CR.pw E (n+1)+ -E)*E:=(by rw[CR.add_mul,CR.neg_mul]);exact dv_chain (by rw[e7];exact ih.mul E) hid
  have h4:=h3 (P-1);have h5:=hP.pm.two;have e8:CR.pw E (P-1+1)=CR.pw E P:=congrArg (CR.pw E) (by omega)
  rwa [e8]at h4
 obtain⟨k,hk⟩:=hc E hpw;have hga:Dv a g:=⟨b,hab⟩;have hgb:Dv b g:=⟨a,by rw[hab,CR.mul_comm]⟩;have haE:Dv a E:=(by rw[hE];exact((Dv.refl a).lmul u).mul _);have hak:Dv a (mq [k]:Ap P):=(by have h3:=dv_symm (hga.trans hk);have e9:(mq [k]:Ap P)=(mq [k]+ -E)+E:=(by rw[CR.add_assoc,CR.neg_add,CR.add_zero]);rw[e9];exact h3.add haE);have hk0:=num_dv hP ha2 hak;have hkz:(mq [k]:Ap P)=0:=by
  rw[mk_zero];refine mq_all.2 fun j=>?_;rw[row_getD,row_nil];cases j with
  |zero=>show k%P=0%P;rw[hk0];rfl
  |succ j=>rfl
 have hbE:Dv b E:=by
  have h3:=hgb.trans hk
  rwa [hkz,CR.neg_zero,CR.add_zero]at h3
 have hb3:Dv b (1:Ap P):=(by have e10:(1:Ap P)=(1+ -E)+E:=(by rw[CR.add_assoc,CR.neg_add,CR.add_zero]);rw[e10];exact hb1.add hbE);have h6:=hP.pd.dv_sz hb3 (hP.pd.ne (by rw[hP.pd.one];exact Nat.le_refl _));rw[hP.pd.one]at h6;omega
end Go.Proofs.YtffdemplaodbcaaDoor
namespace Go.Proofs.YtffdemplaodbcaaDoor
open Go Go.Proofs Go.RowKit Go.Rad
structure MT (w:World) (B R n:Nat) (rb:Nat→Nat) (M:Nat→Nat→Int):Prop where
 cR:∀i,i<n→w.cell? ⟨R,i,none⟩=some (.slice (some ⟨rb i,0,none⟩) n n)
 zR:∀i,i<n→w.frozen? ⟨R,i,none⟩=false
 base:B≤R
 lt:R<w.heap.size
 row:∀i,i<n→OA w B (rb i) n (M i)
 ne:∀i,i<n→rb i≠R
 inj:∀i j,i<n→j<n→rb i=rb j→i=j
theorem MT.below {w w':World} {B R n:Nat} {rb:Nat→Nat} {M:Nat→Nat→Int} (h:MT w B R n rb M) (hb:Below w.heap.size w w'):MT w' B R n rb M:=
 ⟨fun i hi=>(hb.cell (p:=⟨R,i,none⟩) h.lt).trans (h.cR i hi),fun i hi=>(hb.frozen (p:=⟨R,i,none⟩) h.lt).trans (h.zR i hi),h.base,Nat.lt_of_lt_of_le h.lt hb.size,
  fun i hi=>(h.row i hi).below hb,h.ne,h.inj⟩
theorem MT.at {w:World} {B R n:Nat} {rb:Nat→Nat} {M:Nat→Nat→Int} (h:MT w B R n rb M) {i j:Nat} (hi:i<n) (hj:j<n):w.cell? ⟨rb i,j,none⟩=some (.int .i64 (M i j)):=by
 have:=(h.row i hi).c j hj
 rwa [Nat.zero_add]at this
inductive FindPost (w:World) (p:Int) (M:Nat→Nat→Int) (c f n:Nat) (e:Ending) (w':World):Prop
 |none (he:e= .returned (.int .i64 (-1))) (hb:Below w.heap.size w w') (h:∀r,f≤r→r<n→M r c%p=0)
 |some (r:Nat) (he:e= .returned (.int .i64 r)) (hb:Below w.heap.size w w') (h1:f≤r) (h2:r<n) (h3:M r c%p≠0)
set_option maxRecDepth 10000 in
set_option maxHeartbeats 1000000 in
theorem find_any (w:World) (p q:Int) (B R n c f:Nat) (rb:Nat→Nat) (M:Nat→Nat→Int) (hM:MT w B R n rb M) (hp:1<p∧p<2147483648) (hq:q<4611686018427387904) (hc:c<n) (hf:f≤n) (hn:n≤1000)
 (hb:∀i j,i<n→j<n→0≤M i j∧M i j<q):
 Calls Tryd.prog 71 #[FV p q, .slice (some ⟨R,0,none⟩) n n, .int .i64 c, .int .i64 f] w fun e w'=>FindPost w p M c f n e w':=by
 have HM:Hid (MT w B R n rb M):=hM;have HBD:Hid (∀i j,i<n→j<n→0≤M i j∧M i j<q):=hb;clear hM hb;go_enter Tryd.func71,Tryd.ntmps71;go_upto_region 1 with fail;refine wp_world (fun w1=>Below w.heap.size w w1∧FB w1 w.heap.size (.int .i64 p) (.int .i64 q)) ⟨bel1 _ _,FB.mk0 _ _ _ _⟩ ?_;rintro w1 ⟨hB1,hF1⟩;obtain⟨b4,hb4⟩:∃x,x=w.heap.size:=⟨_,rfl⟩;rw[←hb4]at hF1⊢;have HB1:Hid (Below w.heap.size w w1):=hB1;have HF1:Hid (FB w1 b4 (.int .i64 p) (.int .i64 q)):=hF1;have HCN:Hid (c<n):=hc;have hci:(c:Int)<(n:Int):=(by omega);have hni:(n:Int)≤1000:=(by omega);clear hB1 hb4 hF1;go_wp2;go_loopw [9] (fun i wr=>∃k:Nat,i= .int .i64 k∧f≤k∧k≤n∧(∀r,f≤r→r<k→M r c%p=0)∧Below w1.heap.size w1 wr) (fun i _=>n-(Lib.intOf i).toNat)
 case atStart=>exact⟨f,rfl,Nat.le_refl _,hf,fun r h1 h2=>by omega,Below.refl _ _⟩
 case round=>
  obtain⟨k,rfl,hfk,hkn,hz,hB⟩:=hrel;have HB:Hid (Below w1.heap.size w1 wr):=hB;have HZ:Hid (∀r,f≤r→r<k→M r c%p=0):=hz;have HFK:Hid (f≤k):=hfk;clear hB hz;by_cases hk:k<n
  ·have hki:(k:Int)<(n:Int):=(by omega);have hMr:MT wr B R n rb M:=HM.out.below (HB1.out.trans (HB.out.mono HB1.out.size));obtain⟨l4,k40,k41,z4,z5⟩:=HF1.out.below HB.out;have ck:=hMr.cR k hk;have cx:=hMr.at hk hc;have lR:=hMr.lt;obtain⟨rk,hrk⟩:∃x,x=rb k:=⟨_,rfl⟩;rw[←hrk]at ck cx;have lk:rk<wr.heap.size:=(by rw[hrk];exact(hMr.row k hk).lt);obtain⟨X,hX⟩:∃x,x=M k c:=⟨_,rfl⟩;rw[←hX]at cx;have HX:Hid (X=M k c):=hX;have hXb:=HBD.out k c hk hc;rw[←hX]at hXb;obtain⟨T,hT⟩:∃x,x=X%p:=⟨_,rfl⟩;have CL:=fun w=>least_any w p q X (by omega) hp.2 hXb.1 (by omega);rw[←hT]at CL;have HT:Hid (T=M k c%p):=(by show _=_;rw[hT,hX]);clear hMr hrk hX hT;go_upto_region 4 with fail;refine wp_drawn mixed [⟨17,[],[],[4]⟩,⟨18,[],[],[1]⟩,⟨19,[],[],[9]⟩,⟨20,[1,2],[1,2],[]⟩,⟨21,[3],[1,2,3],[]⟩,⟨22,[],[],[2]⟩,⟨23,[4,5],[1,2,3,4,5],[]⟩,⟨24,[6],[1,2,3,4,5,6],[]⟩,⟨25,[0,7],[0,1,2,3,4,5,6,7],[]⟩,⟨26,[8],[0,1,2,3,4,5,6,7,8],[]⟩] [] (by kernel_rfl) 28 rfl (by kernel_rfl) (fun (i:Nat) (v:Value) (wq:World)=>match i with|0=>v= .agg #[.int .i64 (p), .int .i64 (q)]|1=>v= .slice (some ⟨R,0,none⟩) (n) (n)|2=>v= .int .i64 ((k:Int))|3=>v= .pointer (some ⟨R,k,none⟩)|4=>v= .slice (some ⟨rk,0,none⟩) (n) (n)|5=>v= .int .i64 ((c:Int))|6=>v= .pointer (some ⟨rk,c,none⟩)|7=>v= .int .i64 (X)|8=>v= .int .i64 (T)|9=>v= .bool ((T:Int) !=(0))|_=>True) (fun _ wq=>Below wr.heap.size wr wq) (fun wx wy=>Below wx.heap.size wx wy) (Below.refl _ _).drew (fun i v wx wy h hx=>match i,h with|0,h=>h|1,h=>h|2,h=>h|3,h=>h|4,h=>h|5,h=>h|6,h=>h|7,h=>h|8,h=>h|9,h=>h|n+10,_=>trivial) ?_ ?_
   ·intro i o r ho hr L fr wx hW hL hpr hds hdef hpre hfree;clear hL hpr hds hdef
    match i,ho,hr with
    |0,ho,hr=>?_
    |1,ho,hr=>?_
    |2,ho,hr=>?_
    |3,ho,hr=>?_
    |4,ho,hr=>?_
    |5,ho,hr=>?_
    |6,ho,hr=>?_
    |7,ho,hr=>?_
    |8,ho,hr=>obtain rfl:=Option.some.inj ho;obtain rfl:=Option.some.inj hr;have e0:=ev_tmp (show fr.eval (.tmp 17)= .agg #[.int .i64 (p), .int .i64 (q)] from hpre 0 (by decide) _ rfl);have e7:=ev_tmp (show fr.eval (.tmp 24)= .int .i64 (X)from hpre 7 (by decide) _ rfl);clear hpre hfree;refine stpK rfl rfl fun K hK=>?_;go_simp;refine(CL wx).mono ?_;rintro e wy ⟨rfl,hb⟩;exact hK _ _ ⟨rfl,hW.trans (hb.mono hW.size),hb,fun h=>(List.not_mem_nil h).elim⟩
    |9,ho,hr=>?_
    |n+10,ho,hr=>exact absurd hr (by simp)
    all_goals
     obtain rfl:=Option.some.inj ho;obtain rfl:=Option.some.inj hr;simp only[List.mem_cons,List.not_mem_nil,or_false,false_imp_iff,implies_true,forall_eq_or_imp,forall_eq,List.getElem?_cons_zero,List.getElem?_cons_succ,Option.some.injEq,forall_eq',evt]at hpre hfree;have c0:=(hW.cell (p:=⟨b4,0,none⟩) l4).trans k40;have c1:=(hW.cell (p:=⟨b4,1,none⟩) l4).trans k41;have c2:=(hW.cell (p:=⟨R,k,none⟩) lR).trans ck;have c3:=(hW.cell (p:=⟨rk,c,none⟩) lk).trans cx;refine stpK rfl rfl fun K hK=>?_ <;> (go_simp;exact hK _ _ ⟨rfl,hW,Below.refl _ _,fun h=>(List.not_mem_nil h).elim⟩)
   ·intro vs wm hvs hW1 hap0;clear hap0;have e0:vs 0= .agg #[.int .i64 (p), .int .i64 (q)]:=hvs 0 (by decide);have e1:vs 1= .slice (some ⟨R,0,none⟩) (n) (n):=hvs 1 (by decide);have e2:vs 2= .int .i64 ((k:Int)):=hvs 2 (by decide);have e3:vs 3= .pointer (some ⟨R,k,none⟩):=hvs 3 (by decide);have e4:vs 4= .slice (some ⟨rk,0,none⟩) (n) (n):=hvs 4 (by decide);have e5:vs 5= .int .i64 ((c:Int)):=hvs 5 (by decide);have e6:vs 6= .pointer (some ⟨rk,c,none⟩):=hvs 6 (by decide);have e7:vs 7= .int .i64 (X):=hvs 7 (by decide);have e8:vs 8= .int .i64 (T):=hvs 8 (by decide);have e9:vs 9= .bool ((T:Int) !=(0)):=hvs 9 (by decide);simp only[puts,Nat.reduceAdd,e0,e1,e2,e3,e4,e5,e6,e7,e8,e9,Act.put,List.setIfInBounds_toArray,List.set_cons_zero,List.set_cons_succ,List.drop_succ_cons,List.drop_zero,List.length_cons,List.length_nil];clear hvs e0 e1 e2 e3 e4 e5 e6 e7 e8 e9;have HB5:Hid (Below w1.heap.size w1 wm):=HB.out.trans (hW1.mono HB.out.size);clear hW1 l4 k40 k41 z4 z5 ck cx lR lk CL;by_cases h0:T=0
    ·have h0b:(T !=0)=false:=(by simpa using h0);have hw4:wrap64 ((k:Int)+1)=(k:Int)+1:=wrap_in (by omega) (by omega);go_wp2;refine⟨⟨k+1,rfl,by have:=HFK.out;omega,by omega,fun r h1 h2=>?_,HB5.out⟩,by simp only[Lib.intOf];omega⟩;rcases Nat.lt_or_ge r k with h3|h3
     ·exact HZ.out r h1 h3
     ·obtain rfl:r=k:=(by omega);rw[←HT.out];exact h0
    ·have h0b:(T !=0)=true:=(by simpa using h0);go_wp2;refine bodyPost_ret (v:= .int .i64 k) (by simp[results,go_sem,loadVar]) rfl ?_;exact .some k rfl (HB1.out.trans (HB5.out.mono HB1.out.size)) HFK.out hk (by rw[←HT.out];exact h0)
  ·obtain rfl:k=n:=(by omega);have hki:¬((k:Int)<(k:Int)):=(by omega);go_wp2;refine bodyPost_ret (v:= .int .i64 (-1)) (by simp[results,go_sem,loadVar]) rfl ?_;exact .none rfl (HB1.out.trans (HB.out.mono HB1.out.size)) HZ.out
end Go.Proofs.YtffdemplaodbcaaDoor
