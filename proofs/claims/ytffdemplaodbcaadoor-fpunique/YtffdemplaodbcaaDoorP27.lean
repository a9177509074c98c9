/- A part of the proof: ZE. -/
import Derived.Test.YtffdemplaodbcaaDoorP25
set_option linter.all false
namespace Go.Proofs.YtffdemplaodbcaaDoor
open Go Go.Proofs Go.RowKit Go.Rad
open _root_.Rad (CR Prm)
def dif (u:Nat→Int):Nat→Int:=fun j=>((j+1:Nat):Int)*u (j+1)
def der:List Int→List Int
 |[]=>[]
 |_::x=>padd x (0::der x)
theorem dif_sft (u:Nat→Int):∀j,dif (sft u) j=u j+sft (dif u) j
 |0=>by show((0+1:Nat):Int)*u 0=u 0+0;simp
 |j+1=>by show((j+1+1:Nat):Int)*u (j+1)=u (j+1)+((j+1:Nat):Int)*u (j+1);rw[Int.natCast_add (j+1) 1,Int.add_mul];simp;omega
theorem dif_act:∀(x:List Int) (u:Nat→Int) (j:Nat),dif (act x u) j=act (der x) u j+act x (dif u) j
 |[],u,j=>by show((j+1:Nat):Int)*0=0+0;simp
 |a::x,u,j=>by have h1:dif (act (a::x) u) j=a*dif u j+dif (sft (act x u)) j:=(by show((j+1:Nat):Int)*(a*u (j+1)+sft (act x u) (j+1))=a*(((j+1:Nat):Int)*u (j+1))+((j+1:Nat):Int)*sft (act x u) (j+1);rw[Int.mul_add,Int.mul_left_comm]);rw[h1,dif_sft,sft_congr (dif_act x u),sft_add];show _=act (padd x (0::der x)) u j+(a*dif u j+sft (act x (dif u)) j);rw[act_padd];show _=act x u j+(0*u j+sft (act (der x) u) j)+(a*dif u j+sft (act x (dif u)) j);omega
theorem row_der (x:List Int) (j:Nat):row (der x) j=((j+1:Nat):Int)*row x (j+1):=by have h:=dif_act x one0 j;have e:act x (dif one0) j=0:=(by rw[act_congr x (v:=fun _=>0) (fun i=>by show((i+1:Nat):Int)*0=0;simp)];exact act_zero x j);rw[e,Int.add_zero]at h;exact h.symm
theorem mq_der_mul {p:Int} (x y z:List Int) (h:(mq x:Am p [])=mq y*mq z):(mq (der x):Am p [])=mq (der y)*mq z+mq y*mq (der z):=by rw[mk_mul]at h;rw[mk_mul,mk_mul,mk_add];have h1:∀j,row x j%p=row (pmul y z) j%p:=(by obtain⟨q,hq⟩:=mk_eq.1 h;intro j;have e:act q (row []) j=0:=act_zero q j;rw[hq j,e,Int.add_zero]);refine mk_eq.2 (.of fun j=>?_);rw[row_der,Int.mul_emod,h1,←Int.mul_emod,row_padd];congr 1;have h2:=dif_act y (row z) j;have h3:dif (act y (row z)) j=((j+1:Nat):Int)*row (pmul y z) (j+1):=(by show _*act y (row z) (j+1)=_;rw[row_pmul]);rw[←h3,h2,row_pmul,row_pmul];congr 1;exact act_congr y (fun i=>(row_der z i).symm) j
theorem mq_mod {p:Int} {m x y:List Int} (h:(mq x:Am p [])=mq y):(mq x:Am p m)=mq y:=by obtain⟨q,hq⟩:=mk_eq.1 h;refine mk_eq.2 (.of fun j=>?_);have e:act q (row []) j=0:=act_zero q j;rw[hq j,e,Int.add_zero]
theorem mq_lift {p:Int} {m x:List Int} (h:(mq x:Am p m)=0):∃q,(mq x:Am p [])=mq q*mq m:=by obtain⟨q,hq⟩:=mk_eq.1 h;refine⟨q,?_⟩;rw[mk_mul];refine mk_eq.2 (.of fun j=>?_);rw[hq j,row_nil,Int.zero_add,row_pmul]
theorem mq_down {p:Int} {m x y z:List Int} (h:(mq x:Am p [])=mq y*mq z):(mq x:Am p m)=mq y*mq z:=mq_mod (y:=pmul y z) h
theorem trim {p:Int} (hp:PrI p):∀(n:Nat) (y:List Int),y.length≤n→(mq y:Am p [])=0∨∃z d,(mq y:Am p [])=mq z∧z.length≤n∧Mo p z d
 |0,y,hy=>by obtain rfl:y=[]:=List.length_eq_zero_iff.1 (by omega);exact .inl rfl
 |n+1,y,hy=>by
  have hp0:0<p:=(by obtain⟨P,h1,h2,h3⟩:=hp;have:=h2.1;omega);rcases Nat.eq_zero_or_pos y.length with h0|h0
  ·obtain rfl:y=[]:=List.length_eq_zero_iff.1 h0;exact .inl rfl
  ·by_cases h1:row y (y.length-1)%p=0
   ·have e:(mq y:Am p [])=mq (lst (row y) (y.length-1)):=by
     refine mk_eq.2 (.of fun j=>?_);rw[row_lst];unfold cut
     split
     ·rfl
     ·rename_i hj
      rcases Nat.lt_or_ge j y.length with h2|h2
      ·rw[show j=y.length-1 by omega,h1];rfl
      ·rw[row_ge y j h2]
    rcases trim hp n (lst (row y) (y.length-1)) (by rw[lst_length];omega)with h2|⟨z,d,h2,h3,h4⟩
    ·exact .inl (e.trans h2)
    ·exact .inr ⟨z,d,e.trans h2,by omega,h4⟩
   ·refine .inr ⟨y,y.length-1,rfl,hy,by omega,?_⟩;have hb:=Int.emod_nonneg (row y (y.length-1)) (by omega:p≠0);have hb2:=Int.emod_lt_of_pos (row y (y.length-1)) hp0;obtain⟨r,_,_,hr⟩:=hp.inv (a:=row y (y.length-1)%p) (by omega) hb2;refine⟨r,?_⟩;rw[Int.mul_emod,Int.emod_emod,←Int.mul_emod]at hr;rw[hr];obtain⟨P,h5,h6,h7⟩:=hp;have:=h6.1;rw[Int.emod_eq_of_lt (by omega) (by omega)]
theorem bez {p:Int} (hp:PrI p):∀(n:Nat) (y x:List Int),y.length≤n→∃g u v c e:Am p [],g=u*mq x+v*mq y∧mq x=g*c∧mq y=g*e
 |n,y,x,hy=>by
  rcases trim hp n y hy with h|⟨z,d,h1,h2,h3⟩
  ·refine⟨mq x,1,0,1,0,?_,?_,?_⟩
   ·rw[CR.one_mul,CR.zero_mul,CR.add_zero]
   ·rw[CR.mul_one]
   ·rw[CR.mul_zero,h]
  ·obtain⟨r,hr,hc⟩:=h3.rest _ x (Nat.le_refl _);have hzl:=h3.len;obtain⟨m,rfl⟩:∃m,n=m+1:=⟨n-1,by omega⟩;obtain⟨g,u,v,c,e,hg,hcx,hey⟩:=bez hp m r z (by omega);obtain⟨q,hq⟩:=hc;have hx:(mq x:Am p [])=mq r+mq q*mq z:=(by rw[mk_mul,mk_add];refine mk_eq.2 (.of fun j=>?_);rw[hq j,row_padd,row_pmul]);refine⟨g,v,u+ -(v*mq q),e+mq q*c,c,?_,?_,?_⟩
   ·rw[hx,h1,hg];simp only[CR.mul_add,CR.add_mul,CR.neg_mul];have e1:v*(mq q*mq z)+ -(v*mq q*mq z)=0:=(by rw[CR.mul_assoc,CR.add_neg])
    calc u*mq z+v*mq r=u*mq z+v*mq r+(v*(mq q*mq z)+ -(v*mq q*mq z)):=by rw[e1,CR.add_zero]
     _=v*mq r+v*(mq q*mq z)+(u*mq z+ -(v*mq q*mq z)):=by ac_rfl
   ·rw[hx,hey,hcx,CR.mul_add];congr 1
    ac_rfl
   ·rw[h1,hcx]
theorem idem_pw {A:Type} [CR A] {e:A} (h:e*e=e):∀n,CR.pw e (n+1)=e
 |0=>CR.pw_one e
 |n+1=>by show CR.pw e (n+1)*e=e;rw[idem_pw h n,h]
theorem Mo.unit {P:Nat} {m:List Int} {d:Nat} (h:Mo P m d) (hp:Prm P) (hP:PrI (P:Int)) (hd:0<d) (hs:∃u v:Am (P:Int) [],u*mq m+v*mq (der m)=1)
 (hc:∀a:Am (P:Int) m,CR.pw a P=a→∃k:Int,a=mq [k]) (a:Am (P:Int) m) (ha:a≠0):∃b,a*b=1:=by
 have h2:=hp.two;obtain⟨x,rfl⟩:=mk_rep a;obtain⟨g,u,v,c,e,hg,hgx,hgm⟩:=bez hP _ m x (Nat.le_refl _);obtain⟨g,rfl⟩:=mk_rep g;obtain⟨u,rfl⟩:=mk_rep u;obtain⟨v,rfl⟩:=mk_rep v;obtain⟨c,rfl⟩:=mk_rep c;obtain⟨k,rfl⟩:=mk_rep e;obtain⟨D,s,t,g1,k1,hD,hDg,hDk⟩:=bez hP _ k g (Nat.le_refl _);obtain⟨u0,v0,h0⟩:=hs;have hder:=mq_der_mul m g k hgm;obtain⟨w,hw⟩:∃w,D*w=1:=by
  refine⟨u0*(g1*mq k)+v0*(mq (der g)*k1+g1*mq (der k)),?_⟩;rw[←h0,hder,hgm];have e1:(mq g:Am (P:Int) [])*mq k=D*(g1*mq k):=(by rw[hDg,CR.mul_assoc]);have e2:(mq (der g):Am (P:Int) [])*mq k+mq g*mq (der k)=D*(mq (der g)*k1+g1*mq (der k)):=by
   rw[CR.mul_add]
   conv=>lhs;rw[hDk,hDg]
   congr 1
   ·ac_rfl
   ·ac_rfl
  rw[e1,e2,CR.mul_add];congr 1
  ·ac_rfl
  ·ac_rfl
 obtain⟨S,hS⟩:=mk_rep (s*w);obtain⟨T,hT⟩:=mk_rep (t*w);have hone:(mq S:Am (P:Int) [])*mq g+mq T*mq k=1:=by
  rw[←hw,hD,←hS,←hT,CR.add_mul];congr 1
  ·ac_rfl
  ·ac_rfl
 have done:(mq S:Am (P:Int) m)*mq g+mq T*mq k=1:=mq_mod (x:=padd (pmul S g) (pmul T k)) (y:=[1]) hone;have dm:(mq g:Am (P:Int) m)*mq k=0:=(by rw[←mk_self (p:=(P:Int)) (m:=m)];exact(mq_down (m:=m) hgm).symm);have dg:(mq g:Am (P:Int) m)=mq u*mq x+mq v*mq m:=mq_mod (x:=g) (y:=padd (pmul u x) (pmul v m)) hg;rw[mk_self,CR.mul_zero,CR.add_zero]at dg;have didem:(mq S:Am (P:Int) m)*mq g*(mq S*mq g)=mq S*mq g:=by
  have e1:(mq S:Am (P:Int) m)*mq g*(mq S*mq g)+mq S*mq g*(mq T*mq k)=mq S*mq g:=(by rw[←CR.mul_add,done,CR.mul_one]);have e2:(mq S:Am (P:Int) m)*mq g*(mq T*mq k)=0:=(by rw[show(mq S:Am (P:Int) m)*mq g*(mq T*mq k)=mq S*mq T*(mq g*mq k)by ac_rfl,dm,CR.mul_zero])
  rwa [e2,CR.add_zero]at e1
 obtain⟨q,rfl⟩:∃q,P=q+1:=⟨P-1,by omega⟩;obtain⟨b,hb⟩:=hc _ (idem_pw didem q);rw[hb,mk_mul]at didem;have hbb:=h.same (by omega) (x:=pmul [b] [b]) (y:=[b]) (fun j hj=>row_ge _ j (by show 1≤j;omega)) (fun j hj=>row_ge _ j (by show 1≤j;omega)) didem 0;rw[row_getD,row_getD]at hbb;have hbb1:(b*b)%((q+1:Nat):Int)=b%((q+1:Nat):Int):=(by simpa [pmul,padd]using hbb);have hcase:b%((q+1:Nat):Int)=0∨b%((q+1:Nat):Int)=1:=by
  obtain⟨B,hB⟩:∃B:Nat,b%((q+1:Nat):Int)=B:=⟨(b%((q+1:Nat):Int)).toNat,by have:=Int.emod_nonneg b (by omega:((q+1:Nat):Int)≠0);omega⟩;have hlt:=Int.emod_lt_of_pos b (by omega:(0:Int)<((q+1:Nat):Int));rw[hB]at hlt⊢;rw[Int.mul_emod,hB]at hbb1;rcases Nat.eq_zero_or_pos B with h3|h3
  ·left;omega
  ·right;obtain⟨C,rfl⟩:∃C,B=C+1:=⟨B-1,by omega⟩;obtain⟨k',hk'⟩:=cong_sub.1 (hbb1.trans (Int.emod_eq_of_lt (by omega) hlt).symm);have hdv:(q+1) ∣ (C+1)*C:=by
    have e9:(((C+1)*C:Nat):Int)=k'*((q+1:Nat):Int):=by
     have:((C+1:Nat):Int)*((C+1:Nat):Int)=((C+1:Nat):Int)*(C:Int)+((C+1:Nat):Int):=by
      conv=>lhs;rw[show((C+1:Nat):Int)=(C:Int)+1 from rfl,Int.mul_add]
      simp
     rw[Int.natCast_mul];omega
    exact Int.natCast_dvd_natCast.1 ⟨k',by rw[e9,Int.mul_comm]⟩
   rcases hp.mul hdv with h4|h4
   ·have:=Nat.le_of_dvd (by omega) h4;omega
   ·rcases Nat.eq_zero_or_pos C with h5|h5
    ·subst h5;rfl
    ·have:=Nat.le_of_dvd h5 h4;omega
 rcases hcase with h3|h3
 ·exfalso;apply ha;have e0:(mq S:Am ((q+1:Nat):Int) m)*mq g=0:=by
   rw[hb,mk_zero];refine mk_eq.2 (.of fun j=>?_);cases j with
   |zero=>rw[row_getD,row_nil];exact h3.trans (Int.zero_emod _).symm
   |succ j=>rw[row_getD,row_nil];rfl
  rw[e0,CR.zero_add]at done;have e1:(mq (padd (pmul T k) [-1]):Am ((q+1:Nat):Int) m)=0:=(by rw[←mk_add,←mk_mul,done];exact mk_row fun j=>by cases j <;> rfl);obtain⟨r,hr⟩:=mq_lift e1;rw[←mk_add,←mk_mul]at hr;have hk1:(mq k:Am ((q+1:Nat):Int) [])*(mq T+ -(mq r*mq g))=1:=by
   have e2:(mq T:Am ((q+1:Nat):Int) [])*mq k=1+mq r*mq m:=by
    rw[←hr];have e3:(1:Am ((q+1:Nat):Int) [])+(mq T*mq k+mq [-1])=mq T*mq k+(1+mq [-1]):=(by ac_rfl);rw[e3];have e4:(1:Am ((q+1:Nat):Int) [])+mq [-1]=0:=mk_row fun j=>by cases j <;> rfl
    rw[e4,CR.add_zero]
   rw[CR.mul_add,CR.mul_comm (mq k) (mq T),e2,hgm,CR.mul_neg,show(mq k:Am ((q+1:Nat):Int) [])*(mq r*mq g)=mq r*(mq g*mq k)by ac_rfl,CR.add_assoc,CR.add_neg,CR.add_zero]
  obtain⟨K,hK⟩:=mk_rep ((mq T:Am ((q+1:Nat):Int) [])+ -(mq r*mq g));rw[hK]at hk1;have e5:(mq x:Am ((q+1:Nat):Int) [])=mq (pmul K c)*mq m:=(by rw[hgx,hgm,←mk_mul];rw[show(mq K:Am ((q+1:Nat):Int) [])*mq c*(mq g*mq k)=mq k*mq K*(mq g*mq c)by ac_rfl,hk1,CR.one_mul]);have e6:=mq_down (m:=m) e5;rw[e6,mk_self,CR.mul_zero]
 ·have e0:(mq S:Am ((q+1:Nat):Int) m)*mq g=1:=by
   rw[hb,mk_one];refine mk_eq.2 (.of fun j=>?_);cases j with
   |zero=>rw[row_getD,row_getD];exact h3.trans (Int.emod_eq_of_lt (by decide) (by omega)).symm
   |succ j=>rw[row_getD,row_getD];rfl
  refine⟨mq S*mq u,?_⟩;rw[←e0,dg]
  ac_rfl
end Go.Proofs.YtffdemplaodbcaaDoor
