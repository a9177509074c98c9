/- A part of the proof: ZJ, ZK, ZL, ZM. -/
import Derived.Test.YtffdemplaodbcaaDoorP26
import Derived.Test.YtffdemplaodbcaaDoorP28
import Derived.Test.YtffdemplaodbcaaDoorP15
import Derived.Test.YtffdemplaodbcaaDoorP18
set_option linter.all false
namespace Go.Proofs.YtffdemplaodbcaaDoor
open Go Go.Proofs Go.RowKit Go.Rad
open _root_.Rad (CR Prm PD Dv Irr Vl)
theorem mq_all {p:Int} {x y:List Int}: (mq x:Am p [])=mq y↔∀j,row x j%p=row y j%p:=by
 constructor
 ·intro h;obtain⟨q,hq⟩:=mk_eq.1 h;intro j;have e:act q (row []) j=0:=act_zero q j;rw[hq j,e,Int.add_zero]
 ·exact fun h=>mk_eq.2 (.of h)
theorem IsP.mod {p:Int} {x:List Int} (h:IsP p x) (j:Nat):row x j%p=row x j:=by have:=h.bd j;rw[row_getD];exact Int.emod_eq_of_lt this.1 this.2
theorem IsP.uniq {p:Int} {x y:List Int} (hx:IsP p x) (hy:IsP p y) (h:(mq x:Am p [])=mq y):x=y:=Nrm.uniq (p:=p) (t:=row x) (s:=row y) ⟨fun j=>(hx.mod j).symm,hx.top⟩ ⟨fun j=>(hy.mod j).symm,hy.top⟩ (mq_all.1 h)
theorem nrm_ex {p:Int} (hp:0<p) (u:Nat→Int):∀n,(∀j,n≤j→u j%p=0)→∃z,z.length≤n∧Nrm p u z
 |0,h=>⟨[],Nat.le_refl _,fun j=>by rw[row_nil,h j (Nat.zero_le j)],fun h=>by simp at h⟩
 |n+1,h=>by
  by_cases h0:u n%p=0
  ·obtain⟨z,hz,hN⟩:=nrm_ex hp u n fun j hj=>by
    rcases Nat.lt_or_ge n j with h1|h1
    ·exact h j h1
    ·rw[show j=n by omega];exact h0
   exact⟨z,by omega,hN⟩
  ·refine⟨lst (fun j=>u j%p) (n+1),by rw[lst_length];exact Nat.le_refl _,fun j=>?_,fun _=>?_⟩
   ·rw[row_lst];unfold cut
    split
    ·rfl
    ·rw[h j (by omega)]
   ·rw[lst_length,lst_getD];unfold cut;rw[if_pos (by omega)];exact h0
theorem rep_ex {p:Int} (hp:0<p) (a:Am p []):∃z,IsP p z∧a=mq z:=by
 obtain⟨x,rfl⟩:=mk_rep a;obtain⟨z,_,hN⟩:=nrm_ex hp (row x) x.length fun j hj=>by rw[row_ge x j hj];rfl
 exact⟨z,hN.isP hp,mq_all.2 fun j=>by rw[hN.eq,Int.emod_emod]⟩
open Classical in
noncomputable def sz {p:Int} (a:Am p []):Nat:=if h:∃z,IsP p z∧a=mq z then (Classical.choose h).length else 0
theorem sz_eq {p:Int} {x:List Int} (h:IsP p x):sz (mq x:Am p [])=x.length:=by have he:∃z,IsP p z∧(mq x:Am p [])=mq z:=⟨x,h,rfl⟩;unfold sz;rw[dif_pos he];have:=Classical.choose_spec he;exact congrArg List.length (h.uniq this.1 this.2).symm
theorem act_top:∀(x:List Int) (u:Nat→Int) (n:Nat),(∀j,n<j→u j=0)→(∀j,x.length+n≤j→act x u j=0)∧(0<x.length→act x u (x.length-1+n)=row x (x.length-1)*u n)
 |[],u,n,h=>⟨fun j _=>rfl,fun h=>by simp at h⟩
 |k::x,u,n,h=>by
  obtain⟨h1,h2⟩:=act_top x u n h;refine⟨fun j hj=>?_,fun _=>?_⟩
  ·simp only[List.length_cons]at hj;show k*u j+sft (act x u) j=0;rw[h j (by omega),Int.mul_zero,Int.zero_add];obtain⟨i,rfl⟩:∃i,j=i+1:=⟨j-1,by omega⟩;exact h1 i (by omega)
  ·simp only[List.length_cons,Nat.add_sub_cancel];show k*u (x.length+n)+sft (act x u) (x.length+n)=_;rcases Nat.eq_zero_or_pos x.length with h0|h0
   ·obtain rfl:=List.length_eq_zero_iff.1 h0;simp only[List.length_nil,Nat.zero_add];rw[row_getD];show k*u n+sft (fun _=>0) n=k*u n;cases n <;> simp[sft]
   ·rw[h (x.length+n) (by omega),Int.mul_zero,Int.zero_add];obtain⟨i,hi⟩:∃i,x.length=i+1:=⟨x.length-1,by omega⟩;have h3:=h2 h0;rw[hi]at h3⊢;rw[Nat.add_sub_cancel]at h3;rw[show i+1+n=(i+n)+1 by omega];show act x u (i+n)=_;rw[h3,row_getD,row_getD];rfl
theorem mul_top {p:Int} (hpr:PrI p) {x y:List Int} (hx:IsP p x) (hy:IsP p y) (h1:0<x.length) (h2:0<y.length):∃z,IsP p z∧(mq x:Am p [])*mq y=mq z∧z.length+1=x.length+y.length∧(x.getD (x.length-1) 0=1→z.getD (z.length-1) 0=y.getD (y.length-1) 0):=by
 obtain⟨P,hP,hpm,_⟩:=hpr;have h3:=hpm.two;have hp:0<p:=(by omega);obtain⟨t1,t2⟩:=act_top x (row y) (y.length-1) fun j hj=>row_ge y j (by omega);obtain⟨z,hz,hN⟩:=nrm_ex hp (row (pmul x y)) (x.length+y.length-1) fun j hj=>by rw[row_pmul,t1 j (by omega)];rfl
 have ht:row z (x.length-1+(y.length-1))=(row x (x.length-1)*row y (y.length-1))%p:=(by rw[hN.eq,row_pmul,t2 h1]);have hne:row z (x.length-1+(y.length-1))≠0:=by
  rw[ht];intro e;have a1:=hx.top h1;have a2:=hy.top h2;have b1:=hx.bd (x.length-1);have b2:=hy.bd (y.length-1);rw[←row_getD]at a1 a2 b1 b2;have hd:=Int.dvd_of_emod_eq_zero e;rw[hP]at hd;have hd2:P ∣ (row x (x.length-1)*row y (y.length-1)).natAbs:=(by have:=Int.natAbs_dvd_natAbs.2 hd;rwa [Int.natAbs_natCast]at this);rw[Int.natAbs_mul]at hd2;rcases hpm.mul hd2 with hd3|hd3
  ·have:=Nat.le_of_dvd (by omega) hd3;omega
  ·have:=Nat.le_of_dvd (by omega) hd3;omega
 have hlen:z.length=x.length+y.length-1:=by
  rcases Nat.lt_or_ge z.length (x.length+y.length-1)with h4|h4
  ·exact absurd (row_ge z _ (by omega)) hne
  ·omega
 refine⟨z,hN.isP hp,?_,by omega,fun e1=>?_⟩
 ·rw[mk_mul];exact mq_all.2 fun j=>by rw[hN.eq,Int.emod_emod]
 ·rw[←row_getD,show z.length-1=x.length-1+(y.length-1)by omega,ht,row_getD x,e1,Int.one_mul,hy.mod,row_getD]
theorem isP_one {p:Int} (hp:1<p):IsP p [1]:=⟨fun j=>by
 cases j with
 |zero=>exact⟨by decide,hp⟩
 |succ j=>rw[getD_of_ge _ _ (by simp)];omega,fun _=>by decide⟩
theorem isP_nil {p:Int} (hp:0<p):IsP p []:=⟨fun j=>by rw[getD_of_ge _ _ (by simp)];omega,fun h=>by simp at h⟩
theorem amPD {P:Nat} (hpm:Prm P) (hpr:PrI (P:Int)):PD (Am (P:Int) []) sz:=by
 have h2:=hpm.two;have hp:(0:Int)<P:=(by omega);have hz:∀x:List Int,IsP (P:Int) x→((mq x:Am (P:Int) [])=0↔x=[]):=fun x hx=>⟨fun e=>hx.uniq (isP_nil hp) e,fun e=>by rw[e];rfl⟩;refine⟨fun a=>?_,fun a b ha hb=>?_,fun a ha=>?_,sz_eq (isP_one (by omega)),fun x y=>?_⟩
 ·obtain⟨x,hx,rfl⟩:=rep_ex hp a;rw[sz_eq hx,hz x hx];exact List.length_eq_zero_iff
 ·obtain⟨x,hx,rfl⟩:=rep_ex hp a;obtain⟨y,hy,rfl⟩:=rep_ex hp b;have h3:0<x.length:=Nat.pos_of_ne_zero fun e=>ha ((hz x hx).2 (List.length_eq_zero_iff.1 e));have h4:0<y.length:=Nat.pos_of_ne_zero fun e=>hb ((hz y hy).2 (List.length_eq_zero_iff.1 e));obtain⟨z,hzP,e,hl,_⟩:=mul_top hpr hx hy h3 h4;rw[e,sz_eq hzP,sz_eq hx,sz_eq hy];refine⟨fun e0=>?_,hl⟩;rw[(hz z hzP).1 e0]at hl;simp at hl;omega
 ·obtain⟨x,hx,rfl⟩:=rep_ex hp a;rw[sz_eq hx]at ha;obtain⟨k,rfl⟩:∃k,x=[k]:=by
   match x,ha with
   |[k],_=>exact⟨k,rfl⟩
  have h3:0≤k∧k<P:=hx.bd 0;have h4:k≠0:=hx.top (by simp);obtain⟨r,_,_,hr⟩:=hpr.inv (a:=k) (by omega) h3.2;refine⟨mq [r],?_⟩;rw[mk_mul,mk_one];refine mq_all.2 fun j=>?_;rw[pmul_one,row_getD,row_getD];cases j with
  |zero=>show r*k%(P:Int)=1%P;rw[hr,Int.emod_eq_of_lt (by omega) (by omega)]
  |succ j=>rfl
 ·obtain⟨x,rfl⟩:=mk_rep x;obtain⟨y,rfl⟩:=mk_rep y;exact bez hpr _ y x (Nat.le_refl _)
def Dr {p:Int} (a:Am p []):Am p []:=Quotient.liftOn a (fun x=>mq (der x)) fun x y (h:Cg p [] (row x) (row y))=>by refine mq_all.2 fun j=>?_;rw[row_der,row_der,Int.mul_emod,mq_all.1 (mk_eq.2 h:(mq x:Am p [])=mq y) (j+1),←Int.mul_emod]
theorem dr_mq {p:Int} (x:List Int):Dr (mq x:Am p [])=mq (der x):=rfl
theorem dr_mul {p:Int} (a b:Am p []):Dr (a*b)=Dr a*b+a*Dr b:=by obtain⟨x,rfl⟩:=mk_rep a;obtain⟨y,rfl⟩:=mk_rep b;exact mq_der_mul (pmul x y) x y rfl
theorem dr_pw {p:Int} (a:Am p []):∀n,Dr (CR.pw a (n+1))=CR.nsm (n+1) (CR.pw a n*Dr a)
 |0=>by show Dr (1*a)=0+1*Dr a;rw[CR.one_mul,CR.one_mul,CR.zero_add]
 |n+1=>by
  show Dr (CR.pw a (n+1)*a)=CR.nsm (n+1) (CR.pw a n*a*Dr a)+CR.pw a n*a*Dr a;rw[dr_mul,dr_pw a n,←CR.nsm_mul];congr 2
  ac_rfl
theorem dr_sz {p:Int} (hp:0<p) {a:Am p []} (h:0<sz a):sz (Dr a)<sz a:=by
 obtain⟨x,hx,rfl⟩:=rep_ex hp a;rw[sz_eq hx]at h⊢;obtain⟨z,hz,hN⟩:=nrm_ex hp (row (der x)) (x.length-1) fun j hj=>by rw[row_der,row_ge x (j+1) (by omega),Int.mul_zero];rfl
 have e:(mq (der x):Am p [])=mq z:=mq_all.2 fun j=>by rw[hN.eq,Int.emod_emod]
 rw[dr_mq,e,sz_eq (hN.isP hp)];omega
def spr (P:Nat):List Int→List Int
 |[]=>[]
 |k::z=>k::(List.replicate (P-1) 0++spr P z)
theorem row_rep:∀(n:Nat) (z:List Int) (j:Nat),row (List.replicate n 0++z) j=if n≤j then row z (j-n) else 0
 |0,z,j=>by simp
 |n+1,z,j=>by
  rw[List.replicate_succ,row_getD];cases j with
  |zero=>simp
  |succ j=>
   have h:=row_rep n z j;rw[row_getD]at h;show(List.replicate n 0++z).getD j 0=_;rw[h];by_cases h1:n≤j
   ·rw[if_pos h1,if_pos (by omega),Nat.add_sub_add_right]
   ·rw[if_neg h1,if_neg (by omega)]
theorem row_spr {P:Nat} (hP:0<P):∀(z:List Int) (j:Nat),row (spr P z) j=if j%P=0 then row z (j / P) else 0
 |[],j=>by
  rw[show spr P []=[] from rfl,row_nil,row_nil]
  split <;> rfl
 |k::z,j=>by
  rw[row_getD];cases j with
  |zero=>rw[if_pos (Nat.zero_mod P),Nat.zero_div,row_getD];rfl
  |succ j=>
   show(List.replicate (P-1) 0++spr P z).getD j 0=_;rw[←row_getD,row_rep];by_cases h1:P-1≤j
   ·rw[if_pos h1,row_spr hP z];have h2:j+1=(j-(P-1))+P:=(by omega);rw[h2,Nat.add_mod_right,Nat.add_div_right _ hP]
    split
    ·rw[row_getD,row_getD];rfl
    ·rfl
   ·rw[if_neg h1,if_neg];rw[Nat.mod_eq_of_lt (by omega)];omega
theorem mq_spr {P:Nat} (hP:0<P) {m:List Int}:∀z:List Int,(mq (spr P z):Am (P:Int) m)=CR.ev (z.map fun k=>(mq [k]:Am (P:Int) m)) (CR.pw (mq [0,1]) P)
 |[]=>rfl
 |k::z=>by
  have hr:∀(n:Nat) (y:List Int),(mq (List.replicate n 0++y):Am (P:Int) m)=CR.pw (mq [0,1]) n*mq y:=fun n=>by
   induction n with
   |zero=>intro y;exact(CR.one_mul _).symm
   |succ n ih=>
    intro y;rw[List.replicate_succ];show(mq (0::(List.replicate n 0++y)):Am (P:Int) m)=_;rw[mk_cons,ih];have e:(mq [0]:Am (P:Int) m)=0:=(by rw[mk_zero];refine mk_row fun j=>?_;rw[row_getD,row_getD];cases j <;> rfl);rw[e,CR.zero_add];show _=CR.pw (mq [0,1]) n*mq [0,1]*mq y
    ac_rfl
  show(mq (k::(List.replicate (P-1) 0++spr P z)):Am (P:Int) m)=mq [k]+CR.pw (mq [0,1]) P*CR.ev (z.map fun k=>(mq [k]:Am (P:Int) m)) (CR.pw (mq [0,1]) P);rw[mk_cons,hr,←mq_spr hP z,←CR.mul_assoc];congr 2;have e:∀X:Am (P:Int) m,CR.pw X P=X*CR.pw X (P-1):=fun X=>by have h1:=CR.pw_add X 1 (P-1);rw[CR.pw_one]at h1;exact(congrArg (CR.pw X) (show P=1+(P-1)by omega)).trans h1
  exact(e _).symm
theorem pw_spr {P:Nat} (hpm:Prm P) (z:List Int):CR.pw (mq z:Am (P:Int) []) P=mq (spr P z):=by have h2:=hpm.two;rw[mq_spr (by omega),←ev_pw hpm,mk_ev]
theorem dr_zero {P:Nat} (hpm:Prm P) {x z:List Int} (h:Dr (mq x:Am (P:Int) [])=0) (hz:∀j,row z j%(P:Int)=row x (P*j)%P):(mq x:Am (P:Int) [])=CR.pw (mq z) P:=by
 have h2:=hpm.two;rw[pw_spr hpm];refine mq_all.2 fun j=>?_;rw[row_spr (by omega)];by_cases h0:j%P=0
 ·rw[if_pos h0,hz];have:P*(j / P)=j:=(by have:=Nat.div_add_mod j P;omega);rw[this]
 ·rw[if_neg h0];rw[dr_mq,mk_zero]at h;obtain⟨i,rfl⟩:∃i,j=i+1:=⟨j-1,by
   rcases Nat.eq_zero_or_pos j with h1|h1
   ·rw[h1,Nat.zero_mod]at h0;exact absurd rfl h0
   ·omega⟩
  have h3:=mq_all.1 h i;rw[row_der,row_nil]at h3;have hd:=Int.dvd_of_emod_eq_zero (h3.trans (Int.zero_emod _));have hd2:P ∣ (((i+1:Nat):Int)*row x (i+1)).natAbs:=(by have:=Int.natAbs_dvd_natAbs.2 hd;rwa [Int.natAbs_natCast]at this);rw[Int.natAbs_mul]at hd2;rcases hpm.mul hd2 with hd3|hd3
  ·exact absurd (Nat.mod_eq_zero_of_dvd (by rwa [Int.natAbs_natCast]at hd3)) h0
  ·rw[Int.emod_eq_zero_of_dvd (Int.natAbs_dvd_natAbs.1 (by rwa [Int.natAbs_natCast]))];rfl
end Go.Proofs.YtffdemplaodbcaaDoor
namespace Go.Proofs.YtffdemplaodbcaaDoor
open Go Go.Proofs Go.RowKit Go.Rad
open _root_.Rad (CR Prm PD Dv Irr Vl)
abbrev Ap (P:Nat):=Am (P:Int) []
structure Mon (P:Nat) (x:List Int):Prop where
 isP:IsP (P:Int) x
 pos:0<x.length
 one:x.getD (x.length-1) 0=1
abbrev Pm (P:Nat) (g:Ap P):Prop:=Irr sz g
structure PrC (P:Nat):Prop where
 pm:Prm P
 pr:PrI (P:Int)
theorem PrC.pd {P:Nat} (h:PrC P):PD (Ap P) sz:=amPD h.pm h.pr
theorem PrC.two {P:Nat} (h:PrC P):(1:Int)<P:=by have:=h.pm.two;omega
theorem Mon.sz {P:Nat} {x:List Int} (h:Mon P x):sz (mq x:Ap P)=x.length:=sz_eq h.isP
theorem Mon.ne {P:Nat} (hP:PrC P) {x:List Int} (h:Mon P x):(mq x:Ap P)≠0:=hP.pd.ne (by rw[h.sz];exact h.pos)
theorem nsm_num {P:Nat} (a:Ap P) (n:Nat):CR.nsm n a=mq [(n:Int)]*a:=by have h1:=CR.nsm_mul (1:Ap P) a n;rw[CR.one_mul]at h1;rw[h1,mk_one,mk_nsm];congr 1;show mq [(n:Int)*1]=_;rw[Int.mul_one]
theorem num_unit {P:Nat} (hP:PrC P) {n:Nat} (h:¬P ∣ n):∃w:Ap P,w*mq [(n:Int)]=1:=by
 have h2:=hP.pm.two;have h3:n%P≠0:=fun e=>h (Nat.dvd_of_mod_eq_zero e);have h4:=Nat.mod_lt n (show 0<P by omega);obtain⟨r,_,_,hr⟩:=hP.pr.inv (a:=((n%P:Nat):Int)) (by omega) (by omega);refine⟨mq [r],?_⟩;rw[mk_mul,mk_one];refine mq_all.2 fun j=>?_;rw[pmul_one,row_getD,row_getD];cases j with
 |zero=>show r*(n:Int)%P=1%P;rw[Int.natCast_emod,Int.mul_emod,Int.emod_emod,←Int.mul_emod]at hr;rw[hr,Int.emod_eq_of_lt (by omega) (by have:=hP.two;omega)]
 |succ j=>rfl
theorem sz_pw {P:Nat} (hP:PrC P) {b:Ap P} (hb:b≠0):∀n,sz (CR.pw b n)=n*(sz b-1)+1
 |0=>by rw[Nat.zero_mul];exact hP.pd.one
 |n+1=>by have h1:=(hP.pd.m _ b (hP.pd.pw_ne hb n) hb).2;have h2:=hP.pd.pos hb;rw[sz_pw hP hb n]at h1;show sz (CR.pw b n*b)=_;rw[Nat.succ_mul];omega
theorem ndv_der {P:Nat} (hP:PrC P) {g:Ap P} (h:Pm P g):¬Dv g (Dr g):=by
 have h2:=hP.pm.two;have hsz:=h.two;have hp:(0:Int)<P:=(by omega);refine hP.pd.ndv_small (fun e=>?_) (dr_sz hp (by omega));obtain⟨x,hx,rfl⟩:=rep_ex hp g;have h3:=dr_zero hP.pm (x:=x) (z:=lst (fun j=>row x (P*j)) x.length) e fun j=>by
  rw[row_lst];unfold cut
  split
  ·rfl
  ·rename_i hj
   rw[row_ge x (P*j) (by have:=Nat.mul_le_mul_right j (show 1≤P by omega);omega)]
 obtain⟨b,hb⟩:∃b:Ap P,b=mq (lst (fun j=>row x (P*j)) x.length):=⟨_,rfl⟩;rw[←hb]at h3;have hb0:b≠0:=fun e0=>by rw[e0,CR.zero_pw (by omega)]at h3;exact hP.pd.ir_ne h h3
 have h4:(mq x:Ap P)=b*CR.pw b (P-1):=(by rw[h3];have h1:=CR.pw_add b 1 (P-1);rw[CR.pw_one]at h1;exact(congrArg (CR.pw b) (show P=1+(P-1)by omega)).trans h1);have h5:=sz_pw hP hb0 P;rw[←h3]at h5;have h6:sz b=1:=by
  rcases h.ir _ _ h4 with h6|h6
  ·exact h6
  ·rw[sz_pw hP hb0]at h6;have h7:=hP.pd.pos hb0;have h8:(P-1)*(sz b-1)=0:=(by omega);rcases Nat.mul_eq_zero.1 h8 with h9|h9 <;> omega
 rw[h6]at h5;omega
theorem vl_dr {P:Nat} (hP:PrC P) {g f:Ap P} (h:Pm P g) {e:Nat} (hv:Vl g f e) (he:¬P ∣ e):Vl g (Dr f) (e-1):=by
 obtain⟨u,hu,hnd⟩:=hv;obtain⟨k,rfl⟩:∃k,e=k+1:=⟨e-1,by
  rcases Nat.eq_zero_or_pos e with h1|h1
  ·rw[h1]at he;exact absurd (Nat.dvd_zero P) he
  ·omega⟩
 refine⟨CR.nsm (k+1) (Dr g*u)+g*Dr u,?_,fun hd=>?_⟩
 ·rw[Nat.add_sub_cancel,hu,dr_mul,dr_pw,CR.mul_add,nsm_num,nsm_num];congr 1
  ·ac_rfl
  ·show CR.pw g k*g*Dr u=_
   ac_rfl
 ·have h1:Dv g (CR.nsm (k+1) (Dr g*u)):=(by obtain⟨c,hc⟩:=hd;refine⟨c+ -(Dr u),?_⟩;rw[CR.mul_add,←hc,CR.mul_neg,CR.add_assoc,CR.add_neg,CR.add_zero]);rw[nsm_num]at h1;obtain⟨w,hw⟩:=num_unit hP he;have h2:=h1.lmul w;rw[←CR.mul_assoc,hw,CR.one_mul]at h2;rcases hP.pd.prime h h2 with h3|h3
  ·exact ndv_der hP h h3
  ·exact hnd h3
theorem dr_num {P:Nat} (k:Int):Dr (mq [k]:Ap P)=0:=by rw[dr_mq,mk_zero];exact mk_row fun j=>by rw[row_der,row_nil,row_ge [k] (j+1) (by simp),Int.mul_zero]
theorem dv_dr {P:Nat} {g f:Ap P} {e:Nat} (hv:Vl g f e) (he:P ∣ e):Dv (CR.pw g e) (Dr f):=by
 obtain⟨u,hu,_⟩:=hv;have h0:Dr (CR.pw g e)=0:=by
  cases e with
  |zero=>exact dr_num 1
  |succ k=>rw[dr_pw];exact CR.nsm_char (am_char P []) he _
 refine⟨Dr u,?_⟩;rw[hu,dr_mul,h0,CR.zero_mul,CR.zero_add]
theorem IsMon.dv {p:Int} {x z:List Int} (h:IsMon p x z):∃c:Am p [],mq x=mq z*c:=by
 cases h with
 |nil hx hz=>subst hx hz;exact⟨1,(CR.mul_one _).symm⟩
 |mk r h0 hr hr2 h1 hz=>refine⟨mq [x.getD (x.length-1) 0],?_⟩;rw[CR.mul_comm,mk_mul];refine mq_all.2 fun j=>?_;rw[row_pmul];show _=(x.getD (x.length-1) 0*row z j+sft (fun _=>0) j)%p;have e:sft (fun _=>0) j=0:=(by cases j <;> rfl);rw[e,Int.add_zero,Int.mul_emod,hz.eq,Int.emod_emod,←Int.mul_emod,show x.getD (x.length-1) 0*(r*row x j)=(r*x.getD (x.length-1) 0)*row x j by ac_rfl,Int.mul_emod,h1,Int.one_mul,Int.emod_emod]
theorem GcdR.dv {p:Int} {f g z:List Int} (h:GcdR p f g z):(∃c:Am p [],mq f=mq z*c)∧∃c:Am p [],mq g=mq z*c:=by
 induction h with
 |nil f z h=>exact⟨h.dv,0,(CR.mul_zero _).symm⟩
 |step f g r z h0 hr h ih=>obtain⟨⟨c,hc⟩,⟨d,hd⟩⟩:=ih;refine⟨?_,c,hc⟩;obtain⟨q,hq⟩:=hr.cg;have hf:(mq f:Am p [])=mq r+mq q*mq g:=(by rw[mk_mul,mk_add];refine mk_eq.2 (.of fun j=>?_);rw[hq j,row_padd,row_pmul]);exact⟨d+mq q*c,by rw[hf,hd,hc,CR.mul_add];congr 1;ac_rfl⟩
theorem GcdR.mon {P:Nat} (hP:PrC P) {f g z:List Int} (h:GcdR (P:Int) f g z) (hne:0<f.length∨0<g.length):Mon P z:=by
 refine⟨h.isP (by have:=hP.two;omega),h.ne hP.two hne,?_⟩
 induction h with
 |nil f z h=>
  cases h with
  |nil hx hz=>subst hx;simp at hne
  |mk r h0 hr hr2 h1 hz=>
   have hl:z.length≤f.length:=hz.len fun j hj=>by rw[row_ge f j hj,Int.mul_zero];rfl
   have h3:row z (f.length-1)=1:=(by rw[hz.eq,row_getD,h1]);have hl2:z.length=f.length:=by
    rcases Nat.lt_or_ge z.length f.length with h4|h4
    ·rw[row_ge z _ (by omega)]at h3;omega
    ·omega
   rw[hl2,←row_getD];exact h3
 |step f g r z h0 hr h ih=>exact ih (.inl h0)
theorem Mon.quo {P:Nat} (hP:PrC P) {m x Q r:List Int} (hm:Mon P m) (hx:Mon P x) (hD:Dvd (P:Int) m x Q r) {a:Ap P} (ha:mq x=mq m*a):Mon P Q∧(mq x:Ap P)=mq Q*mq m∧Q.length+m.length=x.length+1:=by
 have h2:=hP.two;have hx0:=hx.ne hP;have hsz:=hP.pd.m (mq m) a (hm.ne hP) (fun e=>hx0 (by rw[ha,e,CR.mul_zero]));rw[←ha,hx.sz,hm.sz]at hsz;have ha1:=hP.pd.pos (fun e=>hx0 (by rw[ha,e,CR.mul_zero]):a≠0);have e1:(mq x:Ap P)=mq r+mq Q*mq m:=(by rw[mk_mul,mk_add];refine mq_all.2 fun j=>?_;rw[hD.eq,row_padd,row_pmul]);have hr:IsP (P:Int) r:=⟨hD.rb,hD.rt⟩;have hr0:(mq r:Ap P)=0:=(by refine Classical.byContradiction fun hn=>?_;refine hP.pd.ndv_small (a:=mq m) hn (by rw[sz_eq hr,hm.sz];exact hD.rl) ⟨a+ -(mq Q),?_⟩;rw[CR.mul_add,←ha,CR.mul_neg,e1,CR.add_assoc,CR.mul_comm (mq Q),CR.add_neg,CR.add_zero]);rw[hr0,CR.zero_add]at e1;obtain⟨q,hq,hqe⟩:=rep_ex (p:=(P:Int)) (by omega) (mq Q);have hq0:0<q.length:=by
  rcases Nat.eq_zero_or_pos q.length with h3|h3
  ·exfalso;rw[hqe,List.length_eq_zero_iff.1 h3]at e1;exact hx0 (by rw[e1];exact CR.zero_mul _)
  ·exact h3
 obtain⟨z,hz,hze,hzl,hzt⟩:=mul_top hP.pr hm.isP hq hm.pos hq0;have hzx:z=x:=hz.uniq hx.isP (by rw[←hze,e1,hqe];exact CR.mul_comm _ _);subst hzx;have hql:Q.length=q.length:=(by have:=hD.len;have:=hm.pos;omega);have hQq:∀j,Q.getD j 0=q.getD j 0:=fun j=>by have h4:=mq_all.1 hqe j;rw[row_getD,row_getD,Int.emod_eq_of_lt (hD.bd j).1 (hD.bd j).2,Int.emod_eq_of_lt (hq.bd j).1 (hq.bd j).2]at h4;exact h4
 have h1:q.getD (q.length-1) 0=1:=(by rw[←hzt hm.one];exact hx.one);refine⟨⟨⟨hD.bd,fun _=>by rw[hql,hQq,h1];decide⟩,by omega,by rw[hql,hQq];exact h1⟩,e1,by omega⟩
theorem Mon.same {P:Nat} (hP:PrC P) {x y:List Int} (hx:Mon P x) (hy:Mon P y) (h:∀g,Pm P g→∀e,Vl g (mq x) e→Vl g (mq y) e):x=y:=by
 have h2:=hP.two;obtain⟨w,hw,e⟩:=hP.pd.same (hx.ne hP) (hy.ne hP) h;obtain⟨q,hq,rfl⟩:=rep_ex (p:=(P:Int)) (by omega) w;rw[sz_eq hq]at hw;obtain⟨k,rfl⟩:∃k,q=[k]:=by
  match q,hw with
  |[k],_=>exact⟨k,rfl⟩
 obtain⟨z,hz,hze,hzl,hzt⟩:=mul_top hP.pr hy.isP hq hy.pos (by simp);have hzx:z=x:=hz.uniq hx.isP (by rw[←hze,e];exact CR.mul_comm _ _);subst hzx;have h3:=hzt hy.one;rw[hx.one]at h3;have h4:k=1:=h3.symm;subst h4;exact hx.isP.uniq hy.isP (by rw[e,←mk_one,CR.one_mul])
end Go.Proofs.YtffdemplaodbcaaDoor
namespace Go.Proofs.YtffdemplaodbcaaDoor
open Go Go.Proofs Go.RowKit Go.Rad
open _root_.Rad (CR Prm PD Dv Irr Vl)
def PtS {P:Nat} (f once more:Ap P) (k:Nat):Prop:=∀g,Pm P g→∀e,Vl g f e→Vl g once (if ¬P ∣ e∧k≤e then 1 else 0)∧Vl g more (if P ∣ e then e else e-k)
theorem PtS.start {P:Nat} (hP:PrC P) {f d m:List Int} {once:Ap P} (hd:(mq d:Ap P)=Dr (mq f)) (hG:GcdR (P:Int) f d m) (hq:(mq f:Ap P)=once*mq m):PtS (mq f) once (mq m) 1:=by
 intro g hg e hv;obtain⟨u,v,hc⟩:=hG.comb;obtain⟨⟨c,hx⟩,⟨c',hy⟩⟩:=hG.dv;have hm:Vl g (mq m) (if P ∣ e then e else e-1):=by
  by_cases he:P ∣ e
  ·rw[if_pos he];exact hP.pd.vl_gcd_ge hg hc hx hv (by rw[hd];exact dv_dr hv he)
  ·rw[if_neg he];have h1:=hP.pd.vl_gcd hg hc hx hy hv (by rw[hd];exact vl_dr hP hg hv he)
   rwa [Nat.min_eq_right (Nat.sub_le _ _)]at h1
 refine⟨?_,hm⟩;have h1:=(hP.pd.vl_quo hg hv hm hq).1;by_cases he:P ∣ e
 ·rw[if_pos he,Nat.sub_self]at h1;rw[if_neg (fun h=>h.1 he)];exact h1
 ·rw[if_neg he]at h1;have he1:1≤e:=by
   rcases Nat.eq_zero_or_pos e with h2|h2
   ·rw[h2]at he;exact absurd (Nat.dvd_zero P) he
   ·exact h2
  rw[if_pos ⟨he,he1⟩,show 1=e-(e-1)by omega];exact h1
theorem PtS.step {P:Nat} (hP:PrC P) {f:Ap P} {once more again:List Int} {part more':Ap P} {k:Nat} (h:PtS f (mq once) (mq more) k) (hG:GcdR (P:Int) once more again) (hp:(mq once:Ap P)=part*mq again) (hm:(mq more:Ap P)=more'*mq again):
 PtS f (mq again) more' (k+1)∧∀g,Pm P g→∀e,Vl g f e→Vl g part (if ¬P ∣ e∧e=k then 1 else 0):=by
 have key:∀g,Pm P g→∀e,Vl g f e→Vl g (mq again) (if ¬P ∣ e∧k+1≤e then 1 else 0):=fun g hg e hv=>by
  obtain⟨h1,h2⟩:=h g hg e hv;obtain⟨u,v,hc⟩:=hG.comb;obtain⟨⟨c,hx⟩,⟨c',hy⟩⟩:=hG.dv;have h3:=hP.pd.vl_gcd hg hc hx hy h1 h2;have e1:min (if ¬P ∣ e∧k≤e then 1 else 0) (if P ∣ e then e else e-k)=if ¬P ∣ e∧k+1≤e then 1 else 0:=(by by_cases he:P ∣ e <;> by_cases hk:k≤e <;> by_cases hk2:k+1≤e <;> simp[he,hk,hk2] <;> omega)
  rwa [e1]at h3
 refine⟨fun g hg e hv=>⟨key g hg e hv,?_⟩,fun g hg e hv=>?_⟩
 ·have h3:=(hP.pd.vl_quo hg (h g hg e hv).2 (key g hg e hv) hm).1;by_cases he:P ∣ e
  ·rw[if_pos he,if_neg (fun h=>h.1 he),Nat.sub_zero]at h3;rw[if_pos he];exact h3
  ·rw[if_neg he]at h3⊢;by_cases hk2:k+1≤e
   ·rw[if_pos ⟨he,hk2⟩]at h3;rw[show e-(k+1)=e-k-1 by omega];exact h3
   ·rw[if_neg (fun h=>hk2 h.2)]at h3;rw[show e-(k+1)=e-k-0 by omega];exact h3
 ·have h3:=(hP.pd.vl_quo hg (h g hg e hv).1 (key g hg e hv) hp).1;have e1:(if ¬P ∣ e∧k≤e then 1 else 0)-(if ¬P ∣ e∧k+1≤e then 1 else 0)=if ¬P ∣ e∧e=k then 1 else 0:=by
   by_cases hk3:e=k
   ·subst hk3;by_cases he:P ∣ e <;> simp[he,show ¬e+1≤e by omega]
   ·by_cases he:P ∣ e <;> by_cases hk:k≤e <;> by_cases hk2:k+1≤e <;> simp[he,hk,hk2,hk3] <;> omega
  rwa [e1]at h3
theorem PtS.stop {P:Nat} (hP:PrC P) {f once more:Ap P} {k:Nat} (h:PtS f once more k) (h1:sz once≤1) (g:Ap P) (hg:Pm P g) (e:Nat) (hv:Vl g f e):(¬P ∣ e→e<k)∧Vl g more (if P ∣ e then e else 0):=by
 obtain⟨h2,h3⟩:=h g hg e hv;have h4:¬P ∣ e→e<k:=fun he=>by refine Classical.byContradiction fun hk=>?_;rw[if_pos ⟨he,by omega⟩]at h2;have h5:=hP.pd.dv_sz ((hP.pd.vl_pos hg h2).2 (by decide)) (hP.pd.vl_ne hg h2);have:=hg.two;omega
 refine⟨h4,?_⟩;by_cases he:P ∣ e
 ·rw[if_pos he]at h3⊢;exact h3
 ·rw[if_neg he]at h3⊢;rw[show e-k=0 by have:=h4 he;omega]at h3;exact h3
theorem pthp {P:Nat} (hP:PrC P):∀(n:Nat) (a:Ap P),sz a≤n→a≠0→(∀g,Pm P g→∀e,Vl g a e→P ∣ e)→∃w k,a=mq [k]*CR.pw w P
 |0,a,hn,ha,_=>absurd ((hP.pd.z a).1 (by omega)) ha
 |n+1,a,hn,ha,h=>by
  have hp:(0:Int)<P:=(by have:=hP.two;omega);by_cases h2:2≤sz a
  ·obtain⟨g,hg,hd⟩:=hP.pd.irr_of h2;obtain⟨e,he⟩:=hP.pd.vl hg ha;have h3:=(hP.pd.vl_pos hg he).1 hd;have h4:=h g hg e he;obtain⟨b,hb⟩:=hP.pd.vl_dv he (Nat.le_of_dvd h3 h4);have hpw:=hP.pd.pw_ne (hP.pd.ir_ne hg) P;have hb0:b≠0:=fun e0=>ha (by rw[hb,e0,CR.mul_zero]);have h5:=(hP.pd.m _ b hpw hb0).2;rw[←hb,sz_pw hP (hP.pd.ir_ne hg)]at h5;have h6:=hg.two;have h7:1≤P*(sz g-1):=Nat.mul_pos (by have:=hP.pm.two;omega) (by omega);obtain⟨w,k,hw⟩:=pthp hP n b (by omega) hb0 fun q hq e' hv'=>by obtain⟨t,ht⟩:=hP.pd.vl hq (hP.pd.ir_ne hg);have h8:=hP.pd.vl_mul hq (hP.pd.vl_pw hq ht P) hv';rw[←hb]at h8;have h9:=h q hq _ h8;exact(Nat.dvd_add_right (Nat.dvd_mul_right P t)).1 h9
   exact⟨g*w,k,by rw[hb,hw,CR.mul_pw];ac_rfl⟩
  ·have h3:=hP.pd.pos ha;obtain⟨x,hx,rfl⟩:=rep_ex hp a;have hl:x.length=1:=(by rw[sz_eq hx]at h2 h3;omega);obtain⟨k,rfl⟩:∃k,x=[k]:=by
    match x,hl with
    |[k],_=>exact⟨k,rfl⟩
   exact⟨1,k,by rw[CR.one_pw,CR.mul_one]⟩
theorem dr_pth {P:Nat} (hP:PrC P) {a:Ap P} (ha:a≠0) (h:∀g,Pm P g→∀e,Vl g a e→P ∣ e):Dr a=0:=by obtain⟨w,k,hw⟩:=pthp hP _ a (Nat.le_refl _) ha h;have h2:=hP.pm.two;have h0:Dr (CR.pw w P)=0:=(by have e:∀n,P=n+1→Dr (CR.pw w (n+1))=CR.nsm (n+1) (CR.pw w n*Dr w):=fun n _=>dr_pw w n;have e1:=e (P-1) (by omega);have e2:(P-1+1)=P:=(by omega);rw[CR.nsm_char (am_char P []) (by rw[e2];exact Nat.dvd_refl P)]at e1;exact(congrArg (fun n=>Dr (CR.pw w n)) e2.symm).trans e1);rw[hw,dr_mul,dr_num,h0,CR.zero_mul,CR.mul_zero,CR.add_zero]
theorem Mon.root {P:Nat} (hP:PrC P) {x z:List Int} (hx:Mon P x) (h:∀g,Pm P g→∀e,Vl g (mq x) e→P ∣ e) (hz:∀j,j<z.length→z.getD j 0=x.getD (P*j) 0) (h1:x.length≤P*z.length) (h2:0<z.length→P*(z.length-1)<x.length):
 Mon P z∧(mq x:Ap P)=CR.pw (mq z) P∧P*(z.length-1)+1=x.length:=by
 have hp2:=hP.pm.two;have hD:=dr_pth hP (hx.ne hP) h;have hrow:∀j,row z j%(P:Int)=row x (P*j)%P:=fun j=>by
  rcases Nat.lt_or_ge j z.length with h3|h3
  ·rw[row_getD,row_getD,hz j h3]
  ·rw[row_ge z j h3,row_ge x (P*j) (by have:=Nat.mul_le_mul_left P h3;omega)]
 have he:=dr_zero hP.pm hD hrow;have hz0:0<z.length:=by
  rcases Nat.eq_zero_or_pos z.length with h3|h3
  ·rw[h3,Nat.mul_zero]at h1;have:=hx.pos;omega
  ·exact h3
 have hbd:∀j,0≤z.getD j 0∧z.getD j 0<P:=fun j=>by
  rcases Nat.lt_or_ge j z.length with h3|h3
  ·rw[hz j h3];exact hx.isP.bd _
  ·rw[getD_of_ge z j h3];omega
 obtain⟨q,hq,hqe⟩:=rep_ex (p:=(P:Int)) (by omega) (mq z);have hqz:∀j,z.getD j 0=q.getD j 0:=fun j=>by have h4:=mq_all.1 hqe j;rw[row_getD,row_getD,Int.emod_eq_of_lt (hbd j).1 (hbd j).2,Int.emod_eq_of_lt (hq.bd j).1 (hq.bd j).2]at h4;exact h4
 have hq0:(mq q:Ap P)≠0:=fun e0=>by rw[hqe,e0,CR.zero_pw (by omega)]at he;exact hx.ne hP he
 have hsz:=sz_pw hP hq0 P;rw[←hqe,←he,hx.sz,hqe,sz_eq hq]at hsz;have hq1:0<q.length:=(by have:=hP.pd.pos hq0;rw[sz_eq hq]at this;exact this);have h3:=h2 hz0;have hql:q.length=z.length:=(by have a1:P*(z.length-1)≤P*(q.length-1):=(by omega);have a2:=Nat.le_of_mul_le_mul_left a1 (by omega);have a3:P*(q.length-1)<P*z.length:=(by omega);have a4:=Nat.lt_of_mul_lt_mul_left a3;omega);rw[hql]at hsz;have ht:z.getD (z.length-1) 0=1:=(by rw[hz _ (by omega),show P*(z.length-1)=x.length-1 by omega];exact hx.one);exact⟨⟨⟨hbd,fun _=>by rw[ht];decide⟩,hz0,ht⟩,he,hsz.symm⟩
end Go.Proofs.YtffdemplaodbcaaDoor
namespace Go.Proofs.YtffdemplaodbcaaDoor
open Go Go.Proofs Go.RowKit Go.Rad
open _root_.Rad (CR Prm PD Dv Irr Vl)
def OS {P:Nat} (f0:Ap P) (u:Nat) (f:Ap P):Prop:=∀g,Pm P g→∀e,Vl g f0 e→Vl g f (if u ∣ e then e / u else 0)
theorem OS.start {P:Nat} (f0:Ap P):OS f0 1 f0:=fun g hg e hv=>by rw[if_pos (Nat.one_dvd e),Nat.div_one];exact hv
theorem OS.next {P:Nat} (hP:PrC P) {f0 f more z:Ap P} {u:Nat} (hu:0<u) (h:OS f0 u f) (hm:∀g,Pm P g→∀e,Vl g f e→Vl g more (if P ∣ e then e else 0)) (hz:more=CR.pw z P) (hz0:z≠0):OS f0 (u*P) z:=by
 intro g hg e hv;have hp2:=hP.pm.two;have h1:=hm g hg _ (h g hg e hv);obtain⟨t,ht⟩:=hP.pd.vl hg hz0;have h2:=hP.pd.vl_pw hg ht P;rw[←hz]at h2;have h3:=hP.pd.vl_uniq hg h1 h2;have h4:t=if u*P ∣ e then e / (u*P) else 0:=by
  by_cases hue:u ∣ e
  ·obtain⟨k,rfl⟩:=hue;rw[if_pos (Nat.dvd_mul_right u k),Nat.mul_div_cancel_left k hu]at h3;by_cases hpk:P ∣ k
   ·rw[if_pos hpk]at h3;rw[if_pos (Nat.mul_dvd_mul_left u hpk),Nat.mul_div_mul_left _ _ hu,h3,Nat.mul_div_cancel_left t (by omega)]
   ·rw[if_neg hpk]at h3;rw[if_neg (fun h5=>hpk (Nat.dvd_of_mul_dvd_mul_left hu h5))];rcases Nat.mul_eq_zero.1 h3.symm with h6|h6 <;> omega
  ·rw[if_neg hue,if_pos (Nat.dvd_zero P)]at h3;rw[if_neg (fun h5=>hue (Nat.dvd_trans (Nat.dvd_mul_right u P) h5))];rcases Nat.mul_eq_zero.1 h3.symm with h6|h6 <;> omega
 rw[←h4];exact ht
structure EM (P:Nat) (f0:Ap P) (E:List (List Int×Nat)) (cov:Nat→Prop):Prop where
 mem:∀a n,(a,n)∈E→Mon P a∧2≤a.length∧1≤n∧cov n∧∀g,Pm P g→Dv g (mq a)→Vl g f0 n∧Vl g (mq a) 1
 all:∀g,Pm P g→∀e,Vl g f0 e→1≤e→cov e→∃a n,(a,n)∈E∧Dv g (mq a)
 nd:(E.map Prod.snd).Nodup
def cvA (P u k:Nat) (e:Nat):Prop:=¬u ∣ e∨∃i,i<k∧e=i*u∧¬P ∣ i
theorem EM.start {P:Nat} (f0:Ap P):EM P f0 [] (cvA P 1 1):=
 ⟨fun a n h=>by simp at h,fun g hg e hv he hc=>by
  rcases hc with h|⟨i,h1,h2,h3⟩
  ·exact absurd (Nat.one_dvd e) h
  ·exact absurd (by rw[show i=0 by omega];exact Nat.dvd_zero P) h3,List.nodup_nil⟩
theorem EM.skip {P:Nat} (hP:PrC P) {f0 f part:Ap P} {E:List (List Int×Nat)} {u k:Nat} (hu:0<u) (h:EM P f0 E (cvA P u k)) (hO:OS f0 u f) (hp:∀g,Pm P g→∀e,Vl g f e→Vl g part (if ¬P ∣ e∧e=k then 1 else 0)) (hl:sz part≤1):EM P f0 E (cvA P u (k+1)):=by
 refine⟨fun a n hm=>?_,fun g hg e hv he hc=>?_,h.nd⟩
 ·obtain⟨h1,h2,h3,h4,h5⟩:=h.mem a n hm;refine⟨h1,h2,h3,?_,h5⟩;rcases h4 with h6|⟨i,h6,h7⟩
  ·exact .inl h6
  ·exact .inr ⟨i,by omega,h7⟩
 ·rcases hc with h6|⟨i,h6,h7,h8⟩
  ·exact h.all g hg e hv he (.inl h6)
  ·rcases Nat.lt_or_ge i k with h9|h9
   ·exact h.all g hg e hv he (.inr ⟨i,h9,h7,h8⟩)
   ·obtain rfl:i=k:=(by omega);exfalso;have h10:=hO g hg e hv;rw[h7,if_pos (Nat.dvd_mul_left u i),Nat.mul_div_cancel i hu]at h10;have h11:=hp g hg i h10;rw[if_pos ⟨h8,rfl⟩]at h11;have h12:=hP.pd.dv_sz ((hP.pd.vl_pos hg h11).2 (by decide)) (hP.pd.vl_ne hg h11);have:=hg.two;omega
theorem EM.add {P:Nat} (hP:PrC P) {f0 f:Ap P} {part:List Int} {E:List (List Int×Nat)} {u k:Nat} (hu:0<u) (hk:0<k) (hf0:f0≠0) (h:EM P f0 E (cvA P u k)) (hO:OS f0 u f) (hp:∀g,Pm P g→∀e,Vl g f e→Vl g (mq part) (if ¬P ∣ e∧e=k then 1 else 0)) (hM:Mon P part) (hl:2≤part.length):
 EM P f0 (E++[(part,k*u)]) (cvA P u (k+1)):=by
 have key:∀g,Pm P g→Dv g (mq part)→Vl g f0 (k*u)∧Vl g (mq part) 1∧¬P ∣ k:=fun g hg hd=>by
  obtain⟨e,he⟩:=hP.pd.vl hg hf0;have h1:=hO g hg e he;have h2:=hp g hg _ h1;have h3:=(hP.pd.vl_pos hg h2).1 hd;have h4:¬P ∣ (if u ∣ e then e / u else 0)∧(if u ∣ e then e / u else 0)=k:=(by refine Classical.byContradiction fun hn=>?_;rw[if_neg hn]at h3;omega);rw[if_pos h4]at h2;have h5:e=k*u:=by
   by_cases hue:u ∣ e
   ·rw[if_pos hue]at h4;rw[←h4.2,Nat.div_mul_cancel hue]
   ·rw[if_neg hue]at h4;omega
  rw[h5]at he;exact⟨he,h2,by have h6:=h4.1;rw[h4.2]at h6;exact h6⟩
 have hpk:¬P ∣ k:=(by obtain⟨g,hg,hd⟩:=hP.pd.irr_of (a:=mq part) (by rw[hM.sz];exact hl);exact(key g hg hd).2.2);refine⟨fun a n hm=>?_,fun g hg e hv he hc=>?_,?_⟩
 ·rcases List.mem_append.1 hm with hm|hm
  ·obtain⟨h1,h2,h3,h4,h5⟩:=h.mem a n hm;refine⟨h1,h2,h3,?_,h5⟩;rcases h4 with h6|⟨i,h6,h7⟩
   ·exact .inl h6
   ·exact .inr ⟨i,by omega,h7⟩
  ·simp only[List.mem_singleton,Prod.mk.injEq]at hm;obtain⟨rfl,rfl⟩:=hm;exact⟨hM,hl,Nat.mul_pos hk hu, .inr ⟨k,Nat.lt_succ_self k,rfl,hpk⟩,fun g hg hd=>⟨(key g hg hd).1,(key g hg hd).2.1⟩⟩
 ·have old:(∃a n,(a,n)∈E∧Dv g (mq a))→∃a n,(a,n)∈E++[(part,k*u)]∧Dv g (mq a):=fun⟨a,n,h1,h2⟩=>⟨a,n,List.mem_append_left _ h1,h2⟩;rcases hc with h6|⟨i,h6,h7,h8⟩
  ·exact old (h.all g hg e hv he (.inl h6))
  ·rcases Nat.lt_or_ge i k with h9|h9
   ·exact old (h.all g hg e hv he (.inr ⟨i,h9,h7,h8⟩))
   ·obtain rfl:i=k:=(by omega);have h10:=hO g hg e hv;rw[h7,if_pos (Nat.dvd_mul_left u i),Nat.mul_div_cancel i hu]at h10;have h11:=hp g hg i h10;rw[if_pos ⟨h8,rfl⟩]at h11;exact⟨part,i*u,List.mem_append_right _ (List.mem_singleton_self _),(hP.pd.vl_pos hg h11).2 (by decide)⟩
 ·rw[List.map_append,List.nodup_append];refine⟨h.nd,by simp,fun n hn m hm=>?_⟩;obtain⟨⟨a,n'⟩,ha,rfl⟩:=List.mem_map.1 hn;have h4:=(h.mem a n' ha).2.2.2.1;simp only[List.map_cons,List.map_nil,List.mem_singleton]at hm;subst hm;intro e;rcases h4 with h6|⟨i,h6,h7,h8⟩
  ·exact h6 (by rw[show n'=k*u from e];exact Nat.dvd_mul_left u k)
  ·have h9:i*u=k*u:=(by rw[←h7];exact e);have:=Nat.eq_of_mul_eq_mul_right hu h9;omega
theorem EM.stage {P:Nat} (hP:PrC P) {f0 f:Ap P} {E:List (List Int×Nat)} {u k:Nat} (hu:0<u) (h:EM P f0 E (cvA P u k)) (hO:OS f0 u f) (hs:∀g,Pm P g→∀e,Vl g f e→¬P ∣ e→e<k):EM P f0 E (cvA P (u*P) 1):=by
 refine⟨fun a n hm=>?_,fun g hg e hv he hc=>?_,h.nd⟩
 ·obtain⟨h1,h2,h3,h4,h5⟩:=h.mem a n hm;refine⟨h1,h2,h3, .inl fun hd=>?_,h5⟩;rcases h4 with h6|⟨i,h6,h7,h8⟩
  ·exact h6 (Nat.dvd_trans (Nat.dvd_mul_right u P) hd)
  ·rw[h7,Nat.mul_comm i u]at hd;exact h8 (Nat.dvd_of_mul_dvd_mul_left hu hd)
 ·have hnd:¬u*P ∣ e:=by
   rcases hc with h6|⟨i,h6,h7,h8⟩
   ·exact h6
   ·exact absurd (by rw[show i=0 by omega];exact Nat.dvd_zero P) h8
  refine h.all g hg e hv he ?_;by_cases hue:u ∣ e
  ·obtain⟨i,rfl⟩:=hue;have hpi:¬P ∣ i:=fun hd=>hnd (Nat.mul_dvd_mul_left u hd);have h10:=hO g hg _ hv;rw[if_pos (Nat.dvd_mul_right u i),Nat.mul_div_cancel_left i hu]at h10;exact .inr ⟨i,hs g hg i h10 hpi,Nat.mul_comm u i,hpi⟩
  ·exact .inl hue
theorem EM.done {P:Nat} (hP:PrC P) {f0 f:Ap P} {E:List (List Int×Nat)} {u:Nat} (hu:0<u) (h:EM P f0 E (cvA P u 1)) (hO:OS f0 u f) (hl:sz f≤1):EM P f0 E (fun _=>True):=by
 refine⟨fun a n hm=>?_,fun g hg e hv he _=>h.all g hg e hv he (.inl fun hue=>?_),h.nd⟩
 ·obtain⟨h1,h2,h3,_,h5⟩:=h.mem a n hm;exact⟨h1,h2,h3,trivial,h5⟩
 ·have h1:=hO g hg e hv;rw[if_pos hue]at h1;have h2:=hP.pd.dv_sz ((hP.pd.vl_pos hg h1).2 (Nat.div_pos (Nat.le_of_dvd he hue) hu)) (hP.pd.vl_ne hg h1);have:=hg.two;omega
def SqF {P:Nat} (a:Ap P):Prop:=∃u v:Ap P,u*a+v*Dr a=1
theorem sqf_of {P:Nat} (hP:PrC P) {a:Ap P} (ha:a≠0) (h:∀g,Pm P g→Dv g a→Vl g a 1):SqF a:=by obtain⟨d,u,v,c,c',h1,h2,h3⟩:=hP.pd.bez a (Dr a);have hd0:d≠0:=fun e=>ha (by rw[h2,e,CR.zero_mul]);have hd1:sz d=1:=(by refine Classical.byContradiction fun hn=>?_;have h4:=hP.pd.pos hd0;obtain⟨g,hg,hgd⟩:=hP.pd.irr_of (a:=d) (by omega);have h5:=h g hg (by rw[h2];exact hgd.mul c);have h6:=vl_dr hP hg h5 (fun hd=>by have:=Nat.le_of_dvd (by decide) hd;have:=hP.pm.two;omega);have h7:=hP.pd.vl_gcd hg h1 h2 h3 h5 h6;have h8:=(hP.pd.vl_pos hg h7).1 hgd;simp at h8);obtain⟨w,hw⟩:=hP.pd.u d hd1;refine⟨w*u,w*v,?_⟩;rw[←hw,h1,CR.mul_add,CR.mul_assoc,CR.mul_assoc]
theorem SqF.cop {P:Nat} {a b:Ap P} (h:SqF (a*b)):∃u v:Ap P,u*a+v*b=1:=by
 obtain⟨u,v,e⟩:=h;refine⟨u*b+v*Dr b,v*Dr a,?_⟩;rw[←e,dr_mul];simp only[CR.mul_add,CR.add_mul]
 ac_rfl
theorem SqF.left {P:Nat} {a b:Ap P} (h:SqF (a*b)):SqF a:=by
 obtain⟨u,v,e⟩:=h;refine⟨u*b+v*Dr b,v*b,?_⟩;rw[←e,dr_mul];simp only[CR.mul_add,CR.add_mul]
 ac_rfl
theorem SqF.right {P:Nat} {a b:Ap P} (h:SqF (a*b)):SqF b:=by rw[CR.mul_comm]at h;exact h.left
structure FT (P:Nat) (f0:Ap P) (T:List (List Int×Nat)):Prop where
 mem:∀a n,(a,n)∈T→Mon P a∧Pm P (mq a)∧1≤n∧Vl (mq a) f0 n
 all:∀g,Pm P g→Dv g f0→∃a n,(a,n)∈T∧Dv g (mq a)
 nd:(T.map Prod.fst).Nodup
end Go.Proofs.YtffdemplaodbcaaDoor
