/- A part of the proof: PA, FA. -/
import Derived.Test.YtffdemplaodbcaaDoorP11
set_option linter.all false
namespace Go.Proofs.YtffdemplaodbcaaDoor
open Go Go.Proofs Go.RowKit Go.Rad
def sft (u:Nat→Int):Nat→Int
 |0=>0
 |j+1=>u j
def act:List Int→(Nat→Int)→Nat→Int
 |[],_=>fun _=>0
 |a::x,u=>fun j=>a*u j+sft (act x u) j
def one0:Nat→Int
 |0=>1
 |_+1=>0
theorem sft_congr {u v:Nat→Int} (h:∀j,u j=v j):∀j,sft u j=sft v j
 |0=>rfl
 |j+1=>h j
theorem sft_add (u v:Nat→Int):∀j,sft (fun i=>u i+v i) j=sft u j+sft v j
 |0=>rfl
 |_+1=>rfl
theorem sft_smul (c:Int) (u:Nat→Int):∀j,sft (fun i=>c*u i) j=c*sft u j
 |0=>(Int.mul_zero c).symm
 |_+1=>rfl
theorem act_add:∀(x:List Int) (u v:Nat→Int) (j:Nat),act x (fun i=>u i+v i) j=act x u j+act x v j
 |[],_,_,_=>rfl
 |a::x,u,v,j=>by show a*(u j+v j)+sft (act x fun i=>u i+v i) j=(a*u j+sft (act x u) j)+(a*v j+sft (act x v) j);rw[sft_congr (act_add x u v),sft_add,Int.mul_add];omega
theorem act_smul:∀(x:List Int) (c:Int) (u:Nat→Int) (j:Nat),act x (fun i=>c*u i) j=c*act x u j
 |[],c,_,_=>(Int.mul_zero c).symm
 |a::x,c,u,j=>by show a*(c*u j)+sft (act x fun i=>c*u i) j=c*(a*u j+sft (act x u) j);rw[sft_congr (act_smul x c u),sft_smul,Int.mul_add];congr 1;rw[←Int.mul_assoc,Int.mul_comm a,Int.mul_assoc]
theorem act_sft:∀(x:List Int) (u:Nat→Int) (j:Nat),act x (sft u) j=sft (act x u) j
 |[],_,0=>rfl
 |[],_,_+1=>rfl
 |a::x,u,0=>by show a*0+0=(0:Int);omega
 |a::x,u,j+1=>by show a*u j+act x (sft u) j=a*u j+sft (act x u) j;rw[act_sft x u j]
theorem act_congr:∀(x:List Int) {u v:Nat→Int},(∀j,u j=v j)→∀j,act x u j=act x v j
 |[],_,_,_,_=>rfl
 |a::x,u,v,h,j=>by show a*u j+sft (act x u) j=a*v j+sft (act x v) j;rw[h j,sft_congr (act_congr x h)]
theorem act_zero (x:List Int) (j:Nat):act x (fun _=>0) j=0:=by have h:=act_smul x 0 (fun _=>0) j;simpa using h
theorem act_comm:∀(x y:List Int) (u:Nat→Int) (j:Nat),act x (act y u) j=act y (act x u) j
 |[],y,u,j=>(act_zero y j).symm
 |a::x,y,u,j=>by show a*act y u j+sft (act x (act y u)) j=act y (fun i=>a*u i+sft (act x u) i) j;rw[act_add,act_smul,act_sft,sft_congr (act_comm x y u)]
def row (x:List Int):Nat→Int:=act x one0
theorem row_getD:∀(x:List Int) (j:Nat),row x j=x.getD j 0
 |[],_=>rfl
 |a::x,0=>by show a*1+0=a;omega
 |a::x,j+1=>by show a*0+act x one0 j=x.getD j 0;have h:=row_getD x j;unfold row at h;rw[h];omega
def padd:List Int→List Int→List Int
 |[],y=>y
 |x,[]=>x
 |a::x,b::y=>(a+b)::padd x y
theorem act_padd:∀(x y:List Int) (u:Nat→Int) (j:Nat),act (padd x y) u j=act x u j+act y u j
 |[],y,u,j=>by show act y u j=0+_;omega
 |a::x,[],u,j=>by show act (a::x) u j=_+0;omega
 |a::x,b::y,u,j=>by show(a+b)*u j+sft (act (padd x y) u) j=(a*u j+sft (act x u) j)+(b*u j+sft (act y u) j);rw[sft_congr (act_padd x y u),sft_add,Int.add_mul];omega
theorem act_map:∀(x:List Int) (c:Int) (u:Nat→Int) (j:Nat),act (x.map (c* ·)) u j=c*act x u j
 |[],c,_,_=>(Int.mul_zero c).symm
 |a::x,c,u,j=>by show c*a*u j+sft (act (x.map (c* ·)) u) j=c*(a*u j+sft (act x u) j);rw[sft_congr (act_map x c u),sft_smul,Int.mul_add,Int.mul_assoc]
def pmul:List Int→List Int→List Int
 |[],_=>[]
 |a::x,y=>padd (y.map (a* ·)) (0::pmul x y)
theorem act_pmul:∀(x y:List Int) (u:Nat→Int) (j:Nat),act (pmul x y) u j=act x (act y u) j
 |[],_,_,_=>rfl
 |a::x,y,u,j=>by show act (padd (y.map (a* ·)) (0::pmul x y)) u j=a*act y u j+sft (act x (act y u)) j;rw[act_padd,act_map];show _+(0*u j+sft (act (pmul x y) u) j)=_;rw[sft_congr (act_pmul x y u),Int.zero_mul,Int.zero_add]
def Cg (p:Int) (m:List Int) (u v:Nat→Int):Prop:=∃q:List Int,∀j,u j%p=(v j+act q (row m) j)%p
theorem cong_sub {p a b:Int}: a%p=b%p↔∃k,a=b+k*p:=by
 constructor
 ·intro h;have h1:=Int.emod_emod_of_dvd a (Int.dvd_refl p);refine⟨a / p-b / p,?_⟩;have h2:=Int.mul_ediv_add_emod a p;have h3:=Int.mul_ediv_add_emod b p;rw[Int.sub_mul,Int.mul_comm (a / p),Int.mul_comm (b / p)];omega
 ·rintro⟨k,rfl⟩;exact Int.add_mul_emod_self_right _ _ _
theorem Cg.refl (p:Int) (m:List Int) (u:Nat→Int):Cg p m u u:=⟨[],fun j=>by show _=(_+0)%p;rw[Int.add_zero]⟩
theorem Cg.of {p:Int} {m:List Int} {u v:Nat→Int} (h:∀j,u j%p=v j%p):Cg p m u v:=⟨[],fun j=>by show _=(_+0)%p;rw[Int.add_zero];exact h j⟩
theorem Cg.trans {p:Int} {m:List Int} {u v x:Nat→Int} (h:Cg p m u v) (k:Cg p m v x):Cg p m u x:=by obtain⟨q,hq⟩:=h;obtain⟨r,hr⟩:=k;refine⟨padd q r,fun j=>?_⟩;rw[hq j,Int.add_emod,hr j,←Int.add_emod,act_padd];congr 1;omega
theorem Cg.symm {p:Int} {m:List Int} {u v:Nat→Int} (h:Cg p m u v):Cg p m v u:=by obtain⟨q,hq⟩:=h;refine⟨q.map (-1* ·),fun j=>?_⟩;rw[Int.add_emod,hq j,←Int.add_emod,act_map];congr 1;omega
theorem act_cong {p:Int}:∀(x:List Int) {u v:Nat→Int},(∀j,u j%p=v j%p)→∀j,act x u j%p=act x v j%p
 |[],_,_,_,_=>rfl
 |a::x,u,v,h,j=>by
  show(a*u j+sft (act x u) j)%p=(a*v j+sft (act x v) j)%p;have e1:(a*u j)%p=(a*v j)%p:=(by rw[Int.mul_emod,h j,←Int.mul_emod]);have e2:sft (act x u) j%p=sft (act x v) j%p:=by
   cases j with
   |zero=>rfl
   |succ j=>exact act_cong x h j
  rw[Int.add_emod,e1,e2,←Int.add_emod]
theorem Cg.acts {p:Int} {m:List Int} {u v:Nat→Int} (h:Cg p m u v) (x:List Int):Cg p m (act x u) (act x v):=by obtain⟨q,hq⟩:=h;refine⟨pmul x q,fun j=>?_⟩;rw[act_cong x hq j,act_add,act_pmul]
theorem row_pmul (x y:List Int) (j:Nat):row (pmul x y) j=act x (row y) j:=act_pmul x y one0 j
theorem Cg.mul {p:Int} {m x x' y y':List Int} (hx:Cg p m (row x) (row x')) (hy:Cg p m (row y) (row y')):Cg p m (row (pmul x y)) (row (pmul x' y')):=by
 have h1:=hy.acts x;have h2:=hx.acts y';have e0:Cg p m (row (pmul x y)) (act x (row y)):= .of fun j=>by rw[row_pmul]
 have e1:Cg p m (act x (row y')) (act y' (row x)):= .of fun j=>by rw[show act x (row y') j=act y' (row x) j from act_comm x y' one0 j]
 have e2:Cg p m (act y' (row x')) (row (pmul x' y')):= .of fun j=>by rw[row_pmul,show act x' (row y') j=act y' (row x') j from act_comm x' y' one0 j]
 exact((((e0.trans h1).trans e1).trans h2).trans e2)
theorem mult_zero {p:Int} {M:Nat→Int} {n:Nat} (hM:∀j,n<j→M j=0) (hg:Int.gcd (M n) p=1):∀q:List Int,(∀j,n≤j→act q M j%p=0)→∀j,act q M j%p=0
 |[],_,_=>by show(0:Int)%p=0;simp
 |a::q,h,j=>by
  have h1:∀j,act q M j%p=0:=mult_zero hM hg q fun j hj=>by have h2:=h (j+1) (by omega);have h3:act (a::q) M (j+1)=a*M (j+1)+act q M j:=rfl;rw[h3,hM (j+1) (by omega),Int.mul_zero,Int.zero_add]at h2;exact h2
  have h0:∀j,sft (act q M) j%p=0:=fun j=>by
   cases j with
   |zero=>simp[sft]
   |succ j=>exact h1 j
  have e:∀j,act (a::q) M j%p=(a*M j)%p:=fun j=>by have h3:act (a::q) M j=a*M j+sft (act q M) j:=rfl;rw[h3,Int.add_emod,h0 j,Int.add_zero,Int.emod_emod]
  have h4:=h n (Nat.le_refl _);rw[e]at h4;have h5:p ∣ a:=(by have h6:p ∣ a*M n:=Int.dvd_of_emod_eq_zero h4;have h7:Int.gcd p (M n)=1:=(by rw[Int.gcd_comm];exact hg);have h8:=Int.natAbs_dvd_natAbs.2 h6;rw[Int.natAbs_mul]at h8;exact Int.natAbs_dvd_natAbs.1 (Nat.Coprime.dvd_of_dvd_mul_right h7 h8));obtain⟨k,hk⟩:=h5;rw[e,hk,Int.mul_assoc];exact Int.mul_emod_right _ _
theorem Cg.eq {p:Int} {m:List Int} {n:Nat} {u v:Nat→Int} (hm:∀j,n<j→row m j=0) (hg:Int.gcd (row m n) p=1) (hu:∀j,n≤j→u j=0) (hv:∀j,n≤j→v j=0)
 (hu':∀j,0≤u j∧u j<p) (hv':∀j,0≤v j∧v j<p) (h:Cg p m u v):∀j,u j=v j:=by
 obtain⟨q,hq⟩:=h;have h1:=mult_zero hm hg q fun j hj=>by have h2:=hq j;rw[hu j hj,hv j hj,Int.zero_add]at h2;rw[←h2];simp
 intro j;have h2:=hq j;rw[Int.add_emod,h1 j,Int.add_zero,Int.emod_emod,Int.emod_eq_of_lt (hu' j).1 (hu' j).2,Int.emod_eq_of_lt (hv' j).1 (hv' j).2]at h2;exact h2
def lst (f:Nat→Int) (n:Nat):List Int:=(List.range n).map f
def cut (f:Nat→Int) (n:Nat):Nat→Int:=fun j=>if j<n then f j else 0
theorem lst_length (f:Nat→Int) (n:Nat):(lst f n).length=n:=by simp[lst]
theorem lst_getD (f:Nat→Int) (n j:Nat):(lst f n).getD j 0=cut f n j:=by
 unfold lst cut;by_cases h:j<n
 ·rw[if_pos h];simp[List.getD_eq_getElem?_getD,h]
 ·rw[if_neg h];simp[List.getD_eq_getElem?_getD,Nat.not_lt.1 h]
theorem row_lst (f:Nat→Int) (n j:Nat):row (lst f n) j=cut f n j:=by rw[row_getD,lst_getD]
theorem act_app:∀(x:List Int) (a:Int) (u:Nat→Int) (j:Nat),act (x++[a]) u j=act x u j+(if x.length≤j then a*u (j-x.length) else 0)
 |[],a,u,j=>by show a*u j+sft (fun _=>0) j=0+(if 0≤j then a*u (j-0) else 0);rw[if_pos (Nat.zero_le _),Nat.sub_zero];cases j <;> simp[sft]
 |b::x,a,u,0=>by show b*u 0+0=(b*u 0+0)+(if x.length+1≤0 then _ else 0);rw[if_neg (by omega)];omega
 |b::x,a,u,j+1=>by
  show b*u (j+1)+act (x++[a]) u j=(b*u (j+1)+act x u j)+(if x.length+1≤j+1 then a*u (j+1-(x.length+1)) else 0);rw[act_app x a u j,show j+1-(x.length+1)=j-x.length by omega];by_cases h:x.length≤j
  ·rw[if_pos h,if_pos (by omega)];omega
  ·rw[if_neg h,if_neg (by omega)];omega
theorem lst_succ (f:Nat→Int) (n:Nat):lst f (n+1)=lst f n++[f n]:=by simp[lst,List.range_succ]
theorem cvp_act (x y:Nat→Int) (n2:Nat):∀n j,cvp x y n2 n j=act (lst x n) (cut y n2) j
 |0,_=>rfl
 |n+1,j=>by
  rw[lst_succ,act_app,lst_length,←cvp_act x y n2 n j];show _+_=_+_;congr 1;by_cases h:n≤j
  ·rw[if_pos h];unfold cut;by_cases h2:j-n<n2
   ·rw[if_pos ⟨h,by omega⟩,if_pos h2]
   ·rw[if_neg (by omega),if_neg h2,Int.mul_zero]
  ·rw[if_neg (by omega),if_neg h]
theorem act_row_lst (x y:Nat→Int) (n n2 j:Nat):act (lst x n) (row (lst y n2)) j=cvp x y n2 n j:=by rw[cvp_act];exact act_congr _ (fun j=>row_lst y n2 j) j
theorem cvp_zero (x y:Nat→Int) (n2:Nat):∀n j,n+n2≤j+1→cvp x y n2 n j=0
 |0,_,_=>rfl
 |n+1,j,h=>by show cvp x y n2 n j+_=0;rw[cvp_zero x y n2 n j (by omega),if_neg (by omega),Int.zero_add]
structure Res (p:Int) (m:List Int) (u:Nat→Int) (x:List Int):Prop where
 len:x.length<m.length
 bd:∀j,0≤x.getD j 0∧x.getD j 0<p
 top:0<x.length→x.getD (x.length-1) 0≠0
 cg:Cg p m u (row x)
theorem Res.eq {p:Int} {m:List Int} {u v:Nat→Int} {x y:List Int} (hm:0<m.length) (hg:Int.gcd (m.getD (m.length-1) 0) p=1) (hx:Res p m u x) (hy:Res p m v y) (h:Cg p m u v):x=y:=by
 have hz:∀(l:List Int) (j:Nat),l.length≤j→l.getD j 0=0:=fun l j hj=>by simp[List.getD_eq_getElem?_getD,hj]
 have e:∀j,row x j=row y j:=Cg.eq (p:=p) (m:=m) (n:=m.length-1) (fun j hj=>by rw[row_getD];exact hz m j (by omega)) (by rw[row_getD];exact hg)
  (fun j hj=>by rw[row_getD];exact hz x j (by have:=hx.len;omega)) (fun j hj=>by rw[row_getD];exact hz y j (by have:=hy.len;omega))
  (fun j=>by rw[row_getD];exact hx.bd j) (fun j=>by rw[row_getD];exact hy.bd j) ((hx.cg.symm.trans h).trans hy.cg)
 have e2:∀j,x.getD j 0=y.getD j 0:=fun j=>by rw[←row_getD,←row_getD];exact e j
 have hl:x.length=y.length:=by
  rcases Nat.lt_trichotomy x.length y.length with h1|h1|h1
  ·exact absurd ((e2 _).symm.trans (hz x (y.length-1) (by omega))) (hy.top (by omega))
  ·exact h1
  ·exact absurd ((e2 _).trans (hz y (x.length-1) (by omega))) (hx.top (by omega))
 refine List.ext_getElem hl fun i h1 h2=>?_;have h3:=e2 i;simpa [List.getD_eq_getElem?_getD,h1,h2]using h3
end Go.Proofs.YtffdemplaodbcaaDoor
namespace Go.Proofs.YtffdemplaodbcaaDoor
open Go Go.Proofs Go.RowKit Go.Rad
structure Euc (p a b be t was:Int):Prop where
 ex:∃T W σ:Int,t=σ*T∧was= -σ*W∧(σ=1∨σ= -1)∧1≤T∧0≤W∧T*be+W*b=p
 b1:1≤b
 lt:b<be
 e1:∃k,a*t=b+k*p
 e2:∃k,a*was=be+k*p
 g:Int.gcd b be=1
theorem Euc.start {p a:Int} (h1:1≤a) (h2:a<p) (h3:Int.gcd a p=1):Euc p a a p 1 0:=⟨⟨1,0,1,by omega,by omega, .inl rfl,by omega,by omega,by omega⟩,h1,h2,⟨0,by omega⟩,⟨-1,by omega⟩,h3⟩
theorem Euc.bounds {p a b be t was:Int} (h:Euc p a b be t was): -p<t∧t<p∧ -p≤was∧was≤p∧be≤p∧t≠0:=by obtain⟨⟨T,W,σ,ht,hw,hs,hT,hW,he⟩,h1,h2,-,-,-⟩:=h;have g1:T*2≤T*be:=Int.mul_le_mul_of_nonneg_left (by omega) (by omega);have g2:W*1≤W*b:=Int.mul_le_mul_of_nonneg_left h1 hW;have g3:1*be≤T*be:=Int.mul_le_mul_of_nonneg_right hT (by omega);have g4:0≤W*b:=Int.mul_nonneg hW (by omega);rcases hs with rfl|rfl <;> omega
theorem Euc.step {p a b be t was:Int} (h:Euc p a b be t was) (hb:1<b):Euc p a (be-be / b*b) b (was-be / b*t) t∧ -p≤be / b*t∧be / b*t≤p∧0≤be / b*b∧be / b*b≤be∧0≤be / b∧be / b≤be:=by
 have hbd:=h.bounds;obtain⟨⟨T,W,σ,ht,hw,hs,hT,hW,he⟩,h1,h2,⟨k1,e1⟩,⟨k2,e2⟩,hg⟩:=h;obtain⟨q,hq⟩:∃q,be / b=q:=⟨_,rfl⟩;have hmod:=Int.emod_add_mul_ediv be b;have hm0:=Int.emod_nonneg be (show b≠0 by omega);have hm1:=Int.emod_lt_of_pos be (show 0<b by omega);rw[hq]at hmod;have hq0:0≤q:=(by rw[←hq];exact Int.ediv_nonneg (by omega) (by omega));have hr:be-q*b=be%b:=(by rw[Int.mul_comm q b];omega);have hqb:0≤q*b:=Int.mul_nonneg hq0 (by omega);have hqle:q≤q*b:=(by have:=Int.mul_le_mul_of_nonneg_left (show 1≤b by omega) hq0;omega);have hg2:Int.gcd (be%b) b=1:=by
  rw[←hg,Int.gcd_comm b be]
  conv=>rhs;rw[←Int.emod_add_mul_ediv be b]
  rw[hq,Int.gcd_add_mul_left_left]
 have hr1:be%b≠0:=fun h0=>by rw[h0,Int.gcd_zero_left]at hg2;omega
 have eT:(W+q*T)*b+T*(be-q*b)=p:=(by rw[←he];grind);have hqT:0≤q*T:=Int.mul_nonneg hq0 (by omega);have hle:q*T≤p:=(by have g1:(W+q*T)*1≤(W+q*T)*b:=Int.mul_le_mul_of_nonneg_left (by omega) (by omega);have g2:0≤T*(be-q*b):=Int.mul_nonneg (by omega) (by omega);omega);rw[hq];refine⟨⟨⟨W+q*T,T,-σ,?_,?_,by omega,?_,by omega,eT⟩,by omega,by omega,⟨k2-q*k1,?_⟩,⟨k1,e1⟩,by rw[hr];exact hg2⟩,?_,?_,hqb,by omega,hq0,by omega⟩
 ·rw[hw,ht];grind
 ·rw[ht];grind
 ·have hq1:1≤q:=by
   rcases Int.lt_or_le 0 q with h|h
   ·omega
   ·have:q=0:=(by omega);rw[this]at hmod;omega
  have:=Int.mul_le_mul_of_nonneg_left hT hq0;omega
 ·have e3:a*(was-q*t)=a*was-q*(a*t):=(by grind);rw[e3,e1,e2];grind
 ·rcases hs with rfl|rfl
  ·rw[ht,Int.one_mul];omega
  ·rw[ht];grind
 ·rcases hs with rfl|rfl
  ·rw[ht,Int.one_mul];omega
  ·rw[ht];grind
inductive InvPost (w:World) (p a:Int) (e:Ending) (w':World):Prop
 |mk (r:Int) (he:e= .returned (.int .i64 r)) (h0:0<r) (h1:r<p) (h:∃k,a*r=1+k*p) (hb:Below w.heap.size w w')
set_option maxRecDepth 10000 in
set_option maxHeartbeats 1000000 in
theorem inverse_any (w:World) (p q a:Int) (hp:p<2147483648) (h1:1≤a) (h2:a<p) (hg:Int.gcd a p=1):
 Calls Tryd.prog 58 #[FV p q, .int .i64 a] w fun e w'=>InvPost w p a e w':=by
 have HS:Hid (Euc p a a p 1 0):=Euc.start h1 h2 hg;clear hg;go_enter Tryd.func58,Tryd.ntmps58;go_wp2;go_quiet (fail);go_wp2;refine wp_world (fun w1=>Below w.heap.size w w1∧w.heap.size<w1.heap.size∧w1.cell? ⟨w.heap.size,0,none⟩=some (.int .i64 p)) ⟨(bel1 w _).trans ⟨rfl,rfl,rfl,Nat.le_refl _,fun _ _=>rfl⟩,by show w.heap.size<(w.alloc (Obj.cells #[.int .i64 p, .int .i64 q] 53)).heap.size;simp,by show(w.alloc (Obj.cells #[.int .i64 p, .int .i64 q] 53)).cell? ⟨w.heap.size,0,none⟩=_;simp[go_sem]⟩ ?_;rintro w1 ⟨hB1,hl1,c0⟩;have HB1:Hid (Below w.heap.size w w1):=hB1;clear hB1;go_loopw [5,6,7,8] (fun bv ev tv wv wr=>∃b be t was:Int,bv= .int .i64 b∧ev= .int .i64 be∧tv= .int .i64 t∧wv= .int .i64 was∧Euc p a b be t was∧wr=w1) (fun bv _ _ _ _=>(Lib.intOf bv).toNat)
 case atStart=>exact⟨a,p,1,0,rfl,rfl,rfl,rfl,HS.out,rfl⟩
 case round=>
  obtain⟨b,be,t,was,rfl,rfl,rfl,rfl,hE,rfl⟩:=hrel;have hbd:=hE.bounds;have hb1:=hE.b1;have hlt:=hE.lt;have HE:Hid (Euc p a b be t was):=hE;clear hE;by_cases hb:1<b
  ·obtain⟨g1,g2,g3,g4,g5,g6,g7⟩:=HE.out.step hb;have G1:Hid _:=g1;have hb0:=g1.b1;have hbl:=g1.lt;obtain⟨k1,hk1⟩:∃x,be / b=x:=⟨_,rfl⟩;rw[hk1]at g1 g2 g3 g4 g5 g6 g7 G1 hb0 hbl;have hbd2:=g1.bounds;obtain⟨k2,hk2⟩:∃x,k1*b=x:=⟨_,rfl⟩;obtain⟨k3,hk3⟩:∃x,k1*t=x:=⟨_,rfl⟩;rw[hk2]at g4 g5 hb0 hbl G1;rw[hk3]at g2 g3 hbd2 G1;have hw1:wrap64 (k1*b)=k2:=(by rw[hk2];unfold wrap64;omega);have hw2:wrap64 (k1*t)=k3:=(by rw[hk3];unfold wrap64;omega);have HK:Hid (k1*b=k2∧k1*t=k3):=⟨hk2,hk3⟩;clear hk2 hk3 g1;go_wp2;refine⟨⟨_,_,_,_,rfl,rfl,rfl,rfl,G1.out,by first|rfl|trivial⟩,by simp only[Lib.intOf];omega⟩
  ·have hb1':b=1:=(by omega);have HB:Hid (b=1):=hb1';obtain⟨k,hk⟩:=HE.out.e1;have HEK:Hid (a*t=b+k*p):=hk;clear hk hb1';by_cases ht:t<0
   ·have hw1:wrap64 (t+p)=t+p:=(by unfold wrap64;omega);go_wp2;refine bodyPost_ret (v:= .int .i64 (t+p)) (by simp[results,go_sem,loadVar]) rfl ?_;exact .mk (t+p) rfl (by omega) (by omega) ⟨k+a,by rw[Int.mul_add,HEK.out,HB.out,Int.add_mul];omega⟩ HB1.out
   ·go_wp2;refine bodyPost_ret (v:= .int .i64 t) (by simp[results,go_sem,loadVar]) rfl ?_;exact .mk t rfl (by omega) (by omega) ⟨k,by rw[HEK.out,HB.out]⟩ HB1.out
end Go.Proofs.YtffdemplaodbcaaDoor
