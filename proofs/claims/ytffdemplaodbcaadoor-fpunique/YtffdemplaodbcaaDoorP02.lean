/- A part of the proof: FBits, Pr1, F1, F2. -/
import Derived.Test.YtffdemplaodbcaaDoorP01
import Derived.Laws.Bits64b
import Derived.Test.YtffdemplaodbcaaDoorShelf
import Derived.KernelRfl
import Derived.Deep.RegionWith
import Derived.Deep.Cut
import Derived.Deep.CutRange
set_option linter.all false
namespace Go.Proofs.YtffdemplaodbcaaDoor
open Go Go.Proofs Go.RowKit Go.Rad
def B:Nat:=18446744073709551616
def dB (j:Nat):Nat:=[0,1,56,2,57,49,28,3,61,58,42,50,38,29,17,4,62,47,59,36,45,43,51,22,53,39,33,30,24,18,12,5,63,55,48,27,60,41,37,16,46,35,44,21,52,32,23,11,54,26,40,15,34,20,31,10,25,14,19,9,13,8,7,6].getD j 0
def TabB (w:World):Prop:=∀j:Nat,j<64→w.cell? ⟨1,j,none⟩=some (.int .u8 ((dB j:Nat):Int))
theorem dB_is:∀k,k<64→dB (2^k*285870213051353865%18446744073709551616 / 288230376151711744)=k:=by intro k hk;have:(List.range 64).all (fun k=>dB (2^k*285870213051353865%18446744073709551616 / 288230376151711744)==k)=true:=(by kernel_rfl);exact eq_of_beq (List.all_eq_true.1 this k (List.mem_range.2 hk))
theorem odd_and (m p:Nat):(2*m+1) &&& (2*p+1)=2*(m &&& p)+1:=by
 apply Nat.eq_of_testBit_eq;intro i;cases i with
 |zero=>simp[Nat.testBit_zero,Nat.and_mod_two_eq_one] <;> omega
 |succ i=>rw[Nat.testBit_and,Nat.testBit_succ,Nat.testBit_succ,Nat.testBit_succ,show(2*m+1) / 2=m by omega,show(2*p+1) / 2=p by omega,show(2*(m &&& p)+1) / 2=m &&& p by omega,Nat.testBit_and]
theorem and_compl {m j:Nat} (h:m<2^j):m &&& (2^j-(m+1))=0:=by apply Nat.eq_of_testBit_eq;intro i;rw[Nat.testBit_and,Nat.testBit_two_pow_sub_succ h,Nat.zero_testBit];cases m.testBit i <;> simp
theorem low_bit {k m:Nat} (hk:k<64) (hm:2^k*(2*m+1)<2^64):(2^k*(2*m+1)) &&& (2^64-2^k*(2*m+1))=2^k:=by obtain⟨j,hj⟩:∃j,64=k+(j+1):=⟨63-k,by omega⟩;have e:(2:Nat)^64=2^k*(2*2^j):=(by rw[hj,Nat.pow_add,Nat.pow_succ,Nat.mul_comm (2^j) 2]);rw[e]at hm⊢;have hk0:0<2^k:=Nat.pow_pos (by decide);have hm2:2*m+1<2*2^j:=Nat.lt_of_mul_lt_mul_left hm;have e2:2^k*(2*2^j)-2^k*(2*m+1)=2^k*(2*(2^j-(m+1))+1):=(by rw[←Nat.mul_sub];congr 1;omega);rw[e2,Nat.mul_comm _ (2*m+1),Nat.mul_comm _ (2*(2^j-(m+1))+1),←Nat.shiftLeft_eq,←Nat.shiftLeft_eq,←Nat.shiftLeft_and_distrib,odd_and,and_compl (by omega),Nat.shiftLeft_eq];simp
theorem odd_part:∀(x:Nat),0<x→∃k m,x=2^k*(2*m+1):=by
 intro x
 induction x using Nat.strongRecOn with
 |_ x ih=>
  intro h;rcases Nat.mod_two_eq_zero_or_one x with h2|h2
  ·obtain⟨k,m,e⟩:=ih (x / 2) (by omega) (by omega);refine⟨k+1,m,?_⟩;rw[Nat.pow_succ,Nat.mul_assoc,Nat.mul_comm 2,←Nat.mul_assoc,←e];omega
  ·exact⟨0,x / 2,by simp;omega⟩
set_option maxRecDepth 10000 in
theorem trailingZeros_any (k m:Nat) (hm:2^k*(2*m+1)<B) (w:World) (ht:TabB w):Calls Tryd.prog 101 #[.int .u64 ((2^k*(2*m+1):Nat):Int)] w fun e w'=>e= .returned (.int .i64 k)∧w'=w:=by have hk:k<64:=(by refine Classical.byContradiction fun hk=>?_;have h1:2^64≤2^k:=Nat.pow_le_pow_right (by decide) (by omega);have h2:=Nat.le_mul_of_pos_right (2^k) (show 0<2*m+1 by omega);unfold B at hm;omega);have hand:=low_bit hk hm;have htab:=dB_is k hk;have hkk:=ht k hk;have hp:2^k<B:=Nat.lt_of_le_of_lt (Nat.le_mul_of_pos_right (2^k) (show 0<2*m+1 by omega)) hm;have hk0:0<2^k:=Nat.pow_pos (by decide);have hx0:0<2^k*(2*m+1):=Nat.mul_pos hk0 (by omega);generalize 2^k*(2*m+1)=x at *;generalize 2^k=p at *;obtain⟨q,hq⟩:∃q,q=p*285870213051353865%18446744073709551616:=⟨_,rfl⟩;obtain⟨r,hr⟩:∃r,r=q / 288230376151711744:=⟨_,rfl⟩;rw[←hq,←hr]at htab;have t1:IntKind.u64.wrap (-(x:Int))=((2^64-x:Nat):Int):=(by rw[IntKind.wrap_u64];unfold B at hm;omega);have t2:bits .and .u64 (x:Int) ((2^64-x:Nat):Int)=(p:Int):=(by rw[bits_and_u64_nat _ _ hm (by omega),hand]);have t3:IntKind.u64.wrap ((p:Int)*285870213051353865)=(q:Int):=(by rw[IntKind.wrap_u64];omega);have t4:(q:Int) / 288230376151711744=(r:Int):=(by omega);have hr64:r<64:=(by omega);have hcell:=ht r hr64;rw[htab]at hcell;clear hq hr hand hp htab ht hkk;have h0:¬(x:Int)=0:=(by omega);have r1:(0:Int)≤(r:Int)∧(r:Int)<64:=(by omega);have t5:IntKind.i64.wrap (k:Int)=(k:Int):=(by rw[IntKind.wrap_i64];omega);go_enter Tryd.func101,Tryd.ntmps101;go_wp2;go_ret;exact⟨rfl,rfl⟩
set_option maxRecDepth 10000 in
theorem twos_any (k m:Nat) (hm:2^k*(2*m+1)<B) (w:World) (ht:TabB w):Calls Tryd.prog 78 #[.int .u64 ((2^k*(2*m+1):Nat):Int)] w fun e w'=>e= .returned (.int .i64 k)∧w'=w:=by have C:=trailingZeros_any k m hm w ht;go_enter Tryd.func78,Tryd.ntmps78;go_wp2_with (go_at_call 101;refine C.mono ?_;rintro e w' ⟨rfl,rfl⟩);go_ret;exact⟨rfl,rfl⟩
end Go.Proofs.YtffdemplaodbcaaDoor
namespace Rad
def Prm (n:Nat):Prop:=2≤n∧∀d,d ∣ n→d=1∨d=n
theorem Prm.two {p:Nat} (h:Prm p):2≤p:=h.1
theorem Prm.cop {p a:Nat} (h:Prm p) (ha:¬p ∣ a):Nat.gcd p a=1:=by
 rcases h.2 _ (Nat.gcd_dvd_left p a)with h1|h1
 ·exact h1
 ·exact absurd (h1▸Nat.gcd_dvd_right p a) ha
theorem Prm.mul {p a b:Nat} (h:Prm p) (hd:p ∣ a*b):p ∣ a∨p ∣ b:=by
 by_cases ha:p ∣ a
 ·exact .inl ha
 ·exact .inr (Nat.Coprime.dvd_of_dvd_mul_left (h.cop ha) hd)
theorem Prm.pow {p a:Nat} (h:Prm p):∀ {k:Nat},p ∣ a^k→p ∣ a
 |0,hd=>by rw[Nat.pow_zero]at hd;have:=Nat.le_of_dvd (by decide) hd;have:=h.two;omega
 |k+1,hd=>by
  rw[Nat.pow_succ]at hd;rcases h.mul hd with h1|h1
  ·exact h.pow h1
  ·exact h1
theorem exists_prm:∀n:Nat,2≤n→∃p,Prm p∧p ∣ n:=by
 intro n
 induction n using Nat.strongRecOn with
 |ind n ih=>
  intro hn;by_cases h:∀d,d ∣ n→d=1∨d=n
  ·exact⟨n,⟨hn,h⟩,Nat.dvd_refl n⟩
  ·obtain⟨d,hd⟩:=Classical.not_forall.1 h;have hd1:d ∣ n:=Classical.byContradiction fun hc=>hd fun hh=>absurd hh hc;have hd2:d≠1∧d≠n:=⟨fun e=>hd fun _=> .inl e,fun e=>hd fun _=> .inr e⟩;have hle:=Nat.le_of_dvd (by omega) hd1;have h0:d≠0:=fun e=>by rw[e]at hd1;have:=Nat.eq_zero_of_zero_dvd hd1;omega
   obtain⟨p,hp,hpd⟩:=ih d (by omega) (by omega);exact⟨p,hp,Nat.dvd_trans hpd hd1⟩
def ch:Nat→Nat→Nat
 |_,0=>1
 |0,_+1=>0
 |n+1,k+1=>ch n k+ch n (k+1)
theorem ch_zero (n:Nat):ch n 0=1:=by cases n <;> rfl
theorem ch_big:∀n k,n<k→ch n k=0
 |0,k+1,_=>rfl
 |n+1,k+1,h=>by show ch n k+ch n (k+1)=0;rw[ch_big n k (by omega),ch_big n (k+1) (by omega)]
theorem ch_self:∀n,ch n n=1
 |0=>rfl
 |n+1=>by show ch n n+ch n (n+1)=1;rw[ch_self n,ch_big n (n+1) (by omega)]
theorem ch_mul:∀n k,(k+1)*ch (n+1) (k+1)=(n+1)*ch n k
 |0,0=>rfl
 |0,k+1=>by show(k+1+1)*(ch 0 (k+1)+ch 0 (k+1+1))=(0+1)*ch 0 (k+1);rw[ch_big 0 (k+1) (by omega),ch_big 0 (k+1+1) (by omega)];simp
 |n+1,0=>by have:=ch_mul n 0;show(0+1)*(ch (n+1) 0+ch (n+1) (0+1))=(n+1+1)*ch (n+1) 0;rw[ch_zero,Nat.zero_add,Nat.one_mul];rw[Nat.zero_add,Nat.one_mul,ch_zero]at this;omega
 |n+1,k+1=>by
  have h1:=ch_mul n k;have h2:=ch_mul n (k+1);have e1:ch (n+1+1) (k+1+1)=ch (n+1) (k+1)+ch (n+1) (k+1+1):=rfl;have e2:ch (n+1) (k+1)=ch n k+ch n (k+1):=rfl;rw[e1,Nat.mul_add,h2];have e3:(k+1+1)*ch (n+1) (k+1)=(n+1)*ch n k+ch (n+1) (k+1):=(by rw[Nat.add_mul (k+1) 1,h1,Nat.one_mul]);rw[e3,Nat.add_mul (n+1) 1 (ch (n+1) (k+1)),Nat.one_mul]
  conv=>rhs;rw[e2]
  rw[e2,Nat.mul_add];omega
def sm:Nat→(Nat→Nat)→Nat
 |0,_=>0
 |n+1,f=>sm n f+f n
theorem sm_succ (f:Nat→Nat):∀n,sm (n+1) f=f 0+sm n (fun k=>f (k+1))
 |0=>by simp[sm]
 |n+1=>by show sm (n+1) f+f (n+1)=f 0+(sm n (fun k=>f (k+1))+f (n+1));rw[sm_succ f n,Nat.add_assoc]
theorem sm_add (f g:Nat→Nat):∀n,sm n (fun k=>f k+g k)=sm n f+sm n g
 |0=>rfl
 |n+1=>by simp only[sm,sm_add f g n];omega
theorem sm_mul (a:Nat) (f:Nat→Nat):∀n,sm n (fun k=>f k*a)=sm n f*a
 |0=>by simp[sm]
 |n+1=>by simp only[sm,sm_mul a f n,Nat.add_mul]
theorem sm_dvd {p:Nat} {f:Nat→Nat}:∀ {n},(∀k,k<n→p ∣ f k)→p ∣ sm n f
 |0,_=>Nat.dvd_zero p
 |n+1,h=>Nat.dvd_add (sm_dvd fun k hk=>h k (by omega)) (h n (by omega))
theorem binom (a:Nat):∀n,(a+1)^n=sm (n+1) (fun k=>ch n k*a^k)
 |0=>by simp[sm,ch]
 |n+1=>by have e1:sm (n+1+1) (fun k=>ch (n+1) k*a^k)=1+sm (n+1) (fun k=>ch n k*a^k*a+ch n (k+1)*a^(k+1)):=(by rw[sm_succ];simp only[ch_zero,Nat.pow_zero,Nat.mul_one];congr 2;funext k;show(ch n k+ch n (k+1))*a^(k+1)=_;rw[Nat.add_mul];congr 1;rw[Nat.pow_succ,Nat.mul_assoc]);have e2:1+sm (n+1) (fun k=>ch n (k+1)*a^(k+1))=sm (n+1) (fun k=>ch n k*a^k):=(by have h:=sm_succ (fun k=>ch n k*a^k) (n+1);simp only[ch_zero,Nat.pow_zero,Nat.mul_one]at h;rw[←h];show sm (n+1) _+ch n (n+1)*a^(n+1)=_;rw[ch_big n (n+1) (by omega),Nat.zero_mul,Nat.add_zero]);rw[e1,sm_add,sm_mul,←binom a n,Nat.pow_succ,Nat.mul_add,Nat.mul_one];have e3:=binom a n;omega
theorem fermat {p:Nat} (h:Prm p):∀a:Nat,a^p%p=a%p
 |0=>by have:=h.two;rw[Nat.zero_pow (by omega)]
 |a+1=>by
  have h2:=h.two;have ih:=fermat h a;obtain⟨q,rfl⟩:∃q,p=q+1:=⟨p-1,by omega⟩;have e:(a+1)^(q+1)=1+sm q (fun k=>ch (q+1) (k+1)*a^(k+1))+a^(q+1):=(by rw[binom];show sm (q+1) _+ch (q+1) (q+1)*a^(q+1)=_;rw[sm_succ,ch_self,ch_zero,Nat.pow_zero,Nat.one_mul,Nat.one_mul]);have hd:(q+1) ∣ sm q (fun k=>ch (q+1) (k+1)*a^(k+1)):=by
   refine sm_dvd fun k hk=>Nat.dvd_trans ?_ (Nat.dvd_mul_right _ _);have h3:(q+1) ∣ (k+1)*ch (q+1) (k+1):=(by rw[ch_mul];exact Nat.dvd_mul_right _ _);rcases h.mul h3 with h4|h4
   ·have:=Nat.le_of_dvd (by omega) h4;omega
   ·exact h4
  obtain⟨t,ht⟩:=hd;rw[e,ht,Nat.add_right_comm,Nat.add_mul_mod_self_left,Nat.add_mod,ih,←Nat.add_mod,Nat.add_comm]
theorem fermat1 {p a:Nat} (h:Prm p) (ha:¬p ∣ a):a^(p-1)%p=1:=by
 have h2:=h.two;obtain⟨q,rfl⟩:∃q,p=q+1:=⟨p-1,by omega⟩;rw[Nat.add_sub_cancel];have h1:=fermat h a;have ha0:0<a:=Nat.pos_of_ne_zero fun e=>ha (e▸Nat.dvd_zero _);have hp:0<a^q:=Nat.pow_pos ha0;have hge:a≤a^(q+1):=(by rw[Nat.pow_succ];exact Nat.le_mul_of_pos_left _ hp);have hd:(q+1) ∣ a^(q+1)-a:=Nat.dvd_of_mod_eq_zero (Nat.sub_mod_eq_zero_of_mod_eq h1);have e:a^(q+1)-a=a*(a^q-1):=(by rw[Nat.pow_succ,Nat.mul_sub,Nat.mul_one,Nat.mul_comm]);rw[e]at hd;rcases h.mul hd with h3|h3
 ·exact absurd h3 ha
 ·obtain⟨c,hc⟩:=h3;have h4:a^q=1+(q+1)*c:=(by omega);rw[h4,Nat.add_mul_mod_self_left];exact Nat.mod_eq_of_lt (by omega)
theorem pw_mul {p a x:Nat} (hp:2≤p) (h:a^x%p=1) (k:Nat):a^(x*k)%p=1:=by rw[Nat.pow_mul,Nat.pow_mod,h,Nat.one_pow];exact Nat.mod_eq_of_lt (by omega)
theorem pw_add {p a x:Nat} (h:a^x%p=1) (y:Nat):a^(x+y)%p=a^y%p:=by rw[Nat.pow_add,Nat.mul_mod,h,Nat.one_mul,Nat.mod_mod]
theorem pw_gcd {p a:Nat} (hp:2≤p):∀x y,a^x%p=1→a^y%p=1→a^Nat.gcd x y%p=1:=by
 intro x y
 induction x,y using Nat.gcd.induction with
 |H0 n=>intro _ h;rw[Nat.gcd_zero_left];exact h
 |H1 m n h0 ih=>intro h1 h2;rw[Nat.gcd_rec];refine ih ?_ h1;have h3:=pw_add (pw_mul hp h1 (n / m)) (n%m);rw[Nat.div_add_mod]at h3;rw[←h3];exact h2
theorem neg_odd {p x:Nat} (hp:3≤p) (h:(x+1)%p=0):∀k,(x^(2*k)%p=1∧(x^(2*k+1)+1)%p=0)
 |0=>by rw[Nat.mul_zero,Nat.pow_zero,Nat.zero_add,Nat.pow_one];exact⟨Nat.mod_eq_of_lt (by omega),h⟩
 |k+1=>by
  obtain⟨h1,h2⟩:=neg_odd hp h k;have hxp:=Nat.mod_add_div x p;obtain⟨c,hc⟩:=Nat.dvd_of_mod_eq_zero h;have hsq:x^2%p=1:=by
   have hc0:0<c:=Nat.pos_of_ne_zero fun e=>by rw[e,Nat.mul_zero]at hc;omega
   have e:x^2=1+p*(c*(p*c)-2*c):=(by have e1:x=p*c-1:=(by omega);have e2:p*c*(p*c)≥2*(p*c):=Nat.mul_le_mul_right _ (by have:=Nat.le_mul_of_pos_right p hc0;omega);have e3:x^2+2*(p*c)=1+p*c*(p*c):=(by have:x+1=p*c:=hc;rw[←this];grind);have e4:p*(c*(p*c)-2*c)=p*c*(p*c)-2*(p*c):=(by rw[Nat.mul_sub,←Nat.mul_assoc,←Nat.mul_assoc p 2 c,Nat.mul_comm p 2,Nat.mul_assoc 2 p c]);omega);rw[e,Nat.add_mul_mod_self_left];exact Nat.mod_eq_of_lt (by omega)
  have g1:x^(2*(k+1))%p=1:=(by rw[Nat.mul_add,Nat.mul_one,Nat.pow_add,Nat.mul_mod,h1,hsq,Nat.one_mul];exact Nat.mod_eq_of_lt (by omega));refine⟨g1,?_⟩;rw[Nat.pow_succ,Nat.add_mod,Nat.mul_mod,g1,Nat.one_mul,Nat.mod_mod,←Nat.add_mod];exact h
theorem odd_pow_neg {p x e:Nat} (hp:3≤p) (h:(x+1)%p=0) (he:e%2=1):(x^e+1)%p=0:=by obtain⟨k,rfl⟩:∃k,e=2*k+1:=⟨e / 2,by omega⟩;exact(neg_odd hp h k).2
theorem sq_neg {p x:Nat} (hp:3≤p) (h:(x+1)%p=0):x^2%p=1:=(neg_odd hp h 1).1
theorem gcd_odd {d t e:Nat} (hd:d%2=1):Nat.gcd d (2^t*e) ∣ e:=by
 have h1:Nat.gcd d (2^t*e) ∣ 2^t*e:=Nat.gcd_dvd_right _ _;have h2:Nat.Coprime (Nat.gcd d (2^t*e)) (2^t):=by
  refine Nat.Coprime.pow_right t ?_;have h3:Nat.gcd (Nat.gcd d (2^t*e)) 2 ∣ 2:=Nat.gcd_dvd_right _ _;have h4:Nat.gcd (Nat.gcd d (2^t*e)) 2 ∣ d:=Nat.dvd_trans (Nat.gcd_dvd_left _ _) (Nat.gcd_dvd_left _ _);have h5:=Nat.le_of_dvd (by decide) h3;have h6:Nat.gcd (Nat.gcd d (2^t*e)) 2≠0:=fun e0=>by rw[e0]at h3;have:=Nat.eq_zero_of_zero_dvd h3;omega
  have h7:Nat.gcd (Nat.gcd d (2^t*e)) 2≠2:=fun e0=>by rw[e0]at h4;omega
  show Nat.gcd _ 2=1;omega
 exact Nat.Coprime.dvd_of_dvd_mul_left h2 h1
theorem odd_unique:∀ {s t d e:Nat},2^s*d=2^t*e→d%2=1→e%2=1→s=t∧d=e
 |0,0,d,e,h,_,_=>by simpa using h
 |0,t+1,d,e,h,hd,_=>by rw[Nat.pow_zero,Nat.one_mul,Nat.pow_succ,Nat.mul_comm (2^t) 2,Nat.mul_assoc]at h;omega
 |s+1,0,d,e,h,_,he=>by rw[Nat.pow_zero,Nat.one_mul,Nat.pow_succ,Nat.mul_comm (2^s) 2,Nat.mul_assoc]at h;omega
 |s+1,t+1,d,e,h,hd,he=>by rw[Nat.pow_succ,Nat.pow_succ,Nat.mul_comm (2^s) 2,Nat.mul_assoc,Nat.mul_comm (2^t) 2,Nat.mul_assoc]at h;obtain⟨h1,h2⟩:=odd_unique (s:=s) (t:=t) (show 2^s*d=2^t*e by omega) hd he;exact⟨by omega,h2⟩
def SP (n a:Nat):Prop:=∃s d,n-1=2^s*d∧d%2=1∧(a^d%n=1∨∃i,i<s∧a^(2^i*d)%n=n-1)
def Lv (p a j:Nat):Prop:=∃t e,p-1=2^t*e∧e%2=1∧j≤t∧a^(2^j*e)%p=1∧∀i,i<j→a^(2^i*e)%p≠1
theorem mod_dvd {p n x y:Nat} (h:p ∣ n) (e:x%n=y%n):x%p=y%p:=by rw[←Nat.mod_mod_of_dvd x h,e,Nat.mod_mod_of_dvd y h]
theorem SP.level {n a:Nat} (h:SP n a) (hn:2≤n):∃j,∀p,Prm p→p ∣ n→3≤p→¬p ∣ a→Lv p a j:=by
 obtain⟨s,d,h1,h2,h3⟩:=h;have dec:∀p,Prm p→3≤p→∃t e,p-1=2^t*e∧e%2=1:=by
  intro p _ hp;have key:∀m:Nat,0<m→∃t e,m=2^t*e∧e%2=1:=by
   intro m
   induction m using Nat.strongRecOn with
   |ind m ih=>
    intro hm;rcases Nat.mod_two_eq_zero_or_one m with h0|h0
    ·obtain⟨t,e,h4,h5⟩:=ih (m / 2) (by omega) (by omega);exact⟨t+1,e,by rw[Nat.pow_succ,Nat.mul_comm (2^t) 2,Nat.mul_assoc,←h4];omega,h5⟩
    ·exact⟨0,m,by simp,h0⟩
  exact key _ (by omega)
 rcases h3 with h3|⟨i,hi,h3⟩
 ·refine⟨0,fun p hp hpn hp3 hpa=>?_⟩;obtain⟨t,e,h4,h5⟩:=dec p hp hp3;have g1:a^d%p=1:=(by have:=mod_dvd hpn (show a^d%n=1%n by rw[h3];exact(Nat.mod_eq_of_lt (by omega)).symm);rw[this];exact Nat.mod_eq_of_lt (by omega));have g2:=fermat1 hp hpa;rw[h4]at g2;have g3:=pw_gcd hp.two _ _ g1 g2;obtain⟨c,hc⟩:=gcd_odd (d:=d) (t:=t) (e:=e) h2;refine⟨t,e,h4,h5,Nat.zero_le _,?_,fun i hi=>by omega⟩;rw[Nat.pow_zero,Nat.one_mul,hc];exact pw_mul hp.two g3 c
 ·refine⟨i+1,fun p hp hpn hp3 hpa=>?_⟩;obtain⟨t,e,h4,h5⟩:=dec p hp hp3;have g1:(a^(2^i*d)+1)%p=0:=by
   have h6:(a^(2^i*d)+1)%n=0:=by
    rw[Nat.add_mod,h3];rcases Nat.eq_or_lt_of_le hn with h7|h7
    ·subst h7;rfl
    ·rw[Nat.mod_eq_of_lt (show 1<n by omega),show n-1+1=n by omega,Nat.mod_self]
   exact Nat.mod_eq_zero_of_dvd (Nat.dvd_trans hpn (Nat.dvd_of_mod_eq_zero h6))
  have g2:=fermat1 hp hpa;rw[h4]at g2;have hsq:(a^(2^(i+1)))^d%p=1:=(by have h6:=sq_neg hp3 g1;rw[←Nat.pow_mul]at h6;rw[←Nat.pow_mul,Nat.pow_succ,show 2^i*2*d=2^i*d*2 by rw[Nat.mul_assoc,Nat.mul_comm 2 d,Nat.mul_assoc]];exact h6);have hbt:(a^(2^(i+1)))^(2^t*e)%p=1:=(by rw[←Nat.pow_mul,Nat.mul_comm];exact pw_mul hp.two g2 _);have g3:=pw_gcd hp.two _ _ hsq hbt;obtain⟨c,hc⟩:=gcd_odd (d:=d) (t:=t) (e:=e) h2;have g4:a^(2^(i+1)*e)%p=1:=(by rw[Nat.pow_mul,hc];exact pw_mul hp.two g3 c);have g5:∀k,k<i+1→a^(2^k*e)%p≠1:=(by intro k hk hc1;have h6:(a^(2^i))^e%p=1:=(by obtain⟨m,rfl⟩:∃m,i=k+m:=⟨i-k,by omega⟩;rw[←Nat.pow_mul,Nat.pow_add,Nat.mul_right_comm];exact pw_mul hp.two hc1 _);have h7:((a^(2^i))^d+1)%p=0:=(by rw[←Nat.pow_mul];exact g1);have h8:=odd_pow_neg hp3 h7 h5;rw[←Nat.pow_mul,Nat.mul_comm d e,Nat.pow_mul]at h8;have h9:((a^(2^i))^e)^d%p=1:=(by rw[Nat.pow_mod,h6,Nat.one_pow];exact Nat.mod_eq_of_lt (by omega));rw[Nat.add_mod,h9,Nat.mod_eq_of_lt (show 1<p by omega),Nat.mod_eq_of_lt (show 1+1<p by omega)]at h8;omega);refine⟨t,e,h4,h5,?_,g4,g5⟩;rcases Nat.lt_or_ge t (i+1)with h6|h6
  ·exfalso;obtain⟨m,rfl⟩:∃m,i=t+m:=⟨i-t,by omega⟩;exact g5 t (by omega) g2
  ·exact h6
theorem Prm.sp {p a:Nat} (h:Prm p) (hp:3≤p) (ha:¬p ∣ a) {s d:Nat} (hs:p-1=2^s*d) (hd:d%2=1):a^d%p=1∨∃i,i<s∧a^(2^i*d)%p=p-1:=by
 have key:∀j,j≤s→a^(2^j*d)%p=1→a^d%p=1∨∃i,i<j∧a^(2^i*d)%p=p-1:=by
  intro j
  induction j with
  |zero=>intro _ h1;left;rw[Nat.pow_zero,Nat.one_mul]at h1;exact h1
  |succ j ih=>
   intro hj h1;obtain⟨X,hX⟩:∃X,a^(2^j*d)%p=X:=⟨_,rfl⟩;have hXl:X<p:=(by rw[←hX];exact Nat.mod_lt _ (by omega));have h2:X*X%p=1:=(by rw[←hX,←Nat.mul_mod,←Nat.pow_add,show 2^j*d+2^j*d=2^(j+1)*d by rw[Nat.pow_succ];grind];exact h1);have hX0:X≠0:=fun e=>by rw[e]at h2;simp at h2
   have h3:p ∣ (X-1)*(X+1):=(by have h4:p ∣ X*X-1:=Nat.dvd_of_mod_eq_zero (Nat.sub_mod_eq_zero_of_mod_eq (by rw[h2];exact(Nat.mod_eq_of_lt (by omega)).symm));have e:(X-1)*(X+1)=X*X-1:=(by obtain⟨y,rfl⟩:∃y,X=y+1:=⟨X-1,by omega⟩;rw[Nat.add_sub_cancel];have:(y+1)*(y+1)=y*(y+1+1)+1:=(by grind);omega);rw[e];exact h4);rcases h.mul h3 with h5|h5
   ·have h6:X=1:=by
     rcases Nat.eq_zero_or_pos (X-1)with h7|h7
     ·omega
     ·have:=Nat.le_of_dvd h7 h5;omega
    rw[h6]at hX;rcases ih (by omega) hX with h7|⟨i,h7,h8⟩
    ·exact .inl h7
    ·exact .inr ⟨i,by omega,h8⟩
   ·have:=Nat.le_of_dvd (by omega) h5;clear ih;exact .inr ⟨j,Nat.lt_succ_self j,hX.trans (by omega)⟩
 have h0:=fermat1 h ha;rw[hs]at h0;exact key s (Nat.le_refl _) h0
end Rad
namespace Go.Proofs.YtffdemplaodbcaaDoor
open Go Go.Proofs Go.RowKit Go.Rad
theorem i64_and1 (n:Int):bits .and .i64 n 1=n%2:=by have h1:(BitVec.ofInt 64 (1:Int)).toNat=1:=(by decide);have h2:((BitVec.ofInt 64 n).toNat:Int)=n%18446744073709551616:=(by rw[BitVec.toNat_ofInt];omega);show IntKind.i64.wrap ((BitVec.ofInt 64 n &&& BitVec.ofInt 64 1).toNat:Int)=_;rw[BitVec.toNat_and,h1,Nat.and_one_is_mod,IntKind.wrap_i64];omega
theorem bitLen_lt (n:Nat) (h:n<9223372036854775808):n<2^Lib.bitLen n∧Lib.bitLen n≤63:=by
 refine⟨?_,Lib.bitLen_le n 63 (by decide) (by omega)⟩;have key:∀f x,x<2^f→x<2^Lib.bitLenAux f x:=by
  intro f
  induction f with
  |zero=>intro x hx;exact hx
  |succ f ih=>
   intro x hx;unfold Lib.bitLenAux
   split
   ·omega
   ·have:=ih (x / 2) (by rw[Nat.pow_succ]at hx;omega);rw[Nat.pow_add,Nat.pow_one];omega
 exact key 64 n (by omega)
theorem pow_bit (A P n j:Nat) (hP:2≤P):A^(n / 2^j)%P=(if n / 2^j%2=1 then (A^(n / 2^(j+1))%P*(A^(n / 2^(j+1))%P)%P*A)%P else A^(n / 2^(j+1))%P*(A^(n / 2^(j+1))%P)%P):=by
 have e:n / 2^(j+1)=n / 2^j / 2:=(by rw[Nat.pow_succ,Nat.div_div_eq_div_mul]);rw[e,←Nat.mul_mod,←Nat.pow_add];obtain⟨k,hk⟩:∃k,n / 2^j=k:=⟨_,rfl⟩;rw[hk]
 split
 ·rw[Nat.mod_mul_mod,←Nat.pow_succ];congr 2;omega
 ·congr 2;omega
set_option maxRecDepth 10000 in
set_option maxHeartbeats 1000000 in
theorem raise_any (w:World) (p q:Int) (P A n:Nat) (hP:p=P) (hp:P<2147483648) (hp0:2≤P) (ha:A<P) (hn:n<9223372036854775808):
 Calls Tryd.prog 79 #[FV p q, .int .i64 A, .int .i64 n] w fun e w'=>e= .returned (.int .i64 ((A^n%P:Nat):Int))∧Below w.heap.size w w':=by
 have CL:=fun w=>Tryd.bits_Len (n:Int) w (by omega) (by omega);have HP:Hid (p=P):=hP;have hpp:2≤p∧p<2147483648:=(by omega);have HL:Hid (n<2^Lib.bitLen n∧Lib.bitLen n≤63):=bitLen_lt n hn;have hl:=HL.out.2;clear hP;go_enter Tryd.func79,Tryd.ntmps79;go_wp2_with (go_at_call 61;refine(CL _).mono ?_;rintro e w' ⟨rfl,hw⟩;subst hw);go_loopw [7,8] (fun x i wr=>∃(j:Nat) (y:Int),j≤Lib.bitLen n∧i= .int .i64 ((j:Int)-1)∧x= .int .i64 y∧y=((A^(n / 2^j)%P:Nat):Int)∧Below w.heap.size w wr∧w.heap.size<wr.heap.size∧wr.cell? ⟨w.heap.size,0,none⟩=some (.int .i64 p)∧wr.cell? ⟨w.heap.size,1,none⟩=some (.int .i64 q))
  (fun _ i _=>(Lib.intOf i+1).toNat)
 case atStart=>refine⟨Lib.bitLen n,1,Nat.le_refl _,rfl,rfl,?_,bel1 _ _,by simp,by simp[go_sem],by simp[go_sem]⟩;rw[Nat.div_eq_of_lt HL.out.1,Nat.pow_zero,Nat.mod_eq_of_lt (by omega)];rfl
 case round=>
  obtain⟨j,y,hj,rfl,rfl,hy,hB,hlt,c0,c1⟩:=hrel;cases j with
  |zero=>have HY:Hid (y=((A^(n / 2^0)%P:Nat):Int)):=hy;have HB:Hid (Below w.heap.size w wr):=hB;clear hy hB;go_wp2;go_ret;exact⟨ret_int (by rw[HY.out,Nat.pow_zero,Nat.div_one]),HB.out⟩
  |succ j=>
   have hyp:0≤y∧y<2147483648:=(by rw[hy];have:=Nat.mod_lt (A^(n / 2^(j+1))) (show P>0 by omega);omega);have hyy:=sq_lt hyp.1 hyp.2 hyp.1 hyp.2;have L1:=fun w=>least_any w p q (y*y) (by omega) (by omega) hyy.1 (by omega);have HY:Hid (y=((A^(n / 2^(j+1))%P:Nat):Int)):=hy;have HB:Hid (Below w.heap.size w wr):=hB;clear hy hB;have hb:bits .and .i64 ((n:Int) / 2^j) 1=((n / 2^j%2:Nat):Int):=(by rw[i64_and1];push_cast;rfl);go_wp2_with (go_at_call 56;fail);refine(L1 _).mono ?_;rintro e w1 ⟨rfl,hb1⟩;obtain⟨z,hz⟩:∃z,y*y%p=z:=⟨_,rfl⟩;rw[hz];have hzp:0≤z∧z<2147483648:=(by have g1:=Int.emod_nonneg (y*y) (show p≠0 by omega);have g2:=Int.emod_lt_of_pos (y*y) (show 0<p by omega);omega);have hza:=sq_lt hzp.1 hzp.2 (show(0:Int)≤(A:Int)by omega) (by omega);have L2:=fun w=>least_any w p q (z*A) (by omega) (by omega) hza.1 (by omega);have HZ:Hid (y*y%p=z):=hz;have HB1:Hid (Below wr.heap.size wr w1):=hb1;have hlt1:w.heap.size<w1.heap.size:=Nat.lt_of_lt_of_le hlt hb1.size;replace c0:=(hb1.cell (p:=⟨w.heap.size,0,none⟩) hlt).trans c0;replace c1:=(hb1.cell (p:=⟨w.heap.size,1,none⟩) hlt).trans c1;have HPB:=pow_bit A P n j hp0;have HPB:Hid _:=HPB;have hzn:z=((A^(n / 2^(j+1))%P*(A^(n / 2^(j+1))%P)%P:Nat):Int):=(by rw[←hz,HY.out,HP.out];push_cast;rfl);have HZN:Hid _:=hzn;clear L1 hz hb1 hzn;by_cases hbit:n / 2^j%2=1
   ·rw[hbit]at hb;have HBIT:Hid (n / 2^j%2=1):=hbit;clear hbit;go_wp2_with (go_at_call 56;fail);refine(L2 _).mono ?_;rintro e w2 ⟨rfl,hb2⟩;have HB2:Hid (Below w1.heap.size w1 w2):=hb2;have hlt2:w.heap.size<w2.heap.size:=Nat.lt_of_lt_of_le hlt1 hb2.size;replace c0:=(hb2.cell (p:=⟨w.heap.size,0,none⟩) hlt1).trans c0;replace c1:=(hb2.cell (p:=⟨w.heap.size,1,none⟩) hlt1).trans c1;clear L2 hb2 hb;go_wp2;go_roundw
    case rel=>
     refine⟨j,_,by omega,rfl,rfl,?_,?_,hlt2,c0,c1⟩
     ·rw[HPB.out,if_pos HBIT.out,HZN.out,HP.out];push_cast;rfl
     ·have h1:=HB.out.trans (HB1.out.mono HB.out.size);exact h1.trans (HB2.out.mono h1.size)
    case measure=>simp only[Lib.intOf];omega
   ·have hb0:n / 2^j%2=0:=(by omega);rw[hb0]at hb;have HBIT:Hid (¬n / 2^j%2=1):=hbit;clear hbit hb0;go_wp2;go_roundw
    case rel=>refine⟨j,_,by omega,rfl,rfl,?_,HB.out.trans (HB1.out.mono HB.out.size),hlt1,c0,c1⟩;rw[HPB.out,if_neg HBIT.out,HZN.out]
    case measure=>simp only[Lib.intOf];omega
end Go.Proofs.YtffdemplaodbcaaDoor
namespace Go.Proofs.YtffdemplaodbcaaDoor
open Go Go.Proofs Go.RowKit Go.Rad
open _root_.Rad (SP Prm odd_unique)
inductive BoolIs (w:World) (P:Prop) (e:Ending) (w':World):Prop
 |mk (r:Bool) (he:e= .returned (.bool r)) (h:r=true↔P) (hb:Below w.heap.size w w')
theorem TabB.below {w w':World} (h:TabB w) (hb:Below w.heap.size w w'):TabB w':=fun j hj=>(hb.cell (p:=⟨1,j,none⟩) (block_lt (h j hj))).trans (h j hj)
theorem div_two_pow {n s d:Nat} (h:n=2^s*d):n / 2^s=d:=by rw[h];exact Nat.mul_div_cancel_left d (Nat.pow_pos (by decide))
set_option maxRecDepth 10000 in
set_option maxHeartbeats 1000000 in
theorem seems_any (w:World) (N b s d:Nat) (h3:3≤N) (hN:N<2147483648) (hb:b<N) (hd:N-1=2^s*d) (hdo:d%2=1) (hs:1≤s) (ht:TabB w):
 Calls Tryd.prog 62 #[.int .i64 N, .int .i64 b] w fun e w'=>BoolIs w (b^d%N=1∨∃i,i<s∧b^(2^i*d)%N=N-1) e w':=by
 have CF:=fieldOf_any w N (N*N) (by omega) (by omega) rfl;obtain⟨q,hq⟩:∃q:Int,(N:Int)*N=q:=⟨_,rfl⟩;rw[hq]at CF;have hdd:2*(d / 2)+1=d:=(by omega);have CT:=fun w=>twos_any s (d / 2) (by rw[hdd,←hd];unfold B;omega) w;rw[hdd,←hd]at CT;clear hdd;have HT:Hid (TabB w):=ht;clear hq ht;have e1:(((N-1:Nat):Int))=(N:Int)-1:=(by omega);rw[e1]at CT;clear e1;go_enter Tryd.func62,Tryd.ntmps62;go_wp2_with (go_at_call 31;fail);refine CF.mono ?_;rintro e w1 ⟨rfl,hb1⟩;clear CF;have HB1:Hid (Below w.heap.size w (w1.alloc (Obj.cells #[.int .i64 N, .int .i64 q] 53))):=hb1.alloc hb1.size _;go_wp2_with (go_at_call 78;fail);refine(CT _ (HT.out.below HB1.out)).mono ?_;rintro e w2 ⟨rfl,hw⟩;clear CT;obtain⟨b5,hb5⟩:∃x,x=w1.heap.size:=⟨_,rfl⟩;have h5:b5<w2.heap.size∧w2.cell? ⟨b5,0,none⟩=some (.int .i64 N)∧w2.cell? ⟨b5,1,none⟩=some (.int .i64 q):=(by rw[hw,hb5];simp[go_sem]);have HB2:Hid (Below w.heap.size w w2):=(by rw[hw];exact HB1.out);rw[←hb5];clear hw hb5 HB1 hb1;obtain⟨l5,c0,c1⟩:=h5;have hsh:((N:Int)-1) / 2^s=(d:Int):=(by have e:=div_two_pow hd;rw[show(N:Int)-1=((N-1:Nat):Int)by omega,←e];push_cast;rfl);have hs63:s<63∧d≤N-1:=by
  have h2:=Nat.le_mul_of_pos_right (2^s) (show 0<d by omega);have h4:=Nat.le_mul_of_pos_left d (show 0<2^s from Nat.pow_pos (by decide));refine⟨?_,by omega⟩;rcases Nat.lt_or_ge s 63 with h|h
  ·exact h
  ·have h1:2^63≤2^s:=Nat.pow_le_pow_right (by decide) h;omega
 have CR:=fun w=>raise_any w N q N b d rfl (by omega) (by omega) hb (by omega);obtain⟨x,hx⟩:∃x:Int,((b^d%N:Nat):Int)=x:=⟨_,rfl⟩;rw[hx]at CR;have HX:Hid (((b^d%N:Nat):Int)=x):=hx;have HD:Hid (N-1=2^s*d∧d%2=1):=⟨hd,hdo⟩;clear hx hd hdo HT;go_upto_region 3 with fail;refine wp_drawn mixed [⟨15,[],[],[5]⟩,⟨16,[],[],[1]⟩,⟨17,[],[],[0]⟩,⟨18,[2],[2],[]⟩,⟨19,[],[],[6]⟩,⟨20,[3,4],[2,3,4],[]⟩,⟨21,[0,1,5],[0,1,2,3,4,5],[]⟩,⟨7,[0,1,2,3,4,5,6],[0,1,2,3,4,5,6],[]⟩] [] (by kernel_rfl) 44 rfl (by kernel_rfl) (fun (i:Nat) (v:Value) (wq:World)=>match i with|0=>v= .agg #[.int .i64 (N), .int .i64 (q)]|1=>v= .int .i64 (b)|2=>v= .int .i64 (N)|3=>v= .int .i64 (((N:Int)-1))|4=>v= .int .i64 (s)|5=>v= .int .i64 ((d:Int))|6=>v= .int .i64 (x)|7=>v= .int .i64 (x)|_=>True) (fun _ wq=>Below w2.heap.size w2 wq) (fun wx wy=>Below wx.heap.size wx wy) (Below.refl _ _).drew (fun i v wx wy h hx=>match i,h with|0,h=>h|1,h=>h|2,h=>h|3,h=>h|4,h=>h|5,h=>h|6,h=>h|7,h=>h|n+8,_=>trivial) ?_ ?_
 ·intro i o r ho hr L fr wx hW hL hpr hds hdef hpre hfree;clear hL hpr hds hdef
  match i,ho,hr with
  |0,ho,hr=>?_
  |1,ho,hr=>?_
  |2,ho,hr=>?_
  |3,ho,hr=>obtain rfl:=Option.some.inj ho;obtain rfl:=Option.some.inj hr;have e2:=ev_tmp (show fr.eval (.tmp 17)= .int .i64 (N)from hpre 2 (by decide) _ rfl);clear hpre hfree;refine stpK rfl rfl fun K hK=>?_;go_simp;exact hK _ _ ⟨(by show Value.int _ (IntKind.i64.wrap _)=_;rw[IntKind.wrap_i64];congr 1;omega),hW,Below.refl _ _,fun h=>(List.not_mem_nil h).elim⟩
  |4,ho,hr=>?_
  |5,ho,hr=>?_
  |6,ho,hr=>obtain rfl:=Option.some.inj ho;obtain rfl:=Option.some.inj hr;have e0:=ev_tmp (show fr.eval (.tmp 15)= .agg #[.int .i64 (N), .int .i64 (q)] from hpre 0 (by decide) _ rfl);have e1:=ev_tmp (show fr.eval (.tmp 16)= .int .i64 (b)from hpre 1 (by decide) _ rfl);have e5:=ev_tmp (show fr.eval (.tmp 20)= .int .i64 ((d:Int))from hpre 5 (by decide) _ rfl);clear hpre hfree;refine stpK rfl rfl fun K hK=>?_;go_simp;refine(CR wx).mono ?_;rintro e wy ⟨rfl,hb⟩;exact hK _ _ ⟨rfl,hW.trans (hb.mono hW.size),hb,fun h=>(List.not_mem_nil h).elim⟩
  |7,ho,hr=>?_
  |n+8,ho,hr=>exact absurd hr (by simp)
  all_goals
   obtain rfl:=Option.some.inj ho;obtain rfl:=Option.some.inj hr;simp only[List.mem_cons,List.not_mem_nil,or_false,false_imp_iff,implies_true,forall_eq_or_imp,forall_eq,List.getElem?_cons_zero,List.getElem?_cons_succ,Option.some.injEq,forall_eq',evt]at hpre hfree;have c0:=(hW.cell (p:=⟨b5,0,none⟩) l5).trans c0;have c1:=(hW.cell (p:=⟨b5,1,none⟩) l5).trans c1;refine stpK rfl rfl fun K hK=>?_ <;> (go_simp;exact hK _ _ ⟨(by first|rfl|exact(by first|rfl|(simp[hsh];done)|(rw[hsh]))),hW,Below.refl _ _,fun h=>(List.not_mem_nil h).elim⟩)
 ·intro vs wn hvs hW1 hap0;clear hap0;have e0:vs 0= .agg #[.int .i64 (N), .int .i64 (q)]:=hvs 0 (by decide);have e1:vs 1= .int .i64 (b):=hvs 1 (by decide);have e2:vs 2= .int .i64 (N):=hvs 2 (by decide);have e3:vs 3= .int .i64 (((N:Int)-1)):=hvs 3 (by decide);have e4:vs 4= .int .i64 (s):=hvs 4 (by decide);have e5:vs 5= .int .i64 ((d:Int)):=hvs 5 (by decide);have e6:vs 6= .int .i64 (x):=hvs 6 (by decide);have e7:vs 7= .int .i64 (x):=hvs 7 (by decide);simp only[puts,Nat.reduceAdd,e0,e1,e2,e3,e4,e5,e6,e7,Act.put,List.setIfInBounds_toArray,List.set_cons_zero,List.set_cons_succ,List.drop_succ_cons,List.drop_zero,List.length_cons,List.length_nil];clear hvs e0 e1 e2 e3 e4 e5 e6 e7;replace c0:=(hW1.cell (p:=⟨b5,0,none⟩) l5).trans c0;replace c1:=(hW1.cell (p:=⟨b5,1,none⟩) l5).trans c1;have HB3:Hid (Below w.heap.size w wn):=HB2.out.trans (hW1.mono HB2.out.size);have hl5:b5<wn.heap.size:=Nat.lt_of_lt_of_le l5 hW1.size;have HN0:Hid (w.heap.size≤wn.heap.size):=HB3.out.size;clear hW1 CR hsh l5 HB2;by_cases hx1:x=1
  ·subst hx1;go_wp2;refine bodyPost_ret (v:= .bool true) (by simp[results,go_sem,loadVar]) rfl ?_;exact .mk true rfl ⟨fun _=> .inl (by have:=HX.out;omega),fun _=>rfl⟩ HB3.out
  ·have hx1':(x==1)=false:=(by simpa using hx1);have HX1:Hid (¬x=1):=hx1;clear hx1;go_wp2;go_loopw [7,8] (fun xv iv wr=>∃(k:Nat) (y:Int),k+1≤s∧iv= .int .i64 ((k:Int)+1)∧xv= .int .i64 y∧((b^(2^k*d)%N:Nat):Int)=y∧(∀i,i<k→b^(2^i*d)%N≠N-1)∧Below w.heap.size w wr∧b5<wr.heap.size∧wr.cell? ⟨b5,0,none⟩=some (.int .i64 N)∧wr.cell? ⟨b5,1,none⟩=some (.int .i64 q))
    (fun _ i _=>(s:Int).toNat+1-(Lib.intOf i).toNat)
   case atStart=>exact⟨0,x,by omega,rfl,rfl,by rw[Nat.pow_zero,Nat.one_mul];exact HX.out,fun i hi=>by omega,HB3.out,hl5,c0,c1⟩
   case round=>
    obtain⟨k,y,hk,rfl,rfl,hy,hno,hBr,hlr,d0,d1⟩:=hrel;have hyp:0≤y∧y<N:=(by rw[←hy];have:=Nat.mod_lt (b^(2^k*d)) (show N>0 by omega);omega);have HY:Hid (((b^(2^k*d)%N:Nat):Int)=y):=hy;have HNO:Hid (∀i,i<k→b^(2^i*d)%N≠N-1):=hno;have HBR:Hid (Below w.heap.size w wr):=hBr;clear hy hno hBr c0 c1;have fin:∀r:Bool,(r=true↔y=(N:Int)-1)→(y=(N:Int)-1∨k+1=s)→(r=true↔(b^d%N=1∨∃i,i<s∧b^(2^i*d)%N=N-1)):=by
     intro r hr hend;have h1:=HY.out;constructor
     ·intro h;exact .inr ⟨k,by omega,by have:=hr.1 h;omega⟩
     ·rintro (h|⟨i,hi,h⟩)
      ·exact absurd (by have:=HX.out;omega) HX1.out
      ·refine hr.2 ?_;rcases Nat.lt_trichotomy i k with h2|h2|h2
       ·exact absurd h (HNO.out i h2)
       ·subst h2;omega
       ·rcases hend with h4|h4
        ·exact h4
        ·omega
    have FIN:Hid _:=fin;clear fin;by_cases hlast:k+1=s
    ·have hlt:¬(k:Int)+1<(s:Int):=(by omega);by_cases hyn:y=(N:Int)-1
     ·have hyb:(y==(N:Int)-1)=true:=(by simpa using hyn);have R:=FIN.out true ⟨fun _=>hyn,fun _=>rfl⟩ (.inl hyn);have HR:Hid _:=R;clear R hyn;go_wp2;refine bodyPost_ret (v:= .bool true) (by simp[results,go_sem,loadVar]) rfl ?_;exact .mk true rfl ⟨fun _=>HR.out.1 trivial,fun _=>rfl⟩ HBR.out
     ·have hyb:(y==(N:Int)-1)=false:=(by simpa using hyn);have R:=FIN.out false ⟨fun h=>(by cases h),fun h=>absurd h hyn⟩ (.inr hlast);have HR:Hid _:=R;clear R hyn;go_wp2;refine bodyPost_ret (v:= .bool false) (by simp[results,go_sem,loadVar]) rfl ?_;exact .mk false rfl HR.out HBR.out
    ·have hlt:(k:Int)+1<(s:Int):=(by omega);by_cases hyn:y=(N:Int)-1
     ·have hyb:(y==(N:Int)-1)=true:=(by simpa using hyn);have hyc:(y !=(N:Int)-1)=false:=(by simpa using hyn);have R:=FIN.out true ⟨fun _=>hyn,fun _=>rfl⟩ (.inl hyn);have HR:Hid _:=R;clear R hyn;go_wp2;refine bodyPost_ret (v:= .bool true) (by simp[results,go_sem,loadVar]) rfl ?_;exact .mk true rfl ⟨fun _=>HR.out.1 trivial,fun _=>rfl⟩ HBR.out
     ·have hyc:(y !=(N:Int)-1)=true:=(by simpa using hyn);have hyy:=sq_lt hyp.1 (by omega) hyp.1 (by omega);have L1:=fun w=>least_any w N q (y*y) (by omega) (by omega) hyy.1 (by omega);have HYN:Hid (¬y=(N:Int)-1):=hyn;clear hyn;go_wp2_with (go_at_call 56;fail);refine(L1 _).mono ?_;rintro e w4 ⟨rfl,hb4⟩;have HB4:Hid (Below wr.heap.size wr w4):=hb4;have hl4:b5<w4.heap.size:=Nat.lt_of_lt_of_le hlr hb4.size;replace d0:=(hb4.cell (p:=⟨b5,0,none⟩) hlr).trans d0;replace d1:=(hb4.cell (p:=⟨b5,1,none⟩) hlr).trans d1;clear L1 hb4;go_wp2;go_roundw
      case rel=>
       refine⟨k+1,_,by omega,by congr 1,rfl,?_,?_,HBR.out.trans (HB4.out.mono HBR.out.size),hl4,d0,d1⟩
       ·rw[←HY.out,←Int.natCast_mul,←Int.natCast_emod,←Nat.mul_mod,←Nat.pow_add];congr 3;rw[Nat.pow_succ,Nat.mul_assoc,Nat.mul_comm 2 d,←Nat.mul_assoc];omega
       ·intro i hi;rcases Nat.lt_or_ge i k with h|h
        ·exact HNO.out i h
        ·obtain rfl:i=k:=(by omega);intro h2;have h1:=HY.out;exact HYN.out (by omega)
      case measure=>simp only[Lib.intOf];omega
end Go.Proofs.YtffdemplaodbcaaDoor
