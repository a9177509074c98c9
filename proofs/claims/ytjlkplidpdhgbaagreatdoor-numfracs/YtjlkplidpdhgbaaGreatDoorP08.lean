/- A part of the proof: W15, W9, Pm9, G1, W13, W14, Pm4. -/
import Derived.Test.YtjlkplidpdhgbaaGreatDoorP00
import Derived.Laws.Bits64b
import Derived.Test.YtjlkplidpdhgbaaGreatDoorP01
import Derived.Test.YtjlkplidpdhgbaaGreatDoorP02
set_option linter.all false
set_option maxRecDepth 10000
set_option maxHeartbeats 1000000
namespace Go.Proofs.YtjlkplidpdhgbaaGreatDoor
open Go Go.Proofs Go.RowKit Go.Rad
def dB (j:Nat):Nat:=[0,1,56,2,57,49,28,3,61,58,42,50,38,29,17,4,62,47,59,36,45,43,51,22,53,39,33,30,24,18,12,5,63,55,48,27,60,41,37,16,46,35,44,21,52,32,23,11,54,26,40,15,34,20,31,10,25,14,19,9,13,8,7,6].getD j 0
def TabB (w:World):Prop:=∀j:Nat,j<64→w.cell? ⟨1,j,none⟩=some (.int .u8 ((dB j:Nat):Int))
theorem dB_is:∀k,k<64→dB (2^k*285870213051353865%18446744073709551616 / 288230376151711744)=k:=by intro k b;have:(List.range 64).all (fun k=>dB (2^k*285870213051353865%18446744073709551616 / 288230376151711744)==k)=true:=kfl;exact eq_of_beq (List.all_eq_true.1 this k (List.mem_range.2 b))
theorem odd_and (m p:Nat):(2*m+1) &&& (2*p+1)=2*(m &&& p)+1:=by
 apply Nat.eq_of_testBit_eq;intro i;cases i with
 |zero=>simp[Nat.testBit_zero,Nat.and_mod_two_eq_one] <;> omega
 |succ i=>rw[Nat.testBit_and,Nat.testBit_succ,Nat.testBit_succ,Nat.testBit_succ,show(2*m+1) / 2=m by omega,show(2*p+1) / 2=p by omega,show(2*(m &&& p)+1) / 2=m &&& p by omega,Nat.testBit_and]
theorem and_compl {m j:Nat} (h:m<2^j):m &&& (2^j-(m+1))=0:=by apply Nat.eq_of_testBit_eq;intro i;rw[Nat.testBit_and,Nat.testBit_two_pow_sub_succ h,Nat.zero_testBit];cases m.testBit i <;> simp
theorem low_bit {k m:Nat} (l:k<64) (b:2^k*(2*m+1)<2^64):(2^k*(2*m+1)) &&& (2^64-2^k*(2*m+1))=2^k:=by obtain⟨j,d⟩:∃j,64=k+(j+1):=⟨63-k,by omega⟩;have e:(2:Nat)^64=2^k*(2*2^j):=(by rw[d,Nat.pow_add,Nat.pow_succ,Nat.mul_comm (2^j) 2]);rw[e]at b⊢;have f:0<2^k:=Nat.pow_pos dd;have g:2*m+1<2*2^j:=Nat.lt_of_mul_lt_mul_left b;have c:2^k*(2*2^j)-2^k*(2*m+1)=2^k*(2*(2^j-(m+1))+1):=(by rw[←Nat.mul_sub];congr 1;omega);rw[c,Nat.mul_comm _ (2*m+1),Nat.mul_comm _ (2*(2^j-(m+1))+1),←Nat.shiftLeft_eq,←Nat.shiftLeft_eq,←Nat.shiftLeft_and_distrib,odd_and,and_compl om,Nat.shiftLeft_eq];simp
theorem odd_part:∀(x:Nat),0<x→∃k m,x=2^k*(2*m+1):=by
 intro x
 induction x using Nat.strongRecOn with
 |_ x ih=>
  intro h;rcases Nat.mod_two_eq_zero_or_one x with b|b
  ·obtain⟨k,m,e⟩:=ih (x / 2) om om;refine⟨k+1,m,?_⟩;rw[Nat.pow_succ,Nat.mul_assoc,Nat.mul_comm 2,←Nat.mul_assoc,←e];omega
  ·exact⟨0,x / 2,by simp;omega⟩
theorem zci (k m:Nat) (f:2^k*(2*m+1)<B) (w:World) (o:TabB w):Calls Tryz.prog 121 #[.int .u64 ((2^k*(2*m+1):Nat):Int)] w fun e w'=>e=.returned (.int .i64 k)∧w'=w:=by have j:k<64:=(by refine Classical.byContradiction fun j=>?_;have A:2^64≤2^k:=Nat.pow_le_pow_right dd om;have C:=Nat.le_mul_of_pos_right (2^k) (show 0<2*m+1 by omega);unfold B at f;omega);have c:=low_bit j f;have b:=dB_is k j;have n:=o k j;have u:2^k<B:=Nat.lt_of_le_of_lt (Nat.le_mul_of_pos_right (2^k) (show 0<2*m+1 by omega)) f;have l:0<2^k:=Nat.pow_pos dd;have y:0<2^k*(2*m+1):=Nat.mul_pos l om;generalize 2^k*(2*m+1)=x at *;generalize 2^k=p at *;obtain⟨q,s⟩:∃q,q=p*285870213051353865%18446744073709551616:=⟨_,rfl⟩;obtain⟨r,t⟩:∃r,r=q / 288230376151711744:=⟨_,rfl⟩;rw[←s,←t]at b;have E:IntKind.u64.wrap (-(x:Int))=((2^64-x:Nat):Int):=(by rw[IntKind.wrap_u64];unfold B at f;omega);have F:bits .and .u64 (x:Int) ((2^64-x:Nat):Int)=(p:Int):=(by rw[bits_and_u64_nat _ _ f om,c]);have G:IntKind.u64.wrap ((p:Int)*285870213051353865)=(q:Int):=(by rw[IntKind.wrap_u64];omega);have H:(q:Int) / 288230376151711744=(r:Int):=om;have g:r<64:=om;have d:=o r g;rw[b]at d;clear s t c u b o n;have z:¬(x:Int)=0:=om;have D:(0:Int)≤(r:Int)∧(r:Int)<64:=om;have I:IntKind.i64.wrap (k:Int)=(k:Int):=(by rw[IntKind.wrap_i64];omega);go_enter Tryz.func121,Tryz.ntmps121;go_wp2;go_ret;exact⟨rfl,rfl⟩
theorem zbl {s:Nat} (b:s≤64):2^(64-s)*2^s=18446744073709551616:=by rw[←Nat.pow_add,show 64-s+s=64 by omega]
theorem zag (n:Nat):IntKind.u64.wrap ((n:Nat):Int)=((lo n:Nat):Int):=by rw[IntKind.wrap_u64];unfold lo;omega
theorem zgh (d s:Nat):IntKind.u64.wrap ((d:Int)*2^s)=((lo (d*2^s):Nat):Int):=by rw[←zag,Int.natCast_mul,Int.natCast_pow] <;> rfl
theorem zbv (d s:Nat):(d:Int) / 2^s=((d / 2^s:Nat):Int):=by rw[Int.natCast_ediv,Int.natCast_pow];rfl
theorem lo_shl {d s:Nat} (b:s≤64):lo (d*2^s)=2^s*(d%2^(64-s)):=by unfold lo;rw[←zbl b,Nat.mul_mod_mul_right,Nat.mul_comm]
theorem hi_shl {d s:Nat} (b:s≤64):hi (d*2^s)=d / 2^(64-s):=by unfold hi;rw[←zbl b,Nat.mul_div_mul_right _ _ (Nat.pow_pos dd)]
theorem shl_or {d s c:Nat} (b:s≤64) (f:c<2^s):
 bits .or .u64 (IntKind.u64.wrap ((d:Int)*2^s)) (c:Int)=((lo (d*2^s)+c:Nat):Int):=by
 have g:2^s≤2^64:=Nat.pow_le_pow_right dd b;rw[zgh,bits_or_u64_nat _ _ (zdm _) om,lo_shl b,←Nat.two_pow_add_eq_or_of_lt f]
theorem shl_or_lt {d s c:Nat} (b:s≤64) (k:c<2^s):lo (d*2^s)+c<B:=by rw[lo_shl b];have f:d%2^(64-s)<2^(64-s):=Nat.mod_lt _ (Nat.pow_pos dd);have g:=zbl b;have j:=Nat.mul_le_mul_left (2^s) (show d%2^(64-s)+1≤2^(64-s)from f);rw[Nat.mul_add,Nat.mul_comm (2^s) (2^(64-s)),g]at j;unfold B;omega
theorem zel {d s:Nat} (c:s≤64) (b:d<B):d / 2^(64-s)<2^s:=by refine Nat.div_lt_of_lt_mul ?_;rw[zbl c];exact b
theorem up_step {k x d c r p e f:Nat} (h:r+B^k*c=x*p) (l:e+B*f=d*p+c):r+B^k*e+B^(k+1)*f=(x+B^k*d)*p:=by have b:B^(k+1)*f=B^k*(B*f):=(by rw[Nat.pow_succ,Nat.mul_assoc]);have g:B^k*(e+B*f)=B^k*(d*p+c):=(by rw[l]);rw[Nat.mul_add,Nat.mul_add]at g;have j:(x+B^k*d)*p=x*p+B^k*(d*p):=(by rw[Nat.add_mul,Nat.mul_assoc]);rw[b,j];omega
theorem zgz (w:World) (R P:Option Addr) (m j u cz g b o cx s:Nat) (J:Sl R m j u) (I:Sl P g b o) (M:Arr .u64 B w m j u) (U:Free w m j u)
 (L:Arr .u64 B w g b o) (hn:u=o+1) (E:0<o→m≠g∨b+o≤j∨j+u≤b) (D:u≤maxLen) (hs:s<64):
 Calls Tryz.prog 137 #[.slice R u cz,.slice P o cx,.int .u64 s] w fun e w'=>e=.returned (.tuple #[])∧Chg w w' m j (j+u)∧Arr .u64 B w' m j u∧
  num B w' m j u=num B w g b o*2^s:=by
 subst hn;have V:o+1≤9223372036854775807:=D;clear D;go_enter Tryz.func137,Tryz.ntmps137;go_wp2;go_loopw [6,11] (fun c i wr=>∃k x:Nat,k≤o∧x<2^s∧i=.int .i64 k∧c=.int .u64 x∧Chg w wr m j (j+k)∧Arr .u64 B wr m j (o+1)∧
  num B wr m j k+B^k*x=num B w g b k*2^s)
  (fun _ i _=>o-(intOf i).toNat)
 case atStart=>exact⟨0,0,by omega,Nat.pow_pos dd,rfl,rfl,Chg.refl _ _ _ _,M,by simp[zas]⟩
 case round=>
  obtain⟨k,x,hk,q,rfl,rfl,r,n,l⟩:=hrel;obtain rfl:=J om;by_cases z:k<o
  ·obtain rfl:=I om;have N:=zah n (i:=k) om;have y:wr.cell? ⟨g,b+k,none⟩=w.cell? ⟨g,b+k,none⟩:=r.cellAt (L.lt om) (by have:=E om;omega);have ca:wr.cell? ⟨g,b+k,none⟩=some (.int .u64 ((word w g (b+k):Nat):Int)):=y.trans (zah L z);have G:wr.frozen? ⟨m,j+k,none⟩=false:=(r.free U M.lt) k om;have aa:(0:Int)≤64-(s:Int):=om;have ba:(64-(s:Int)).toNat=64-s:=om;have A:=zaz L z;have S:=shl_or (d:=word w g (b+k)) (s:=s) (c:=x) om q;have T:=zbv (word w g (b+k)) (64-s);have W:=shl_or_lt (d:=word w g (b+k)) (s:=s) (c:=x) om q;have X:=zel (s:=s) om A;have t:=up_step (p:=2^s) (e:=lo (word w g (b+k)*2^s)+x) (f:=word w g (b+k) / 2^(64-s)) l
    (by rw[←hi_shl om,Nat.add_right_comm,lo_hi])
   have O:num B wr m j k+B^k*(lo (word w g (b+k)*2^s)+x)+B^(k+1)*(word w g (b+k) / 2^(64-s))=num B w g b (k+1)*2^s:=(by rw[zam];exact t);have H:Hid _:=O;have E1:Hid _:=S;have Y:Hid _:=T;have Z:Hid _:=W;have L2:Hid _:=X;clear l y t O S T W X q;go_wp2;rw[E1.out,Y.out];go_roundw
   case rel=>exact⟨k+1,_,by omega,L2.out,by go_num,rfl,(r.mono (Nat.le_refl _) om).set om om _,n.set Z.out,by rw[zbj n om];exact H.out⟩
   case measure=>simp[intOf];omega
  ·obtain rfl:k=o:=om;have N:=zah n (i:=k) om;have G:wr.frozen? ⟨m,j+k,none⟩=false:=(r.free U M.lt) k om;have H:Hid _:=l;have C:Hid _:=q;clear l q;have F:x<B:=(by have h1:=C.out;have h2:2^s≤2^64:=Nat.pow_le_pow_right dd om;unfold B;omega);go_wp2;go_end0;exact⟨rfl,(r.mono (Nat.le_refl _) om).set om om _,n.set F,by rw[zbj n om];exact H.out⟩
theorem down_step {d x s:Nat} (g:s≤64):(d+B*x) / 2^s=(d / 2^s+2^(64-s)*(x%2^s))+B*(x / 2^s):=by
 have f:0<2^s:=Nat.pow_pos dd;have b:B=2^s*2^(64-s):=(by rw[Nat.mul_comm,zbl g];rfl);have j:=Nat.mod_add_div x (2^s);have e:d+B*x=d+2^s*(2^(64-s)*x):=(by rw[b,Nat.mul_assoc]);rw[e,Nat.add_mul_div_left _ _ f];have c:2^(64-s)*x=2^(64-s)*(x%2^s)+B*(x / 2^s):=by
  conv=>lhs;rw[←j,Nat.mul_add,←Nat.mul_assoc]
  rw[b,Nat.mul_comm (2^(64-s)) (2^s)]
 rw[c];generalize B*(x / 2^s)=u;omega
theorem down_lt {d x s:Nat} (k:s≤64) (j:d<B):d / 2^s+2^(64-s)*(x%2^s)<B:=by have b:=zbl k;have f:d / 2^s<2^(64-s):=Nat.div_lt_of_lt_mul (by rw[Nat.mul_comm,b];exact j);have g:x%2^s<2^s:=Nat.mod_lt _ (Nat.pow_pos dd);have c:=Nat.mul_le_mul_left (2^(64-s)) (show x%2^s+1≤2^s from g);rw[Nat.mul_add,b,Nat.mul_one]at c;exact Nat.lt_of_lt_of_le (by rw[Nat.add_comm];exact Nat.add_lt_add_left f _) c
theorem shr_or {d x s:Nat} (f:s≤64) (c:d<B):
 bits .or .u64 ((d / 2^s:Nat):Int) ((2^(64-s)*(x%2^s):Nat):Int)=((d / 2^s+2^(64-s)*(x%2^s):Nat):Int):=by
 have j:=zbl f;have g:d / 2^s<2^(64-s):=Nat.div_lt_of_lt_mul (by rw[Nat.mul_comm,j];exact c);have b:=down_lt (x:=x) f c;unfold B at b;rw[bits_or_u64_nat _ _ (Nat.lt_of_le_of_lt (Nat.le_add_right _ _) b) (Nat.lt_of_le_of_lt (Nat.le_add_left _ _) b),Nat.or_comm,←Nat.two_pow_add_eq_or_of_lt g,Nat.add_comm]
theorem shl_out {x s:Nat} (b:s≤64):lo (x*2^(64-s))=2^(64-s)*(x%2^s):=by
 have:=lo_shl (d:=x) (s:=64-s) om
 rwa [show 64-(64-s)=s by omega]at this
theorem zdw (w:World) (b o n:Nat):num B w b o (n+1)=word w b o+B*num B w b (o+1) n:=by unfold num;rw[_root_.Rad.vs_head];simp only[Nat.add_zero];congr 2;exact _root_.Rad.vs_congr fun i _=>by rw[show o+1+i=o+(i+1)by omega]
theorem moveDown_any (w:World) (I H:Option Addr) (l g n X f b W s:Nat) (D:Sl I l g n) (C:Sl H f b n) (P:Arr .u64 B w l g n) (Z:Free w l g n)
 (F:Arr .u64 B w f b n) (z:0<n→l≠f∨b+n≤g∨g+n≤b∨b=g) (y:n≤maxLen) (hs:s<64):
 Calls Tryz.prog 140 #[.slice I n X,.slice H n W,.int .u64 s] w fun e w'=>e=.returned (.tuple #[])∧Chg w w' l g (g+n)∧Arr .u64 B w' l g n∧
  num B w' l g n=num B w f b n / 2^s:=by
 have O:n≤9223372036854775807:=y;clear y;go_enter Tryz.func140,Tryz.ntmps140;go_wp2;go_loopw [6,7] (fun c i wr=>∃k d x:Nat,k+d=n∧x<B∧i=.int .i64 ((k:Int)-1)∧c=.int .u64 (lo (x*2^(64-s)):Nat)∧Chg w wr l (g+k) (g+n)∧Arr .u64 B wr l g n∧
  x%2^s=num B w f (b+k) d%2^s∧num B wr l (g+k) d=num B w f (b+k) d / 2^s)
  (fun _ i _=>(intOf i+1).toNat)
 case atStart=>exact⟨n,0,0,by omega,zbg,by go_num,by simp[lo],Chg.refl _ _ _ _,P,by simp[zas],by simp[zas]⟩
 case round=>
  obtain⟨k,d,x,hk,da,rfl,rfl,p,r,q,o⟩:=hrel;by_cases Y:k=0
  ·subst Y;obtain rfl:d=n:=om;go_wp2;go_end0;exact⟨rfl,by simpa using p,r,by simpa using o⟩
  ·obtain⟨j,rfl⟩:∃j,k=j+1:=⟨k-1,by omega⟩;obtain rfl:=D om;obtain rfl:=C om;have N:((j+1:Nat):Int)-1=(j:Int):=om;rw[N];have G:=zah r (i:=j) om;have t:wr.cell? ⟨f,b+j,none⟩=w.cell? ⟨f,b+j,none⟩:=p.cellAt (F.lt om) (by have:=z om;omega);have ea:wr.cell? ⟨f,b+j,none⟩=some (.int .u64 ((word w f (b+j):Nat):Int)):=t.trans (zah F om);have aa:wr.frozen? ⟨l,g+j,none⟩=false:=(p.free Z P.lt) j om;have m:=zaz F (i:=j) om;have ba:(0:Int)≤64-(s:Int):=om;have ca:(64-(s:Int)).toNat=64-s:=om;have J:=zbv (word w f (b+j)) s;have L:=zgh (word w f (b+j)) (64-s);have M:bits .or .u64 ((word w f (b+j) / 2^s:Nat):Int) ((lo (x*2^(64-s)):Nat):Int)=((word w f (b+j) / 2^s+2^(64-s)*(num B w f (b+(j+1)) d%2^s):Nat):Int):=(by rw[shl_out om,q];exact shr_or om m);have R:=down_lt (x:=num B w f (b+(j+1)) d) (s:=s) om m;have E:=down_step (d:=word w f (b+j)) (x:=num B w f (b+(j+1)) d) (s:=s) om;have A:num B w f (b+j) (d+1)=word w f (b+j)+B*num B w f (b+(j+1)) d:=zdw _ _ _ _;rw[←A,←o]at E;have u:word w f (b+j)%2^s=num B w f (b+j) (d+1)%2^s:=(by rw[A,show B=2^s*2^(64-s)by rw[Nat.mul_comm,zbl om];rfl,Nat.mul_assoc,Nat.add_mul_mod_self_left]);have HV:Hid _:=E;have U:Hid _:=u;have E1:Hid _:=J;have S:Hid _:=L;have T:Hid _:=M;have V:Hid _:=R;clear E u J L M R A q o t N;go_wp2;rw[E1.out,S.out,T.out];go_roundw
   case rel=>refine⟨j,d+1,_,by omega,m,by go_num,rfl,(p.mono om (Nat.le_refl _)).set om om _,r.set V.out,U.out,?_⟩;rw[HV.out,zdw,zby (by rw[G];rfl),zar om];rfl
   case measure=>simp[intOf]
end Go.Proofs.YtjlkplidpdhgbaaGreatDoor
namespace Rad
theorem zf9 {a:Nat} (g:a%2=1) (i:Nat):(2^i).Coprime a:=by
 apply Nat.Coprime.pow_left;unfold Nat.Coprime;have h:Nat.gcd 2 a ∣ 2:=Nat.gcd_dvd_left 2 a;have b:Nat.gcd 2 a ∣ a:=Nat.gcd_dvd_right 2 a;have c:=Nat.le_of_dvd om h;have d:Nat.gcd 2 a≠2:=fun e=>by rw[e]at b;omega
 have f:0<Nat.gcd 2 a:=Nat.gcd_pos_of_pos_left a om;omega
theorem gcd_odd_pow {a:Nat} (b:a%2=1) (i x:Nat):Nat.gcd a (2^i*x)=Nat.gcd a x:=Nat.Coprime.gcd_mul_left_cancel_right x (zf9 b i)
theorem gcd_min_max (a b:Nat):Nat.gcd (min a b) (max a b-min a b)=Nat.gcd a b:=by
 rcases Nat.le_total a b with h|h
 ·rw[Nat.min_eq_left h,Nat.max_eq_right h,Nat.gcd_sub_self_right h]
 ·rw[Nat.min_eq_right h,Nat.max_eq_left h,Nat.gcd_sub_self_right h,Nat.gcd_comm]
theorem gcd_parts {x y:Nat} (b:x%2=1) (c:y%2=1) (i j:Nat):Nat.gcd (2^i*x) (2^j*y)=Nat.gcd x (2^j*y)*2^min i j:=by
 rw[gcd_odd_pow b];rcases Nat.le_total i j with h|h
 ·obtain⟨k,rfl⟩:=Nat.exists_eq_add_of_le h;rw[Nat.min_eq_left h,Nat.pow_add,Nat.mul_assoc,Nat.gcd_mul_left,gcd_odd_pow b,Nat.mul_comm]
 ·obtain⟨k,rfl⟩:=Nat.exists_eq_add_of_le h;rw[Nat.min_eq_right h,Nat.pow_add,Nat.mul_assoc,Nat.gcd_mul_left,Nat.gcd_comm,gcd_odd_pow c,Nat.gcd_comm,Nat.mul_comm]
theorem odd_or_left (m y:Nat):∃k,(2*m+1) ||| y=2*k+1:=by refine⟨((2*m+1) ||| y) / 2,?_⟩;have h:((2*m+1) ||| y)%2=1:=(by rw[Nat.or_mod_two_eq_one];left;omega);omega
theorem or_parts {x y:Nat} (c:x%2=1) (d:y%2=1) (i j:Nat):∃m,(2^i*x) ||| (2^j*y)=2^min i j*(2*m+1):=by
 have e:∀(p q:Nat) (u v:Nat),u%2=1→∃m,(2^p*u) ||| (2^(p+q)*v)=2^p*(2*m+1):=(by intro p q u v f;obtain⟨k,b⟩:=odd_or_left (u / 2) (2^q*v);refine⟨k,?_⟩;rw[Nat.pow_add,Nat.mul_assoc,Nat.mul_comm (2^p) u,Nat.mul_comm (2^p) (2^q*v),←Nat.shiftLeft_eq,←Nat.shiftLeft_eq,←Nat.shiftLeft_or_distrib,Nat.shiftLeft_eq,Nat.mul_comm,←b,show 2*(u / 2)+1=u by omega]);rcases Nat.le_total i j with h|h
 ·obtain⟨k,rfl⟩:=Nat.exists_eq_add_of_le h;rw[Nat.min_eq_left h];exact e i k x y c
 ·obtain⟨k,rfl⟩:=Nat.exists_eq_add_of_le h;rw[Nat.min_eq_right h,Nat.or_comm];exact e j k y x d
end Rad
namespace Go.Proofs.YtjlkplidpdhgbaaGreatDoor
open Go Go.Proofs Go.RowKit Go.Rad
theorem shr_odd {k m:Nat}: (2^k*(2*m+1)) / 2^k=2*m+1:=Nat.mul_div_cancel_left _ (Nat.pow_pos dd)
structure GW (a b s x y:Nat):Prop where
 odd:x%2=1
 x0:x<B
 y0:y<B
 g:Nat.gcd x y*2^s=Nat.gcd a b
theorem GW.step {a b s x k m:Nat} (h:GW a b s x (2^k*(2*m+1))):GW a b s (min x (2*m+1)) (max x (2*m+1)-min x (2*m+1)):=by obtain⟨o,x0,y0,g⟩:=h;have c:2*m+1<B:=Nat.lt_of_le_of_lt (Nat.le_mul_of_pos_left (2*m+1) (Nat.pow_pos dd)) y0;rw[_root_.Rad.gcd_odd_pow o]at g;refine⟨by omega,by omega,by omega,?_⟩;rw[_root_.Rad.gcd_min_max,g]
theorem GW.done {a b s x y:Nat} (h:GW a b s x y) (c:y=0):x*2^s=Nat.gcd a b:=by have:=h.g;rw[c,Nat.gcd_zero_right]at this;exact this
theorem zd4 (w:World) (a b:Nat) (g:a<B) (D:b<B) (u:TabB w):
 Calls Tryz.prog 91 #[.int .u64 a,.int .u64 b] w fun e w'=>e=.returned (.int .u64 (Nat.gcd a b:Nat))∧w'=w:=by
 by_cases N:a=0∨b=0
 ·have c:bits .or .u64 (a:Int) (b:Int)=((Nat.gcd a b:Nat):Int):=by
   rcases N with rfl|rfl
   ·have h:=bits_or_u64_nat 0 b dd D;rw[Nat.zero_or]at h;rw[Nat.gcd_zero_left];exact h
   ·have h:=bits_or_u64_nat a 0 g dd;rw[Nat.or_zero]at h;rw[Nat.gcd_zero_right];exact h
  by_cases A:a=0
  ·subst A;have H:Hid (bits .or .u64 0 (b:Int)=((Nat.gcd 0 b:Nat):Int)):=c;clear c u N;go_enter Tryz.func91,Tryz.ntmps91;go_wp2;rw[H.out];go_ret;exact⟨rfl,rfl⟩
  ·obtain rfl:b=0:=om;have l:¬(a:Int)=0:=om;have C:((a:Int)==0)=false:=(by simpa using l);have H:Hid (bits .or .u64 (a:Int) 0=((Nat.gcd a 0:Nat):Int)):=c;clear c u A N;go_enter Tryz.func91,Tryz.ntmps91;go_wp2;rw[H.out];go_ret;exact⟨rfl,rfl⟩
 ·obtain⟨i,p,f⟩:=odd_part a om;obtain⟨j,q,L⟩:=odd_part b om;obtain⟨m,M⟩:=_root_.Rad.or_parts (x:=2*p+1) (y:=2*q+1) om om i j;rw[←f,←L]at M;have c:=bits_or_u64_nat a b g D;rw[M]at c;have r:2^min i j*(2*m+1)<B:=(by rw[←M];exact Nat.or_lt_two_pow (n:=64) g D);have l:¬(a:Int)=0:=om;have V:¬(b:Int)=0:=om;have C:((a:Int)==0)=false:=(by simpa using l);have aa:((b:Int)==0)=false:=(by simpa using V);have HT:Hid (TabB w):=u;have HO:Hid _:=c;have J:Hid (GW a b (min i j) (2*p+1) b):=by
   refine⟨by omega,?_,D,?_⟩
   ·exact Nat.lt_of_le_of_lt (Nat.le_mul_of_pos_left (2*p+1) (Nat.pow_pos dd)) (f▸g)
   ·conv=>lhs;rw[L]
    conv=>rhs;rw[f,L]
    exact(_root_.Rad.gcd_parts (x:=2*p+1) (y:=2*q+1) om om i j).symm
  have HA:Hid _:=f;have O:Hid ((a:Int) / 2^i=((2*p+1:Nat):Int)):=(by show _=_;rw[zbv,f,shr_odd]);have ba:i<64:=(by refine Classical.byContradiction fun hk=>?_;have h1:2^64≤2^i:=Nat.pow_le_pow_right dd om;have U:=Nat.le_mul_of_pos_right (2^i) (show 0<2*p+1 by omega);rw[←f]at U;unfold B at g;omega);have E:min i j<64:=om;obtain⟨s,hs⟩:∃s,min i j=s:=⟨_,rfl⟩;rw[hs]at c r HO J E;have t:Calls Tryz.prog 121 #[.int .u64 (bits .or .u64 (a:Int) (b:Int))] w fun e w'=>e=.returned (.int .i64 s)∧w'=w:=(by rw[HO.out];exact zci s m r w u);have CA:Calls Tryz.prog 121 #[.int .u64 (a:Int)] w fun e w'=>e=.returned (.int .i64 i)∧w'=w:=(by have h:=zci i p (f▸g) w u;rw[←f]at h;exact h);have P:Hid (Nat.gcd a b<B):=Nat.lt_of_le_of_lt (Nat.gcd_le_left _ om) g;clear f L M c r hs N u g D;go_enter Tryz.func91,Tryz.ntmps91;go_wp2_with (go_at_call 121;fail);refine t.mono ?_;rintro e w1 ⟨rfl,d⟩;subst w1;go_wp2_with (go_at_call 121;fail);refine CA.mono ?_;rintro e Z ⟨rfl,d⟩;subst Z;clear t CA;go_wp2;rw[O.out];go_loopw [0,1] (fun S T wr=>∃x y:Nat,S=.int .u64 x∧T=.int .u64 y∧wr=w∧Hid (GW a b s x y))
   (fun S T _=>(intOf S).toNat+(intOf T).toNat)
  case atStart=>exact⟨_,_,rfl,rfl,rfl,J⟩
  case round=>
   obtain⟨x,y,rfl,rfl,fa,R⟩:=hrel;subst wr;by_cases hy:y=0
   ·subst hy;clear J O HA;have W:Hid (IntKind.u64.wrap ((x:Int)*2^s)=((Nat.gcd a b:Nat):Int)):=(by show _=_;rw[zgh,GW.done R.out rfl];unfold lo;rw[Nat.mod_eq_of_lt (show Nat.gcd a b<18446744073709551616 from P.out)]);go_wp2;rw[W.out];go_ret;exact⟨rfl,rfl⟩
   ·obtain⟨k,m,e⟩:=odd_part y om;have d:=R.out;have t:=zci k m (e▸d.y0) w HT.out;rw[←e]at t;have G:¬(y:Int)=0:=om;have I:((y:Int)==0)=false:=(by simpa using G);have z:Hid ((y:Int) / 2^k=((2*m+1:Nat):Int)):=(by show _=_;rw[zbv,e,shr_odd]);have hz:2*m+1≤y:=by
     conv=>rhs;rw[e]
     exact Nat.le_mul_of_pos_left (2*m+1) (Nat.pow_pos dd)
    have ca:k<64:=(by refine Classical.byContradiction fun hk=>?_;have h1:2^64≤2^k:=Nat.pow_le_pow_right dd om;have U:=Nat.le_mul_of_pos_right (2^k) (show 0<2*m+1 by omega);rw[←e]at U;have h3:=d.y0;unfold B at h3;omega);have ga:0<x:=(by have:=d.odd;omega);have HS:Hid _:=(show GW a b s x (2^k*(2*m+1))from e▸d).step;have Y:=d.y0;have X:=d.x0;unfold B at Y X;clear d R O HA e J;obtain⟨o,ho⟩:∃o,o=2*m+1:=⟨_,rfl⟩;rw[←ho]at z hz HS;have da:0<o:=om;have F:min k 64=k:=om;clear ho;go_wp2_with (go_at_call 121;fail);refine t.mono ?_;rintro e Z ⟨rfl,d⟩;subst Z;clear t G I;go_wp2
    all_goals
     rw[F,z.out]at *;refine⟨⟨min x o,by omega,max x o-min x o,?_,HS⟩,?_⟩
     ·rw[IntKind.wrap_u64];omega
     ·simp only[intOf,IntKind.wrap_u64];omega
def zck (x L:Nat):Prop:=(x=0∧L=0)∨(0<L∧2^(L-1)≤x∧x<2^L)
def zgo (j:Nat):Nat:=if j<1 then 0 else if j<2 then 1 else if j<4 then 2 else if j<8 then 3 else if j<16 then 4 else if j<32 then 5 else if j<64 then 6 else if j<128 then 7 else 8
theorem zbt {j:Nat} (h:j<256):zck j (zgo j)∧zgo j≤8:=by
 unfold zgo zck
 repeat' split
 all_goals simp
 all_goals omega
theorem zb3 {x k L:Nat} (c:0<x / 2^k) (h:zck (x / 2^k) L):zck x (L+k):=by
 rcases h with⟨h,_⟩|⟨h1,h2,h3⟩
 ·omega
 ·right;have b:0<2^k:=Nat.pow_pos dd;refine⟨by omega,?_,?_⟩
  ·rw[show L+k-1=(L-1)+k by omega,Nat.pow_add];exact Nat.le_trans (Nat.mul_le_mul_right _ h2) (Nat.div_mul_le_self x _)
  ·rw[Nat.pow_add];exact Nat.lt_mul_of_div_lt h3 b
def lastOf (f:Func):Code:=match f.body with|some (.seq _ (.seq _ (.seq _ (.seq _ (.seq r _)))))=>r|_=> .skip
def restOf (f:Func):Code:=match f.body with|some (.seq _ (.seq _ (.seq _ (.seq _ c))))=>c|_=> .skip
def opsIn (c:Code):List Oper:=match c with| .region _ ops _=>ops.toList|_=>[]
def strIn (o:Oper):ByteArray:=match o.op with| .index _ (.const (.string s)) _=>s|_=>ByteArray.empty
def zd7 (f:Func) (i:Nat):Oper:=(opsIn (lastOf f)).getD i default
theorem tab_ok:(List.range 256).all (fun j=>(strIn (zd7 Tryz.f148 3))[j]? ==some (UInt8.ofNat (zgo j)))=true:=by kernel_rfl
theorem ops_eq:opsIn (lastOf Tryz.f148)=[zd7 Tryz.f148 0,zd7 Tryz.f148 1,zd7 Tryz.f148 2,zd7 Tryz.f148 3,zd7 Tryz.f148 4,zd7 Tryz.f148 5,zd7 Tryz.f148 6]:=by kernel_rfl
theorem last_eq:lastOf Tryz.f148=.region 10 (opsIn (lastOf Tryz.f148)).toArray false:=by kernel_rfl
theorem rest_eq:restOf Tryz.f148=.seq (lastOf Tryz.f148) .ret:=by kernel_rfl
theorem op_0:(zd7 Tryz.f148 0).op=.move (.tmp 2)∧(zd7 Tryz.f148 0).dst=some 19∧(zd7 Tryz.f148 0).guard=none:=⟨by kernel_rfl,by kernel_rfl,by kernel_rfl⟩
theorem op_1:(zd7 Tryz.f148 1).op=.move (.tmp 0)∧(zd7 Tryz.f148 1).dst=some 20∧(zd7 Tryz.f148 1).guard=none:=⟨by kernel_rfl,by kernel_rfl,by kernel_rfl⟩
theorem op_2:(zd7 Tryz.f148 2).op=.convert 98 5 (.tmp 20)∧(zd7 Tryz.f148 2).dst=some 21∧(zd7 Tryz.f148 2).guard=none:=⟨by kernel_rfl,by kernel_rfl,by kernel_rfl⟩
theorem op_3:(zd7 Tryz.f148 3).op=.index 9 (.const (.string (strIn (zd7 Tryz.f148 3)))) (.tmp 21)∧(zd7 Tryz.f148 3).dst=some 22∧(zd7 Tryz.f148 3).guard=none:=⟨by kernel_rfl,by kernel_rfl,by kernel_rfl⟩
theorem op_4:(zd7 Tryz.f148 4).op=.convert 5 3 (.tmp 22)∧(zd7 Tryz.f148 4).dst=some 23∧(zd7 Tryz.f148 4).guard=none:=⟨by kernel_rfl,by kernel_rfl,by kernel_rfl⟩
theorem op_5:(zd7 Tryz.f148 5).op=.binOp .add 3 (.tmp 19) (.tmp 23) 3∧(zd7 Tryz.f148 5).dst=some 24∧(zd7 Tryz.f148 5).guard=none:=⟨by kernel_rfl,by kernel_rfl,by kernel_rfl⟩
theorem op_6:(zd7 Tryz.f148 6).op=.assign (.tmp 24)∧(zd7 Tryz.f148 6).dst=some 2∧(zd7 Tryz.f148 6).guard=none:=⟨by kernel_rfl,by kernel_rfl,by kernel_rfl⟩
theorem zeb {P:Program} {w:World} {c:Array Oper} {rest:List Oper} {o:Oper} {a:Act} {Q:Exit→Act→World→Prop} {d:Nat} (v:Value) (j:o.guard=none) (g:o.dst=some d)
 (b:(execOp a.eval o).run P w=.ok (.value v) w) (h:wpList P c Q rest (a.put (some d) v) w):wpList P c Q (o::rest) a w:=by
 refine wpList_plain j fun K f=>?_;unfold Oper.wp;rw[b,Oper.upon_value,g];exact f _ _ h
theorem val_run {P:Program} {w:World} {s:Sem Value} {v:Value} (h:s.run P w=.ok v w):Sem.run P (do pure (.value (←s)):Sem Next) w=.ok (Next.value v) w:=by simp[h,Result.andThen]
theorem index_runs {P:Program} {w:World} {a:Act} {o:Oper} {t:TypeId} {c v u:Value} {i:Operand} (d:o.op=.index t (.const c) i) (hi:a.eval i=u)
 (b:(Instr.index t c u).run P w=.ok v w):(execOp a.eval o).run P w=.ok (.value v) w:=by
 unfold execOp;rw[d];have:Instr.index t (a.eval (.const c)) (a.eval i)=Instr.index t c u:=(by rw[hi];rfl)
 dsimp only
 rw[this];exact val_run b
theorem conv_runs {P:Program} {w:World} {a:Act} {o:Oper} {s t:TypeId} {v u:Value} {i:Operand} (c:o.op=.convert s t i) (hi:a.eval i=u)
 (b:(convert s t u).run P w=.ok v w):(execOp a.eval o).run P w=.ok (.value v) w:=by
 unfold execOp;rw[c]
 dsimp only
 rw[hi];exact val_run b
theorem zf4 {P:Program} {w:World} {a:Act} {o:Oper} {u:Value} {i:Operand} (b:o.op=.move i∨o.op=.assign i) (hi:a.eval i=u):(execOp a.eval o).run P w=.ok (.value u) w:=by unfold execOp;rcases b with b|b <;> rw[b] <;> dsimp only <;> rw[hi] <;> rfl
theorem tail_abs {D:Array Oper} {r s t u x z A:Oper} {T:ByteArray} (V:∀y,y<256→T[y]? =some (UInt8.ofNat (zgo y)))
 (E:r.op=.move (.tmp 2)∧r.dst=some 19∧r.guard=none) (F:s.op=.move (.tmp 0)∧s.dst=some 20∧s.guard=none)
 (G:t.op=.convert 98 5 (.tmp 20)∧t.dst=some 21∧t.guard=none) (H:u.op=.index 9 (.const (.string T)) (.tmp 21)∧u.dst=some 22∧u.guard=none)
 (I:x.op=.convert 5 3 (.tmp 22)∧x.dst=some 23∧x.guard=none) (J:z.op=.binOp .add 3 (.tmp 19) (.tmp 23) 3∧z.dst=some 24∧z.guard=none)
 (L:A.op=.assign (.tmp 24)∧A.dst=some 2∧A.guard=none)
 (a:Act) (w:World) (n y:Nat) (X:a.tmps.size=25) (S:a.eval (.tmp 2)=.int .i64 (n:Int)) (R:a.eval (.tmp 0)=.int .u64 (y:Int)) (M:y<256) (hn:n≤56)
 {Q:Exit→Act→World→Prop} (U:∀B:Act,B.eval (.tmp 2)=.int .i64 ((n+zgo y:Nat):Int)→B.defers=a.defers→Q .normal B w):
 wpList Tryz.prog D Q [r,s,t,u,x,z,A] a w:=by
 have l8:=(zbt M).2;have C:=V y M;have W:(UInt8.ofNat (zgo y)).toNat=zgo y:=(by simp;omega);refine zeb (.int .i64 (n:Int)) E.2.2 E.2.1 (zf4 (.inl E.1) S) ?_;obtain⟨k,b⟩:∃k,k=a.put (some 19) (.int .i64 (n:Int)):=⟨_,rfl⟩;have Y:k.tmps.size=25:=(by rw[b];simp[Act.put,X]);have d1:k.defers=a.defers:=(by rw[b];rfl);have x1:k.eval (.tmp 19)=.int .i64 (n:Int):=(by rw[b];exact za0 om);have y1:k.eval (.tmp 0)=.int .u64 (y:Int):=(by rw[b,zan dd];exact R);rw[←b];clear b;refine zeb (.int .u64 (y:Int)) F.2.2 F.2.1 (zf4 (.inl F.1) y1) ?_;obtain⟨l,c⟩:∃l,l=k.put (some 20) (.int .u64 (y:Int)):=⟨_,rfl⟩;have Z:l.tmps.size=25:=(by rw[c];simp[Act.put,Y]);have d2:l.defers=a.defers:=(by rw[c];exact d1);have x2:l.eval (.tmp 19)=.int .i64 (n:Int):=(by rw[c,zan dd];exact x1);have y2:l.eval (.tmp 20)=.int .u64 (y:Int):=(by rw[c];exact za0 om);rw[←c];clear c;refine zeb (.int .u8 (y:Int)) G.2.2 G.2.1 (conv_runs G.1 y2 (by simp[go_sem];rw[IntKind.wrap_u8];omega)) ?_;obtain⟨m,d⟩:∃m,m=l.put (some 21) (.int .u8 (y:Int)):=⟨_,rfl⟩;have s3:m.tmps.size=25:=(by rw[d];simp[Act.put,Z]);have d3:m.defers=a.defers:=(by rw[d];exact d2);have x3:m.eval (.tmp 19)=.int .i64 (n:Int):=(by rw[d,zan dd];exact x2);have y3:m.eval (.tmp 21)=.int .u8 (y:Int):=(by rw[d];exact za0 om);rw[←d];clear d;refine zeb (.int .u8 ((zgo y:Nat):Int)) H.2.2 H.2.1 (index_runs H.1 y3 (by simp[Instr.index,run_underlying Tryz.underlying9,asIntOf,C,W])) ?_;obtain⟨o,f⟩:∃o,o=m.put (some 22) (.int .u8 ((zgo y:Nat):Int)):=⟨_,rfl⟩;have s4:o.tmps.size=25:=(by rw[f];simp[Act.put,s3]);have N:o.defers=a.defers:=(by rw[f];exact d3);have x4:o.eval (.tmp 19)=.int .i64 (n:Int):=(by rw[f,zan dd];exact x3);have y4:o.eval (.tmp 22)=.int .u8 ((zgo y:Nat):Int):=(by rw[f];exact za0 om);rw[←f];clear f;refine zeb (.int .i64 ((zgo y:Nat):Int)) I.2.2 I.2.1 (conv_runs I.1 y4 (by simp[go_sem];rw[IntKind.wrap_i64];omega)) ?_;obtain⟨p,g⟩:∃p,p=o.put (some 23) (.int .i64 ((zgo y:Nat):Int)):=⟨_,rfl⟩;have s5:p.tmps.size=25:=(by rw[g];simp[Act.put,s4]);have O:p.defers=a.defers:=(by rw[g];exact N);have x5:p.eval (.tmp 19)=.int .i64 (n:Int):=(by rw[g,zan dd];exact x4);have y5:p.eval (.tmp 23)=.int .i64 ((zgo y:Nat):Int):=(by rw[g];exact za0 om);rw[←g];clear g;refine zeb (.int .i64 ((n+zgo y:Nat):Int)) J.2.2 J.2.1 (by
  unfold execOp;rw[J.1]
  dsimp only
  rw[x5,y5];simp[go_sem];rw[IntKind.wrap_i64];omega) ?_
 obtain⟨q,j⟩:∃q,q=p.put (some 24) (.int .i64 ((n+zgo y:Nat):Int)):=⟨_,rfl⟩;have s6:q.tmps.size=25:=(by rw[j];simp[Act.put,s5]);have P:q.defers=a.defers:=(by rw[j];exact O);have y6:q.eval (.tmp 24)=.int .i64 ((n+zgo y:Nat):Int):=(by rw[j];exact za0 om);rw[←j];clear j;refine zeb (.int .i64 ((n+zgo y:Nat):Int)) L.2.2 L.2.1 (zf4 (.inr L.1) y6) ?_;exact wpList_nil (U _ (za0 om) P)
theorem len_tail (a:Act) (w:World) (n y:Nat) (m:a.tmps.size=25) (f:a.eval (.tmp 2)=.int .i64 (n:Int)) (d:a.eval (.tmp 0)=.int .u64 (y:Int)) (c:y<256) (l:n≤56)
 {Q:Exit→Act→World→Prop} (k:∀b:Act,b.eval (.tmp 2)=.int .i64 ((n+zgo y:Nat):Int)→b.defers=a.defers→Q .ret b w):(restOf Tryz.f148).wp Tryz.prog Q a w:=by
 rw[rest_eq];refine wp_seq ?_;rw[last_eq,ops_eq];refine wp_region_lit (tail_abs (T:=strIn (zd7 Tryz.f148 3)) (fun y c=>?_) op_0 op_1 op_2 op_3 op_4 op_5 op_6 a w n y m f d c l fun b g j=>?_)
 ·have:=List.all_eq_true.1 tab_ok y (List.mem_range.2 c);exact eq_of_beq this
 ·exact wp_ret (k _ g j)
def q1 (f:Func):Code:=match f.body with|some (.seq a (.seq _ (.seq _ (.seq _ _))))=>a|_=> .skip
def q2 (f:Func):Code:=match f.body with|some (.seq _ (.seq a (.seq _ (.seq _ _))))=>a|_=> .skip
def q3 (f:Func):Code:=match f.body with|some (.seq _ (.seq _ (.seq a (.seq _ _))))=>a|_=> .skip
def q4 (f:Func):Code:=match f.body with|some (.seq _ (.seq _ (.seq _ (.seq a _))))=>a|_=> .skip
theorem body148:Tryz.f148.body=some (.seq (q1 Tryz.f148) (.seq (q2 Tryz.f148) (.seq (q3 Tryz.f148) (.seq (q4 Tryz.f148) (restOf Tryz.f148))))):=by kernel_rfl
theorem len64_any (x:Nat) (O:x<B) (w:World):Calls Tryz.prog 148 #[.int .u64 x] w fun e w'=>∃L:Nat,e=.returned (.int .i64 L)∧w'=w∧zck x L∧L≤64:=by
 unfold B at O;refine calls_of_wp Tryz.func148 body148 ?_;obtain⟨Q,H⟩:∃Q:Exit→Act→World→Prop,Q=(bodyPost Tryz.prog Tryz.f148 fun e w'=>∃L:Nat,e=.returned (.int .i64 L)∧w'=w∧zck x L∧L≤64):=⟨_,rfl⟩;have I:∀(n y:Nat),y<256→n≤56→zck x (n+zgo y)→n+zgo y≤64→∀l:Act,l.tmps.size=25→l.eval (.tmp 2)=.int .i64 (n:Int)→l.eval (.tmp 0)=.int .u64 (y:Int)→l.defers=[]→
  (restOf Tryz.f148).wp Tryz.prog Q l w:=by
  rw[H];intro n y c Z g G l hs V U Y;refine len_tail l w n y hs V U c Z fun a2 W X=>?_;exact bodyPost_ret (v:= .int .i64 ((n+zgo y:Nat):Int)) (by rw[results_tmp (t:=2) kfl];exact congrArg (fun v=>Result.ok v w) W) (X.trans Y) ⟨_,rfl,rfl,g,G⟩
 rw[←H];clear H;obtain⟨R,N⟩:∃R,R=restOf Tryz.f148:=⟨_,rfl⟩;rw[←N]at I⊢;clear N;simp only[Tryz.ntmps148,List.size_toArray,List.length_cons,List.length_nil,Nat.reduceAdd,Nat.reduceSub,Array.replicate_succ,
  Array.replicate_zero,List.push_toArray,List.append_toArray,List.nil_append,List.cons_append]
 obtain⟨C,k⟩:∃C,Hid (C=Code.seq (q4 Tryz.f148) R):=⟨_,rfl⟩;rw[←k.out];obtain⟨A,q⟩:∃A,Hid (A=Code.seq (q3 Tryz.f148) C):=⟨_,rfl⟩;rw[←q.out];obtain⟨R2,u⟩:∃R2,Hid (R2=Code.seq (q2 Tryz.f148) A):=⟨_,rfl⟩;rw[←u.out];refine wp_seq ?_
 conv=>arg 2;whnf
 go_wp2;rw[u.out];refine wp_seq ?_
 conv=>arg 2;whnf
 have f:Hid _:=I;clear I;have aa:(x:Int)<18446744073709551616:=om;clear O;by_cases c1:(4294967296:Int)≤x
 ·obtain⟨y1,M⟩:∃y1:Nat,y1=x / 2^32:=⟨_,rfl⟩;have T:(x:Int) / 4294967296=(y1:Int):=om;have t1:IntKind.u64.wrap (y1:Int)=(y1:Int):=(by rw[IntKind.wrap_u64];omega);have b1:(y1:Int)<4294967296:=om;have z:∀L,zck y1 L→zck x (L+32):=fun L h=>zb3 om (M▸h);clear M;go_wp2
  try rw[T]
  rw[q.out];refine wp_seq ?_
  conv=>arg 2;whnf
  by_cases S:(65536:Int)≤y1
  ·obtain⟨d,r⟩:∃d:Nat,d=y1 / 2^16:=⟨_,rfl⟩;have F:(y1:Int) / 65536=(d:Int):=om;have t2:IntKind.u64.wrap (d:Int)=(d:Int):=(by rw[IntKind.wrap_u64];omega);have P:(d:Int)<65536:=om;have s:∀L,zck d L→zck y1 (L+16):=fun L h=>zb3 om (r▸h);clear r;go_wp2
   try rw[F]
   rw[k.out];refine wp_seq ?_
   conv=>arg 2;whnf
   by_cases E:(256:Int)≤d
   ·obtain⟨b,j⟩:∃b:Nat,b=d / 2^8:=⟨_,rfl⟩;have m:(d:Int) / 256=(b:Int):=om;have J:IntKind.u64.wrap (b:Int)=(b:Int):=(by rw[IntKind.wrap_u64];omega);have D:(b:Int)<256:=om;have o:∀L,zck b L→zck d (L+8):=fun L h=>zb3 om (j▸h);clear j;go_wp2
    try rw[m]
    have c:b<256:=om;have g:=(z _ (s _ (o _ (zbt c).1)));have p:=(zbt c).2;refine f.out 56 b c dd (by rw[Nat.add_comm];exact g) om _ rfl rfl rfl rfl
   ·go_wp2;have c:d<256:=om;have g:=(z _ (s _ (zbt c).1));have p:=(zbt c).2;refine f.out 48 d c dd (by rw[Nat.add_comm];exact g) om _ rfl rfl rfl rfl
  ·go_wp2;rw[k.out];refine wp_seq ?_
   conv=>arg 2;whnf
   by_cases E:(256:Int)≤y1
   ·obtain⟨b,j⟩:∃b:Nat,b=y1 / 2^8:=⟨_,rfl⟩;have m:(y1:Int) / 256=(b:Int):=om;have J:IntKind.u64.wrap (b:Int)=(b:Int):=(by rw[IntKind.wrap_u64];omega);have D:(b:Int)<256:=om;have o:∀L,zck b L→zck y1 (L+8):=fun L h=>zb3 om (j▸h);clear j;go_wp2
    try rw[m]
    have c:b<256:=om;have g:=(z _ (o _ (zbt c).1));have p:=(zbt c).2;refine f.out 40 b c dd (by rw[Nat.add_comm];exact g) om _ rfl rfl rfl rfl
   ·go_wp2;have c:y1<256:=om;have g:=(z _ (zbt c).1);have p:=(zbt c).2;refine f.out 32 y1 c dd (by rw[Nat.add_comm];exact g) om _ rfl rfl rfl rfl
 ·go_wp2;rw[q.out];refine wp_seq ?_
  conv=>arg 2;whnf
  by_cases S:(65536:Int)≤x
  ·obtain⟨d,r⟩:∃d:Nat,d=x / 2^16:=⟨_,rfl⟩;have F:(x:Int) / 65536=(d:Int):=om;have t2:IntKind.u64.wrap (d:Int)=(d:Int):=(by rw[IntKind.wrap_u64];omega);have P:(d:Int)<65536:=om;have s:∀L,zck d L→zck x (L+16):=fun L h=>zb3 om (r▸h);clear r;go_wp2
   try rw[F]
   rw[k.out];refine wp_seq ?_
   conv=>arg 2;whnf
   by_cases E:(256:Int)≤d
   ·obtain⟨b,j⟩:∃b:Nat,b=d / 2^8:=⟨_,rfl⟩;have m:(d:Int) / 256=(b:Int):=om;have J:IntKind.u64.wrap (b:Int)=(b:Int):=(by rw[IntKind.wrap_u64];omega);have D:(b:Int)<256:=om;have o:∀L,zck b L→zck d (L+8):=fun L h=>zb3 om (j▸h);clear j;go_wp2
    try rw[m]
    have c:b<256:=om;have g:=(s _ (o _ (zbt c).1));have p:=(zbt c).2;refine f.out 24 b c dd (by rw[Nat.add_comm];exact g) om _ rfl rfl rfl rfl
   ·go_wp2;have c:d<256:=om;have g:=(s _ (zbt c).1);have p:=(zbt c).2;refine f.out 16 d c dd (by rw[Nat.add_comm];exact g) om _ rfl rfl rfl rfl
  ·go_wp2;rw[k.out];refine wp_seq ?_
   conv=>arg 2;whnf
   by_cases E:(256:Int)≤x
   ·obtain⟨b,j⟩:∃b:Nat,b=x / 2^8:=⟨_,rfl⟩;have m:(x:Int) / 256=(b:Int):=om;have J:IntKind.u64.wrap (b:Int)=(b:Int):=(by rw[IntKind.wrap_u64];omega);have D:(b:Int)<256:=om;have o:∀L,zck b L→zck x (L+8):=fun L h=>zb3 om (j▸h);clear j;go_wp2
    try rw[m]
    have c:b<256:=om;have g:=(o _ (zbt c).1);have p:=(zbt c).2;refine f.out 8 b c dd (by rw[Nat.add_comm];exact g) om _ rfl rfl rfl rfl
   ·go_wp2;have c:x<256:=om;have g:=(zbt c).1;have p:=(zbt c).2;refine f.out 0 x c dd (by rw[Nat.add_comm];exact g) om _ rfl rfl rfl rfl
theorem zcl (x:Nat) (d:x<B) (w:World):Calls Tryz.prog 135 #[.int .u64 x] w fun e w'=>∃L:Nat,e=.returned (.int .i64 ((64-L:Nat):Int))∧w'=w∧zck x L∧L≤64:=by go_enter Tryz.func135,Tryz.ntmps135;go_wp2_with (go_at_call 148;refine(len64_any x d _).mono ?_;rintro e w' ⟨L,rfl,rfl,c,b⟩);have f:IntKind.i64.wrap (64-(L:Int))=((64-L:Nat):Int):=(by rw[IntKind.wrap_i64];omega);go_wp2;go_ret;exact⟨L,zcf om,rfl,c,b⟩
theorem len_any (x:Nat) (d:x<B) (w:World):Calls Tryz.prog 117 #[.int .u64 x] w fun e w'=>∃L:Nat,e=.returned (.int .i64 L)∧w'=w∧zck x L∧L≤64:=by go_enter Tryz.func117,Tryz.ntmps117;go_wp2_with (go_at_call 148;refine(len64_any x d _).mono ?_;rintro e w' ⟨L,rfl,rfl,c,b⟩);go_ret;exact⟨L,rfl,rfl,c,b⟩
end Go.Proofs.YtjlkplidpdhgbaaGreatDoor
namespace Rad
structure Guess (h y1 y0 u d q r:Nat):Prop where
 sum:q*y1+r=u
 ge:(u*h+d) / (y1*h+y0)≤q
 le:q≤h+1
theorem guess_start {h y1 y0 u d:Nat} (o:h≤2*y1) (f:y0<h) (l:d<h) (n:u<y1*h+y0):Guess h y1 y0 u d (u / y1) (u%y1):=by
 have b:0<y1:=om;have e:u / y1*y1+u%y1=u:=(by rw[Nat.mul_comm];exact Nat.div_add_mod u y1);have m:=Nat.mod_lt u b;refine⟨e,?_,?_⟩
 ·refine Nat.le_of_lt_succ ((Nat.div_lt_iff_lt_mul (by have:=Nat.mul_pos b (show 0<h by omega);omega)).2 ?_);have c:u+1≤(u / y1+1)*y1:=(by rw[Nat.add_mul];omega);have g:=Nat.mul_le_mul_right h c;have j:(u / y1+1)*y1*h≤(u / y1+1)*(y1*h+y0):=(by rw[Nat.mul_assoc,Nat.mul_add];omega);have k:(u+1)*h=u*h+h:=(by rw[Nat.add_mul];omega);show u*h+d<(u / y1).succ*(y1*h+y0);have:(u / y1).succ=u / y1+1:=rfl;rw[this];omega
 ·refine Nat.le_of_lt_succ ((Nat.div_lt_iff_lt_mul b).2 ?_);show u<(h+1).succ*y1;have c:(h+1).succ*y1=y1*h+2*y1:=(by rw[show(h+1).succ=h+2 from rfl,Nat.add_mul,Nat.mul_comm h y1]);omega
theorem guess_lt {h y1 y0 u d:Nat} (f:d<h) (c:u<y1*h+y0):(u*h+d) / (y1*h+y0)<h:=by refine(Nat.div_lt_iff_lt_mul om).2 ?_;have b:=Nat.mul_le_mul_right h (show u+1≤y1*h+y0 from c);rw[Nat.add_mul,Nat.mul_comm (y1*h+y0) h]at b;omega
theorem Guess.step {h y1 y0 u d q r:Nat} (g:Guess h y1 y0 u d q r) (f:d<h) (k:u<y1*h+y0) (b:h≤q∨h*r+d<q*y0):
 0<q∧Guess h y1 y0 u d (q-1) (r+y1):=by
 have c:(u*h+d) / (y1*h+y0)<q:=by
  rcases b with b|b
  ·exact Nat.lt_of_lt_of_le (guess_lt f k) b
  ·refine(Nat.div_lt_iff_lt_mul om).2 ?_;have e:u*h=q*y1*h+h*r:=(by rw[←g.sum,Nat.add_mul,Nat.mul_comm r h]);rw[e,Nat.mul_add,←Nat.mul_assoc];omega
 have m:0<q:=Nat.lt_of_le_of_lt (Nat.zero_le _) c;obtain⟨p,rfl⟩:∃p,q=p+1:=⟨q-1,by omega⟩;have j:=g.sum;have l:=g.le;rw[Nat.add_mul,Nat.one_mul]at j;refine⟨by omega,?_,by omega,by omega⟩;rw[Nat.add_sub_cancel];omega
theorem Guess.done {h y1 y0 u d q r:Nat} (g:Guess h y1 y0 u d q r) (b:0<y1*h+y0) (c:q*y0≤h*r+d):q=(u*h+d) / (y1*h+y0):=by refine Nat.le_antisymm ?_ g.ge;refine(Nat.le_div_iff_mul_le b).2 ?_;have e:u*h=q*y1*h+h*r:=(by rw[←g.sum,Nat.add_mul,Nat.mul_comm r h]);rw[e,Nat.mul_add,←Nat.mul_assoc];omega
theorem Guess.over {h y1 y0 u d q r:Nat} (g:Guess h y1 y0 u d q r) (c:0<y1*h+y0) (b:y0<h) (f:q≤h) (j:h≤r):q=(u*h+d) / (y1*h+y0):=by refine g.done c ?_;have k:=Nat.mul_le_mul f (Nat.le_of_lt b);have l:=Nat.mul_le_mul_left h j;omega
theorem two_digits {h u d1 d0 y:Nat}:
 (u*(h*h)+d1*h+d0) / y=(u*h+d1) / y*h+((u*h+d1)%y*h+d0) / y∧(u*(h*h)+d1*h+d0)%y=((u*h+d1)%y*h+d0)%y:=by
 have e:u*(h*h)+d1*h+d0=((u*h+d1)%y*h+d0)+y*((u*h+d1) / y*h):=(by have c:(u*h+d1)*h=((u*h+d1)%y+y*((u*h+d1) / y))*h:=(by rw[Nat.mod_add_div]);rw[Nat.add_mul,Nat.add_mul,Nat.mul_assoc,Nat.mul_assoc]at c;omega);rcases Nat.eq_zero_or_pos y with b|b
 ·subst b;simp only[Nat.div_zero,Nat.mod_zero,Nat.zero_mul,Nat.zero_add,Nat.add_zero,true_and];rw[Nat.add_mul,Nat.mul_assoc]
 ·refine⟨?_,?_⟩
  ·rw[e,Nat.add_mul_div_left _ _ b,Nat.add_comm]
  ·rw[e,Nat.add_mul_mod_self_left]
end Rad
