/- A part of the proof: W15, Pm9, G1, G8, G9. -/
import Derived.Test.YtjlkplidpdhgbaaGreatDoorP00
import Derived.Test.YtjlkplidpdhgbaaGreatDoorP01
import Derived.Laws.Bits64b
import Derived.Test.YtjlkplidpdhgbaaGreatDoorP05
import Derived.Test.YtjlkplidpdhgbaaGreatDoorP13
import Derived.Test.YtjlkplidpdhgbaaGreatDoorP06
import Derived.Test.YtjlkplidpdhgbaaGreatDoorP09
set_option linter.all false
set_option maxRecDepth 10000
set_option maxHeartbeats 4000000
namespace Go.Proofs.YtjlkplidpdhgbaaGreatDoor
open Go Go.Proofs Go.RowKit Go.Rad
def dB (j:Nat):Nat:=[0,1,56,2,57,49,28,3,61,58,42,50,38,29,17,4,62,47,59,36,45,43,51,22,53,39,33,30,24,18,12,5,63,55,48,27,60,41,37,16,46,35,44,21,52,32,23,11,54,26,40,15,34,20,31,10,25,14,19,9,13,8,7,6].getD j 0
def TabB (w:World):Prop:=∀j:Nat,j<64→w.cell? ⟨1,j,none⟩=some (.int .u8 ((dB j:Nat):Int))
theorem dB_is:∀k,k<64→dB (2^k*285870213051353865%18446744073709551616 / 288230376151711744)=k:=by intro k b;have:(List.range 64).all (fun k=>dB (2^k*285870213051353865%18446744073709551616 / 288230376151711744)==k)=true:=kfl;exact eq_of_beq (List.all_eq_true.1 this k (List.mem_range.2 b))
theorem odd_and (m p:Nat):(2*m+1) &&& (2*p+1)=2*(m &&& p)+1:=by
 apply Nat.eq_of_testBit_eq;intro i;cases i with
 |zero=>simp[Nat.testBit_zero,Nat.and_mod_two_eq_one] <;> omega
 |succ i=>rw[Nat.testBit_and,Nat.testBit_succ,Nat.testBit_succ,Nat.testBit_succ,show(2*m+1) / 2=m by omega,show(2*p+1) / 2=p by omega,show(2*(m &&& p)+1) / 2=m &&& p by omega,Nat.testBit_and]
theorem and_compl {m j:Nat} (h:m<2^j):m &&& (2^j-(m+1))=0:=by apply Nat.eq_of_testBit_eq;intro i;rw[Nat.testBit_and,Nat.testBit_two_pow_sub_succ h,Nat.zero_testBit];cases m.testBit i <;> simp
theorem low_bit {k m:Nat} (l:k<64) (b:2^k*(2*m+1)<2^64):(2^k*(2*m+1)) &&& (2^64-2^k*(2*m+1))=2^k:=by obtain⟨j,d⟩:∃j,64=k+(j+1):=⟨63-k,by omega⟩;have e:(2:Nat)^64=2^k*(2*2^j):=(by rw[d,Nat.pow_add,Nat.pow_succ,Nat.mul_comm (2^j) 2]);rw[e]at b⊢;have f:0<2^k:=Nat.pow_pos dd;have g:2*m+1<2*2^j:=Nat.lt_of_mul_lt_mul_left b;have c:2^k*(2*2^j)-2^k*(2*m+1)=2^k*(2*(2^j-(m+1))+1):=(by rw[←Nat.mul_sub];congr 1;omega);rw[c,Nat.mul_comm _ (2*m+1),Nat.mul_comm _ (2*(2^j-(m+1))+1),←Nat.shiftLeft_eq,←Nat.shiftLeft_eq,←Nat.shiftLeft_and_distrib,odd_and,and_compl om,Nat.shiftLeft_eq];simp
theorem odd_part:∀(x:Nat),0<x→∃k m,x=2^k*(2*m+1):=by
 intro x
 induction x using Nat.strongRecOn with
 |_ x ih=>
  intro h;rcases Nat.mod_two_eq_zero_or_one x with b|b
  ·obtain⟨k,m,e⟩:=ih (x / 2) om om;refine⟨k+1,m,?_⟩;rw[Nat.pow_succ,Nat.mul_assoc,Nat.mul_comm 2,←Nat.mul_assoc,←e];omega
  ·exact⟨0,x / 2,by simp;omega⟩
theorem zcc (k m:Nat) (f:2^k*(2*m+1)<B) (w:World) (o:TabB w):Calls Tryz.prog 121 #[.int .u64 ((2^k*(2*m+1):Nat):Int)] w fun e w'=>e=.returned (.int .i64 k)∧w'=w:=by have j:k<64:=(by refine Classical.byContradiction fun j=>?_;have A:2^64≤2^k:=Nat.pow_le_pow_right dd om;have C:=Nat.le_mul_of_pos_right (2^k) (show 0<2*m+1 by omega);unfold B at f;omega);have c:=low_bit j f;have b:=dB_is k j;have n:=o k j;have u:2^k<B:=Nat.lt_of_le_of_lt (Nat.le_mul_of_pos_right (2^k) (show 0<2*m+1 by omega)) f;have l:0<2^k:=Nat.pow_pos dd;have y:0<2^k*(2*m+1):=Nat.mul_pos l om;generalize 2^k*(2*m+1)=x at *;generalize 2^k=p at *;obtain⟨q,s⟩:∃q,q=p*285870213051353865%18446744073709551616:=⟨_,rfl⟩;obtain⟨r,t⟩:∃r,r=q / 288230376151711744:=⟨_,rfl⟩;rw[←s,←t]at b;have E:IntKind.u64.wrap (-(x:Int))=((2^64-x:Nat):Int):=(by rw[IntKind.wrap_u64];unfold B at f;omega);have F:bits .and .u64 (x:Int) ((2^64-x:Nat):Int)=(p:Int):=(by rw[bits_and_u64_nat _ _ f om,c]);have G:IntKind.u64.wrap ((p:Int)*285870213051353865)=(q:Int):=(by rw[IntKind.wrap_u64];omega);have H:(q:Int) / 288230376151711744=(r:Int):=om;have g:r<64:=om;have d:=o r g;rw[b]at d;clear s t c u b o n;have z:¬(x:Int)=0:=om;have D:(0:Int)≤(r:Int)∧(r:Int)<64:=om;have I:IntKind.i64.wrap (k:Int)=(k:Int):=(by rw[IntKind.wrap_i64];omega);go_enter Tryz.func121,Tryz.ntmps121;go_wp2;go_ret;exact⟨rfl,rfl⟩
end Go.Proofs.YtjlkplidpdhgbaaGreatDoor
namespace Rad
theorem zfl {a:Nat} (g:a%2=1) (i:Nat):(2^i).Coprime a:=by
 apply Nat.Coprime.pow_left;unfold Nat.Coprime;have h:Nat.gcd 2 a ∣ 2:=Nat.gcd_dvd_left 2 a;have b:Nat.gcd 2 a ∣ a:=Nat.gcd_dvd_right 2 a;have c:=Nat.le_of_dvd om h;have d:Nat.gcd 2 a≠2:=fun e=>by rw[e]at b;omega
 have f:0<Nat.gcd 2 a:=Nat.gcd_pos_of_pos_left a om;omega
theorem gcd_odd_pow {a:Nat} (b:a%2=1) (i x:Nat):Nat.gcd a (2^i*x)=Nat.gcd a x:=Nat.Coprime.gcd_mul_left_cancel_right x (zfl b i)
theorem gcd_min_max (a b:Nat):Nat.gcd (min a b) (max a b-min a b)=Nat.gcd a b:=by
 rcases Nat.le_total a b with h|h
 ·rw[Nat.min_eq_left h,Nat.max_eq_right h,Nat.gcd_sub_self_right h]
 ·rw[Nat.min_eq_right h,Nat.max_eq_left h,Nat.gcd_sub_self_right h,Nat.gcd_comm]
theorem gcd_parts {x y:Nat} (b:x%2=1) (c:y%2=1) (i j:Nat):Nat.gcd (2^i*x) (2^j*y)=Nat.gcd x (2^j*y)*2^min i j:=by
 rw[gcd_odd_pow b];rcases Nat.le_total i j with h|h
 ·obtain⟨k,rfl⟩:=Nat.exists_eq_add_of_le h;rw[Nat.min_eq_left h,Nat.pow_add,Nat.mul_assoc,Nat.gcd_mul_left,gcd_odd_pow b,Nat.mul_comm]
 ·obtain⟨k,rfl⟩:=Nat.exists_eq_add_of_le h;rw[Nat.min_eq_right h,Nat.pow_add,Nat.mul_assoc,Nat.gcd_mul_left,Nat.gcd_comm,gcd_odd_pow c,Nat.gcd_comm,Nat.mul_comm]
theorem odd_or_left (m y:Nat):∃k,(2*m+1) ||| y=2*k+1:=by refine⟨((2*m+1) ||| y) / 2,?_⟩;have h:((2*m+1) ||| y)%2=1:=(by rw[Nat.or_mod_two_eq_one];left;omega);omega
theorem or_parts {x y:Nat} (c:x%2=1) (d:y%2=1) (i j:Nat):∃m,(2^i*x) ||| (2^j*y)=2^min i j*(2*m+1):=by
 have e:∀(p q:Nat) (u v:Nat),u%2=1→∃m,(2^p*u) ||| (2^(p+q)*v)=2^p*(2*m+1):=(by intro p q u v f;obtain⟨k,b⟩:=odd_or_left (u / 2) (2^q*v);refine⟨k,?_⟩;rw[Nat.pow_add,Nat.mul_assoc,Nat.mul_comm (2^p) u,Nat.mul_comm (2^p) (2^q*v),←Nat.shiftLeft_eq,←Nat.shiftLeft_eq,←Nat.shiftLeft_or_distrib,Nat.shiftLeft_eq,Nat.mul_comm,←b,show 2*(u / 2)+1=u by omega]);rcases Nat.le_total i j with h|h
 ·obtain⟨k,rfl⟩:=Nat.exists_eq_add_of_le h;rw[Nat.min_eq_left h];exact e i k x y c
 ·obtain⟨k,rfl⟩:=Nat.exists_eq_add_of_le h;rw[Nat.min_eq_right h,Nat.or_comm];exact e j k y x d
end Rad
namespace Go.Proofs.YtjlkplidpdhgbaaGreatDoor
open Go Go.Proofs Go.RowKit Go.Rad
theorem shr_odd {k m:Nat}: (2^k*(2*m+1)) / 2^k=2*m+1:=Nat.mul_div_cancel_left _ (Nat.pow_pos dd)
structure GW (a b s x y:Nat):Prop where
 odd:x%2=1
 x0:x<B
 y0:y<B
 g:Nat.gcd x y*2^s=Nat.gcd a b
theorem GW.step {a b s x k m:Nat} (h:GW a b s x (2^k*(2*m+1))):GW a b s (min x (2*m+1)) (max x (2*m+1)-min x (2*m+1)):=by obtain⟨o,x0,y0,g⟩:=h;have c:2*m+1<B:=Nat.lt_of_le_of_lt (Nat.le_mul_of_pos_left (2*m+1) (Nat.pow_pos dd)) y0;rw[_root_.Rad.gcd_odd_pow o]at g;refine⟨by omega,by omega,by omega,?_⟩;rw[_root_.Rad.gcd_min_max,g]
theorem GW.done {a b s x y:Nat} (h:GW a b s x y) (c:y=0):x*2^s=Nat.gcd a b:=by have:=h.g;rw[c,Nat.gcd_zero_right]at this;exact this
theorem zdp (w:World) (a b:Nat) (g:a<B) (D:b<B) (u:TabB w):
 Calls Tryz.prog 91 #[.int .u64 a,.int .u64 b] w fun e w'=>e=.returned (.int .u64 (Nat.gcd a b:Nat))∧w'=w:=by
 by_cases N:a=0∨b=0
 ·have c:bits .or .u64 (a:Int) (b:Int)=((Nat.gcd a b:Nat):Int):=by
   rcases N with rfl|rfl
   ·have h:=bits_or_u64_nat 0 b dd D;rw[Nat.zero_or]at h;rw[Nat.gcd_zero_left];exact h
   ·have h:=bits_or_u64_nat a 0 g dd;rw[Nat.or_zero]at h;rw[Nat.gcd_zero_right];exact h
  by_cases A:a=0
  ·subst A;have H:Hid (bits .or .u64 0 (b:Int)=((Nat.gcd 0 b:Nat):Int)):=c;clear c u N;go_enter Tryz.func91,Tryz.ntmps91;go_wp2;rw[H.out];go_ret;exact⟨rfl,rfl⟩
  ·obtain rfl:b=0:=om;have l:¬(a:Int)=0:=om;have C:((a:Int)==0)=false:=(by simpa using l);have H:Hid (bits .or .u64 (a:Int) 0=((Nat.gcd a 0:Nat):Int)):=c;clear c u A N;go_enter Tryz.func91,Tryz.ntmps91;go_wp2;rw[H.out];go_ret;exact⟨rfl,rfl⟩
 ·obtain⟨i,p,f⟩:=odd_part a om;obtain⟨j,q,L⟩:=odd_part b om;obtain⟨m,M⟩:=_root_.Rad.or_parts (x:=2*p+1) (y:=2*q+1) om om i j;rw[←f,←L]at M;have c:=bits_or_u64_nat a b g D;rw[M]at c;have r:2^min i j*(2*m+1)<B:=(by rw[←M];exact Nat.or_lt_two_pow (n:=64) g D);have l:¬(a:Int)=0:=om;have V:¬(b:Int)=0:=om;have C:((a:Int)==0)=false:=(by simpa using l);have aa:((b:Int)==0)=false:=(by simpa using V);have HT:Hid (TabB w):=u;have HO:Hid _:=c;have J:Hid (GW a b (min i j) (2*p+1) b):=by
   refine⟨by omega,?_,D,?_⟩
   ·exact Nat.lt_of_le_of_lt (Nat.le_mul_of_pos_left (2*p+1) (Nat.pow_pos dd)) (f▸g)
   ·conv=>lhs;rw[L]
    conv=>rhs;rw[f,L]
    exact(_root_.Rad.gcd_parts (x:=2*p+1) (y:=2*q+1) om om i j).symm
  have HA:Hid _:=f;have O:Hid ((a:Int) / 2^i=((2*p+1:Nat):Int)):=(by show _=_;rw[zbn,f,shr_odd]);have ba:i<64:=(by refine Classical.byContradiction fun hk=>?_;have h1:2^64≤2^i:=Nat.pow_le_pow_right dd om;have U:=Nat.le_mul_of_pos_right (2^i) (show 0<2*p+1 by omega);rw[←f]at U;unfold B at g;omega);have E:min i j<64:=om;obtain⟨s,hs⟩:∃s,min i j=s:=⟨_,rfl⟩;rw[hs]at c r HO J E;have t:Calls Tryz.prog 121 #[.int .u64 (bits .or .u64 (a:Int) (b:Int))] w fun e w'=>e=.returned (.int .i64 s)∧w'=w:=(by rw[HO.out];exact zcc s m r w u);have CA:Calls Tryz.prog 121 #[.int .u64 (a:Int)] w fun e w'=>e=.returned (.int .i64 i)∧w'=w:=(by have h:=zcc i p (f▸g) w u;rw[←f]at h;exact h);have P:Hid (Nat.gcd a b<B):=Nat.lt_of_le_of_lt (Nat.gcd_le_left _ om) g;clear f L M c r hs N u g D;go_enter Tryz.func91,Tryz.ntmps91;go_wp2_with (go_at_call 121;fail);refine t.mono ?_;rintro e w1 ⟨rfl,d⟩;subst w1;go_wp2_with (go_at_call 121;fail);refine CA.mono ?_;rintro e Z ⟨rfl,d⟩;subst Z;clear t CA;go_wp2;rw[O.out];go_loopw [0,1] (fun S T wr=>∃x y:Nat,S=.int .u64 x∧T=.int .u64 y∧wr=w∧Hid (GW a b s x y))
   (fun S T _=>(intOf S).toNat+(intOf T).toNat)
  case atStart=>exact⟨_,_,rfl,rfl,rfl,J⟩
  case round=>
   obtain⟨x,y,rfl,rfl,fa,R⟩:=hrel;subst wr;by_cases hy:y=0
   ·subst hy;clear J O HA;have W:Hid (IntKind.u64.wrap ((x:Int)*2^s)=((Nat.gcd a b:Nat):Int)):=(by show _=_;rw[zfs,GW.done R.out rfl];unfold lo;rw[Nat.mod_eq_of_lt (show Nat.gcd a b<18446744073709551616 from P.out)]);go_wp2;rw[W.out];go_ret;exact⟨rfl,rfl⟩
   ·obtain⟨k,m,e⟩:=odd_part y om;have d:=R.out;have t:=zcc k m (e▸d.y0) w HT.out;rw[←e]at t;have G:¬(y:Int)=0:=om;have I:((y:Int)==0)=false:=(by simpa using G);have z:Hid ((y:Int) / 2^k=((2*m+1:Nat):Int)):=(by show _=_;rw[zbn,e,shr_odd]);have hz:2*m+1≤y:=by
     conv=>rhs;rw[e]
     exact Nat.le_mul_of_pos_left (2*m+1) (Nat.pow_pos dd)
    have ca:k<64:=(by refine Classical.byContradiction fun hk=>?_;have h1:2^64≤2^k:=Nat.pow_le_pow_right dd om;have U:=Nat.le_mul_of_pos_right (2^k) (show 0<2*m+1 by omega);rw[←e]at U;have h3:=d.y0;unfold B at h3;omega);have ga:0<x:=(by have:=d.odd;omega);have HS:Hid _:=(show GW a b s x (2^k*(2*m+1))from e▸d).step;have Y:=d.y0;have X:=d.x0;unfold B at Y X;clear d R O HA e J;obtain⟨o,ho⟩:∃o,o=2*m+1:=⟨_,rfl⟩;rw[←ho]at z hz HS;have da:0<o:=om;have F:min k 64=k:=om;clear ho;go_wp2_with (go_at_call 121;fail);refine t.mono ?_;rintro e Z ⟨rfl,d⟩;subst Z;clear t G I;go_wp2
    all_goals
     rw[F,z.out]at *;refine⟨⟨min x o,by omega,max x o-min x o,?_,HS⟩,?_⟩
     ·rw[IntKind.wrap_u64];omega
     ·simp only[intOf,IntKind.wrap_u64];omega
theorem TabB.lt {w:World} (h:TabB w):1<w.heap.size:=zby (h 0 dd)
theorem TabB.below {w w':World} (h:TabB w) (b:Below w.heap.size w w'):TabB w':=fun j c=>(World.cell?_of_block (b.block 1 h.lt)).trans (h j c)
theorem mag_one (w:World) (g:Nat) (d:0<g) (h:g<B):Mag (w.alloc (.cells #[.int .u64 (g:Int)] 98)) (.slice (some ⟨w.heap.size,0,none⟩) 1 1) g 1:=by obtain⟨c,b⟩:=one_arr w g h;refine⟨_,w.heap.size,0,1,rfl,Sl.mk _ _ _,Nat.le_refl _,c,b,.inr ?_⟩;rw[zaj,zao,Nat.zero_add,Nat.pow_zero,Nat.one_mul]at b;show word _ _ (0+(1-1))≠0;rw[Nat.sub_self,b];omega
theorem Mag.head {w:World} {v:Value} {y:Nat} (h:Mag w v y 1):∃b o c,v=.slice (some ⟨b,o,none⟩) 1 c∧1≤c∧w.cell? ⟨b,o,none⟩=some (.int .u64 (y:Int))∧y<B∧0<y:=by obtain⟨b,o,c,l,k,j,m,n⟩:=h.row dd;have d:=zag j (i:=0) dd;have f:word w b (o+0)=y:=(by rw[←m,zaj,zao,Nat.zero_add,Nat.pow_zero,Nat.one_mul]);rw[f,Nat.add_zero]at d;have g:=h.lt;rw[Nat.pow_one]at g;exact⟨b,o,c,l,k,d,g,h.pos dd⟩
theorem zeq (w:World) (va vb:Value) (a b na nb:Nat) (ha:Mag w va a na) (V:Mag w vb b nb) (S:0<na) (A:0<nb) (gc:na<160) (hc:nb<160) (ht:TabB w):
 Calls Tryz.prog 92 #[va,vb] w fun e w'=>∃v n,e=.returned v∧Below w.heap.size w w'∧Mag w' v (Nat.gcd a b) n:=by
 have T:0<Nat.gcd a b:=Nat.gcd_pos_of_pos_right _ (V.pos A);by_cases N:nb=1
 ·subst N;obtain⟨bb,ob,cb,rfl,cc,m,D,ja⟩:=V.head;obtain⟨ba,oa,ca,rfl,bc,-,-,-⟩:=ha.row S;have ka:=zby m;have M:Nat.gcd b (a%b)=Nat.gcd a b:=(by rw[Nat.gcd_comm a b,Nat.gcd_rec b a,Nat.gcd_comm]);have I:Nat.gcd a b<B:=Nat.lt_of_le_of_lt (Nat.gcd_le_right _ ja) D;have CM:∀c,Below w.heap.size w c→Calls Tryz.prog 122 #[.slice (some ⟨ba,oa,none⟩) na ca,.int .u64 b] c fun e w'=>e=.returned (.int .u64 (a%b:Nat))∧Below c.heap.size c w':=fun c h=>zfh c _ a na b (ha.below h) om ja D;have Z:∀c,Below w.heap.size w c→Calls Tryz.prog 91 #[.int .u64 b,.int .u64 (a%b:Nat)] c fun e w'=>e=.returned (.int .u64 (Nat.gcd a b:Nat))∧w'=c:=fun c h=>by have:=zdp c b (a%b) D (Nat.lt_trans (Nat.mod_lt _ ja) D) (ht.below h);rw[M]at this;exact this
  have HC:Hid (∀c,Below w.heap.size w c→c.cell? ⟨bb,ob,none⟩=some (.int .u64 (b:Int))):=fun c h=>(World.cell?_of_block (h.block bb ka)).trans m;have HG:Hid (0<Nat.gcd a b∧Nat.gcd a b<B):=⟨T,I⟩;obtain⟨g,hg⟩:∃g,Nat.gcd a b=g:=⟨_,rfl⟩;rw[hg]at Z HG⊢;clear ha V T ht M I hg S A;go_enter Tryz.func92,Tryz.ntmps92;go_wp2;go_region_with (first
   |(go_at_call 122;refine(CM _ (zad w)).mono ?_;rintro e w3 ⟨rfl,s⟩;have c3:=HC.out w3 ((zad w).trans s))
   |(go_at_call 91;refine(Z _ ((zad w).trans s)).mono ?_;rintro e w4 ⟨rfl,la⟩;subst w4))
  all_goals
   have HB:Hid (Below w.heap.size w w3):=(zad w).trans s;clear CM Z s;go_wp2;go_ret;exact⟨_,1,rfl,HB.out.alloc HB.out.size _,mag_one w3 g HG.out.1 HG.out.2⟩
 ·have sb:¬(nb:Int)=1:=om;have CA:=chaseOf_any w va vb a b na nb ha V S A gc hc;obtain⟨ba,oa,ca,rfl,bc,-,-,-⟩:=ha.row S;obtain⟨bb,ob,cb,rfl,cc,-,-,-⟩:=V.row A;have gb:Nat.gcd (max a b) (min a b)=Nat.gcd a b:=by
   rcases Nat.le_total a b with h|h
   ·rw[Nat.max_eq_right h,Nat.min_eq_left h,Nat.gcd_comm]
   ·rw[Nat.max_eq_left h,Nat.min_eq_right h]
  have X:0<max a b:=(by have:=V.pos A;omega);have D:Nat.gcd a b≤b:=Nat.gcd_le_right _ (V.pos A);have HT:Hid (TabB w):=ht;have sa:Hid (0<Nat.gcd a b):=T;have qa:Hid (Nat.gcd (max a b) (min a b)=Nat.gcd a b):=gb;have ta:Hid (0<max a b):=X;clear ha V ht T gb X D;go_enter Tryz.func92,Tryz.ntmps92;go_wp2_with (go_at_call 123;fail);refine CA.mono ?_;rintro e w1 ⟨F,n0,rfl,ia,eb⟩;clear CA;have CR:=run_any w.heap.size w1 F n0 _ _ eb ta.out ia.size;have ra:Hid (Below w.heap.size w w1):=ia;clear eb ia;go_wp2_with (go_at_call 124;fail);refine CR.mono ?_;rintro e w2 ⟨n,x,y,rfl,jb,ac,lb,tb,u⟩;clear CR;obtain⟨bx,cx,G,cy,uv,vv,mi,C,R⟩:=ac;have aa:Hid (Below w.heap.size w w2):=ra.out.trans jb;have z:Hid (Nat.gcd x y=Nat.gcd a b):=lb.trans qa.out;have ea:Hid (y<B^1):=(by show y<B^1;rw[Nat.pow_one];exact u);have ua:Hid (0<x):=tb;have AX:∀c,Below w2.heap.size w2 c→Arr .u64 B c bx 0 n∧num B c bx 0 n=x:=fun c h=>⟨zae R.ax h,(zah R.ax h).trans R.ex⟩;have AY:∀c,Below w2.heap.size w2 c→Arr .u64 B c G 0 n∧num B c G 0 n=y:=fun c h=>⟨zae R.ay h,(zah R.ay h).trans R.ey⟩;have rb:=R.n0;have hn:=R.nm;have vc:=R.cx1;have xc:=R.cy1;have da:Hid (n≤maxLen):=(by show n≤maxLen;unfold maxLen;omega);obtain⟨lp,k0,k1,k2,-,-,-,-,-,-,-,-,-⟩:=id C;clear ra jb lb qa ta tb u C R sb;go_wp2;refine zac (fun w1=>w1=w2) rfl ?_;rintro w1 rfl;refine zaq zbf [⟨26,[],[],[5]⟩,⟨27,[0],[0],[]⟩,⟨28,[1],[0,1],[]⟩,⟨29,[2],[0,1,2],[]⟩,⟨30,[],[],[5]⟩,⟨31,[4],[4],[]⟩,⟨32,[5],[4,5],[]⟩,⟨33,[6],[4,5,6],[]⟩,⟨34,[7],[4,5,6,7],[]⟩,⟨35,[3,8],[0,1,2,3,4,5,6,7,8],[]⟩,⟨36,[],[],[5]⟩,⟨37,[10],[10],[]⟩,⟨38,[11],[10,11],[]⟩,⟨39,[12],[10,11,12],[]⟩,⟨40,[9,13],[0,1,2,3,4,5,6,7,8,9,10,11,12,13],[]⟩,⟨6,[0,1,2,3,4,5,6,7,8,9,14],[0,1,2,3,4,5,6,7,8,9,10,11,12,13,14],[]⟩,⟨7,[0,1,2,3,4,5,6,7,8,9,10,11,12,13,14,15],[0,1,2,3,4,5,6,7,8,9,10,11,12,13,14,15],[]⟩] [] kfl 55 rfl kfl (fun (i:Nat) (v:Value) (wq:World)=>match i with|0=>v=.pointer (some ⟨F,0,none⟩)|1=>v=.pointer (some ⟨F,0,none⟩)|2=>v=.pointer (some ⟨F,0,none⟩)|3=>v=.slice (some ⟨bx,0,none⟩) n (cx)|4=>v=.pointer (some ⟨F,0,none⟩)|5=>v=.pointer (some ⟨F,0,none⟩)|6=>v=.pointer (some ⟨F,0,none⟩)|7=>v=.slice (some ⟨bx,0,none⟩) n (cx)|8=>v=.int .i64 (((n:Nat):Int))|9=>∃k,k≤n∧Mag wq v x k|10=>v=.pointer (some ⟨F,0,none⟩)|11=>v=.pointer (some ⟨F,0,none⟩)|12=>v=.pointer (some ⟨F,1,none⟩)|13=>v=.slice (some ⟨G,0,none⟩) n (cy)|14=>∃k,k≤1∧Mag wq v y k|15=>∃k,k≤n∧Mag wq v x k|16=>∃k,k≤1∧Mag wq v y k|_=>True) (fun _ wq=>Below w1.heap.size w1 wq) (fun c wy=>Below c.heap.size c wy) (zz).drew (fun i v c wy h hx=>match i,h with|0,h=>h|1,h=>h|2,h=>h|3,h=>h|4,h=>h|5,h=>h|6,h=>h|7,h=>h|8,h=>h|10,h=>h|11,h=>h|12,h=>h|13,h=>h|9,h=>by obtain⟨k,N,h2⟩:=h;exact⟨k,N,h2.below hx⟩|14,h=>by obtain⟨k,N,h2⟩:=h;exact⟨k,N,h2.below hx⟩|15,h=>by obtain⟨k,N,h2⟩:=h;exact⟨k,N,h2.below hx⟩|16,h=>by obtain⟨k,N,h2⟩:=h;exact⟨k,N,h2.below hx⟩|n+17,_=>trivial) ?_ ?_
  ·intro i o r l j L fr c H hL ic dc kb f q;clear hL ic dc kb
   match i,l,j with
   |0,l,j=>?_
   |1,l,j=>?_
   |2,l,j=>?_
   |3,l,j=>?_
   |4,l,j=>?_
   |5,l,j=>?_
   |6,l,j=>?_
   |7,l,j=>?_
   |8,l,j=>?_
   |9,l,j=>obtain rfl:=oi l;obtain rfl:=oi j;have e3:=evs 29 (f 3 dd _ rfl);have e8:=evs 34 (f 8 dd _ rfl);clear f q;refine zam rfl rfl fun K O=>?_;go_simp;refine(za3 c (some ⟨bx,0,none⟩) bx 0 n _ n (Sl.mk _ _ _) om da.out da.out (AX c H).1).mono ?_;rintro e wy ⟨v4,k4,rfl,la,mb,pb,J⟩;subst wy;exact O _ _ ⟨⟨k4,pb,by rw[Nat.min_self,(AX c H).2]at J;exact J⟩,H,zz,nn⟩
   |10,l,j=>?_
   |11,l,j=>?_
   |12,l,j=>?_
   |13,l,j=>?_
   |14,l,j=>obtain rfl:=oi l;obtain rfl:=oi j;have fa:=evs 39 (f 13 dd _ rfl);clear f q;refine zam rfl rfl fun K O=>?_;go_simp;refine(za3 c (some ⟨G,0,none⟩) G 0 n _ 1 (Sl.mk _ _ _) om da.out dd (AY c H).1).mono ?_;rintro e wy ⟨v4,k4,rfl,la,mb,pb,J⟩;subst wy;exact O _ _ ⟨⟨k4,mb,by rw[Nat.min_eq_left rb,zfk (AY c H).2 rb ea.out]at J;exact J⟩,H,zz,nn⟩
   |15,l,j=>obtain rfl:=oi l;obtain rfl:=oi j;obtain⟨u9,e9,p9⟩:=evr 35 (P:=fun u9=>∃k,k≤n∧Mag c u9 x k) (f 9 dd _ rfl);clear f q;refine zam rfl rfl fun K O=>?_;go_simp;exact O _ _ ⟨p9,H,zz,nn⟩
   |16,l,j=>obtain rfl:=oi l;obtain rfl:=oi j;obtain⟨u14,ga,pa⟩:=evr 40 (P:=fun u14=>∃k,k≤1∧Mag c u14 y k) (f 14 dd _ rfl);clear f q;refine zam rfl rfl fun K O=>?_;go_simp;exact O _ _ ⟨pa,H,zz,nn⟩
   |n+17,l,j=>exact absurd j (by simp)
   all_goals obtain rfl:=oi l;obtain rfl:=oi j;simp only[uxw,uw,evt]at f q;have tc:=(H.cell (p:=⟨F,0,none⟩) lp).trans k0;have uc:=(H.cell (p:=⟨F,1,none⟩) lp).trans k1;refine zam rfl rfl fun K O=>?_;go_simp;exact O _ _ ⟨rfl,H,zz,nn⟩
  ·intro vs t d fb ib;clear ib;have e0:vs 0=_:=d 0 dd;have e1:vs 1=_:=d 1 dd;have e2:vs 2=_:=d 2 dd;have e3:vs 3=_:=d 3 dd;have e4:vs 4=_:=d 4 dd;have e5:vs 5=_:=d 5 dd;have e6:vs 6=_:=d 6 dd;have e7:vs 7=_:=d 7 dd;have e8:vs 8=_:=d 8 dd;obtain⟨u9,e9,p9⟩:∃u9,vs 9=u9∧(∃k,k≤n∧Mag t u9 x k):=⟨_,rfl,d 9 dd⟩;have xa:vs 10=_:=d 10 dd;have ya:vs 11=_:=d 11 dd;have za:vs 12=_:=d 12 dd;have fa:vs 13=_:=d 13 dd;obtain⟨u14,ga,pa⟩:∃u14,vs 14=u14∧(∃k,k≤1∧Mag t u14 y k):=⟨_,rfl,d 14 dd⟩;obtain⟨u15,ab,lc⟩:∃u15,vs 15=u15∧(∃k,k≤n∧Mag t u15 x k):=⟨_,rfl,d 15 dd⟩;obtain⟨u16,db,mc⟩:∃u16,vs 16=u16∧(∃k,k≤1∧Mag t u16 y k):=⟨_,rfl,d 16 dd⟩;simp only[zbx,Nat.reduceAdd,e0,e1,e2,e3,e4,e5,e6,e7,e8,e9,xa,ya,za,fa,ga,ab,db,Act.put,ll];clear d e0 e1 e2 e3 e4 e5 e6 e7 e8 e9 xa ya za fa ga ab db;obtain⟨kx,ec,E⟩:=lc;obtain⟨ky,fc,U⟩:=mc;have HW:Hid (Below w.heap.size w t):=aa.out.trans (fb.mono aa.out.size);clear p9 pa AX AY k0 k1 k2 lp fb;by_cases W:ky=0
   ·have wb:y=0:=U.zero_iff.2 W;subst W;have Y:=E;obtain⟨ay,qc,oy,sc,rfl,-,-,-,-,-⟩:=U;have HM:Hid (Mag t u15 (Nat.gcd a b) kx):=(by rw[wb,Nat.gcd_zero_right]at z;show Mag t u15 (Nat.gcd a b) kx;rw[←z.out];exact Y);clear E Y wb z ea;go_wp2;go_ret;exact⟨_,kx,rfl,HW.out,HM.out⟩
   ·obtain rfl:ky=1:=om;obtain⟨wa,kc,rc,rfl,oc,m,u,ma⟩:=U.head;have qb:0<kx:=Nat.pos_of_ne_zero fun h=>by have:=E.zero_iff.2 h;have:=ua.out;omega
    have ub:=E;obtain⟨yb,jc,zb,rfl,nc,-,-,-⟩:=E.row qb;have ka:=zby m;have ht:=TabB.below HT.out (HW.out.mono (Nat.le_refl _));have M:Nat.gcd y (x%y)=Nat.gcd a b:=(by rw[←z.out,Nat.gcd_comm x y,Nat.gcd_rec y x,Nat.gcd_comm]);have I:Nat.gcd a b<B:=(by rw[←z.out];exact Nat.lt_of_le_of_lt (Nat.gcd_le_right _ ma) u);have CM:∀c,Below t.heap.size t c→Calls Tryz.prog 122 #[.slice (some ⟨yb,jc,none⟩) kx zb,.int .u64 y] c fun e w'=>e=.returned (.int .u64 (x%y:Nat))∧Below c.heap.size c w':=fun c h=>zfh c _ x kx y (ub.below h) om ma u;have Z:∀c,Below t.heap.size t c→Calls Tryz.prog 91 #[.int .u64 y,.int .u64 (x%y:Nat)] c fun e w'=>e=.returned (.int .u64 (Nat.gcd a b:Nat))∧w'=c:=fun c h=>by have:=zdp c y (x%y) u (Nat.lt_trans (Nat.mod_lt _ ma) u) (ht.below h);rw[M]at this;exact this
    have HC:Hid (∀c,Below t.heap.size t c→c.cell? ⟨wa,kc,none⟩=some (.int .u64 (y:Int))):=fun c h=>(World.cell?_of_block (h.block wa ka)).trans m;have HG:Hid (0<Nat.gcd a b∧Nat.gcd a b<B):=⟨sa.out,I⟩;obtain⟨g,hg⟩:∃g,Nat.gcd a b=g:=⟨_,rfl⟩;rw[hg]at Z HG;have xb:Hid (Nat.gcd a b=g):=hg;clear E U ub ht M I hg z ea ua sa HT aa fc ec;go_wp2;go_region_with (first
     |(go_at_call 122;refine(CM _ (zad t)).mono ?_;rintro e w3 ⟨rfl,s⟩;have c3:=HC.out w3 ((zad t).trans s))
     |(go_at_call 91;refine(Z _ ((zad t).trans s)).mono ?_;rintro e w4 ⟨rfl,la⟩;subst w4))
    all_goals
     have HB:Hid (Below w.heap.size w w3):=HW.out.trans (((zad t).trans s).mono HW.out.size);clear CM Z s;go_wp2;go_ret;exact⟨_,1,rfl,HB.out.alloc HB.out.size _,by rw[xb.out];exact mag_one w3 g HG.out.1 HG.out.2⟩
theorem gcd_any (w:World) (va vb:Value) (a b:Int) (ha:IsInt w va a) (hb:IsInt w vb b) (jb:a.natAbs<B^159) (ob:b.natAbs<B^159) (ht:TabB w):
 Calls Tryz.prog 37 #[va,vb] w fun e w'=>∃v,e=.returned v∧Below w.heap.size w w'∧IsInt w' v (Int.gcd a b:Nat):=by
 have q:=qEq;obtain⟨s,ao,n,c,rfl⟩:=ha.form;obtain⟨t,d,m,e,rfl⟩:=hb.form;have pa:Hid (a.natAbs<B^159):=jb;have qa:Hid (b.natAbs<B^159):=ob;go_enter Tryz.func37,Tryz.ntmps37;go_upto_region 1 with fail;refine zac (fun D=>Below w.heap.size w D∧FB D w.heap.size (.int .i64 s) (.slice ao n c)∧FB D (w.heap.size+1) (.int .i64 t) (.slice d m e)∧FB D (w.heap.size+1+1) (.int .i64 0) (.slice none 0 0)) (fb3 w _ _ _ _ _ _ _ _ _ rfl) ?_;rintro D ⟨X,L,M,N⟩;obtain⟨b2,kb⟩:∃b2,b2=w.heap.size:=⟨_,rfl⟩;obtain⟨b3,lb⟩:∃b3,b3=w.heap.size+1:=⟨_,rfl⟩;obtain⟨R,mb⟩:∃R,R=w.heap.size+1+1:=⟨_,rfl⟩;have W:b2≠b3:=om;have ta:R≠b2∧R≠b3:=om;have ya:w.heap.size≤b2∧w.heap.size≤b3:=om;have P:Hid (w.heap.size≤R):=(by show w.heap.size≤R;omega);rw[←mb]at N⊢;rw[←lb]at M⊢;rw[←kb]at L⊢;have IA:=ha.below X;have IB:=hb.below X;have T1:=ht.below X;have sb:Hid (TabB w):=ht;have k:Hid (Below w.heap.size w D):=X;clear kb lb mb X ha hb ht;rcases ao with _|ao
 ·obtain⟨g1,g2,-,-,g3⟩:=IA.sgn;obtain⟨rfl,rfl,rfl⟩:=g3 rfl;rcases d with _|d
  ·obtain⟨i1,i2,-,-,i3⟩:=IB.sgn;obtain⟨rfl,rfl,rfl⟩:=i3 rfl;have ua:s.natAbs<B∧t.natAbs<B:=(by unfold B;omega);have CW:∀n:Nat,Calls Tryz.prog 91 #[.int .u64 (s.natAbs:Int),.int .u64 (t.natAbs:Int)] (D.drewN n) fun e w'=>e=.returned (.int .u64 (Int.gcd s t:Nat))∧w'=D.drewN n:=fun n=>zdp _ _ _ ua.1 ua.2 (T1.below (belN _ _ _));have za:∀n:Nat,Calls Tryz.prog 84 #[.int .i64 s] (D.drewN n) fun e w'=>e=.returned (.int .u64 (s.natAbs:Int))∧w'=D.drewN n:=fun n=>zcb s g1 g2 _;have ab:∀n:Nat,Calls Tryz.prog 84 #[.int .i64 t] (D.drewN n) fun e w'=>e=.returned (.int .u64 (t.natAbs:Int))∧w'=D.drewN n:=fun n=>zcb t i1 i2 _;have qb:Int.gcd s t≤9223372036854775808:=by
    by_cases h:s=0
    ·subst h;rw[Int.gcd_zero_left];omega
    ·have:=Nat.le_of_dvd om (Nat.gcd_dvd_left s.natAbs t.natAbs);have e:Int.gcd s t=Nat.gcd s.natAbs t.natAbs:=rfl;omega
   obtain⟨g,hg⟩:∃g,Int.gcd s t=g:=⟨_,rfl⟩;rw[hg]at CW qb;have eb:Hid (Int.gcd s t=g):=hg;have o:Hid _:=N;obtain⟨l2,ea,fa,-,-⟩:=id L;obtain⟨l3,ga,ia,-,-⟩:=id M;clear IA IB g1 g2 g3 i1 i2 i3 ua L M N hg W ta ya T1;go_wp2;go_quiet (first
    |(go_at_call 84;refine(za _).mono ?_;rintro e rb ⟨rfl,rfl⟩;exact⟨rfl,_,rfl⟩)
    |(go_at_call 84;refine(ab _).mono ?_;rintro e rb ⟨rfl,rfl⟩;exact⟨rfl,_,rfl⟩)
    |(go_at_call 91;refine(CW _).mono ?_;rintro e rb ⟨rfl,rfl⟩;exact⟨rfl,_,rfl⟩))
   go_upto_region 3 with fail
   refine zac (fun w2=>Below w.heap.size w w2∧FB w2 R (.int .i64 0) (.slice none 0 0)) ⟨k.out.trans (belN _ _ _),o.out.below (belN _ _ _)⟩ ?_;clear za ab CW o k ea fa ga ia l2 l3 D;rintro w2 ⟨B2,N⟩;by_cases tb:(g:Int)≤9223372036854775807
   ·have t1:IntKind.i64.wrap (g:Int)=(g:Int):=(by rw[IntKind.wrap_i64];omega);have A:Hid _:=zaf B2 P.out (.int .i64 (g:Int)) (.slice none 0 0);have z:Hid (IsInt _ _ _):=za4 ((w2.setCell ⟨R,0,none⟩ (.int .i64 (g:Int))).setCell ⟨R,1,none⟩ (.slice none 0 0)) (g:Int) om tb;obtain⟨l4,ja,la,ma,oa⟩:=N;clear B2;go_wp2;refine bodyPost_ret (v:= .agg #[.int .i64 (g:Int),.slice none 0 0]) rs rfl ?_;exact⟨_,rfl,A.out,by rw[eb.out];exact z.out⟩
   ·have pb:0<g∧g<B:=(by unfold B;omega);have CS:=zav (w2.alloc (.cells #[.int .u64 (g:Int)] 98)) false _ _ _ (mag_one w2 g pb.1 pb.2);have k:Hid (Below w.heap.size w (w2.alloc (.cells #[.int .u64 (g:Int)] 98))):=B2.alloc B2.size _;have o:Hid (FB (w2.alloc (.cells #[.int .u64 (g:Int)] 98)) R (.int .i64 0) (.slice none 0 0)):=N.below (zau _ _);clear B2 N qb;go_wp2_with (go_at_call 76;fail);refine CS.mono ?_;rintro e wz ⟨vz,rfl,j,u⟩;rw[zbd]at u;obtain⟨I,E,H,F,rfl⟩:=u.form;have O:=o.out.below j;have A:Hid _:=zaf (k.out.trans (j.mono k.out.size)) P.out (.int .i64 I) (.slice E H F);have z:Hid (IsInt _ _ _):=u.keep (O.keep (.int .i64 I) (.slice E H F));obtain⟨l4,ja,la,ma,oa⟩:=O;clear CS u j;go_wp2;refine bodyPost_ret (v:= .agg #[.int .i64 I,.slice E H F]) rs rfl ?_;exact⟨_,rfl,A.out,by rw[eb.out];exact z.out⟩
  ·obtain⟨l2,ea,fa,ub,xb⟩:=id L;obtain⟨l3,ga,ia,yb,zb⟩:=id M;have B2:=zaf (zaf k.out ya.1 (.int .i64 t) (.slice (some d) m e)) ya.2 (.int .i64 s) (.slice none 0 0);have bb:=(L.set (.int .i64 t) (.slice (some d) m e)).other (.int .i64 s) (.slice none 0 0) W;have cb:=(M.other (.int .i64 t) (.slice (some d) m e) W.symm).set (.int .i64 s) (.slice none 0 0);have db:=(N.other (.int .i64 t) (.slice (some d) m e) ta.1).other (.int .i64 s) (.slice none 0 0) ta.2;have gb:=(IA.keep (L.keep (.int .i64 t) (.slice (some d) m e))).keep ((M.other (.int .i64 t) (.slice (some d) m e) W.symm).keep (.int .i64 s) (.slice none 0 0));have ib:=(IB.keep (L.keep (.int .i64 t) (.slice (some d) m e))).keep ((M.other (.int .i64 t) (.slice (some d) m e) W.symm).keep (.int .i64 s) (.slice none 0 0));have T2:TabB ((((D.setCell ⟨b2,0,none⟩ (.int .i64 t)).setCell ⟨b2,1,none⟩ (.slice (some d) m e)).setCell ⟨b3,0,none⟩ (.int .i64 s)).setCell ⟨b3,1,none⟩ (.slice none 0 0)):=sb.out.below B2;have fb:Hid _:=(⟨B2,bb,cb,db,gb,ib,T2⟩:_∧_∧_∧_∧_∧_∧_);clear B2 bb cb db gb ib T2 L M N IA IB k g1 g2 g3;go_upto_region 8 with fail;refine zac (fun l=>Below w.heap.size w l∧FB l b2 (.int .i64 t) (.slice (some d) m e)∧FB l b3 (.int .i64 s) (.slice none 0 0)∧FB l R (.int .i64 0) (.slice none 0 0)∧IsInt l (.agg #[.int .i64 s,.slice none 0 0]) s∧IsInt l (.agg #[.int .i64 t,.slice (some d) m e]) b∧TabB l) fb.out ?_;clear fb T1 ea fa ga ia l2 l3 ub xb yb zb D;rintro l ⟨BX,L,M,N,IA,IB,TX⟩;have k:Hid (Below w.heap.size w l):=BX;have U:Hid (FB l b2 (.int .i64 t) (.slice (some d) m e)):=L;have ra:Hid (FB l b3 (.int .i64 s) (.slice none 0 0)):=M;have o:Hid (FB l R (.int .i64 0) (.slice none 0 0)):=N;have x:Hid (IsInt l (.agg #[.int .i64 t,.slice (some d) m e]) b):=IB;have y:Hid (IsInt l (.agg #[.int .i64 s,.slice none 0 0]) s):=IA;have sa:Hid (TabB l):=TX;have HP:Hid (b.natAbs<B^159):=qa.out;have HQ:Hid (s.natAbs<B^159):=pa.out;have HG:Hid (Int.gcd b s=Int.gcd s b):=Int.gcd_comm _ _;obtain⟨l2,ea,fa,-,-⟩:=L;obtain⟨l3,ga,ia,-,-⟩:=M;clear BX N IA IB TX;obtain⟨S,-⟩:=x.out.mag;have ca:0<m:=Nat.pos_of_ne_zero fun h=>by have:=S.zero_iff.2 h;have:=x.out.sgn;have h2:=(x.out.mag).2;omega
   have da:m<160:=Nat.lt_of_le_of_lt (S.len_le HP.out) dd;by_cases xa:s=0
   ·have r:s=0:=(by have:=y.out.sgn;omega);have V:Hid (b.natAbs=Int.gcd s b):=by
     show b.natAbs=Int.gcd s b
     first|rw[r,Int.gcd_zero_right]|rw[r,Int.gcd_zero_left]
    have CS:=zav l false _ _ _ S;rw[V.out]at CS;subst xa;clear r HG V y x S;go_wp2_with (go_at_call 76;fail);refine CS.mono ?_;rintro e wz ⟨vz,rfl,j,u⟩;rw[zbd]at u;obtain⟨I,E,H,F,rfl⟩:=u.form;have O:=o.out.below j;have A:Hid _:=zaf (k.out.trans (j.mono k.out.size)) P.out (.int .i64 I) (.slice E H F);have z:Hid (IsInt _ _ _):=u.keep (O.keep (.int .i64 I) (.slice E H F));obtain⟨l4,ja,la,ma,oa⟩:=O;clear CS u j;go_wp2;refine bodyPost_ret (v:= .agg #[.int .i64 I,.slice E H F]) rs rfl ?_;exact⟨_,rfl,A.out,z.out⟩
   ·have r:0<s.natAbs:=(by have:=y.out.sgn;omega);have CM:∀T,Below l.heap.size l T→Calls Tryz.prog 77 #[.agg #[.int .i64 s,.slice none 0 0]] T fun e w'=>∃v n,e=.returned v∧Below T.heap.size T w'∧Mag w' v s.natAbs n:=fun T h=>za6 T _ s (IsInt.below y.out h);have HY:Hid (0<s.natAbs∧s.natAbs<B^159):=⟨r,HQ.out⟩;have HX:Hid (Mag l (.slice (some d) m e) b.natAbs m):=S;have HN:Hid (0<m∧m<160):=⟨ca,da⟩;clear r S ca da y x;go_wp2;go_region_with (first
     |(go_at_call 77;refine(CM _ (zad l)).mono ?_;rintro e wa ⟨va,na,rfl,Y,G⟩;have f:=(zad l).trans Y;have ka:=(U.out.below f).c1)
     |(go_at_call 92;refine(zeq wa _ _ _ _ _ _ (HX.out.below f) G HN.out.1 (Nat.pos_of_ne_zero fun h=>by have:=G.zero_iff.2 h;have:=HY.out.1;omega) HN.out.2 (Nat.lt_of_le_of_lt (G.len_le HY.out.2) dd) (TabB.below sa.out f)).mono ?_;rintro e wb ⟨vb,nb,rfl,Z,ba⟩;have C:=f.trans (Z.mono f.size))
     |(go_at_call 76;refine(zav wb false _ _ _ ba).mono ?_;rintro e wz ⟨vz,rfl,j,u⟩;have p:=C.trans (j.mono C.size);rw[zbd]at u;obtain⟨I,E,H,F,rfl⟩:=u.form;obtain⟨l4,ja,la,ma,oa⟩:=(o.out.below p)))
    all_goals
     have O:=o.out.below p;have A:Hid _:=zaf (k.out.trans (p.mono k.out.size)) P.out (.int .i64 I) (.slice E H F);have J:=u.keep (O.keep (.int .i64 I) (.slice E H F));have aa:(Nat.gcd b.natAbs s.natAbs:Int)=(Int.gcd s b:Nat):=(by first|rfl|(rw[Int.gcd_comm];rfl));rw[aa]at J;have z:Hid (IsInt _ _ _):=J;clear u J aa p j ba Z C G Y f CM HX HY HN U ra o HG O;go_wp2;refine bodyPost_ret (v:= .agg #[.int .i64 I,.slice E H F]) rs rfl ?_;exact⟨_,rfl,A.out,z.out⟩
 ·obtain⟨l2,ea,fa,-,-⟩:=id L;obtain⟨l3,ga,ia,-,-⟩:=id M;have U:Hid (FB D b2 (.int .i64 s) (.slice (some ao) n c)):=L;have ra:Hid (FB D b3 (.int .i64 t) (.slice d m e)):=M;have o:Hid (FB D R (.int .i64 0) (.slice none 0 0)):=N;have x:Hid (IsInt D (.agg #[.int .i64 s,.slice (some ao) n c]) a):=IA;have y:Hid (IsInt D (.agg #[.int .i64 t,.slice d m e]) b):=IB;have sa:Hid (TabB D):=T1;have HP:Hid (a.natAbs<B^159):=pa.out;have HQ:Hid (b.natAbs<B^159):=qa.out;have HG:Hid (Int.gcd a b=Int.gcd a b):=rfl;clear L M N IA IB T1 pa qa jb ob;refine zac (fun l=>l=D) rfl ?_;rintro l rfl;obtain⟨S,-⟩:=x.out.mag;have ca:0<n:=Nat.pos_of_ne_zero fun h=>by have:=S.zero_iff.2 h;have:=x.out.sgn;have h2:=(x.out.mag).2;omega
  have da:n<160:=Nat.lt_of_le_of_lt (S.len_le HP.out) dd;by_cases xa:t=0
  ·have r:b=0:=(by have:=y.out.sgn;omega);have V:Hid (a.natAbs=Int.gcd a b):=by
    show a.natAbs=Int.gcd a b
    first|rw[r,Int.gcd_zero_right]|rw[r,Int.gcd_zero_left]
   have CS:=zav l false _ _ _ S;rw[V.out]at CS;subst xa;clear r HG V y x S;go_wp2_with (go_at_call 76;fail);refine CS.mono ?_;rintro e wz ⟨vz,rfl,j,u⟩;rw[zbd]at u;obtain⟨I,E,H,F,rfl⟩:=u.form;have O:=o.out.below j;have A:Hid _:=zaf (k.out.trans (j.mono k.out.size)) P.out (.int .i64 I) (.slice E H F);have z:Hid (IsInt _ _ _):=u.keep (O.keep (.int .i64 I) (.slice E H F));obtain⟨l4,ja,la,ma,oa⟩:=O;clear CS u j;go_wp2;refine bodyPost_ret (v:= .agg #[.int .i64 I,.slice E H F]) rs rfl ?_;exact⟨_,rfl,A.out,z.out⟩
  ·have r:0<b.natAbs:=(by have:=y.out.sgn;omega);have CM:∀T,Below l.heap.size l T→Calls Tryz.prog 77 #[.agg #[.int .i64 t,.slice d m e]] T fun e w'=>∃v n,e=.returned v∧Below T.heap.size T w'∧Mag w' v b.natAbs n:=fun T h=>za6 T _ b (IsInt.below y.out h);have HY:Hid (0<b.natAbs∧b.natAbs<B^159):=⟨r,HQ.out⟩;have HX:Hid (Mag l (.slice (some ao) n c) a.natAbs n):=S;have HN:Hid (0<n∧n<160):=⟨ca,da⟩;clear r S ca da y x;go_wp2;go_region_with (first
    |(go_at_call 77;refine(CM _ (zad l)).mono ?_;rintro e wa ⟨va,na,rfl,Y,G⟩;have f:=(zad l).trans Y;have ka:=(U.out.below f).c1)
    |(go_at_call 92;refine(zeq wa _ _ _ _ _ _ (HX.out.below f) G HN.out.1 (Nat.pos_of_ne_zero fun h=>by have:=G.zero_iff.2 h;have:=HY.out.1;omega) HN.out.2 (Nat.lt_of_le_of_lt (G.len_le HY.out.2) dd) (TabB.below sa.out f)).mono ?_;rintro e wb ⟨vb,nb,rfl,Z,ba⟩;have C:=f.trans (Z.mono f.size))
    |(go_at_call 76;refine(zav wb false _ _ _ ba).mono ?_;rintro e wz ⟨vz,rfl,j,u⟩;have p:=C.trans (j.mono C.size);rw[zbd]at u;obtain⟨I,E,H,F,rfl⟩:=u.form;obtain⟨l4,ja,la,ma,oa⟩:=(o.out.below p)))
   all_goals
    have O:=o.out.below p;have A:Hid _:=zaf (k.out.trans (p.mono k.out.size)) P.out (.int .i64 I) (.slice E H F);have J:=u.keep (O.keep (.int .i64 I) (.slice E H F));have aa:(Nat.gcd a.natAbs b.natAbs:Int)=(Int.gcd a b:Nat):=(by first|rfl|(rw[Int.gcd_comm];rfl));rw[aa]at J;have z:Hid (IsInt _ _ _):=J;clear u J aa p j ba Z C G Y f CM HX HY HN U ra o HG O;go_wp2;refine bodyPost_ret (v:= .agg #[.int .i64 I,.slice E H F]) rs rfl ?_;exact⟨_,rfl,A.out,z.out⟩
end Go.Proofs.YtjlkplidpdhgbaaGreatDoor
