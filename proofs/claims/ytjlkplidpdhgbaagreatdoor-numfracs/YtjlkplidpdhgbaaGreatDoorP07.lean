/- A part of the proof: Tx5, Tx6, Pm15, Pm16, Q1. -/
import Derived.Test.YtjlkplidpdhgbaaGreatDoorP00
import Derived.Test.YtjlkplidpdhgbaaGreatDoorP06
import Derived.Test.YtjlkplidpdhgbaaGreatDoorP05
set_option linter.all false
namespace Rad
open Go
theorem zb7 {x d:Nat} (c:0<x) (b:d≤9):Lib.decDigits (x*10+d)=Lib.decDigits x++[UInt8.ofNat (48+d)]:=by rw[Lib.decDigits,dif_neg om,show(x*10+d) / 10=x by omega,show(x*10+d)%10=d by omega]
def four (d0 d1 d2 d3:Nat):List UInt8:=[UInt8.ofNat (48+d0),UInt8.ofNat (48+d1),UInt8.ofNat (48+d2),UInt8.ofNat (48+d3)]
theorem dec_four {H d0 d1 d2 d3:Nat} (g:0<H) (b:d0≤9) (c:d1≤9) (d:d2≤9) (f:d3≤9):Lib.decDigits (1000*d0+100*d1+10*d2+d3+10000*H)=Lib.decDigits H++four d0 d1 d2 d3:=by have e:1000*d0+100*d1+10*d2+d3+10000*H=(((H*10+d0)*10+d1)*10+d2)*10+d3:=om;rw[e,zb7 om f,zb7 om d,zb7 om c,zb7 g b];simp[four]
def lead (d0 d1 d2:Nat):Nat:=if d0≠0 then 0 else if d1≠0 then 1 else if d2≠0 then 2 else 3
theorem lead_le (d0 d1 d2:Nat):lead d0 d1 d2≤3:=by unfold lead;split <;> (try split) <;> (try split) <;> omega
theorem dec_lead {d0 d1 d2 d3:Nat} (k:d0≤9) (j:d1≤9) (g:d2≤9) (c:d3≤9):Lib.decDigits (1000*d0+100*d1+10*d2+d3)=(four d0 d1 d2 d3).drop (lead d0 d1 d2):=by
 unfold lead;by_cases b:d0≠0
 ·rw[if_pos b];have e:1000*d0+100*d1+10*d2+d3=((d0*10+d1)*10+d2)*10+d3:=om;rw[e,zb7 om c,zb7 om g,zb7 om j,Lib.decDigits_one om];simp[four]
 ·rw[if_neg b];have b:d0=0:=om;by_cases d:d1≠0
  ·rw[if_pos d];have e:1000*d0+100*d1+10*d2+d3=(d1*10+d2)*10+d3:=om;rw[e,zb7 om c,zb7 om g,Lib.decDigits_one om];simp[four]
  ·rw[if_neg d];by_cases f:d2≠0
   ·rw[if_pos f];have e:1000*d0+100*d1+10*d2+d3=d2*10+d3:=om;rw[e,zb7 om c,Lib.decDigits_one om];simp[four]
   ·rw[if_neg f];have e:1000*d0+100*d1+10*d2+d3=d3:=om;rw[e,Lib.decDigits_one om];simp[four]
def pick4 (d0 d1 d2 d3 i:Nat):Nat:=if i=0 then d0 else if i=1 then d1 else if i=2 then d2 else d3
theorem lead_zero {d0 d1 d2 d3 i:Nat} (h:i<lead d0 d1 d2):pick4 d0 d1 d2 d3 i=0:=by
 unfold lead at h;unfold pick4
 split at h
 ·omega
 ·split at h
  ·have:i=0:=om;subst this;simp;omega
  ·split at h
   ·by_cases b:i=0
    ·subst b;simp;omega
    ·have:i=1:=om;subst this;simp;omega
   ·by_cases b:i=0
    ·subst b;simp;omega
    ·by_cases c:i=1
     ·subst c;simp;omega
     ·have:i=2:=om;subst this;simp;omega
theorem lead_stop {d0 d1 d2 d3:Nat} (h:lead d0 d1 d2<3):pick4 d0 d1 d2 d3 (lead d0 d1 d2)≠0:=by
 unfold lead at h⊢;unfold pick4;by_cases b:d0≠0
 ·rw[if_pos b];simpa using b
 ·rw[if_neg b]at h⊢;by_cases c:d1≠0
  ·rw[if_pos c];simpa using c
  ·rw[if_neg c]at h⊢;by_cases d:d2≠0
   ·rw[if_pos d];simpa using d
   ·rw[if_neg d]at h;omega
theorem four_at (d0 d1 d2 d3:Nat) {i:Nat} (hi:i<(four d0 d1 d2 d3).length) (c:d0≤9) (d:d1≤9) (f:d2≤9) (g:d3≤9):(four d0 d1 d2 d3)[i].toNat=48+pick4 d0 d1 d2 d3 i:=by
 have b:i<4:=hi;unfold pick4
 match i,b with
 |0,_=>simp[four];omega
 |1,_=>simp[four];omega
 |2,_=>simp[four];omega
 |3,_=>simp[four];omega
theorem zfv {d:Nat} (b:d≤9):(UInt8.ofNat (48+d)).toNat=48+d:=by rw[UInt8.toNat_ofNat'];omega
theorem decD:∀n:Nat,(∀b∈Lib.decDigits n,IsDg b)∧dval (Lib.decDigits n)=n∧(0<n→∃b r,Lib.decDigits n=b::r∧b≠48)∧Lib.decDigits n≠[]∧(∀L,0<L→n<10^L→(Lib.decDigits n).length≤L):=by
 intro n
 induction n using Nat.strongRecOn with
 |ind n ih=>
  by_cases h:n<10
  ·have e:Lib.decDigits n=[UInt8.ofNat (48+n)]:=Lib.decDigits_one h;have g:=zfv (d:=n) om;rw[e];refine⟨?_,?_,?_,by simp,?_⟩
   ·intro b c;rw[List.mem_singleton]at c;rw[c];unfold IsDg;rw[g];omega
   ·rw[zdi,g];simp[dval,dvalF]
   ·intro z;refine⟨_,[],rfl,fun u=>?_⟩;have:=congrArg UInt8.toNat u;rw[g]at this;change 48+n=48 at this;omega
   ·intro L q _;simp;omega
  ·have t:n=n / 10*10+n%10:=om;obtain⟨l,m,o,y,p⟩:=ih (n / 10) om;have g:=zfv (d:=n%10) om;have e:Lib.decDigits n=Lib.decDigits (n / 10)++[UInt8.ofNat (48+n%10)]:=by
    have:=zb7 (x:=n / 10) (d:=n%10) om om
    rwa [←t]at this
   rw[e];refine⟨?_,?_,?_,by simp,?_⟩
   ·intro b c;rcases List.mem_append.1 c with c|c
    ·exact l b c
    ·rw[List.mem_singleton]at c;rw[c];unfold IsDg;rw[g];omega
   ·rw[dval_snoc,m,g];omega
   ·intro _;obtain⟨b,r,c,k⟩:=o om;exact⟨b,r++[UInt8.ofNat (48+n%10)],by rw[c];rfl,k⟩
   ·intro L q f;obtain⟨M,rfl⟩:∃M,L=M+1:=⟨L-1,by omega⟩;have s:0<M:=by
     rcases Nat.eq_zero_or_pos M with j|j
     ·rw[j]at f;omega
     ·exact j
    have:=p M s (by rw[Nat.div_lt_iff_lt_mul dd];rw[Nat.pow_succ]at f;exact f);rw[List.length_append];simp;omega
theorem valid_pos {b:UInt8} {r:List UInt8} (h:∀c∈b::r,IsDg c) (k:b=48→r=[]):Valid (b::r)∧digs (b::r)=b::r∧(b::r).head?≠some 45:=by
 have g:=h b List.mem_cons_self;have d:b≠45:=fun e=>by rw[e]at g;exact absurd g dd
 have j:=digs_pos d r;refine⟨⟨?_,by rw[j];simp⟩,j,by simpa using d⟩;by_cases f:b=48
 ·rw[k f,f];rfl
 ·rw[wlen_pos d f];exact zd9 h
theorem itoa_back (z:Int):Valid (Lib.itoa z)∧val (Lib.itoa z)=z∧(∀L,0<L→z.natAbs<10^L→(digs (Lib.itoa z)).length≤L):=by
 rcases Int.lt_or_le z 0 with x|x
 ·obtain⟨n,rfl⟩:∃n:Nat,z= -(n:Int):=⟨z.natAbs,by omega⟩;have s:0<n:=om;obtain⟨g,j,m,q,k⟩:=decD n;obtain⟨b,r,f,c⟩:=m s;rw[Lib.itoa_neg _ s];have p:=digs_neg (Lib.decDigits n);have u:(45::Lib.decDigits n).head? =some 45:=rfl;refine⟨⟨?_,by rw[p];exact q⟩,?_,?_⟩
  ·rw[wlen_neg,f,if_neg (by simpa using c),←f,zd9 g];simp;omega
  ·unfold val;rw[if_pos u,p,j]
  ·intro L o d;rw[p];exact k L o (by simpa using d)
 ·obtain⟨n,rfl⟩:∃n:Nat,z=(n:Int):=⟨z.natAbs,by omega⟩;obtain⟨g,j,m,q,k⟩:=decD n;rw[Lib.itoa_nonneg];obtain⟨b,r,f,c⟩:∃b r,Lib.decDigits n=b::r∧(b=48→r=[]):=by
   rcases Nat.eq_zero_or_pos n with l|l
   ·subst l;exact⟨_,[],Lib.decDigits_one dd,fun _=>rfl⟩
   ·obtain⟨b,r,f,c⟩:=m l;exact⟨b,r,f,fun e=>absurd e c⟩
  rw[f]at g j k⊢;obtain⟨y,t,A⟩:=valid_pos g c;refine⟨y,?_,?_⟩
  ·unfold val;rw[if_neg A,t,j]
  ·intro L o d;rw[t];exact k L o (by simpa using d)
end Rad
namespace Rad
theorem gcd_pos_r {a b:Int} (c:b≠0):0<Int.gcd a b:=Nat.gcd_pos_of_pos_right _ om
theorem rat_of {A a b:Int} {B:Nat} (c:b≠0) (g:0<B) (d:A.natAbs.gcd B=1) (f:A*b=a*(B:Int)):
 (Rat.divInt a b).num=A∧(Rat.divInt a b).den=B:=by
 have h:Rat.divInt a b=⟨A,B,by omega,d⟩:=(by rw[Rat.mk_eq_divInt];exact(Rat.divInt_eq_divInt_iff c om).2 f.symm);rw[h];exact⟨rfl,rfl⟩
theorem zfa (a b:Int) (c:b≠0):(a / (Int.gcd a b:Int)).natAbs.gcd (b / (Int.gcd a b:Int)).natAbs=1:=by rw[Int.natAbs_ediv_of_dvd (Int.gcd_dvd_left ..),Int.natAbs_ediv_of_dvd (Int.gcd_dvd_right ..),Int.natAbs_natCast];exact Nat.coprime_div_gcd_div_gcd (gcd_pos_r c)
theorem over_pos {a b:Int} (f:b≠0) (h:0≤b / (Int.gcd a b:Int)):
 (Rat.divInt a b).num=a / (Int.gcd a b:Int)∧((Rat.divInt a b).den:Int)=b / (Int.gcd a b:Int):=by
 have r:=gcd_pos_r (a:=a) f;obtain⟨x,l⟩:(Int.gcd a b:Int) ∣ a:=Int.gcd_dvd_left ..;obtain⟨y,d⟩:(Int.gcd a b:Int) ∣ b:=Int.gcd_dvd_right ..;have j:=zfa a b f;obtain⟨g,k⟩:∃g,Int.gcd a b=g:=⟨_,rfl⟩;rw[k]at l d h j r⊢;have c:(g:Int)≠0:=om;have n:a / (g:Int)=x:=(by rw[l];exact Int.mul_ediv_cancel_left _ c);have m:b / (g:Int)=y:=(by rw[d];exact Int.mul_ediv_cancel_left _ c);rw[n,m]at j⊢;rw[m]at h;have s:y≠0:=(by intro o;rw[o,Int.mul_zero]at d;exact f d);obtain⟨p,q⟩:=rat_of (A:=x) (a:=a) (b:=b) (B:=y.natAbs) f om j (by rw[l,d,show((y.natAbs:Nat):Int)=y by omega];grind);exact⟨p,by rw[q];omega⟩
theorem over_neg {a b:Int} (d:b≠0) (h:b / (Int.gcd a b:Int)<0):
 (Rat.divInt a b).num= -(a / (Int.gcd a b:Int))∧((Rat.divInt a b).den:Int)= -(b / (Int.gcd a b:Int)):=by
 have f:=gcd_pos_r (a:=a) d;have e:Int.gcd (-a) (-b)=Int.gcd a b:=(by rw[Int.gcd_neg,Int.neg_gcd]);have d1:(-b) / (Int.gcd a b:Int)= -(b / (Int.gcd a b:Int)):=Int.neg_ediv_of_dvd (Int.gcd_dvd_right ..);have d2:(-a) / (Int.gcd a b:Int)= -(a / (Int.gcd a b:Int)):=Int.neg_ediv_of_dvd (Int.gcd_dvd_left ..);have c:=over_pos (a:= -a) (b:= -b) om (by rw[e,d1];omega);rw[Rat.neg_divInt_neg,e,d1,d2]at c;exact c
theorem low_pos {a b:Int} (d:0<b) (h:Int.gcd a b=1):(Rat.divInt a b).num=a∧((Rat.divInt a b).den:Int)=b:=by have c:=over_pos (a:=a) (b:=b) om (by rw[h];omega);rw[h]at c;simpa using c
theorem low_neg {a b:Int} (d:b<0) (h:Int.gcd a b=1):(Rat.divInt a b).num= -a∧((Rat.divInt a b).den:Int)= -b:=by have c:=over_neg (a:=a) (b:=b) om (by rw[h];simpa using d);rw[h]at c;simpa using c
theorem over_gcd_one {a b:Int} (c:b≠0):Int.gcd (a / (Int.gcd a b:Int)) (b / (Int.gcd a b:Int))=1:=zfa a b c
theorem over_same {a b:Int} (k:b≠0):Rat.divInt (a / (Int.gcd a b:Int)) (b / (Int.gcd a b:Int))=Rat.divInt a b:=by have l:=gcd_pos_r (a:=a) k;obtain⟨x,f⟩:(Int.gcd a b:Int) ∣ a:=Int.gcd_dvd_left ..;obtain⟨y,j⟩:(Int.gcd a b:Int) ∣ b:=Int.gcd_dvd_right ..;obtain⟨g,d⟩:∃g,Int.gcd a b=g:=⟨_,rfl⟩;rw[d]at f j l⊢;have c:(g:Int)≠0:=om;rw[f,j,Int.mul_ediv_cancel_left _ c,Int.mul_ediv_cancel_left _ c,Rat.divInt_mul_left c]
theorem under_ne (x:Rat):(x.den:Int)≠0:=by have:=x.den_pos;omega
theorem cop (x:Rat):Int.gcd x.num (x.den:Int)=1:=x.reduced
theorem rat_add (x y:Rat):∀g j d1 top c:Int,g=(Int.gcd x.den y.den:Int)→j=x.den / g→d1=y.den / g→top=x.num*d1+y.num*j→c=(Int.gcd top g:Int)→
 Rat.divInt (top / c) (j*(y.den / c))=x+y∧Int.gcd (top / c) (j*(y.den / c))=1∧0<j*(y.den / c):=by
 rintro g j d1 top c W C E u n;obtain⟨G,s⟩:∃G,Nat.gcd x.den y.den=G:=⟨_,rfl⟩;have f:g=(G:Int):=(by rw[W,←s];rfl);have t:0<G:=(by rw[←s];exact Nat.gcd_pos_of_pos_left _ x.den_pos);have d:j=((x.den / G:Nat):Int):=(by rw[C,f];rfl);have k:d1=((y.den / G:Nat):Int):=(by rw[E,f];rfl);have b:=Rat.add.aux x y (g:=G) s.symm rfl rfl
 dsimp only at b
 have B:top=x.num*((y.den / G:Nat):Int)+y.num*((x.den / G:Nat):Int):=(by rw[u,k,d]);rw[←B]at b;obtain⟨D,o⟩:∃D,x.den / G*y.den=D:=⟨_,rfl⟩;rw[o]at b;have l:c=(Int.gcd top (D:Int):Int):=(by rw[n,f];show((top.natAbs.gcd G:Nat):Int)=((top.natAbs.gcd D:Nat):Int);rw[b]);obtain⟨p,z⟩:G ∣ x.den:=(by rw[←s];exact Nat.gcd_dvd_left ..);obtain⟨q,A⟩:G ∣ y.den:=(by rw[←s];exact Nat.gcd_dvd_right ..);have J:x.den / G=p:=(by rw[z];exact Nat.mul_div_cancel_left _ t);have L:y.den / G=q:=(by rw[A];exact Nat.mul_div_cancel_left _ t);have I:0<p:=by
  rcases Nat.eq_zero_or_pos p with h|h;·(rw[h]at z;have:=x.den_pos;omega)
  ·exact h
 have X:0<q:=by
  rcases Nat.eq_zero_or_pos q with h|h;·(rw[h]at A;have:=y.den_pos;omega)
  ·exact h
 rw[J]at o d B;rw[L]at k B;have V:0<D:=(by rw[←o];exact Nat.mul_pos I y.den_pos);have m:(D:Int)≠0:=om;have H:=gcd_pos_r (a:=top) m;rw[←b.trans (show top.natAbs.gcd D=Int.gcd top D from rfl)]at H;have F:∃r:Int,(y.den:Int)=c*r:=(by have R:(Int.gcd top g:Int) ∣ g:=Int.gcd_dvd_right ..;rw[←n,f]at R;have T:(G:Int) ∣ (y.den:Int):=(by rw[A];exact⟨(q:Int),by rw[Int.natCast_mul]⟩);exact Int.dvd_trans R T);obtain⟨r,M⟩:=F;have S:0<c:=(by rw[n,f];show(0:Int)<((top.natAbs.gcd G:Nat):Int);omega);have O:(y.den:Int) / c=r:=(by rw[M];exact Int.mul_ediv_cancel_left _ om);have P:j*((y.den:Int) / c)=(D:Int) / c:=(by rw[O,d,←o,Int.natCast_mul,M,show(p:Int)*(c*r)=c*((p:Int)*r)by grind,Int.mul_ediv_cancel_left _ om]);rw[P,l];refine⟨?_,over_gcd_one m,?_⟩
 ·rw[over_same m,Rat.add_def',←Rat.divInt_ofNat];rw[←Rat.divInt_mul_right (a:=(G:Int)) om];congr 1
  ·rw[B,z,A,Int.natCast_mul,Int.natCast_mul];grind
  ·rw[←o,z,Int.natCast_mul,Int.natCast_mul,Int.natCast_mul];grind
 ·rw[←l,←P,O,d];have N:0<r:=(by have U:0<c*r:=(by rw[←M];have:=y.den_pos;omega);exact Int.pos_of_mul_pos_right U om);exact Int.mul_pos om N
theorem rat_mul (x y:Rat):∀g h:Int,g=(Int.gcd x.num y.den:Int)→h=(Int.gcd y.num x.den:Int)→
 Rat.divInt (x.num / g*(y.num / h)) (x.den / h*(y.den / g))=x*y∧Int.gcd (x.num / g*(y.num / h)) (x.den / h*(y.den / g))=1∧0<x.den / h*((y.den:Int) / g):=by
 rintro g h m n;have s:0<g:=(by rw[m];have:=gcd_pos_r (a:=x.num) (under_ne y);omega);have t:0<h:=(by rw[n];have:=gcd_pos_r (a:=y.num) (under_ne x);omega);obtain⟨a,o⟩:g ∣ x.num:=(by rw[m];exact Int.gcd_dvd_left ..);obtain⟨b,k⟩:g ∣ (y.den:Int):=(by rw[m];exact Int.gcd_dvd_right ..);obtain⟨c,q⟩:h ∣ y.num:=(by rw[n];exact Int.gcd_dvd_left ..);obtain⟨d,l⟩:h ∣ (x.den:Int):=(by rw[n];exact Int.gcd_dvd_right ..);have u:=over_gcd_one (a:=x.num) (under_ne y);have z:=over_gcd_one (a:=y.num) (under_ne x);rw[←m]at u;rw[←n]at z;have L:=x.den_pos;have M:=y.den_pos;have E:=cop x;have F:=cop y;have A:x.num / g=a:=(by rw[o];exact Int.mul_ediv_cancel_left _ om);have B:(y.den:Int) / g=b:=(by rw[k];exact Int.mul_ediv_cancel_left _ om);have C:y.num / h=c:=(by rw[q];exact Int.mul_ediv_cancel_left _ om);have D:(x.den:Int) / h=d:=(by rw[l];exact Int.mul_ediv_cancel_left _ om);rw[A,B]at u;rw[C,D]at z;rw[A,B,C,D];have p:0<b:=Int.pos_of_mul_pos_right (show 0<g*b by rw[←k];omega) om;have r:0<d:=Int.pos_of_mul_pos_right (show 0<h*d by rw[←l];omega) om;have J:Rat.divInt (a*c) (d*b)=x*y:=(by rw[Rat.mul_def',←Rat.divInt_ofNat,Int.natCast_mul,o,k,q,l];rw[←Rat.divInt_mul_right (a:=g*h) (by have:=Int.mul_pos s t;omega)];congr 1 <;> grind);have j:Int.gcd (a*c) (d*b)=1:=(by have N:Int.gcd a d=1:=(by have f:Int.gcd a d ∣ Int.gcd x.num x.den:=Nat.dvd_gcd (by rw[o,Int.natAbs_mul];exact Nat.dvd_trans (Nat.gcd_dvd_left ..) (Nat.dvd_mul_left ..)) (by rw[l,Int.natAbs_mul];exact Nat.dvd_trans (Nat.gcd_dvd_right ..) (Nat.dvd_mul_left ..));rw[E]at f;exact Nat.dvd_one.1 f);have O:Int.gcd c b=1:=(by have f:Int.gcd c b ∣ Int.gcd y.num y.den:=Nat.dvd_gcd (by rw[q,Int.natAbs_mul];exact Nat.dvd_trans (Nat.gcd_dvd_left ..) (Nat.dvd_mul_left ..)) (by rw[k,Int.natAbs_mul];exact Nat.dvd_trans (Nat.gcd_dvd_right ..) (Nat.dvd_mul_left ..));rw[F]at f;exact Nat.dvd_one.1 f);have f:Nat.Coprime a.natAbs d.natAbs:=N;have G:Nat.Coprime c.natAbs b.natAbs:=O;have H:Nat.Coprime a.natAbs b.natAbs:=u;have I:Nat.Coprime c.natAbs d.natAbs:=z;show Nat.gcd (a*c).natAbs (d*b).natAbs=1;rw[Int.natAbs_mul,Int.natAbs_mul];exact Nat.Coprime.mul_left (Nat.Coprime.mul_right f H) (Nat.Coprime.mul_right I G));exact⟨J,j,Int.mul_pos r p⟩
theorem rat_turn (y:Rat) (b:y.num≠0):Rat.divInt (y.den:Int) y.num=y⁻¹∧Int.gcd (y.den:Int) y.num=1:=by refine⟨(Rat.inv_def y).symm,?_⟩;rw[Int.gcd_comm];exact cop y
theorem doc_add (x y:Rat):Rat.divInt (x.num*y.den+y.num*x.den) (x.den*y.den)=x+y:=by rw[Rat.add_def',←Rat.divInt_ofNat,Int.natCast_mul]
theorem doc_mul (x y:Rat):Rat.divInt (x.num*y.num) (x.den*y.den)=x*y:=by rw[Rat.mul_def',←Rat.divInt_ofNat,Int.natCast_mul]
theorem doc_quo (x y:Rat):Rat.divInt (x.num*y.den) (x.den*y.num)=x*y⁻¹:=by rw[Rat.inv_def,←Rat.divInt_mul_divInt,Rat.num_divInt_den]
end Rad
namespace Rad
open Go
def klen (r:List UInt8):Nat:=if r.head? =some 48 then 0 else runD r
abbrev IsFr (l:List UInt8):Prop:=Valid (l.take (wlen l))∧l[wlen l]? =some 47
def ftop (l:List UInt8):List UInt8:=l.take (wlen l)
def fden (l:List UInt8):List UInt8:=l.drop (wlen l+1)
theorem zdq {l:List UInt8} (h:Valid l):(47:UInt8)∉l:=by
 intro c;rcases h.cases.2 with⟨h1,b⟩|h1
 ·rw[h1]at c;have:=h.digits 47 c;unfold IsDg at this;simp at this
 ·rw[h1]at c;rcases List.mem_cons.1 c with b|b
  ·exact absurd b dd
  ·have:=h.digits 47 b;unfold IsDg at this;simp at this
theorem zey:∀ {p q r s:List UInt8},(47:UInt8)∉p→(47:UInt8)∉q→p++47::r=q++47::s→p=q∧r=s
 |[],[],_,_,_,_,h=>⟨rfl,by simpa using h⟩
 |[],b::q,_,_,_,hq,h=>by simp only[List.nil_append,List.cons_append,List.cons.injEq]at h;exact absurd (by rw[h.1];exact List.mem_cons_self ..) hq
 |a::p,[],_,_,hp,_,h=>by simp only[List.nil_append,List.cons_append,List.cons.injEq]at h;exact absurd (by rw[←h.1];exact List.mem_cons_self ..) hp
 |a::p,b::q,_,_,hp,hq,h=>by simp only[List.cons_append,List.cons.injEq]at h;obtain⟨c,d⟩:=zey (fun h=>hp (List.mem_cons_of_mem _ h)) (fun h=>hq (List.mem_cons_of_mem _ h)) h.2;exact⟨by rw[h.1,c],d⟩
theorem runD_app:∀(l r:List UInt8),(∀b∈l,IsDg b)→runD (l++47::r)=l.length
 |[],r,_=>by simp[runD]
 |b::l,r,h=>by have g:=runD_app l r (fun c f=>h c (List.mem_cons_of_mem _ f));have d:=h b (List.mem_cons_self ..);simp only[List.cons_append,runD,List.length_cons,g];unfold IsDg at d;simp[d.1,d.2]
theorem fr_split {p r:List UInt8} (h:Valid p):wlen (p++47::r)=p.length:=by
 obtain⟨⟨b,t,l,f,k⟩,n⟩:=h.cases;rcases n with⟨h1,h2⟩|h1
 ·rw[l]at h1;subst h1;have d:b≠45:=(by intro g;subst g;exact h2 rfl);by_cases c:b=48
  ·obtain⟨m,j⟩:=k c;subst c m;rw[List.cons_append,wlen_zero];rfl
  ·rw[List.cons_append,wlen_pos d c,←List.cons_append,runD_app _ _ f]
 ·rw[l]at h1;subst h1;have c:b≠48:=(by intro g;obtain⟨-,j⟩:=k g;rw[g]at j;simp at j);rw[List.cons_append,List.cons_append,wlen_neg];have:(b::(t++47::r)).head?≠some 48:=(by simpa using c);rw[if_neg (by simpa using c),←List.cons_append,runD_app _ _ f];simp only[List.length_cons];omega
theorem isFr_of {p r:List UInt8} (h:Valid p):IsFr (p++47::r)∧ftop (p++47::r)=p∧fden (p++47::r)=r:=by have b:=fr_split (r:=r) h;have c:(p++47::r).take p.length=p:=(by simp);refine⟨⟨by rw[b,c];exact h,by rw[b];simp⟩,by unfold ftop;rw[b,c],?_⟩;unfold fden;rw[b,←List.drop_drop];simp
theorem IsFr.parts {l:List UInt8} (h:IsFr l):l=ftop l++47::fden l∧Valid (ftop l):=by refine⟨?_,h.1⟩;obtain⟨b,c⟩:=List.getElem?_eq_some_iff.1 h.2;have:=List.take_append_drop (wlen l) l;rw[List.drop_eq_getElem_cons b,c]at this;exact this.symm
theorem not_isFr {p r:List UInt8} (g:(47:UInt8)∉p) (h:¬Valid p):¬IsFr (p++47::r):=by intro f;obtain⟨c,b⟩:=f.parts;obtain⟨d,-⟩:=zey g (zdq b) c;exact h (by rw[d];exact b)
theorem not_isFr' {l:List UInt8} (c:(47:UInt8)∉l):¬IsFr l:=by intro b;refine c ?_;rw[b.parts.1];simp
theorem klen_le (r:List UInt8):klen r≤r.length:=by
 unfold klen;split
 ·omega
 ·exact runD_le r
theorem klen_all {r:List UInt8} (g:klen r≠0) (h:klen r=r.length):∃b t,r=b::t∧b≠48∧(∀c∈r,IsDg c)∧Lib.decDigits (dval r)=r∧0<dval r∧Valid r∧digs r=r∧val r=(dval r:Int):=by
 unfold klen at g h
 split at g
 ·exact absurd rfl g
 ·rename_i hh
  rw[if_neg hh]at h;have d:=zfk h;cases r with
  |nil=>simp[runD]at g
  |cons b t=>have j:b≠48:=(by simpa using hh);have l:=zc0 j d;have f:0<dval (b::t):=(by have o:=dval_ge (r:=t) (d b (List.mem_cons_self ..)) j;have p:0<10^t.length:=Nat.pow_pos dd;omega);obtain⟨m,k,n⟩:=valid_pos d (fun h=>absurd h j);exact⟨b,t,rfl,j,d,l,f,m,k,by unfold val;rw[if_neg n,k]⟩
theorem zf0 (z:Int):(47:UInt8)∉Lib.itoa z:=zdq (itoa_back z).1
def ftxt (x:Rat):List UInt8:=if x.den=1 then Lib.itoa x.num else Lib.itoa x.num++47::Lib.itoa (x.den:Int)
theorem ftxt_back {p r:List UInt8} (k:Valid p) (o:klen r≠0) (h:klen r=r.length):
 ftxt (Rat.divInt (val p) (dval r:Int))=p++47::r↔(dval r≠1∧Int.gcd (val p) (dval r:Int)=1):=by
 obtain⟨b,t,-,-,-,z,l,y,-,c⟩:=klen_all o h;have u:(dval r:Int)≠0:=om;have x:Lib.itoa (dval r:Int)=r:=(by rw[←c];exact y.back);constructor
 ·intro d;unfold ftxt at d
  split at d
  ·exfalso;refine zf0 (Rat.divInt (val p) (dval r:Int)).num ?_;rw[d];simp
  ·rename_i q
   obtain⟨f,g⟩:=zey (zf0 _) (zdq k) d;have m:(Rat.divInt (val p) (dval r:Int)).num=val p:=(by have:=(itoa_back (Rat.divInt (val p) (dval r:Int)).num).2.1;rw[f]at this;exact this.symm);have n:((Rat.divInt (val p) (dval r:Int)).den:Int)=(dval r:Int):=(by have:=(itoa_back ((Rat.divInt (val p) (dval r:Int)).den:Int)).2.1;rw[g,c]at this;exact this.symm);have j:=cop (Rat.divInt (val p) (dval r:Int));rw[m,n]at j;exact⟨by omega,j⟩
 ·rintro⟨q,s⟩;obtain⟨f,g⟩:=low_pos (a:=val p) (b:=(dval r:Int)) om s;unfold ftxt;rw[if_neg om,f,g,x,k.back]
theorem ftxt_int (z:Int):ftxt (z:Rat)=Lib.itoa z:=by unfold ftxt;simp
end Rad
namespace Go.Proofs.YtjlkplidpdhgbaaGreatDoor
open Go Go.Proofs Go.RowKit Go.Rad
structure FB4 (w:World) (b:Nat) (u0 u1 u2 u3:Value):Prop where
 lt:b<w.heap.size
 c0:w.cell? ⟨b,0,none⟩=some u0
 c1:w.cell? ⟨b,1,none⟩=some u1
 c2:w.cell? ⟨b,2,none⟩=some u2
 c3:w.cell? ⟨b,3,none⟩=some u3
 f0:w.frozen? ⟨b,0,none⟩=false
 f1:w.frozen? ⟨b,1,none⟩=false
 f2:w.frozen? ⟨b,2,none⟩=false
 f3:w.frozen? ⟨b,3,none⟩=false
theorem FB4.step {w w':World} {b C:Nat} {u0 u1 u2 u3:Value} (h:FB4 w b u0 u1 u2 u3) (c:Below C w w') (d:b<C):FB4 w' b u0 u1 u2 u3:=
 ⟨Nat.lt_of_lt_of_le h.lt c.size,(World.cell?_of_block (c.block b d)).trans h.c0,(World.cell?_of_block (c.block b d)).trans h.c1,(World.cell?_of_block (c.block b d)).trans h.c2,(World.cell?_of_block (c.block b d)).trans h.c3,
  (World.frozen?_of_block (c.block b d)).trans h.f0,(World.frozen?_of_block (c.block b d)).trans h.f1,(World.frozen?_of_block (c.block b d)).trans h.f2,(World.frozen?_of_block (c.block b d)).trans h.f3⟩
theorem FB4.below {w w':World} {b:Nat} {u0 u1 u2 u3:Value} (h:FB4 w b u0 u1 u2 u3) (c:Below w.heap.size w w'):FB4 w' b u0 u1 u2 u3:=h.step c h.lt
theorem FB4.mk0 (w:World) (u0 u1 u2 u3:Value) (T:TypeId):FB4 (w.alloc (Obj.cells #[u0,u1,u2,u3] T)) w.heap.size u0 u1 u2 u3:=⟨by simp,qq,qq,qq,qq,qq,qq,qq,qq⟩
theorem FB4.alloc {w:World} {b:Nat} {u0 u1 u2 u3:Value} (h:FB4 w b u0 u1 u2 u3) (X:Obj):FB4 (w.alloc X) b u0 u1 u2 u3:=h.below (zao _ _)
theorem FB4.drew {w:World} {b:Nat} {u0 u1 u2 u3:Value} (h:FB4 w b u0 u1 u2 u3):FB4 w.drew b u0 u1 u2 u3:=h.below (zae _)
abbrev zaw (w:World) (b:Nat) (v0 v1:Value):World:=(w.setCell ⟨b,0,none⟩ v0).setCell ⟨b,1,none⟩ v1
abbrev zbn (w:World) (b:Nat) (v0 v1 v2 v3:Value):World:=(((w.setCell ⟨b,0,none⟩ v0).setCell ⟨b,1,none⟩ v1).setCell ⟨b,2,none⟩ v2).setCell ⟨b,3,none⟩ v3
theorem zcp {w:World} {b c i:Nat} {d f g j:Value} (h:c≠b):(zbn w b d f g j).cell? ⟨c,i,none⟩=w.cell? ⟨c,i,none⟩:=by rw[zaa (.inl h),zaa (.inl h),zaa (.inl h),zaa (.inl h)]
theorem zbo {w:World} {b c i:Nat} {d f g j:Value}: (zbn w b d f g j).frozen? ⟨c,i,none⟩=w.frozen? ⟨c,i,none⟩:=by rw[World.frozen?_setCell,World.frozen?_setCell,World.frozen?_setCell,World.frozen?_setCell]
theorem zdx {w:World} {b c i:Nat} {d f:Value} (h:c≠b):(zaw w b d f).cell? ⟨c,i,none⟩=w.cell? ⟨c,i,none⟩:=by rw[zaa (.inl h),zaa (.inl h)]
theorem zdb {w:World} {b c i:Nat} {d f:Value}: (zaw w b d f).frozen? ⟨c,i,none⟩=w.frozen? ⟨c,i,none⟩:=by rw[World.frozen?_setCell,World.frozen?_setCell]
theorem FB4.set {w:World} {b:Nat} {u0 u1 u2 u3:Value} (h:FB4 w b u0 u1 u2 u3) (c d f g:Value):FB4 (zbn w b c d f g) b c d f g:=by
 refine⟨by simp;exact h.lt,?_,?_,?_,?_,by rw[zbo];exact h.f0,by rw[zbo];exact h.f1,by rw[zbo];exact h.f2,by rw[zbo];exact h.f3⟩
 ·rw[zaa (.inr dd),zaa (.inr dd),zaa (.inr dd),zav h.c0]
 ·rw[zaa (.inr dd),zaa (.inr dd),zav (u:=u1) (by rw[zaa (.inr dd)];exact h.c1)]
 ·rw[zaa (.inr dd),zav (u:=u2) (by rw[zaa (.inr dd),zaa (.inr dd)];exact h.c2)]
 ·rw[zav (u:=u3) (by rw[zaa (.inr dd),zaa (.inr dd),zaa (.inr dd)];exact h.c3)]
theorem FB4.other4 {w:World} {b c:Nat} {u0 u1 u2 u3:Value} (h:FB4 w b u0 u1 u2 u3) (f g j k:Value) (d:b≠c):FB4 (zbn w c f g j k) b u0 u1 u2 u3:=
 ⟨by simp;exact h.lt,by rw[zcp d];exact h.c0,by rw[zcp d];exact h.c1,by rw[zcp d];exact h.c2,by rw[zcp d];exact h.c3,
  by rw[zbo];exact h.f0,by rw[zbo];exact h.f1,by rw[zbo];exact h.f2,by rw[zbo];exact h.f3⟩
theorem FB4.other2 {w:World} {b c:Nat} {u0 u1 u2 u3:Value} (h:FB4 w b u0 u1 u2 u3) (f g:Value) (d:b≠c):FB4 (zaw w c f g) b u0 u1 u2 u3:=
 ⟨by simp;exact h.lt,by rw[zdx d];exact h.c0,by rw[zdx d];exact h.c1,by rw[zdx d];exact h.c2,by rw[zdx d];exact h.c3,
  by rw[zdb];exact h.f0,by rw[zdb];exact h.f1,by rw[zdb];exact h.f2,by rw[zdb];exact h.f3⟩
theorem FB.other4 {w:World} {b c:Nat} {u0 u1:Value} (h:FB w b u0 u1) (f g j k:Value) (d:b≠c):FB (zbn w c f g j k) b u0 u1:=⟨by simp;exact h.lt,by rw[zcp d];exact h.c0,by rw[zcp d];exact h.c1,by rw[zbo];exact h.f0,by rw[zbo];exact h.f1⟩
theorem FB.other2 {w:World} {b c:Nat} {u0 u1:Value} (h:FB w b u0 u1) (d f:Value) (g:b≠c):FB (zaw w c d f) b u0 u1:=h.other d f g
inductive Soft:Value→Prop
 |slice (a:Option Addr) (n c:Nat):Soft (.slice a n c)
 |bool (b:Bool):Soft (.bool b)
inductive Soft64:Value→Prop
 |soft {v:Value} (h:Soft v):Soft64 v
 |int (z:Int):Soft64 (.int .i64 z)
structure Ext (w w':World):Prop where
 i:∀v z,IsInt w v z→IsInt w' v z
 z:∀v z,IsZ w v z→IsZ w' v z
theorem Ext.refl (w:World):Ext w w:=⟨fun _ _ h=>h,fun _ _ h=>h⟩
theorem Ext.trans {a b c:World} (h:Ext a b) (k:Ext b c):Ext a c:=⟨fun v z x=>k.i v z (h.i v z x),fun v z x=>k.z v z (h.z v z x)⟩
theorem Ext.of_below {w w':World} (h:Below w.heap.size w w'):Ext w w':=⟨fun _ _ x=>x.below h,fun _ _ x=>x.below h⟩
theorem Ext.setSoft {w:World} {b i:Nat} {u v:Value} (q:w.cell? ⟨b,i,none⟩=some u) (s:Soft u):Ext w (w.setCell ⟨b,i,none⟩ v):=by
 refine⟨fun x z h=>h.set (p:=⟨b,i,none⟩) ?_ rfl,fun x z h=>?_⟩
 ·rw[q];intro y H;cases s <;> simp at H
 ·obtain⟨A,m,F,t,p,o,c,B,D,j,l,n,G,E⟩:=h;have e:∀k,k<m→p≠b∨o+k≠i:=by
   intro k d;by_cases r:p=b
   ·right;intro hi;have:=(n k d).1;rw[r,hi,q]at this;cases s <;> simp at this
   ·exact .inl r
  have f:∀k,k<m→(w.setCell ⟨b,i,none⟩ v).cell? ⟨p,o+k,none⟩=w.cell? ⟨p,o+k,none⟩:=fun k d=>zaa (e k d);refine⟨A,m,F,t,p,o,c,B,D,j,l,fun k d=>?_,?_,?_⟩
  ·rw[zac (f k d),f k d];exact n k d
  ·rw[←G];exact za1 fun k d=>zac (f k d)
  ·rcases E with g|g
   ·exact .inl g
   ·by_cases C:m=0
    ·exact .inl C
    ·right;rw[zac (f (m-1) om)];exact g
theorem Ext.setSame {w:World} {b i:Nat} {u:Value} (g:w.cell? ⟨b,i,none⟩=some u) (F:Soft64 u):Ext w (w.setCell ⟨b,i,none⟩ u):=by
 refine⟨fun x z h=>h.set (p:=⟨b,i,none⟩) ?_ rfl,fun x z h=>?_⟩
 ·rw[g];intro y r;cases F with
  |soft h=>cases h <;> simp at r
  |int z=>simp at r
 ·obtain⟨t,m,G,s,p,o,c,B,D,j,l,A,H,E⟩:=h;have d:∀q k,(w.setCell ⟨b,i,none⟩ u).cell? ⟨q,k,none⟩=w.cell? ⟨q,k,none⟩:=by
   intro q k;by_cases C:q=b∧k=i
   ·obtain⟨rfl,rfl⟩:=C;rw[zav g,g]
   ·exact zaa om
  refine⟨t,m,G,s,p,o,c,B,D,j,l,fun k n=>?_,?_,?_⟩
  ·rw[zac (d p _),d];exact A k n
  ·rw[←H];exact za1 fun k n=>zac (d p _)
  ·rcases E with f|f
   ·exact .inl f
   ·right;rw[zac (d p _)];exact f
theorem FB.ext {w:World} {b:Nat} {u0 u1:Value} (h:FB w b u0 u1) (c:Soft u0) (d:Soft u1) (f g:Value):Ext w (zaw w b f g):=(Ext.setSoft h.c0 c).trans (Ext.setSoft (u:=u1) (by rw[zaa (.inr dd)];exact h.c1) d)
theorem FB.extSame {w:World} {b:Nat} {u0 u1:Value} (h:FB w b u0 u1) (c:Soft64 u0) (d:Soft64 u1):Ext w (zaw w b u0 u1):=(Ext.setSame h.c0 c).trans (Ext.setSame (u:=u1) (by rw[zaa (.inr dd)];exact h.c1) d)
theorem FB4.ext {w:World} {b:Nat} {u0 u1 u2 u3:Value} (h:FB4 w b u0 u1 u2 u3) (c:Soft u0) (d:Soft u1) (f:Soft u2) (g:Soft u3) (j k l m:Value):Ext w (zbn w b j k l m):=
 (((Ext.setSoft h.c0 c).trans (Ext.setSoft (u:=u1) (by rw[zaa (.inr dd)];exact h.c1) d)).trans
  (Ext.setSoft (u:=u2) (by rw[zaa (.inr dd),zaa (.inr dd)];exact h.c2) f)).trans
  (Ext.setSoft (u:=u3) (by rw[zaa (.inr dd),zaa (.inr dd),zaa (.inr dd)];exact h.c3) g)
theorem zdu {w:World} {b i:Nat} {u v:Value} (d:w.cell? ⟨b,i,none⟩=some u) (g:Soft64 u):Keep w (w.setCell ⟨b,i,none⟩ v):=by
 refine⟨by simp,fun p j y e=>?_⟩;rw[zaa]
 ·exact e
 ·by_cases c:p=b
  ·right;intro f;rw[c,f,d]at e;cases g with
   |soft h=>cases h <;> simp at e
   |int z=>simp at e
  ·exact .inl c
theorem FB.keep' {w:World} {b:Nat} {u0 u1:Value} (h:FB w b u0 u1) (c:Soft64 u0) (d:Soft64 u1) (f g:Value):Keep w (zaw w b f g):=(zdu h.c0 c).trans (zdu (u:=u1) (by rw[zaa (.inr dd)];exact h.c1) d)
theorem FB4.keep' {w:World} {b:Nat} {u0 u1 u2 u3:Value} (h:FB4 w b u0 u1 u2 u3) (c:Soft64 u0) (d:Soft64 u1) (f:Soft64 u2) (g:Soft64 u3) (j k l m:Value):Keep w (zbn w b j k l m):=
 (((zdu h.c0 c).trans (zdu (u:=u1) (by rw[zaa (.inr dd)];exact h.c1) d)).trans
  (zdu (u:=u2) (by rw[zaa (.inr dd),zaa (.inr dd)];exact h.c2) f)).trans
  (zdu (u:=u3) (by rw[zaa (.inr dd),zaa (.inr dd),zaa (.inr dd)];exact h.c3) g)
theorem zai {W:Nat} {k w:World} {b:Nat} (h:Below W k w) (c:W≤b) (d f g j:Value):Below W k (zbn w b d f g j):=(((h.setCell (p:=⟨b,0,none⟩) c d).setCell (p:=⟨b,1,none⟩) c f).setCell (p:=⟨b,2,none⟩) c g).setCell (p:=⟨b,3,none⟩) c j
def TI (d:Bool) (v:Value) (w:World) (b:Nat):Prop:=∃s a n c,FB w b (.int .i64 s) (.slice a n c)∧(d=true→v=.agg #[.int .i64 s,.slice a n c])
theorem TI.below {d:Bool} {v:Value} {w w':World} {b:Nat} (h:TI d v w b) (j:Below w.heap.size w w'):TI d v w' b:=by obtain⟨s,a,n,c,f,g⟩:=h;exact⟨s,a,n,c,f.below j,g⟩
theorem TI.free {v f:Value} {w:World} {b:Nat} (h:TI false v w b):TI false f w b:=by obtain⟨s,a,n,c,d,g⟩:=h;exact⟨s,a,n,c,d,fun h=>(by cases h)⟩
theorem TI.fr {d:Bool} {v f:Value} {w:World} {b:Nat} (h:TI d v w b) (c:d=false):TI d f w b:=by subst c;exact h.free
theorem TI.lt {d:Bool} {v:Value} {w:World} {b:Nat} (h:TI d v w b):b<w.heap.size:=by obtain⟨s,a,n,c,f,g⟩:=h;exact f.lt
theorem TI.at {d:Bool} {fr:Act} {q t:Nat} {u:Value} {w:World} {b:Nat} (c:q≠t) (h:TI d (fr.eval (.tmp t)) w b):TI d ((fr.put (some q) u).eval (.tmp t)) w b:=by rw[zbi c];exact h
theorem TI.other2 {d:Bool} {v:Value} {w:World} {b c:Nat} (h:TI d v w b) (k l:Value) (j:b≠c):TI d v (zaw w c k l) b:=by obtain⟨s,a,n,c,f,g⟩:=h;exact⟨s,a,n,c,f.other2 _ _ j,g⟩
theorem TI.other4 {d:Bool} {v:Value} {w:World} {b c:Nat} (h:TI d v w b) (k l m o:Value) (j:b≠c):TI d v (zbn w c k l m o) b:=by obtain⟨s,a,n,c,f,g⟩:=h;exact⟨s,a,n,c,f.other4 _ _ _ _ j,g⟩
theorem TI.store {d:Bool} {v:Value} {w:World} {b:Nat} (h:TI d v w b) (s:Int) (a:Option Addr) (n c:Nat):TI true (.agg #[.int .i64 s,.slice a n c]) (zaw w b (.int .i64 s) (.slice a n c)) b:=by obtain⟨_,_,_,_,f,g⟩:=h;exact⟨s,a,n,c,f.set _ _,fun _=>rfl⟩
theorem TI.keep {d:Bool} {v:Value} {w:World} {b:Nat} (h:TI d v w b) (g j:Value):Keep w (zaw w b g j):=by obtain⟨s,a,n,c,f,k⟩:=h;exact f.keep' (.int _) (.soft (.slice _ _ _)) _ _
def TZ (d:Bool) (v:Value) (w:World) (b:Nat):Prop:=∃s a n c,FB w b (.bool s) (.slice a n c)∧(d=true→v=.agg #[.bool s,.slice a n c])
theorem TZ.below {d:Bool} {v:Value} {w w':World} {b:Nat} (h:TZ d v w b) (j:Below w.heap.size w w'):TZ d v w' b:=by obtain⟨s,a,n,c,f,g⟩:=h;exact⟨s,a,n,c,f.below j,g⟩
theorem TZ.free {v f:Value} {w:World} {b:Nat} (h:TZ false v w b):TZ false f w b:=by obtain⟨s,a,n,c,d,g⟩:=h;exact⟨s,a,n,c,d,fun h=>(by cases h)⟩
theorem TZ.fr {d:Bool} {v f:Value} {w:World} {b:Nat} (h:TZ d v w b) (c:d=false):TZ d f w b:=by subst c;exact h.free
theorem TZ.lt {d:Bool} {v:Value} {w:World} {b:Nat} (h:TZ d v w b):b<w.heap.size:=by obtain⟨s,a,n,c,f,g⟩:=h;exact f.lt
theorem TZ.at {d:Bool} {fr:Act} {q t:Nat} {u:Value} {w:World} {b:Nat} (c:q≠t) (h:TZ d (fr.eval (.tmp t)) w b):TZ d ((fr.put (some q) u).eval (.tmp t)) w b:=by rw[zbi c];exact h
theorem TZ.other2 {d:Bool} {v:Value} {w:World} {b c:Nat} (h:TZ d v w b) (k l:Value) (j:b≠c):TZ d v (zaw w c k l) b:=by obtain⟨s,a,n,c,f,g⟩:=h;exact⟨s,a,n,c,f.other2 _ _ j,g⟩
theorem TZ.other4 {d:Bool} {v:Value} {w:World} {b c:Nat} (h:TZ d v w b) (k l m o:Value) (j:b≠c):TZ d v (zbn w c k l m o) b:=by obtain⟨s,a,n,c,f,g⟩:=h;exact⟨s,a,n,c,f.other4 _ _ _ _ j,g⟩
theorem TZ.store {d:Bool} {v:Value} {w:World} {b:Nat} (h:TZ d v w b) (s:Bool) (a:Option Addr) (n c:Nat):TZ true (.agg #[.bool s,.slice a n c]) (zaw w b (.bool s) (.slice a n c)) b:=by obtain⟨_,_,_,_,f,g⟩:=h;exact⟨s,a,n,c,f.set _ _,fun _=>rfl⟩
theorem TZ.keep {d:Bool} {v:Value} {w:World} {b:Nat} (h:TZ d v w b) (g j:Value):Keep w (zaw w b g j):=by obtain⟨s,a,n,c,f,k⟩:=h;exact f.keep' (.soft (.bool _)) (.soft (.slice _ _ _)) _ _
theorem TZ.ext {d:Bool} {v:Value} {w:World} {b:Nat} (h:TZ d v w b) (g j:Value):Ext w (zaw w b g j):=by obtain⟨s,a,n,c,f,k⟩:=h;exact f.ext (.bool _) (.slice _ _ _) _ _
def TFa (d:Bool) (v:Value) (w:World) (b:Nat):Prop:=∃x y,FB w b (.int .i64 x) (.int .i64 y)∧(d=true→v=.agg #[.int .i64 x,.int .i64 y])∧(d=false→x=0∧y=0)
theorem TFa.below {d:Bool} {v:Value} {w w':World} {b:Nat} (h:TFa d v w b) (g:Below w.heap.size w w'):TFa d v w' b:=by obtain⟨x,y,c,f⟩:=h;exact⟨x,y,c.below g,f⟩
theorem TFa.free {v f:Value} {w:World} {b:Nat} (h:TFa false v w b):TFa false f w b:=by obtain⟨x,y,c,g,d⟩:=h;exact⟨x,y,c,fun h=>(by cases h),d⟩
theorem TFa.fr {d:Bool} {v f:Value} {w:World} {b:Nat} (h:TFa d v w b) (c:d=false):TFa d f w b:=by subst c;exact h.free
theorem TFa.lt {d:Bool} {v:Value} {w:World} {b:Nat} (h:TFa d v w b):b<w.heap.size:=by obtain⟨x,y,c,f⟩:=h;exact c.lt
theorem TFa.at {d:Bool} {fr:Act} {q t:Nat} {u:Value} {w:World} {b:Nat} (c:q≠t) (h:TFa d (fr.eval (.tmp t)) w b):TFa d ((fr.put (some q) u).eval (.tmp t)) w b:=by rw[zbi c];exact h
theorem TFa.other2 {d:Bool} {v:Value} {w:World} {b c:Nat} (h:TFa d v w b) (k l:Value) (j:b≠c):TFa d v (zaw w c k l) b:=by obtain⟨x,y,f,g⟩:=h;exact⟨x,y,f.other2 _ _ j,g⟩
theorem TFa.other4 {d:Bool} {v:Value} {w:World} {b c:Nat} (h:TFa d v w b) (k l m n:Value) (j:b≠c):TFa d v (zbn w c k l m n) b:=by obtain⟨x,y,f,g⟩:=h;exact⟨x,y,f.other4 _ _ _ _ j,g⟩
theorem TFa.store {d:Bool} {v:Value} {w:World} {b:Nat} (h:TFa d v w b) (x y:Int):TFa true (.agg #[.int .i64 x,.int .i64 y]) (zaw w b (.int .i64 x) (.int .i64 y)) b:=by obtain⟨_,_,c,f⟩:=h;exact⟨x,y,c.set _ _,fun _=>rfl,fun h=>(by cases h)⟩
theorem TFa.keep {d:Bool} {v:Value} {w:World} {b:Nat} (h:TFa d v w b) (f g:Value):Keep w (zaw w b f g):=by obtain⟨x,y,c,j⟩:=h;exact c.keep' (.int _) (.int _) _ _
def TQ (d:Bool) (v:Value) (w:World) (b:Nat):Prop:=∃s a n c t p m e,FB4 w b (.int .i64 s) (.slice a n c) (.int .i64 t) (.slice p m e)∧(d=true→v=.agg #[.int .i64 s,.slice a n c,.int .i64 t,.slice p m e])
theorem TQ.below {d:Bool} {v:Value} {w w':World} {b:Nat} (h:TQ d v w b) (j:Below w.heap.size w w'):TQ d v w' b:=by obtain⟨s,a,n,c,t,p,m,e,f,g⟩:=h;exact⟨s,a,n,c,t,p,m,e,f.below j,g⟩
theorem TQ.free {v f:Value} {w:World} {b:Nat} (h:TQ false v w b):TQ false f w b:=by obtain⟨s,a,n,c,t,p,m,e,d,g⟩:=h;exact⟨s,a,n,c,t,p,m,e,d,fun h=>(by cases h)⟩
theorem TQ.fr {d:Bool} {v f:Value} {w:World} {b:Nat} (h:TQ d v w b) (c:d=false):TQ d f w b:=by subst c;exact h.free
theorem TQ.lt {d:Bool} {v:Value} {w:World} {b:Nat} (h:TQ d v w b):b<w.heap.size:=by obtain⟨s,a,n,c,t,p,m,e,f,g⟩:=h;exact f.lt
theorem TQ.at {d:Bool} {fr:Act} {q t:Nat} {u:Value} {w:World} {b:Nat} (c:q≠t) (h:TQ d (fr.eval (.tmp t)) w b):TQ d ((fr.put (some q) u).eval (.tmp t)) w b:=by rw[zbi c];exact h
theorem TQ.other2 {d:Bool} {v:Value} {w:World} {b c:Nat} (h:TQ d v w b) (k l:Value) (j:b≠c):TQ d v (zaw w c k l) b:=by obtain⟨s,a,n,c,t,p,m,e,f,g⟩:=h;exact⟨s,a,n,c,t,p,m,e,f.other2 _ _ j,g⟩
theorem TQ.other4 {d:Bool} {v:Value} {w:World} {b c:Nat} (h:TQ d v w b) (k l o q:Value) (j:b≠c):TQ d v (zbn w c k l o q) b:=by obtain⟨s,a,n,c,t,p,m,e,f,g⟩:=h;exact⟨s,a,n,c,t,p,m,e,f.other4 _ _ _ _ j,g⟩
theorem TQ.store {d:Bool} {v:Value} {w:World} {b:Nat} (h:TQ d v w b) (s:Int) (a:Option Addr) (n c:Nat) (t:Int) (p:Option Addr) (m e:Nat):TQ true (.agg #[.int .i64 s,.slice a n c,.int .i64 t,.slice p m e]) (zbn w b (.int .i64 s) (.slice a n c) (.int .i64 t) (.slice p m e)) b:=by obtain⟨_,_,_,_,_,_,_,_,f,g⟩:=h;exact⟨s,a,n,c,t,p,m,e,f.set _ _ _ _,fun _=>rfl⟩
theorem TQ.keep {d:Bool} {v:Value} {w:World} {b:Nat} (h:TQ d v w b) (g j k l:Value):Keep w (zbn w b g j k l):=by obtain⟨s,a,n,c,t,p,m,e,f,o⟩:=h;exact f.keep' (.int _) (.soft (.slice _ _ _)) (.int _) (.soft (.slice _ _ _)) _ _ _ _
def TR (d:Bool) (v:Value) (w:World) (b:Nat):Prop:=∃s a n c t p m e,FB4 w b (.bool s) (.slice a n c) (.bool t) (.slice p m e)∧(d=true→v=.agg #[.bool s,.slice a n c,.bool t,.slice p m e])
theorem TR.below {d:Bool} {v:Value} {w w':World} {b:Nat} (h:TR d v w b) (j:Below w.heap.size w w'):TR d v w' b:=by obtain⟨s,a,n,c,t,p,m,e,f,g⟩:=h;exact⟨s,a,n,c,t,p,m,e,f.below j,g⟩
theorem TR.free {v f:Value} {w:World} {b:Nat} (h:TR false v w b):TR false f w b:=by obtain⟨s,a,n,c,t,p,m,e,d,g⟩:=h;exact⟨s,a,n,c,t,p,m,e,d,fun h=>(by cases h)⟩
theorem TR.fr {d:Bool} {v f:Value} {w:World} {b:Nat} (h:TR d v w b) (c:d=false):TR d f w b:=by subst c;exact h.free
theorem TR.lt {d:Bool} {v:Value} {w:World} {b:Nat} (h:TR d v w b):b<w.heap.size:=by obtain⟨s,a,n,c,t,p,m,e,f,g⟩:=h;exact f.lt
theorem TR.at {d:Bool} {fr:Act} {q t:Nat} {u:Value} {w:World} {b:Nat} (c:q≠t) (h:TR d (fr.eval (.tmp t)) w b):TR d ((fr.put (some q) u).eval (.tmp t)) w b:=by rw[zbi c];exact h
theorem TR.other2 {d:Bool} {v:Value} {w:World} {b c:Nat} (h:TR d v w b) (k l:Value) (j:b≠c):TR d v (zaw w c k l) b:=by obtain⟨s,a,n,c,t,p,m,e,f,g⟩:=h;exact⟨s,a,n,c,t,p,m,e,f.other2 _ _ j,g⟩
theorem TR.other4 {d:Bool} {v:Value} {w:World} {b c:Nat} (h:TR d v w b) (k l o q:Value) (j:b≠c):TR d v (zbn w c k l o q) b:=by obtain⟨s,a,n,c,t,p,m,e,f,g⟩:=h;exact⟨s,a,n,c,t,p,m,e,f.other4 _ _ _ _ j,g⟩
theorem TR.store {d:Bool} {v:Value} {w:World} {b:Nat} (h:TR d v w b) (s:Bool) (a:Option Addr) (n c:Nat) (t:Bool) (p:Option Addr) (m e:Nat):TR true (.agg #[.bool s,.slice a n c,.bool t,.slice p m e]) (zbn w b (.bool s) (.slice a n c) (.bool t) (.slice p m e)) b:=by obtain⟨_,_,_,_,_,_,_,_,f,g⟩:=h;exact⟨s,a,n,c,t,p,m,e,f.set _ _ _ _,fun _=>rfl⟩
theorem TR.keep {d:Bool} {v:Value} {w:World} {b:Nat} (h:TR d v w b) (g j k l:Value):Keep w (zbn w b g j k l):=by obtain⟨s,a,n,c,t,p,m,e,f,o⟩:=h;exact f.keep' (.soft (.bool _)) (.soft (.slice _ _ _)) (.soft (.bool _)) (.soft (.slice _ _ _)) _ _ _ _
theorem TR.ext {d:Bool} {v:Value} {w:World} {b:Nat} (h:TR d v w b) (g j k l:Value):Ext w (zbn w b g j k l):=by obtain⟨s,a,n,c,t,p,m,e,f,o⟩:=h;exact f.ext (.bool _) (.slice _ _ _) (.bool _) (.slice _ _ _) _ _ _ _
def Al (T:Bool→Value→World→Nat→Prop) (la d:Bool) (p v:Value) (B:Nat) (w:World):Prop:=la=true→∃b,p=.pointer (some ⟨b,0,none⟩)∧B≤b∧T d v w b
theorem Al.mono {T:Bool→Value→World→Nat→Prop} {c d:Bool} {p v:Value} {B:Nat} {w w':World} (h:Al T c d p v B w) (k:∀b,T d v w b→T d v w' b):Al T c d p v B w':=by intro e;obtain⟨b,f,g,j⟩:=h e;exact⟨b,f,g,k b j⟩
theorem Al.at {T:Bool→Value→World→Nat→Prop} {f d:Bool} {fr:Act} {q b c:Nat} {u:Value} {B:Nat} {w:World} (g:q≠b) (j:q≠c) (h:Al T f d (fr.eval (.tmp b)) (fr.eval (.tmp c)) B w):
 Al T f d ((fr.put (some q) u).eval (.tmp b)) ((fr.put (some q) u).eval (.tmp c)) B w:=by
 rw[zbi g,zbi j];exact h
theorem Al.no {T:Bool→Value→World→Nat→Prop} {d:Bool} {p v:Value} {B:Nat} {w:World}: Al T false d p v B w:=fun h=>(by cases h)
theorem Al.src {T:Bool→Value→World→Nat→Prop} {f:Bool} {fr:Act} {q d:Nat} {u v:Value} {B:Nat} {w:World} (c:q≠d) (k:∀b v l,T false v w b→T false l w b) (h:Al T f false (fr.eval (.tmp d)) v B w):
 Al T f false ((fr.put (some q) u).eval (.tmp d)) ((fr.put (some q) u).eval (.tmp q)) B w:=by
 rw[zbi c];intro e;obtain⟨b,c,g,j⟩:=h e;exact⟨b,c,g,k b _ _ j⟩
theorem Al.new {T:Bool→Value→World→Nat→Prop} {fr:Act} {q c:Nat} {B b:Nat} {w:World} (f:q≠c) (g:q<fr.tmps.size) (d:B≤b) (h:T false (fr.eval (.tmp c)) w b):
 Al T true false ((fr.put (some q) (.pointer (some ⟨b,0,none⟩))).eval (.tmp q)) ((fr.put (some q) (.pointer (some ⟨b,0,none⟩))).eval (.tmp c)) B w:=by
 rw[zbi f,za0 g];exact fun _=>⟨b,rfl,d,h⟩
def Apt (l1 l2:Bool) (p q:Value):Prop:=l1=true→l2=true→p≠q
theorem Apt.at {d f:Bool} {fr:Act} {q b c:Nat} {u:Value} (g:q≠b) (j:q≠c) (h:Apt d f (fr.eval (.tmp b)) (fr.eval (.tmp c))):
 Apt d f ((fr.put (some q) u).eval (.tmp b)) ((fr.put (some q) u).eval (.tmp c)):=by
 rw[zbi g,zbi j];exact h
theorem Apt.newL {T:Bool→Value→World→Nat→Prop} {g d:Bool} {fr:Act} {q c:Nat} {B:Nat} {v:Value} {w:World} (m:q≠c) (n:q<fr.tmps.size) (l:∀d v b,T d v w b→b<w.heap.size) (h:Al T g d (fr.eval (.tmp c)) v B w):
 Apt true g ((fr.put (some q) (.pointer (some ⟨w.heap.size,0,none⟩))).eval (.tmp q)) ((fr.put (some q) (.pointer (some ⟨w.heap.size,0,none⟩))).eval (.tmp c)):=by
 rw[zbi m,za0 n];intro _ e f;obtain⟨b,j,-,k⟩:=h e;rw[j]at f;have:=l _ _ _ k;simp only[Value.pointer.injEq,Option.some.injEq,Addr.mk.injEq]at f;omega
theorem Apt.newR {T:Bool→Value→World→Nat→Prop} {f d:Bool} {fr:Act} {q c:Nat} {B:Nat} {v:Value} {w:World} (j:q≠c) (k:q<fr.tmps.size) (g:∀d v b,T d v w b→b<w.heap.size) (h:Al T f d (fr.eval (.tmp c)) v B w):
 Apt f true ((fr.put (some q) (.pointer (some ⟨w.heap.size,0,none⟩))).eval (.tmp c)) ((fr.put (some q) (.pointer (some ⟨w.heap.size,0,none⟩))).eval (.tmp q)):=by
 have:=Apt.newL j k g h;exact fun a b=>(this b a).symm
end Go.Proofs.YtjlkplidpdhgbaaGreatDoor
