/- A part of the proof: Pm5, W26, W12, W27, W19, W11. -/
import Derived.Test.YtjlkplidpdhgbaaGreatDoorP00
import Derived.Test.YtjlkplidpdhgbaaGreatDoorP08
import Derived.Test.YtjlkplidpdhgbaaGreatDoorP09
import Derived.Deep.RegionHeld3
import Derived.Deep.Draws
import Derived.Test.YtjlkplidpdhgbaaGreatDoorP01
import Derived.Test.YtjlkplidpdhgbaaGreatDoorP04
import Derived.Test.YtjlkplidpdhgbaaGreatDoorP02
set_option linter.all false
set_option maxRecDepth 10000
set_option maxHeartbeats 2000000
namespace Rad
theorem guess_three {P f b U3 B2:Nat} (s:f<P) (t:b<P) (m:0<B2) (r:U3 / B2≤B2+1):
 (f+P*U3) / (b+P*B2)≤U3 / B2∧U3 / B2≤(f+P*U3) / (b+P*B2)+1:=by
 have o:0<P:=om;have c:0<b+P*B2:=(by have:=Nat.mul_pos o m;omega);have d:=Nat.div_add_mod U3 B2;have u:=Nat.mod_lt U3 m;obtain⟨q,j⟩:∃q,U3 / B2=q:=⟨_,rfl⟩;rw[j]at r d⊢;constructor
 ·refine Nat.le_of_lt_succ ((Nat.div_lt_iff_lt_mul c).2 ?_);show f+P*U3<(q+1)*(b+P*B2);have l:U3+1≤(q+1)*B2:=(by rw[Nat.add_mul,Nat.mul_comm q B2];omega);have g:=Nat.mul_le_mul_left P l;rw[Nat.mul_add,Nat.mul_one]at g;have n:(q+1)*(b+P*B2)=(q+1)*b+P*((q+1)*B2):=(by rw[Nat.mul_add,Nat.mul_left_comm]);omega
 ·rcases Nat.eq_zero_or_pos q with k|k
  ·rw[k];exact Nat.zero_le _
  ·obtain⟨p,rfl⟩:∃p,q=p+1:=⟨q-1,by omega⟩;refine Nat.add_le_add_right ((Nat.le_div_iff_mul_le c).2 ?_) 1;have l:p*(b+P*B2)≤P*(p*(B2+1)):=(by rw[Nat.mul_left_comm P p];refine Nat.mul_le_mul_left p ?_;rw[Nat.mul_add];omega);have g:p*(B2+1)≤U3:=(by rw[Nat.mul_add,Nat.mul_one];rw[Nat.mul_add,Nat.mul_one,Nat.mul_comm B2 p]at d;omega);have n:=Nat.mul_le_mul_left P g;omega
theorem guess_top {β P Ul bl u0 u1 u2 y0 y1:Nat} (t:bl<P) (o:y0<β) (u:β≤2*y1+2) (n:y1≤u2) (c:Ul+P*(u0+β*(u1+β*u2))<β*(bl+P*(y0+β*y1))):
 (Ul+P*(u0+β*(u1+β*u2))) / (bl+P*(y0+β*y1))≤β-1∧β-1≤(Ul+P*(u0+β*(u1+β*u2))) / (bl+P*(y0+β*y1))+1:=by
 have b:0<bl+P*(y0+β*y1):=by
  rcases Nat.eq_zero_or_pos (bl+P*(y0+β*y1))with h|h
  ·rw[h]at c;omega
  ·exact h
 constructor
 ·have:=(Nat.div_lt_iff_lt_mul b).2 c;omega
 ·have p:β-2≤(Ul+P*(u0+β*(u1+β*u2))) / (bl+P*(y0+β*y1)):=by
   refine(Nat.le_div_iff_mul_le b).2 ?_;have g:bl+P*(y0+β*y1)≤P*(β*(y1+1)):=(by have j:y0+β*y1+1≤β*(y1+1):=(by rw[Nat.mul_add];omega);have l:=Nat.mul_le_mul_left P j;rw[Nat.mul_add]at l;omega);have q:=Nat.mul_le_mul_left (β-2) g;have r:(β-2)*(P*(β*(y1+1)))=P*β*((β-2)*(y1+1)):=(by rw[Nat.mul_left_comm,Nat.mul_left_comm (β-2) β,Nat.mul_assoc]);have m:(β-2)*(y1+1)≤β*y1:=by
    rcases Nat.lt_or_ge β 2 with h|h
    ·rw[Nat.sub_eq_zero_of_le om,Nat.zero_mul];omega
    ·obtain⟨k,rfl⟩:∃k,β=k+2:=⟨β-2,by omega⟩;rw[Nat.add_sub_cancel,Nat.mul_add,Nat.add_mul];omega
   have s:=Nat.mul_le_mul_left (P*β) m;have d:P*β*(β*y1)≤P*(u0+β*(u1+β*u2)):=(by rw[Nat.mul_assoc];refine Nat.mul_le_mul_left P ?_;have f:=Nat.mul_le_mul_left β (Nat.mul_le_mul_left β n);rw[Nat.mul_add];omega);omega
  omega
end Rad
namespace Go.Proofs.YtjlkplidpdhgbaaGreatDoor
open Go Go.Proofs Go.RowKit Go.Rad
theorem num_three (w:World) (b o m:Nat):num B w b o (m+3)=num B w b o m+B^m*(word w b (o+m)+B*(word w b (o+(m+1))+B*word w b (o+(m+2)))):=by simp only[zam,Nat.pow_succ,Nat.mul_add,Nat.mul_assoc,Nat.add_assoc]
theorem num_two (w:World) (b o m:Nat):num B w b o (m+2)=num B w b o m+B^m*(word w b (o+m)+B*word w b (o+(m+1))):=by rw[zam,zam,Nat.pow_succ,Nat.mul_add];simp only[Nat.mul_assoc,Nat.add_assoc]
theorem guessWord_any (w:World) (l n cu A D C m:Nat) (hm:m+3≤35184372088832) (L:Arr .u64 B w l n (m+3)) (hb:Arr .u64 B w A D (m+2))
 (ja:9223372036854775808≤word w A (D+(m+1))) (H:num B w l n (m+3)<B*num B w A D (m+2)):
 Calls Tryz.prog 164 #[.slice (some ⟨l,n,none⟩) (m+3:Nat) cu,.slice (some ⟨A,D,none⟩) (m+2:Nat) C] w fun e w'=>∃d:Nat,e=.returned (.int .u64 d)∧(∃k,w'=w.drewN k)∧d<B∧
  num B w l n (m+3) / num B w A D (m+2)≤d∧d≤num B w l n (m+3) / num B w A D (m+2)+1:=by
 have ma:=zah L (i:=m) om;have na:=zah L (i:=m+1) om;have oa:=zah L (i:=m+2) om;have ka:=zah hb (i:=m) om;have la:=zah hb (i:=m+1) om;have J:=zaz L (i:=m) om;have ia:=zaz L (i:=m+1) om;have ta:=zaz L (i:=m+2) om;have g:=zaz hb (i:=m) om;have ha:=zaz hb (i:=m+1) om;have Z:num B w l n m<B^m:=zbb (fun i hi=>L i om);have I:num B w A D m<B^m:=zbb (fun i hi=>hb i om);rw[num_three,num_two]at H⊢;generalize num B w l n m=Ul at *;generalize num B w A D m=bl at *;generalize B^m=P at *;generalize word w l (n+m)=u0 at *;generalize word w l (n+(m+1))=u1 at *;generalize word w l (n+(m+2))=u2 at *;generalize word w A (D+m)=y0 at *;generalize word w A (D+(m+1))=y1 at *;clear L hb;have e1:((m:Int)+2-1)=(m:Int)+1:=om;have e2:((m:Int)+2-2)=(m:Int):=om;by_cases hc:y1≤u2
 ·have hg:=_root_.Rad.guess_top (β:=B) (u1:=u1) I g (by unfold B;omega) hc H;have HG:Hid _:=hg;clear hg H Z I;go_enter Tryz.func164,Tryz.ntmps164;go_wp2;go_quiet (fail);go_wp2;go_ret;exact⟨18446744073709551615,rfl,⟨_,rfl⟩,by unfold B;omega,HG.out.1,HG.out.2⟩
 ·have hN:u2*B+u1<y1*B+y0:=(by have b:=Nat.mul_le_mul_right B (show u2+1≤y1 by omega);rw[Nat.add_mul]at b;omega);have q:=_root_.Rad.guess_start (h:=B) (y1:=y1) (y0:=y0) (u:=u2*B+u1) (d:=u0) (by unfold B;omega) g J hN;have T:(u2*B+u1) / y1<B:=(by refine Nat.div_lt_of_lt_mul ?_;have b:=Nat.mul_le_mul_right B (show u2+1≤y1 by omega);rw[Nat.add_mul]at b;omega);have aa:=Nat.mod_lt (u2*B+u1) (show 0<y1 by omega);have h3:=_root_.Rad.guess_three (U3:=(u2*B+u1)*B+u0) (B2:=y1*B+y0) Z I (by have:=Nat.mul_pos (show 0<y1 by omega) zbg;omega)
   (by have b:=_root_.Rad.guess_lt J hN;have h2:=Nat.le_mul_of_pos_left B (show 0<y1 by omega);omega)
  have e3:u0+B*(u1+B*u2)=(u2*B+u1)*B+u0:=(by rw[Nat.mul_comm (u2*B+u1) B,Nat.mul_comm u2 B,Nat.add_comm (B*u2) u1];omega);have e4:y0+B*y1=y1*B+y0:=(by rw[Nat.mul_comm];omega);rw[e3,e4];obtain⟨N,G⟩:∃N,u2*B+u1=N:=⟨_,rfl⟩;rw[G]at hN q T aa h3⊢;obtain⟨Q0,S⟩:∃Q,N / y1=Q:=⟨_,rfl⟩;obtain⟨R0,U⟩:∃R,N%y1=R:=⟨_,rfl⟩;have CD:=fun w=>zfw u2 u1 y1 Q0 R0 om ia ha (by rw[G];exact S) (by rw[G];exact U) w;rw[S]at q T;rw[U]at q aa;have HN:Hid (N<y1*B+y0):=hN;have H3:Hid _:=h3;have ga:Hid _:=q;have qa:¬(y1:Int)≤(u2:Int):=om;have fa:Hid _:=CD;clear hN h3 q H Z I e3 e4 S U G CD;go_enter Tryz.func164,Tryz.ntmps164;go_wp2;go_quiet (fail);go_wp2;have i1:(m:Int)+2<(m:Int)+3:=om;have i2:(0:Int)≤(m:Int)+2:=om;have i3:(m:Int)+1<(m:Int)+3:=om;have i4:(0:Int)≤(m:Int)+1:=om;have i5:((m:Int)+2).toNat=m+2:=om;have i6:((m:Int)+1).toNat=m+1:=om;have i7:IntKind.i64.wrap ((m:Int)+1)=(m:Int)+1:=(by rw[IntKind.wrap_i64];omega);have i8:(m:Int)+1<(m:Int)+1+2:=om;go_region_held3 (fun w'=>w'.cell? ⟨l,n+(m+1),none⟩=some (.int .u64 u1)∧w'.cell? ⟨l,n+(m+2),none⟩=some (.int .u64 u2)) (go_keep)
   (first
    |(go_at_call 149;refine(fa.out _).mono ?_;rintro e ua ⟨rfl,k,rfl⟩))
  go_wp2;clear i1 i2 i3 i4 i5 i6 i7 i8
  rename_i hHeld
  clear hHeld;go_loopw [8,9] (fun d r wr=>∃d' r' j:Nat,d=.int .u64 (d':Int)∧r=.int .u64 (r':Int)∧wr=w.drewN j∧d'<B∧r'<B∧_root_.Rad.Guess B y1 y0 N u0 d' r') (fun d _ _=>(intOf d).toNat)
  case atStart=>exact⟨Q0,R0,_,rfl,rfl,rfl,T,by omega,ga.out⟩
  case round=>
   obtain⟨d,r,j,rfl,rfl,rfl,hd,hr,hg⟩:=hrel;have hz:d*y0<B*B:=Nat.mul_lt_mul'' hd g;have da:=hi_lt hz;have ea:=zdm (d*y0);have y:=lo_hi (d*y0);have E:=mul64 d y0 hd g (w.drewN j);obtain⟨z,Y⟩:∃z,d*y0=z:=⟨_,rfl⟩;rw[Y]at da ea y E;obtain⟨zl,O⟩:∃z',lo z=z':=⟨_,rfl⟩;obtain⟨c,M⟩:∃z',hi z=z':=⟨_,rfl⟩;rw[O]at ea y E;rw[M]at da y E;have HG:Hid (_root_.Rad.Guess B y1 y0 N u0 d r):=hg;have HZ:Hid (d*y0=z):=Y;have HS:Hid (zl+B*c=z):=y;clear hg Y y hz O M;have p:z≤B*r+u0→(Ul+P*(N*B+u0)) / (bl+P*(y1*B+y0))≤d∧d≤(Ul+P*(N*B+u0)) / (bl+P*(y1*B+y0))+1:=fun h=>by have b:=HG.out.done (by have:=HN.out;omega) (by rw[HZ.out];exact h);rw[b];exact H3.out
   have HE:Hid _:=p;clear p;by_cases c1:c<r
   ·have k1:(c:Int)<(r:Int):=om;have s:z≤B*r+u0:=(by have b:=Nat.mul_le_mul_left B (show c+1≤r from c1);rw[Nat.mul_add]at b;have:=HS.out;omega);have o:Hid _:=HE.out s;clear s c1;go_wp2_with (go_at_call 85;refine E.mono ?_;rintro e w' ⟨rfl,x⟩;subst x);go_ret;exact⟨d,rfl,⟨_,rfl⟩,hd,o.out.1,o.out.2⟩
   ·have k1:¬(c:Int)<(r:Int):=om;by_cases c2:c=r∧zl≤u0
    ·obtain⟨rfl,c2⟩:=c2;have k2:(zl:Int)≤(u0:Int):=om;have s:z≤B*c+u0:=(by have:=HS.out;omega);have o:Hid _:=HE.out s;clear s c1 c2;go_wp2_with (go_at_call 85;refine E.mono ?_;rintro e w' ⟨rfl,x⟩;subst x);go_ret;exact⟨d,rfl,⟨_,rfl⟩,hd,o.out.1,o.out.2⟩
    ·have ba:B*r+u0<z:=by
      have:=HS.out;by_cases h0:c=r
      ·subst h0;omega
      ·have b:=Nat.mul_le_mul_left B (show r+1≤c by omega);rw[Nat.mul_add]at b;have:=J;omega
     have X:=HG.out.step J HN.out (.inr (by rw[HZ.out];exact ba));have ra:=X.1;have F:Hid _:=X.2;have cs:=HG.out;obtain⟨d1,rfl⟩:∃d1,d=d1+1:=⟨d-1,by omega⟩;have e9:((d1+1:Nat):Int)-1=(d1:Int):=om;have sa:((d1+1:Nat):Int)=(d1:Int)+1:=om;have pa:IntKind.u64.wrap (d1:Int)=(d1:Int):=zc2 d1 (by unfold B at hd;omega);clear X ba cs;have ca:hi (r+y1)≤1:=(by unfold hi B at *;omega);have C:=lo_hi (r+y1);have cl:=zdm (r+y1);by_cases h0:c=r
     ·have k2:(c:Int)=(r:Int):=om;have k3:¬(zl:Int)≤(u0:Int):=om;subst h0;rcases(show hi (c+y1)=0∨hi (c+y1)=1 by omega)with b|b
      ·have f:lo (c+y1)=c+y1:=(by rw[b]at C;omega);have AD:∀w,(callFunc 131 #[.int .u64 c,.int .u64 y1,.int .u64 0]).run Tryz.prog w=.ok (.value (.tuple #[.int .u64 ((c+y1:Nat):Int),.int .u64 0])) w:=fun w=>by have:=zex c y1 w;rw[b,f]at this;exact this
       have W:c+y1<B:=(by rw[←f];exact cl);clear ca C cl b f;go_wp2_with (go_at_call 85;refine E.mono ?_;rintro e w' ⟨rfl,x⟩;subst x);go_roundw
       case rel=>exact⟨d1,c+y1,j,by go_num,by go_num,rfl,by omega,W,F.out⟩
       case measure=>simp[intOf]
      ·have AD:∀w,(callFunc 131 #[.int .u64 c,.int .u64 y1,.int .u64 0]).run Tryz.prog w=.ok (.value (.tuple #[.int .u64 ((lo (c+y1):Nat):Int),.int .u64 1])) w:=fun w=>by have:=zex c y1 w;rw[b]at this;exact this
       have t:=F.out.over (by have:=HN.out;omega) g (by show d1≤B;omega) (by rw[b]at C;omega);have V:=H3.out;rw[←t]at V;have o:Hid _:=V;clear ca C cl b t V;go_wp2_with (go_at_call 85;refine E.mono ?_;rintro e w' ⟨rfl,x⟩;subst x);go_ret;exact⟨d1,zcf (by first|rfl|omega),⟨_,rfl⟩,by omega,o.out.1,o.out.2⟩
     ·have k2:¬(c:Int)=(r:Int):=om;clear c2;rcases(show hi (r+y1)=0∨hi (r+y1)=1 by omega)with b|b
      ·have f:lo (r+y1)=r+y1:=(by rw[b]at C;omega);have AD:∀w,(callFunc 131 #[.int .u64 r,.int .u64 y1,.int .u64 0]).run Tryz.prog w=.ok (.value (.tuple #[.int .u64 ((r+y1:Nat):Int),.int .u64 0])) w:=fun w=>by have:=zex r y1 w;rw[b,f]at this;exact this
       have W:r+y1<B:=(by rw[←f];exact cl);clear ca C cl b f;go_wp2_with (go_at_call 85;refine E.mono ?_;rintro e w' ⟨rfl,x⟩;subst x);go_roundw
       case rel=>exact⟨d1,r+y1,j,by go_num,by go_num,rfl,by omega,W,F.out⟩
       case measure=>simp[intOf]
      ·have AD:∀w,(callFunc 131 #[.int .u64 r,.int .u64 y1,.int .u64 0]).run Tryz.prog w=.ok (.value (.tuple #[.int .u64 ((lo (r+y1):Nat):Int),.int .u64 1])) w:=fun w=>by have:=zex r y1 w;rw[b]at this;exact this
       have t:=F.out.over (by have:=HN.out;omega) g (by show d1≤B;omega) (by rw[b]at C;omega);have V:=H3.out;rw[←t]at V;have o:Hid _:=V;clear ca C cl b t V;go_wp2_with (go_at_call 85;refine E.mono ?_;rintro e w' ⟨rfl,x⟩;subst x);go_ret;exact⟨d1,zcf (by first|rfl|omega),⟨_,rfl⟩,by omega,o.out.1,o.out.2⟩
theorem subp_word {z x d c:Nat} (j:z<B) (u:x<B) (t:d<B) (s:c<B):
 hi (x*d+c)+bw z (lo (x*d+c)) 0<B∧sb z (lo (x*d+c)) 0+(x*d+c)=z+B*(hi (x*d+c)+bw z (lo (x*d+c)) 0):=by
 have k:x*d≤(B-1)*(B-1):=Nat.mul_le_mul om om;have l:(B-1)*(B-1)+(B-1)=B*(B-1):=dd;have m:x*d+c≤B*(B-1):=om;have n:=sb_bw (c:=0) j (zdm (x*d+c)) om;have o:=lo_hi (x*d+c);generalize x*d+c=p at *;have q:=bw_le z (lo p) 0;refine⟨?_,?_⟩
 ·rcases Nat.lt_or_ge (hi p) (B-1)with h|h
  ·omega
  ·have r:B*(B-1)≤B*hi p:=Nat.mul_le_mul_left _ h;have f:lo p=0:=om;have g:hi p=B-1:=(by have:=Nat.le_of_mul_le_mul_left (show B*hi p≤B*(B-1)by omega) zbg;omega);have b:bw z 0 0=0:=(by unfold bw;simp);rw[f,b,g];have:=zbg;omega
 ·rw[Nat.mul_add];omega
theorem subp_step {k z x d c r e f y u:Nat} (h:r+x*d=z+B^k*c) (l:e+(u*d+c)=y+B*f):
 r+B^k*e+(x+B^k*u)*d=(z+B^k*y)+B^(k+1)*f:=by
 have b:B^(k+1)*f=B^k*(B*f):=(by rw[Nat.pow_succ,Nat.mul_assoc]);have g:B^k*(e+(u*d+c))=B^k*(y+B*f):=(by rw[l]);rw[Nat.mul_add,Nat.mul_add,Nat.mul_add]at g;have j:(x+B^k*u)*d=x*d+B^k*(u*d):=(by rw[Nat.add_mul,Nat.mul_assoc]);rw[b,j];omega
theorem zgu (w:World) (f b t D l j o X d:Nat) (O:Option Addr) (J:Sl O l j o) (M:Arr .u64 B w f b t) (S:Free w f b t)
 (L:Arr .u64 B w l j o) (hn:t=o+1) (aa:t≤D) (F:0<o→f≠l∨j+o≤b∨b+t≤j) (C:D≤maxLen) (R:d<B):
 Calls Tryz.prog 165 #[.slice (some ⟨f,b,none⟩) t D,.slice O o X,.int .u64 d] w fun e w'=>∃c:Nat,e=.returned (.int .u64 c)∧Chg w w' f b (b+t)∧Arr .u64 B w' f b t∧
  c≤1∧num B w' f b t+num B w l j o*d=num B w f b t+B^t*c:=by
 subst hn;have T:D≤9223372036854775807:=C;clear C;go_enter Tryz.func165,Tryz.ntmps165;go_wp2;go_loopw [7,22] (fun c i wr=>∃k g:Nat,k≤o∧g<B∧i=.int .i64 k∧c=.int .u64 g∧Chg w wr f b (b+k)∧Arr .u64 B wr f b (o+1)∧
  num B wr f b k+num B w l j k*d=num B w f b k+B^k*g)
  (fun _ i _=>o-(intOf i).toNat)
 case atStart=>exact⟨0,0,by omega,zbg,rfl,rfl,Chg.refl _ _ _ _,M,by simp[zas]⟩
 case round=>
  obtain⟨k,g,hk,x,rfl,rfl,n,m,r⟩:=hrel;by_cases A:k<o
  ·obtain rfl:=J om;have N:=zah m (i:=k) om;have z:wr.cell? ⟨l,j+k,none⟩=w.cell? ⟨l,j+k,none⟩:=n.cellAt (L.lt om) (by have:=F om;omega);have ba:wr.cell? ⟨l,j+k,none⟩=some (.int .u64 ((word w l (j+k):Nat):Int)):=z.trans (zah L A);have G:wr.frozen? ⟨f,b+k,none⟩=false:=(n.free S M.lt) k om;have p:word wr f (b+k)=word w f (b+k):=zac (n.cell _ om);have q:=zaz m (i:=k) om;have u:=zaz L A;obtain⟨V,W⟩:=subp_word q u R x;have Y:=sub64_c (word wr f (b+k)) (lo (word w l (j+k)*d+g));have E:=add64_y (hi (word w l (j+k)*d+g)) (bw (word wr f (b+k)) (lo (word w l (j+k)*d+g)) 0) (wr.setCell ⟨f,b+k,none⟩ (.int .u64 (sb (word wr f (b+k)) (lo (word w l (j+k)*d+g)) 0:Nat))) (bw_le _ _ _);have P:lo (hi (word w l (j+k)*d+g)+bw (word wr f (b+k)) (lo (word w l (j+k)*d+g)) 0)=hi (word w l (j+k)*d+g)+bw (word wr f (b+k)) (lo (word w l (j+k)*d+g)) 0:=Nat.mod_eq_of_lt V;have s:=subp_step r W;have y:num B wr f b k+B^k*sb (word wr f (b+k)) (lo (word w l (j+k)*d+g)) 0+num B w l j (k+1)*d=
    num B w f b (k+1)+B^(k+1)*lo (hi (word w l (j+k)*d+g)+bw (word wr f (b+k)) (lo (word w l (j+k)*d+g)) 0):=by
    rw[P,zam,zam,←p];exact s
   have H:Hid _:=y;clear r s z y V W p P;go_wp2_with (go_at_call 104;refine(zce _ _ _ u R x _).mono ?_;rintro e w' ⟨rfl,hw⟩;subst hw);go_roundw
   case rel=>exact⟨k+1,_,by omega,zdm _,by go_num,rfl,(n.mono (Nat.le_refl _) om).set om om _,m.set (sb_lt _ _ _),by rw[zbj m om];exact H.out⟩
   case measure=>simp[intOf];omega
  ·have I:k=o:=om;subst I;have N:=zah m (i:=k) om;have G:wr.frozen? ⟨f,b+k,none⟩=false:=(n.free S M.lt) k om;have p:word wr f (b+k)=word w f (b+k):=zac (n.cell _ om);have q:=zaz m (i:=k) om;have Y:=sub64_c (word wr f (b+k)) g;have U:=sb_bw (c:=0) q x om;have y:num B wr f b k+B^k*sb (word wr f (b+k)) g 0+num B w l j k*d=num B w f b (k+1)+B^(k+1)*bw (word wr f (b+k)) g 0:=(by have Z:B^k*(sb (word wr f (b+k)) g 0+g+0)=B^k*(word wr f (b+k)+B*bw (word wr f (b+k)) g 0):=(by rw[U]);have E:B^(k+1)*bw (word wr f (b+k)) g 0=B^k*(B*bw (word wr f (b+k)) g 0):=(by rw[Nat.pow_succ,Nat.mul_assoc]);rw[E,zam,←p];rw[Nat.add_zero,Nat.mul_add,Nat.mul_add]at Z;clear E;omega);have H:Hid _:=y;clear r y U p;go_wp2;go_ret;exact⟨_,rfl,(n.mono (Nat.le_refl _) om).set om om _,m.set (sb_lt _ _ _),bw_le _ _ _,by rw[zbj m om];exact H.out⟩
theorem rows_step {β Bj lo P b Qh U:Nat} (h:(lo+Bj*P)+Bj*β*(Qh*b)=U):(lo+Bj*(P%b))+Bj*((P / b+β*Qh)*b)=U:=by have c:=Nat.mod_add_div P b;have d:Bj*P=Bj*(P%b)+Bj*(b*(P / b)):=(by rw[←Nat.mul_add,c]);rw[Nat.add_mul,Nat.mul_add,Nat.mul_comm (P / b) b];have f:Bj*β*(Qh*b)=Bj*(β*Qh*b):=(by simp only[Nat.mul_assoc]);omega
theorem rows_right {P b d c n x:Nat} (j:0<b) (h:x+b*d=P+n*c) (k:c=0) (f:P / b≤d) (l:d≤P / b+1):d=P / b∧x=P%b:=by subst k;rw[Nat.mul_zero,Nat.add_zero]at h;have e:P / b=d:=(by refine Nat.le_antisymm f ?_;refine(Nat.le_div_iff_mul_le j).2 ?_;rw[Nat.mul_comm];omega);have g:=Nat.mod_add_div P b;rw[e]at g⊢;exact⟨rfl,by omega⟩
theorem rows_back {P b d c f n x y:Nat} (l:0<b) (h:x+b*d=P+n*c) (u:c≤1) (p:c≠0) (z:x<n) (A:y<n) (r:P / b≤d) (s:d≤P / b+1) (o:b≤n) (t:y+n*f=x+b) (q:f≤1):
 d=P / b+1∧y=P%b:=by
 have g:c=1:=om;subst g;rw[Nat.mul_one]at h;have e:d=P / b+1:=by
  rcases Nat.lt_or_ge d (P / b+1)with j|j
  ·have k:d≤P / b:=om;have m:=(Nat.le_div_iff_mul_le l).1 k;rw[Nat.mul_comm]at m;omega
  ·omega
 have j:=Nat.mod_add_div P b;have k:=Nat.mod_lt P l;subst e;rw[Nat.mul_add,Nat.mul_one]at h;refine⟨rfl,?_⟩;have:f=0∨f=1:=om;rcases this with rfl|rfl <;> omega
theorem num_head' (β:Nat) (w:World) (b o n:Nat):num β w b o (n+1)=word w b o+β*num β w b (o+1) n:=by rw[Nat.add_comm n 1,zba,Nat.pow_one];congr 1;rw[zam,zas,Nat.zero_add,Nat.pow_zero,Nat.one_mul,Nat.add_zero]
theorem zge {β:Nat} {w wr f:World} {d c k j m b P U D:Nat} (x:Chg w wr d c (c+k)) (s:Arr .u64 β wr d c k) (J:j+(m+3)≤k) (q:Chg wr f d (c+j) (c+j+(m+3)))
 (u:Arr .u64 β f d (c+j) (m+3)) (H:num β f d (c+j) (m+3)=P%b) (C:D=P / b) (r:D<β) (E:0<b) (F:b<β^(m+2))
 (z:num β wr d c j+β^j*(P%b)+β^j*((P / b+β*num β wr d (c+(j+(m+3))) (k-(j+(m+3))))*b)=U):
 Chg w (f.setCell ⟨d,c+j+(m+2),none⟩ (.int .u64 (D:Int))) d c (c+k)∧Arr .u64 β (f.setCell ⟨d,c+j+(m+2),none⟩ (.int .u64 (D:Int))) d c k∧
 num β (f.setCell ⟨d,c+j+(m+2),none⟩ (.int .u64 (D:Int))) d c (j+(m+2))+β^j*(num β (f.setCell ⟨d,c+j+(m+2),none⟩ (.int .u64 (D:Int))) d (c+(j+(m+2))) (k-(j+(m+2)))*b)=U∧
 num β (f.setCell ⟨d,c+j+(m+2),none⟩ (.int .u64 (D:Int))) d (c+j) (m+2)<b:=by
 have y:P%b<b:=Nat.mod_lt P E;have p:num β f d (c+j) (m+2)=P%b:=by
  have n:num β f d (c+j) (m+2)+β^(m+2)*word f d (c+j+(m+2))=P%b:=(by rw[←zam];exact H);rcases Nat.eq_zero_or_pos (word f d (c+j+(m+2)))with o|o
  ·rw[o,Nat.mul_zero]at n;exact n
  ·have I:=Nat.le_mul_of_pos_right (β^(m+2)) o;omega
 have B:Arr .u64 β f d c k:=fun i hi=>by
  by_cases n:i<j∨j+(m+3)≤i
  ·have e:=q.cell (c+i) om;rw[zac e,e];exact s i hi
  ·obtain⟨t,rfl⟩:=Nat.exists_eq_add_of_le (show j≤i by omega);have:=u t om
   rwa [Nat.add_assoc]at this
 have A:Chg w f d c (c+k):=x.trans (q.mono om om);have g:c+j+(m+2)=c+(j+(m+2)):=om;have l:num β (f.setCell ⟨d,c+j+(m+2),none⟩ (.int .u64 (D:Int))) d (c+j) (m+2)=P%b:=(by rw[zar (.inr (.inr om)),p]);refine⟨A.set om om _,?_,?_,by rw[l];exact y⟩
 ·rw[g];exact B.set r
 ·have n:num β (f.setCell ⟨d,c+j+(m+2),none⟩ (.int .u64 (D:Int))) d c (j+(m+2))=num β wr d c j+β^j*(P%b):=(by rw[zba,l,zar (.inr (.inr om)),za1 (fun i hi=>zac (q.cell (c+i) om))]);have o:num β (f.setCell ⟨d,c+j+(m+2),none⟩ (.int .u64 (D:Int))) d (c+(j+(m+2))) (k-(j+(m+2)))=D+β*num β wr d (c+(j+(m+3))) (k-(j+(m+3))):=(by have G:(f.cell? ⟨d,c+j+(m+2),none⟩).isSome=true:=(by have:=(B (j+(m+2)) om).1;rw[g,this];rfl);rw[show k-(j+(m+2))=k-(j+(m+3))+1 by omega,num_head',←g,zby G,zar (.inr (.inl om))];congr 2;refine za1 (fun i hi=>?_);have e:=q.cell (c+(j+(m+2))+1+i) om;rw[show c+(j+(m+3))+i=c+(j+(m+2))+1+i by omega,g];exact zac e);rw[n,o,C];exact z
theorem divRows_any (w:World) (g f o Y r t cb m:Nat) (hm:o≤35184372088832) (hn:m+3≤o) (xb:o≤Y) (mb:Y≤maxLen) (hu:Arr .u64 B w g f o) (hf:Free w g f o) (hb:Arr .u64 B w r t (m+2)) (nb:g≠r)
 (fb:9223372036854775808≤word w r (t+(m+1))) (ia:num B w g (f+(o-(m+2))) (m+2)<num B w r t (m+2)):
 Calls Tryz.prog 139 #[.slice (some ⟨g,f,none⟩) o Y,.slice (some ⟨r,t,none⟩) (m+2:Nat) cb] w fun e w'=>∃kq kr:Nat,
  e=.returned (.tuple #[.slice (some ⟨g,f+(m+2),none⟩) kq kq,.slice (some ⟨g,f,none⟩) kr kr])∧kq≤o-(m+2)∧kr≤m+2∧Chg w w' g f (f+o)∧Arr .u64 B w' g f o∧
  Mag w' (.slice (some ⟨g,f+(m+2),none⟩) kq kq) (num B w g f o / num B w r t (m+2)) kq∧Mag w' (.slice (some ⟨g,f,none⟩) kr kr) (num B w g f o%num B w r t (m+2)) kr:=by
 have sb:Y≤9223372036854775807:=mb;obtain⟨b,R⟩:∃b,num B w r t (m+2)=b:=⟨_,rfl⟩;obtain⟨U,ea⟩:∃U,num B w g f o=U:=⟨_,rfl⟩;have aa:b<B^(m+2):=(by rw[←R];exact zbb hb);rw[R]at ia⊢;rw[ea];have jb:Hid (num B w r t (m+2)=b):=R;have kb:Hid _:=ia;have lb:Hid _:=ea;have O:Hid _:=aa;clear R ea ia aa;go_enter Tryz.func139,Tryz.ntmps139;go_wp2;go_loopw [7] (fun s wr=>∃k:Nat,k≤o-(m+2)∧s=.int .i64 ((k:Int)-1)∧Chg w wr g f (f+o)∧Arr .u64 B wr g f o∧
  num B wr g f (k+(m+2))+B^k*(num B wr g (f+(k+(m+2))) (o-(k+(m+2)))*b)=U∧num B wr g (f+k) (m+2)<b)
  (fun s _=>(intOf s+1).toNat)
 case atStart=>refine⟨o-(m+2),Nat.le_refl _,by go_num,Chg.refl _ _ _ _,hu,?_,kb.out⟩;rw[show o-(m+2)+(m+2)=o by omega,Nat.sub_self,zas,Nat.zero_mul,Nat.mul_zero,Nat.add_zero];exact lb.out
 case round=>
  obtain⟨k,hk,rfl,l,n,q,E⟩:=hrel;by_cases h0:k=0
  ·subst h0;rw[Nat.pow_zero,Nat.one_mul,Nat.zero_add]at q;rw[Nat.add_zero]at E;have hq:num B wr g (f+(m+2)) (o-(m+2))=U / b∧num B wr g f (m+2)=U%b:=by
    have p:0<b:=om;rw[←q];refine⟨?_,?_⟩
    ·rw[Nat.mul_comm _ b,Nat.add_mul_div_left _ _ p,Nat.div_eq_of_lt E,Nat.zero_add]
    ·rw[Nat.mul_comm _ b,Nat.add_mul_mod_self_left,Nat.mod_eq_of_lt E]
   have F1:=zbx wr (some ⟨g,f+(m+2),none⟩) g (f+(m+2)) (o-(m+2)) (Y-(m+2)) o (Sl.mk _ _ _) om (by unfold maxLen;omega) (by unfold maxLen;omega) (n.sub om);have F2:=zbx wr (some ⟨g,f,none⟩) g f o Y (m+2) (Sl.mk _ _ _) om (by unfold maxLen;omega) (by unfold maxLen;omega) n;rw[Nat.min_eq_right om,hq.1]at F1;rw[Nat.min_eq_left om,hq.2]at F2;have tb:¬Y=m+2:=om;clear q E hq;go_wp2_with (go_at_call 86;fail);refine F1.mono ?_;rintro e w1 ⟨kq,rfl,hw,zb,pb,za⟩;subst hw;go_wp2_with (go_at_call 86;fail);refine F2.mono ?_;rintro e w2 ⟨kr,rfl,hw,qb,ac,ab⟩;subst hw;clear F1 F2;have HQ:Hid _:=za;have HR:Hid _:=ab;clear za ab;go_wp2;go_ret2;exact⟨kq,kr,rfl,pb,qb,l,n,HQ.out,HR.out⟩
  ·obtain⟨j,rfl⟩:∃j,k=j+1:=⟨k-1,by omega⟩;have he:((j+1:Nat):Int)-1=(j:Int):=om;rw[he];have ya:j+1+(m+2)=j+(m+3):=om;have I:num B wr g (f+j) (m+3)<B*b:=(by have G:num B wr g (f+j) (m+3)=word wr g (f+j)+B*num B wr g (f+(j+1)) (m+2):=zdw wr g (f+j) (m+2);have h2:=zaz n (i:=j) om;have h3:=Nat.mul_le_mul_left B (show num B wr g (f+(j+1)) (m+2)+1≤b from E);rw[Nat.mul_add]at h3;omega);have db:num B wr g f (j+(m+3))=num B wr g f j+B^j*num B wr g (f+j) (m+3):=zba _ _ _ _ _ _;rw[ya,db,Nat.pow_succ]at q;obtain⟨P,J⟩:∃P,num B wr g (f+j) (m+3)=P:=⟨_,rfl⟩;rw[J]at q I;have p:0<b:=om;have eb:=rows_step q;have z:Hid _:=eb;have H:Hid _:=J;have u:Arr .u64 B wr r t (m+2):=l.arr hb hb.lt (fun _=> .inl om);have x:num B wr r t (m+2)=b:=(l.num (fun _=>hb.lt om) (fun _=> .inl om)).trans jb.out;have W:9223372036854775808≤word wr r (t+(m+1)):=(by rw[zac (l.cellAt (hb.lt om) (.inl om))];exact fb);have CG:=guessWord_any wr g (f+j) (m+3) r t cb m om (n.sub om) u W (by rw[J,x];exact I);rw[J,x]at CG;clear eb J q db ya E;have c1:¬Y=j:=om;go_wp2_with (go_at_call 164;fail);rw[show j+(m+2)+1-j=m+3 by omega];refine CG.mono ?_;rintro e w' ⟨d,rfl,⟨N,rfl⟩,ha,C,M⟩;clear CG;by_cases qa:d=0
   ·subst qa;have hQ:P / b=0:=Nat.le_zero.1 C;have ma:P%b=P:=Nat.mod_eq_of_lt ((Nat.div_eq_zero_iff_lt p).1 hQ);have F:Chg wr (wr.drewN N) g (f+j) (f+j+(m+3)):=zfr (Chg.refl _ _ _ _) N;have XA:Arr .u64 B (wr.drewN N) g (f+j) (m+3):=n.sub om;have ka:num B (wr.drewN N) g (f+j) (m+3)=P%b:=(by rw[ma];exact H.out);have X:=zge (D:=0) l n om F XA ka hQ.symm (by unfold B;omega) p O.out z.out;have y:Hid _:=X;have L:(wr.drewN N).cell? ⟨g,f+j+(m+2),none⟩=some (.int .u64 ((word (wr.drewN N) g (f+j+(m+2)):Nat):Int)):=zah (i:=m+2) XA om;have wa:(wr.drewN N).frozen? ⟨g,f+j+(m+2),none⟩=false:=by
     have G:=(l.trans (F.mono om om)).free hf hu.lt (j+(m+2)) om
     rwa [←Nat.add_assoc]at G
    have xa:j+(m+3)≤o:=om;clear X l n hk I z H u x W p F XA ka hQ ma C M;go_wp2;go_roundw
    case rel=>exact⟨j,by omega,by go_num,y.out.1,y.out.2.1,y.out.2.2.1,y.out.2.2.2⟩
    case measure=>simp[intOf]
   ·have ub:¬(d:Int)=0:=om;have CS:=zgu (wr.drewN N) g (f+j) (m+3) (m+3) r t (m+2) cb d (some ⟨r,t,none⟩) (Sl.mk _ _ _) (n.sub om)
     (fun i hi=>by have G:=l.free hf hu.lt (j+i) om;rw[←Nat.add_assoc]at G;exact G) u rfl (Nat.le_refl _) (fun _=> .inl nb) (by unfold maxLen;omega) ha
    have Z:num B (wr.drewN N) g (f+j) (m+3)=P:=H.out;have ba:num B (wr.drewN N) r t (m+2)=b:=x;rw[Z,ba]at CS;clear Z ba;go_wp2_with (go_at_call 165;fail);refine CS.mono ?_;rintro e w2 ⟨c,rfl,fa,A,ga,T⟩;clear CS;have F:Chg wr w2 g (f+j) (f+j+(m+3)):=(zfr (Chg.refl _ _ _ _) N).trans fa;by_cases S:c=0
    ·subst S;obtain⟨hD,hV⟩:=rows_right p T rfl C M;have X:=zge (D:=d) l n om F A hV hD ha p O.out z.out;have y:Hid _:=X;have L:w2.cell? ⟨g,f+j+(m+2),none⟩=some (.int .u64 ((word w2 g (f+j+(m+2)):Nat):Int)):=zah (i:=m+2) A om;have wa:w2.frozen? ⟨g,f+j+(m+2),none⟩=false:=by
      have G:=(l.trans (F.mono om om)).free hf hu.lt (j+(m+2)) om
      rwa [←Nat.add_assoc]at G
     have xa:j+(m+3)≤o:=om;clear X l n hk I z H u x W p F fa A ga T hV hD C M;go_wp2;go_roundw
     case rel=>exact⟨j,by omega,by go_num,y.out.1,y.out.2.1,y.out.2.2.1,y.out.2.2.2⟩
     case measure=>simp[intOf]
    ·have rb:¬(c:Int)=0:=om;have wb:((c:Int) !=0)=true:=(by simpa using S);have yb:((d:Int) !=0)=true:=(by simpa using qa);have na:Arr .u64 B w2 r t (m+2):=F.arr u u.lt (fun _=> .inl om);have CA:=zcj w2 (some ⟨g,f+j,none⟩) (some ⟨r,t,none⟩) g (f+j) (m+3) (m+3) r t (m+2) cb (Sl.mk _ _ _) (Sl.mk _ _ _) A
      (fun i hi=>by have G:=(l.trans (F.mono om om)).free hf hu.lt (j+i) om;rw[←Nat.add_assoc]at G;exact G) na om (fun _=> .inl om) (by unfold maxLen;omega)
     have ca:num B w2 r t (m+2)=b:=(F.num (fun _=>u.lt om) (fun _=> .inl om)).trans x;rw[ca]at CA;have gb:=zbb A;obtain⟨d1,ra⟩:∃d1,d1=d-1:=⟨d-1,rfl⟩;have e9:(d:Int)-1=(d1:Int):=om;have vb:d1<18446744073709551616:=(by unfold B at ha;omega);have sa:d=d1+1:=om;have ja:Hid _:=sa;clear ra sa;have pa:=l;go_wp2_with (go_at_call 142;fail);refine CA.mono ?_;rintro e w3 ⟨rfl,ta,V,c2,ua,va⟩;clear CA;have ib:=zbb V;have oa:b≤B^(m+3):=Nat.le_trans (Nat.le_of_lt O.out) (Nat.pow_le_pow_right zbg om);obtain⟨hD,hV⟩:=rows_back p T ga S gb ib C M oa va ua;have la:d1=P / b:=Nat.succ.inj (ja.out.symm.trans hD);have da:Chg wr w3 g (f+j) (f+j+(m+3)):=F.trans ta;have X:=zge (D:=d1) l n om da V hV la (by have:=ja.out;omega) p O.out z.out;have y:Hid _:=X;have L:w3.cell? ⟨g,f+j+(m+2),none⟩=some (.int .u64 ((word w3 g (f+j+(m+2)):Nat):Int)):=zah (i:=m+2) V om;have wa:w3.frozen? ⟨g,f+j+(m+2),none⟩=false:=by
      have G:=(l.trans (da.mono om om)).free hf hu.lt (j+(m+2)) om
      rwa [←Nat.add_assoc]at G
     have xa:j+(m+3)≤o:=om;clear X l n hk I z H u x W p pa F da fa A ga T S hV hD la C M na ca gb ib oa ta V ua va;go_wp2;go_roundw
     case rel=>exact⟨j,by omega,by go_num,y.out.1,y.out.2.1,y.out.2.2.1,y.out.2.2.2⟩
     case measure=>simp[intOf]
theorem zg3 (v:BitVec 64):IntKind.i64.wrap (v.toNat:Nat)=v.toInt:=by
 rw[IntKind.wrap_i64,BitVec.toInt_eq_toNat_cond];have:=v.isLt
 split <;> omega
theorem zdf (v:BitVec 64):BitVec.ofInt 64 v.toInt=v:=BitVec.ofInt_toInt
theorem zfj {x:Int} (b: -9223372036854775808≤x) (c:x≤9223372036854775807):(BitVec.ofInt 64 x).toInt=x:=by
 rw[BitVec.toInt_ofInt];simp only[Int.bmod]
 split <;> omega
theorem ze5 (x y:Int):bits .xor .i64 x y=(BitVec.ofInt 64 x ^^^ BitVec.ofInt 64 y).toInt:=by show IntKind.i64.wrap ((BitVec.ofInt 64 x ^^^ BitVec.ofInt 64 y).toNat:Nat)=_;exact zg3 _
theorem bits_and_i64 (x y:Int):bits .and .i64 x y=(BitVec.ofInt 64 x &&& BitVec.ofInt 64 y).toInt:=by show IntKind.i64.wrap ((BitVec.ofInt 64 x &&& BitVec.ofInt 64 y).toNat:Nat)=_;exact zg3 _
theorem signs {x s y t:Int} (k: -9223372036854775808≤x∧x≤9223372036854775807) (g: -9223372036854775808≤s∧s≤9223372036854775807)
 (l: -9223372036854775808≤y∧y≤9223372036854775807) (j: -9223372036854775808≤t∧t≤9223372036854775807):
 bits .and .i64 (bits .xor .i64 x s) (bits .xor .i64 y t)<0↔(¬(x<0↔s<0)∧¬(y<0↔t<0)):=by
 rw[bits_and_i64,ze5,ze5,zdf,zdf];have f:∀v:BitVec 64,v.toInt<0↔v.msb=true:=fun v=>by rw[BitVec.msb_eq_toInt];simp
 rw[f,BitVec.msb_and,BitVec.msb_xor,BitVec.msb_xor,BitVec.msb_eq_toInt,BitVec.msb_eq_toInt,BitVec.msb_eq_toInt,BitVec.msb_eq_toInt,
  zfj k.1 k.2,zfj g.1 g.2,zfj l.1 l.2,zfj j.1 j.2]
 by_cases a:x<0 <;> by_cases b:s<0 <;> by_cases c:y<0 <;> by_cases d:t<0 <;> simp[a,b,c,d]
theorem add_over {x y:Int} (b: -9223372036854775808≤x∧x≤9223372036854775807) (c: -9223372036854775808≤y∧y≤9223372036854775807):
 0≤bits .and .i64 (bits .xor .i64 x (IntKind.i64.wrap (x+y))) (bits .xor .i64 y (IntKind.i64.wrap (x+y)))↔ -9223372036854775808≤x+y∧x+y≤9223372036854775807:=by
 have e:=IntKind.wrap_i64 (x+y);have h:=signs (s:=IntKind.i64.wrap (x+y)) (t:=IntKind.i64.wrap (x+y)) b om c om;rw[←Int.not_lt,h];omega
theorem sub_over {x y:Int} (b: -9223372036854775808≤x∧x≤9223372036854775807) (c: -9223372036854775808≤y∧y≤9223372036854775807):
 0≤bits .and .i64 (bits .xor .i64 x y) (bits .xor .i64 x (IntKind.i64.wrap (x-y)))↔ -9223372036854775808≤x-y∧x-y≤9223372036854775807:=by
 have e:=IntKind.wrap_i64 (x-y);have h:=signs (s:=y) (t:=IntKind.i64.wrap (x-y)) b c b om;rw[←Int.not_lt,h];omega
theorem zdh (w:World) (q r:Value) (x y o p:Nat) (E:Mag w q x o) (F:Mag w r y p) (I:o≤35184372088832) (D:p≤35184372088832):
 Calls Tryz.prog 87 #[q,r] w fun e w'=>e=.returned (.int .i64 (zat (x:Int) (y:Int)))∧Below w.heap.size w w':=by
 obtain⟨s,u,G,z,rfl,l,B,d,g,j⟩:=E;obtain⟨t,c,H,A,rfl,m,C,f,b,k⟩:=F;refine(cmpWords_any w s t u G o z c H p A l m (by unfold maxLen;omega) (by unfold maxLen;omega) d f j k).mono ?_;rintro e w' ⟨rfl,n,rfl⟩;rw[g,b];exact⟨rfl,⟨rfl,rfl,rfl,Nat.le_refl _,fun _ _=>rfl⟩⟩
theorem shiftLeft_any (w:World) (W:Value) (x b m:Nat) (hx:Mag w W x b) (hl:b+m / 64+1≤35184372088832) (hm:m≤maxLen):
 Calls Tryz.prog 136 #[W,.int .i64 m] w fun e w'=>∃v n,e=.returned v∧Below w.heap.size w w'∧Mag w' v (x*2^m) n∧n≤b+m / 64+1:=by
 obtain⟨Y,R,V,Z,rfl,L,aa,g,y,J⟩:=hx;obtain⟨i0,F,M,N,O⟩:=info_parts zcs;have X:Hid (num B w R V b=x):=y;clear y J;have ca:m≤9223372036854775807:=hm;obtain⟨k,T⟩:∃k,k=m / 64:=⟨_,rfl⟩;obtain⟨s,hs⟩:∃s,s=m%64:=⟨_,rfl⟩;rw[←T]at hl⊢;have I:Hid (m=64*k+s):=(by show m=_;omega);have z:s<64:=om;have e1:(m:Int).tdiv 64=(k:Int):=(by rw[Int.tdiv_eq_ediv_of_nonneg om];omega);have e2:(m:Int).tmod 64=(s:Int):=(by rw[Int.tmod_eq_emod_of_nonneg om];omega);have e3:(m:Int) / 64=(k:Int):=om;have e4:(m:Int)%64=(s:Int):=om;clear T hs;have l:b+k+1≤maxLen:=(by unfold maxLen;omega);have z1:b+k+1-k=b+1:=om;go_enter Tryz.func136,Tryz.ntmps136;go_wp2_with (first
  |(at_make;refine zau .u64 B zbg rfl _ _ 22 rfl 98 i0 Tryz.underlying22 F M N .i64 .i64 _ _ (b+k+1) rfl rfl om om (by rw[O];omega) l ?_;intro P c)
  |(go_at_call 137;fail))
 have p:Arr .u64 B P w.heap.size k (b+1):=by
  have:=c.arr.sub (d:=k) (m:=b+1) om
  rwa [Nat.zero_add]at this
 have t:Free P w.heap.size k (b+1):=by
  have:=c.free.sub (d:=k) (m:=b+1) om
  rwa [Nat.zero_add]at this
 refine(zgz P _ Y w.heap.size k (b+1) (b+1) R V b Z s (Sl.mk _ _ _) L p t (zaf g c.below) rfl (fun h=> .inl (by have:=g.lt h;omega)) (by unfold maxLen;omega) z).mono ?_;rintro e A ⟨rfl,f,r,o⟩;rw[zal g c.below,X.out]at o;have E:Below w.heap.size w A:=c.below.trans (f.below (Nat.le_refl _) (by have:=c.lt;omega));have D:Arr .u64 B A w.heap.size 0 (b+k+1):=fun i hi=>by
  by_cases G:i<k
  ·have e:=f.cell (0+i) om;rw[zac e,e];exact c.arr i om
  ·obtain⟨j,rfl⟩:=Nat.exists_eq_add_of_le (Nat.le_of_not_lt G);have:=r j om
   rwa [Nat.zero_add]
 have U:num B A w.heap.size 0 (b+k+1)=x*2^m:=by
  have h0:num B A w.heap.size 0 k=0:=_root_.Rad.vs_zeros fun i hi=>by rw[Nat.zero_add,zac (f.cell i om)];exact c.zero i om
  have hB:B^k=2^(64*k):=(by rw[Nat.pow_mul];rfl);rw[show b+k+1=k+(b+1)by omega,zba,h0,Nat.zero_add,Nat.zero_add,o,hB,I.out,Nat.pow_add,Nat.mul_left_comm]
 have HV:Hid _:=U;clear U o c p t r f;have S:(b:Int)+(k:Int)+1=((b+k+1:Nat):Int):=om;have C:=zbs A (some ⟨w.heap.size,0,none⟩) w.heap.size 0 (b+k+1) (b+k+1) (b+k+1) (Sl.mk _ _ _) (Nat.le_refl _) l l D;rw[←S]at C;clear S;go_wp2_with (go_at_call 86;refine C.mono ?_;rintro e w' ⟨v,q,rfl,hw,H,ba,u⟩;subst hw);go_ret;rw[Nat.min_self,HV.out]at u;exact⟨_,q,rfl,E,u,H⟩
end Go.Proofs.YtjlkplidpdhgbaaGreatDoor
