/- A part of the proof: Pm5, W26, Pm10, Pm12, G3. -/
import Derived.Test.YtjlkplidpdhgbaaGreatDoorP00
import Derived.Test.YtjlkplidpdhgbaaGreatDoorP05
import Derived.Test.YtjlkplidpdhgbaaGreatDoorP06
import Derived.Deep.RegionHeld3
import Derived.Deep.Draws
set_option linter.all false
set_option maxRecDepth 10000
set_option maxHeartbeats 2000000
namespace Rad
theorem guess_three {P f b U3 B2:Nat} (s:f<P) (t:b<P) (m:0<B2) (r:U3 / B2≤B2+1):
 (f+P*U3) / (b+P*B2)≤U3 / B2∧U3 / B2≤(f+P*U3) / (b+P*B2)+1:=by
 have o:0<P:=om;have c:0<b+P*B2:=(by have:=Nat.mul_pos o m;omega);have d:=Nat.div_add_mod U3 B2;have u:=Nat.mod_lt U3 m;obtain⟨q,j⟩:∃q,U3 / B2=q:=⟨_,rfl⟩;rw[j]at r d⊢;constructor
 ·refine Nat.le_of_lt_succ ((Nat.div_lt_iff_lt_mul c).2 ?_);show f+P*U3<(q+1)*(b+P*B2);have l:U3+1≤(q+1)*B2:=(by rw[Nat.add_mul,Nat.mul_comm q B2];omega);have g:=Nat.mul_le_mul_left P l;rw[Nat.mul_add,Nat.mul_one]at g;have n:(q+1)*(b+P*B2)=(q+1)*b+P*((q+1)*B2):=(by rw[Nat.mul_add,Nat.mul_left_comm]);omega
 ·rcases Nat.eq_zero_or_pos q with k|k
  ·rw[k];exact Nat.zero_le _
  ·obtain⟨p,rfl⟩:∃p,q=p+1:=⟨q-1,by omega⟩;refine Nat.add_le_add_right ((Nat.le_div_iff_mul_le c).2 ?_) 1;have l:p*(b+P*B2)≤P*(p*(B2+1)):=(by rw[Nat.mul_left_comm P p];refine Nat.mul_le_mul_left p ?_;rw[Nat.mul_add];omega);have g:p*(B2+1)≤U3:=(by rw[Nat.mul_add,Nat.mul_one];rw[Nat.mul_add,Nat.mul_one,Nat.mul_comm B2 p]at d;omega);have n:=Nat.mul_le_mul_left P g;omega
theorem guess_top {β P Ul bl u0 u1 u2 y0 y1:Nat} (t:bl<P) (o:y0<β) (u:β≤2*y1+2) (n:y1≤u2) (c:Ul+P*(u0+β*(u1+β*u2))<β*(bl+P*(y0+β*y1))):
 (Ul+P*(u0+β*(u1+β*u2))) / (bl+P*(y0+β*y1))≤β-1∧β-1≤(Ul+P*(u0+β*(u1+β*u2))) / (bl+P*(y0+β*y1))+1:=by
 have b:0<bl+P*(y0+β*y1):=by
  rcases Nat.eq_zero_or_pos (bl+P*(y0+β*y1))with h|h
  ·rw[h]at c;omega
  ·exact h
 constructor
 ·have:=(Nat.div_lt_iff_lt_mul b).2 c;omega
 ·have p:β-2≤(Ul+P*(u0+β*(u1+β*u2))) / (bl+P*(y0+β*y1)):=by
   refine(Nat.le_div_iff_mul_le b).2 ?_;have g:bl+P*(y0+β*y1)≤P*(β*(y1+1)):=(by have j:y0+β*y1+1≤β*(y1+1):=(by rw[Nat.mul_add];omega);have l:=Nat.mul_le_mul_left P j;rw[Nat.mul_add]at l;omega);have q:=Nat.mul_le_mul_left (β-2) g;have r:(β-2)*(P*(β*(y1+1)))=P*β*((β-2)*(y1+1)):=(by rw[Nat.mul_left_comm,Nat.mul_left_comm (β-2) β,Nat.mul_assoc]);have m:(β-2)*(y1+1)≤β*y1:=by
    rcases Nat.lt_or_ge β 2 with h|h
    ·rw[Nat.sub_eq_zero_of_le om,Nat.zero_mul];omega
    ·obtain⟨k,rfl⟩:∃k,β=k+2:=⟨β-2,by omega⟩;rw[Nat.add_sub_cancel,Nat.mul_add,Nat.add_mul];omega
   have s:=Nat.mul_le_mul_left (P*β) m;have d:P*β*(β*y1)≤P*(u0+β*(u1+β*u2)):=(by rw[Nat.mul_assoc];refine Nat.mul_le_mul_left P ?_;have f:=Nat.mul_le_mul_left β (Nat.mul_le_mul_left β n);rw[Nat.mul_add];omega);omega
  omega
end Rad
namespace Go.Proofs.YtjlkplidpdhgbaaGreatDoor
open Go Go.Proofs Go.RowKit Go.Rad
theorem num_three (w:World) (b o m:Nat):num B w b o (m+3)=num B w b o m+B^m*(word w b (o+m)+B*(word w b (o+(m+1))+B*word w b (o+(m+2)))):=by simp only[zaj,Nat.pow_succ,Nat.mul_add,Nat.mul_assoc,Nat.add_assoc]
theorem num_two (w:World) (b o m:Nat):num B w b o (m+2)=num B w b o m+B^m*(word w b (o+m)+B*word w b (o+(m+1))):=by rw[zaj,zaj,Nat.pow_succ,Nat.mul_add];simp only[Nat.mul_assoc,Nat.add_assoc]
theorem guessWord_any (w:World) (l n cu A D C m:Nat) (hm:m+3≤35184372088832) (L:Arr .u64 B w l n (m+3)) (hb:Arr .u64 B w A D (m+2))
 (ja:9223372036854775808≤word w A (D+(m+1))) (H:num B w l n (m+3)<B*num B w A D (m+2)):
 Calls Tryz.prog 164 #[.slice (some ⟨l,n,none⟩) (m+3:Nat) cu,.slice (some ⟨A,D,none⟩) (m+2:Nat) C] w fun e w'=>∃d:Nat,e=.returned (.int .u64 d)∧(∃k,w'=w.drewN k)∧d<B∧
  num B w l n (m+3) / num B w A D (m+2)≤d∧d≤num B w l n (m+3) / num B w A D (m+2)+1:=by
 have ma:=zag L (i:=m) om;have na:=zag L (i:=m+1) om;have oa:=zag L (i:=m+2) om;have ka:=zag hb (i:=m) om;have la:=zag hb (i:=m+1) om;have J:=zat L (i:=m) om;have ia:=zat L (i:=m+1) om;have ta:=zat L (i:=m+2) om;have g:=zat hb (i:=m) om;have ha:=zat hb (i:=m+1) om;have Z:num B w l n m<B^m:=za1 (fun i hi=>L i om);have I:num B w A D m<B^m:=za1 (fun i hi=>hb i om);rw[num_three,num_two]at H⊢;generalize num B w l n m=Ul at *;generalize num B w A D m=bl at *;generalize B^m=P at *;generalize word w l (n+m)=u0 at *;generalize word w l (n+(m+1))=u1 at *;generalize word w l (n+(m+2))=u2 at *;generalize word w A (D+m)=y0 at *;generalize word w A (D+(m+1))=y1 at *;clear L hb;have e1:((m:Int)+2-1)=(m:Int)+1:=om;have e2:((m:Int)+2-2)=(m:Int):=om;by_cases hc:y1≤u2
 ·have hg:=_root_.Rad.guess_top (β:=B) (u1:=u1) I g (by unfold B;omega) hc H;have HG:Hid _:=hg;clear hg H Z I;go_enter Tryz.func164,Tryz.ntmps164;go_wp2;go_quiet (fail);go_wp2;go_ret;exact⟨18446744073709551615,rfl,⟨_,rfl⟩,by unfold B;omega,HG.out.1,HG.out.2⟩
 ·have hN:u2*B+u1<y1*B+y0:=(by have b:=Nat.mul_le_mul_right B (show u2+1≤y1 by omega);rw[Nat.add_mul]at b;omega);have q:=_root_.Rad.guess_start (h:=B) (y1:=y1) (y0:=y0) (u:=u2*B+u1) (d:=u0) (by unfold B;omega) g J hN;have T:(u2*B+u1) / y1<B:=(by refine Nat.div_lt_of_lt_mul ?_;have b:=Nat.mul_le_mul_right B (show u2+1≤y1 by omega);rw[Nat.add_mul]at b;omega);have aa:=Nat.mod_lt (u2*B+u1) (show 0<y1 by omega);have h3:=_root_.Rad.guess_three (U3:=(u2*B+u1)*B+u0) (B2:=y1*B+y0) Z I (by have:=Nat.mul_pos (show 0<y1 by omega) za2;omega)
   (by have b:=_root_.Rad.guess_lt J hN;have h2:=Nat.le_mul_of_pos_left B (show 0<y1 by omega);omega)
  have e3:u0+B*(u1+B*u2)=(u2*B+u1)*B+u0:=(by rw[Nat.mul_comm (u2*B+u1) B,Nat.mul_comm u2 B,Nat.add_comm (B*u2) u1];omega);have e4:y0+B*y1=y1*B+y0:=(by rw[Nat.mul_comm];omega);rw[e3,e4];obtain⟨N,G⟩:∃N,u2*B+u1=N:=⟨_,rfl⟩;rw[G]at hN q T aa h3⊢;obtain⟨Q0,S⟩:∃Q,N / y1=Q:=⟨_,rfl⟩;obtain⟨R0,U⟩:∃R,N%y1=R:=⟨_,rfl⟩;have CD:=fun w=>zfc u2 u1 y1 Q0 R0 om ia ha (by rw[G];exact S) (by rw[G];exact U) w;rw[S]at q T;rw[U]at q aa;have HN:Hid (N<y1*B+y0):=hN;have H3:Hid _:=h3;have ga:Hid _:=q;have qa:¬(y1:Int)≤(u2:Int):=om;have fa:Hid _:=CD;clear hN h3 q H Z I e3 e4 S U G CD;go_enter Tryz.func164,Tryz.ntmps164;go_wp2;go_quiet (fail);go_wp2;have i1:(m:Int)+2<(m:Int)+3:=om;have i2:(0:Int)≤(m:Int)+2:=om;have i3:(m:Int)+1<(m:Int)+3:=om;have i4:(0:Int)≤(m:Int)+1:=om;have i5:((m:Int)+2).toNat=m+2:=om;have i6:((m:Int)+1).toNat=m+1:=om;have i7:IntKind.i64.wrap ((m:Int)+1)=(m:Int)+1:=(by rw[IntKind.wrap_i64];omega);have i8:(m:Int)+1<(m:Int)+1+2:=om;go_region_held3 (fun w'=>w'.cell? ⟨l,n+(m+1),none⟩=some (.int .u64 u1)∧w'.cell? ⟨l,n+(m+2),none⟩=some (.int .u64 u2)) (go_keep)
   (first
    |(go_at_call 149;refine(fa.out _).mono ?_;rintro e ua ⟨rfl,k,rfl⟩))
  go_wp2;clear i1 i2 i3 i4 i5 i6 i7 i8
  rename_i hHeld
  clear hHeld;go_loopw [8,9] (fun d r wr=>∃d' r' j:Nat,d=.int .u64 (d':Int)∧r=.int .u64 (r':Int)∧wr=w.drewN j∧d'<B∧r'<B∧_root_.Rad.Guess B y1 y0 N u0 d' r') (fun d _ _=>(intOf d).toNat)
  case atStart=>exact⟨Q0,R0,_,rfl,rfl,rfl,T,by omega,ga.out⟩
  case round=>
   obtain⟨d,r,j,rfl,rfl,rfl,hd,hr,hg⟩:=hrel;have hz:d*y0<B*B:=Nat.mul_lt_mul'' hd g;have da:=hi_lt hz;have ea:=zch (d*y0);have y:=zf1 (d*y0);have E:=mul64 d y0 hd g (w.drewN j);obtain⟨z,Y⟩:∃z,d*y0=z:=⟨_,rfl⟩;rw[Y]at da ea y E;obtain⟨zl,O⟩:∃z',lo z=z':=⟨_,rfl⟩;obtain⟨c,M⟩:∃z',hi z=z':=⟨_,rfl⟩;rw[O]at ea y E;rw[M]at da y E;have HG:Hid (_root_.Rad.Guess B y1 y0 N u0 d r):=hg;have HZ:Hid (d*y0=z):=Y;have HS:Hid (zl+B*c=z):=y;clear hg Y y hz O M;have p:z≤B*r+u0→(Ul+P*(N*B+u0)) / (bl+P*(y1*B+y0))≤d∧d≤(Ul+P*(N*B+u0)) / (bl+P*(y1*B+y0))+1:=fun h=>by have b:=HG.out.done (by have:=HN.out;omega) (by rw[HZ.out];exact h);rw[b];exact H3.out
   have HE:Hid _:=p;clear p;by_cases c1:c<r
   ·have k1:(c:Int)<(r:Int):=om;have s:z≤B*r+u0:=(by have b:=Nat.mul_le_mul_left B (show c+1≤r from c1);rw[Nat.mul_add]at b;have:=HS.out;omega);have o:Hid _:=HE.out s;clear s c1;go_wp2_with (go_at_call 85;refine E.mono ?_;rintro e w' ⟨rfl,x⟩;subst x);go_ret;exact⟨d,rfl,⟨_,rfl⟩,hd,o.out.1,o.out.2⟩
   ·have k1:¬(c:Int)<(r:Int):=om;by_cases c2:c=r∧zl≤u0
    ·obtain⟨rfl,c2⟩:=c2;have k2:(zl:Int)≤(u0:Int):=om;have s:z≤B*c+u0:=(by have:=HS.out;omega);have o:Hid _:=HE.out s;clear s c1 c2;go_wp2_with (go_at_call 85;refine E.mono ?_;rintro e w' ⟨rfl,x⟩;subst x);go_ret;exact⟨d,rfl,⟨_,rfl⟩,hd,o.out.1,o.out.2⟩
    ·have ba:B*r+u0<z:=by
      have:=HS.out;by_cases h0:c=r
      ·subst h0;omega
      ·have b:=Nat.mul_le_mul_left B (show r+1≤c by omega);rw[Nat.mul_add]at b;have:=J;omega
     have X:=HG.out.step J HN.out (.inr (by rw[HZ.out];exact ba));have ra:=X.1;have F:Hid _:=X.2;have cs:=HG.out;obtain⟨d1,rfl⟩:∃d1,d=d1+1:=⟨d-1,by omega⟩;have e9:((d1+1:Nat):Int)-1=(d1:Int):=om;have sa:((d1+1:Nat):Int)=(d1:Int)+1:=om;have pa:IntKind.u64.wrap (d1:Int)=(d1:Int):=zcq d1 (by unfold B at hd;omega);clear X ba cs;have ca:hi (r+y1)≤1:=(by unfold hi B at *;omega);have C:=zf1 (r+y1);have cl:=zch (r+y1);by_cases h0:c=r
     ·have k2:(c:Int)=(r:Int):=om;have k3:¬(zl:Int)≤(u0:Int):=om;subst h0;rcases(show hi (c+y1)=0∨hi (c+y1)=1 by omega)with b|b
      ·have f:lo (c+y1)=c+y1:=(by rw[b]at C;omega);have AD:∀w,(callFunc 131 #[.int .u64 c,.int .u64 y1,.int .u64 0]).run Tryz.prog w=.ok (.value (.tuple #[.int .u64 ((c+y1:Nat):Int),.int .u64 0])) w:=fun w=>by have:=zef c y1 w;rw[b,f]at this;exact this
       have W:c+y1<B:=(by rw[←f];exact cl);clear ca C cl b f;go_wp2_with (go_at_call 85;refine E.mono ?_;rintro e w' ⟨rfl,x⟩;subst x);go_roundw
       case rel=>exact⟨d1,c+y1,j,by go_num,by go_num,rfl,by omega,W,F.out⟩
       case measure=>simp[intOf]
      ·have AD:∀w,(callFunc 131 #[.int .u64 c,.int .u64 y1,.int .u64 0]).run Tryz.prog w=.ok (.value (.tuple #[.int .u64 ((lo (c+y1):Nat):Int),.int .u64 1])) w:=fun w=>by have:=zef c y1 w;rw[b]at this;exact this
       have t:=F.out.over (by have:=HN.out;omega) g (by show d1≤B;omega) (by rw[b]at C;omega);have V:=H3.out;rw[←t]at V;have o:Hid _:=V;clear ca C cl b t V;go_wp2_with (go_at_call 85;refine E.mono ?_;rintro e w' ⟨rfl,x⟩;subst x);go_ret;exact⟨d1,zb8 (by first|rfl|omega),⟨_,rfl⟩,by omega,o.out.1,o.out.2⟩
     ·have k2:¬(c:Int)=(r:Int):=om;clear c2;rcases(show hi (r+y1)=0∨hi (r+y1)=1 by omega)with b|b
      ·have f:lo (r+y1)=r+y1:=(by rw[b]at C;omega);have AD:∀w,(callFunc 131 #[.int .u64 r,.int .u64 y1,.int .u64 0]).run Tryz.prog w=.ok (.value (.tuple #[.int .u64 ((r+y1:Nat):Int),.int .u64 0])) w:=fun w=>by have:=zef r y1 w;rw[b,f]at this;exact this
       have W:r+y1<B:=(by rw[←f];exact cl);clear ca C cl b f;go_wp2_with (go_at_call 85;refine E.mono ?_;rintro e w' ⟨rfl,x⟩;subst x);go_roundw
       case rel=>exact⟨d1,r+y1,j,by go_num,by go_num,rfl,by omega,W,F.out⟩
       case measure=>simp[intOf]
      ·have AD:∀w,(callFunc 131 #[.int .u64 r,.int .u64 y1,.int .u64 0]).run Tryz.prog w=.ok (.value (.tuple #[.int .u64 ((lo (r+y1):Nat):Int),.int .u64 1])) w:=fun w=>by have:=zef r y1 w;rw[b]at this;exact this
       have t:=F.out.over (by have:=HN.out;omega) g (by show d1≤B;omega) (by rw[b]at C;omega);have V:=H3.out;rw[←t]at V;have o:Hid _:=V;clear ca C cl b t V;go_wp2_with (go_at_call 85;refine E.mono ?_;rintro e w' ⟨rfl,x⟩;subst x);go_ret;exact⟨d1,zb8 (by first|rfl|omega),⟨_,rfl⟩,by omega,o.out.1,o.out.2⟩
end Go.Proofs.YtjlkplidpdhgbaaGreatDoor
namespace Rad
structure TInv (X Y A0 B0 a b p q r s u v σ:Int):Prop where
 sg:σ=1∨σ= -1
 ea:a= -σ*(r*A0-s*B0)
 eb:b=σ*(u*A0-v*B0)
 det:r*v-s*u= -σ
 ba:b≤a
 b0:0≤b
 p0:0≤p
 q0:0≤q
 r0:0≤r
 s0:0≤s
 u0:0≤u
 v1:1≤v
 sv:s≤v
 uv:u≤v
 ru:r+u≤s+v
 pm:p≤4294967296
 qm:q≤4294967296
 rm:r≤4294967296
 sm:s≤4294967296
 st:(p=0∧q=0∧r=1∧s=0∧u=0∧v=1∧σ= -1)∨(p=1∧q=0∧r=0∧s=1∧σ=1)∨
  (1≤q∧1≤s∧p*s-q*r=σ∧0<σ*(s*Y-r*X)∧σ*(s*Y-r*X)<σ*(p*X-q*Y)∧σ*(p*X-q*Y)≤Y∧p≤r∧q≤s∧r≤u)
theorem TInv.start {X Y c b:Int} (h:b≤c) (d:0≤b):TInv X Y c b c b 0 0 1 0 0 1 (-1):=by constructor <;> first|omega|simp
theorem TInv.cof {X Y A0 B0 a b p q r s u v σ:Int} (h:TInv X Y A0 B0 a b p q r s u v σ):v*a+s*b=A0:=by have c:=h.ea;have d:=h.eb;have f:=h.det;rcases h.sg with rfl|rfl <;> grind
theorem mul_le_of {a b c d:Int} (f:a≤b) (g:c≤d) (j:0≤a) (k:0≤d):a*c≤b*d:=by refine Int.le_trans (Int.mul_le_mul_of_nonneg_left g j) (Int.mul_le_mul_of_nonneg_right f k)
theorem TInv.vsmall {X Y A0 B0 a b p q r s u v σ:Int} (h:TInv X Y A0 B0 a b p q r s u v σ) (o:A0<18446744073709551616) (f:v≤b):v<4294967296:=by have g:=h.cof;have j:=h.v1;have k:=h.ba;have d:=h.s0;have l:v*v≤v*a:=Int.mul_le_mul_of_nonneg_left om om;have m:0≤s*b:=Int.mul_nonneg d om;refine Int.not_le.1 fun c=>?_;have n:4294967296*4294967296≤v*v:=mul_le_of c c dd om;omega
theorem err_lo {u v x0 y0 U σ:Int} (c:σ=1∨σ= -1) (b:0≤u) (k:u≤v) (d:0≤x0) (f:x0<U) (g:0≤y0) (j:y0<U): -(v*(U-1))≤σ*(u*x0-v*y0):=by have l:u*x0≤v*(U-1):=mul_le_of k om b om;have m:v*y0≤v*(U-1):=Int.mul_le_mul_of_nonneg_left om om;have n:0≤u*x0:=Int.mul_nonneg b d;have o:0≤v*y0:=Int.mul_nonneg om g;rcases c with rfl|rfl <;> omega
theorem TInv.step {X Y A0 B0 a b p q r s u v σ U x0 y0 k:Int} (h:TInv X Y A0 B0 a b p q r s u v σ) (H:A0<18446744073709551616)
 (t:X=A0*U+x0) (x:Y=B0*U+y0) (B:0≤x0) (g:x0<U) (C:0≤y0) (j:y0<U)
 (n:v≤b) (D:s+v≤a-b) (y:k=a / b):TInv X Y A0 B0 b (a-k*b) r s u v (r+k*u) (s+k*v) (-σ):=by
 have hv:=h.vsmall H n;have h0:=h.v1;have c:0<b:=om;have f:1≤k:=(by rw[y];exact(Int.le_ediv_iff_mul_le c).2 (by have:=h.ba;omega));have A:0≤a-k*b∧a-k*b≤b:=(by have e:=Int.emod_add_mul_ediv a b;have F:=Int.emod_nonneg a (show b≠0 by omega);have G:=Int.emod_lt_of_pos a c;rw[←y,Int.mul_comm]at e;omega);have J:0≤k*u:=Int.mul_nonneg om h.u0;have L:v≤k*v:=(by have:=Int.mul_le_mul_of_nonneg_right f (show 0≤v by omega);omega);have z:u≤k*u:=(by have:=Int.mul_le_mul_of_nonneg_right f h.u0;omega);have I:k*u-u≤k*v-v:=(by have:=Int.mul_le_mul_of_nonneg_left h.uv (show 0≤k-1 by omega);rw[Int.sub_mul,Int.sub_mul]at this;omega);obtain⟨R,o,l,E,Z,W,p0,q0,M,P,u0,v1,sv,V,O,pm,qm,N,S,T⟩:=h;have hU:0<U:=om;have F:=err_lo R u0 V B g C j;have G: -((s+v)*(U-1))≤ -σ*((r+u)*x0-(s+v)*y0):=err_lo om om O B g C j;have e3:v*U≤b*U:=Int.mul_le_mul_of_nonneg_right n om;have e4:(s+v)*U≤(a-b)*U:=Int.mul_le_mul_of_nonneg_right D om;have i1:σ*(u*X-v*Y)=b*U+σ*(u*x0-v*y0):=(by rw[l,t,x];grind);have i2: -σ*(r*X-s*Y)-σ*(u*X-v*Y)=(a-b)*U+ -σ*((r+u)*x0-(s+v)*y0):=(by rw[o,l,t,x];grind);have i3:v*U-v*(U-1)=v:=(by grind);have i4:(s+v)*U-(s+v)*(U-1)=s+v:=(by grind);refine⟨by omega,?_,?_,?_,A.2,A.1,M,P,u0,by omega,by omega,by omega,by omega,by omega,by omega,N,S,by omega,by omega,?_⟩
 ·rw[l];grind
 ·rw[o,l];grind
 ·grind
 ·have m: -σ*(v*Y-u*X)=σ*(u*X-v*Y):=(by grind);rcases T with⟨rfl,rfl,rfl,rfl,rfl,rfl,rfl⟩|⟨rfl,rfl,rfl,rfl,rfl⟩|⟨q1,s1,d,y1,y2,y3,z1,z2,z3⟩
  ·refine .inr (.inl ⟨rfl,rfl,rfl,rfl,rfl⟩)
  ·refine .inr (.inr ⟨by omega,by omega,by grind,?_,?_,by grind,by omega,by omega,by omega⟩)
   ·rw[m];omega
   ·rw[m];omega
  ·refine .inr (.inr ⟨by omega,by omega,by grind,?_,?_,by grind,by omega,by omega,by omega⟩)
   ·rw[m];omega
   ·rw[m];omega
theorem TInv.fits2 {X Y A0 B0 a b p q r s u v σ k:Int} (h:TInv X Y A0 B0 a b p q r s u v σ) (f:0<b) (d:k=a / b):s+k*v≤A0∧r+k*u≤s+k*v∧k*v≤A0∧k*u≤A0∧0≤k*u∧0≤k*v∧k*b≤a∧1≤k:=by have n:=h.cof;have c:1≤k:=(by rw[d];exact(Int.le_ediv_iff_mul_le f).2 (by have:=h.ba;omega));have e:=Int.emod_add_mul_ediv a b;have l:=Int.emod_nonneg a (show b≠0 by omega);rw[←d,Int.mul_comm]at e;have m:=h.v1;have o:=h.s0;have x:(s+k*v)*b≤A0:=(by have:v*(k*b)≤v*a:=Int.mul_le_mul_of_nonneg_left om om;grind);have j:v≤k*v:=(by have:=Int.mul_le_mul_of_nonneg_right c (show 0≤v by omega);omega);have y:(s+k*v)*1≤(s+k*v)*b:=Int.mul_le_mul_of_nonneg_left om om;have g:k*u-u≤k*v-v:=(by have:=Int.mul_le_mul_of_nonneg_left h.uv (show 0≤k-1 by omega);rw[Int.sub_mul,Int.sub_mul]at this;omega);have t:0≤k*u:=Int.mul_nonneg om h.u0;have:=h.ru;have:=h.r0;have:=h.uv;omega
inductive TurnOk (X Y p q r s:Nat) (odd:Bool):Prop
 |none (h:q=0)
 |mk (hq:0<q) (hb:p≤4294967296∧q≤4294967296∧r≤4294967296∧s≤4294967296) (x y:Nat)
  (e:odd=false→p*X=q*Y+x∧s*Y=r*X+y∧p*s=q*r+1)
  (o:odd=true→q*Y=p*X+x∧r*X=s*Y+y∧q*r=p*s+1)
  (h0:0<y) (h1:y<x) (h2:x≤Y) (pr:p≤r) (qs:q≤s)
theorem TInv.done {X Y p q r s:Nat} {A0 B0 a b u v σ:Int} {odd:Bool} (g:σ=if odd then -1 else 1) (h:TInv X Y A0 B0 a b p q r s u v σ):TurnOk X Y p q r s odd:=by
 obtain⟨I,y,z,j,x,t,A,C,E,H,u0,N,L,M,G,B,D,F,J,o⟩:=h;rcases o with⟨-,h,-⟩|⟨-,h,-⟩|⟨q1,s1,d,y1,y2,y3,z1,z2,-⟩
 ·exact .none om
 ·exact .none om
 ·have k:((p*X:Nat):Int)=(p:Int)*X:=Int.natCast_mul ..;have l:((q*Y:Nat):Int)=(q:Int)*Y:=Int.natCast_mul ..;have m:((r*X:Nat):Int)=(r:Int)*X:=Int.natCast_mul ..;have n:((s*Y:Nat):Int)=(s:Int)*Y:=Int.natCast_mul ..;have c:((p*s:Nat):Int)=(p:Int)*s:=Int.natCast_mul ..;have f:((q*r:Nat):Int)=(q:Int)*r:=Int.natCast_mul ..;rw[←k,←l,←m,←n]at *;rw[←c,←f]at d;cases odd
  ·have:σ=1:=(by simpa using g);subst this;refine .mk om om (p*X-q*Y) (s*Y-r*X) (fun _=>by omega) (fun h=>by cases h) om om om om om
  ·have:σ= -1:=(by simpa using g);subst this;refine .mk om om (q*Y-p*X) (r*X-s*Y) (fun h=>by cases h) (fun _=>by omega) om om om om om
theorem top_split {X low P x1 x2 H G β:Nat} (j:X=low+P*(x2+β*x1)) (k:low<P) (b:H*G=β) (g:0<G):
 X=(x1*H+x2 / G)*(P*G)+(low+P*(x2%G))∧low+P*(x2%G)<P*G:=by
 have e:=Nat.div_add_mod x2 G;have c:(x1*H+x2 / G)*(P*G)=P*(β*x1)+P*(G*(x2 / G)):=by
  rw[Nat.add_mul,←b];congr 1
  ·simp only[Nat.mul_comm,Nat.mul_left_comm]
  ·simp only[Nat.mul_comm,Nat.mul_left_comm]
 refine⟨?_,?_⟩
 ·rw[c,j]
  conv=>lhs;rw[←e]
  simp only[Nat.mul_add];omega
 ·have d:x2%G+1≤G:=Nat.mod_lt _ g;have f:=Nat.mul_le_mul_left P d;rw[Nat.mul_add]at f;omega
theorem lead_lf {X Y lx ly W b y1:Nat} (g:X=lx+W*b) (j:Y=ly+W*y1) (f:lx<W) (h:Y≤X):y1≤b:=by refine Nat.le_of_not_lt fun c=>?_;have d:=Nat.mul_le_mul_left W (show b+1≤y1 from c);rw[Nat.mul_add]at d;omega
theorem lead_lf' {X Y x0 y0 U c d:Nat} (f:X=c*U+x0) (g:Y=d*U+y0) (b:x0<U) (h:Y≤X):d≤c:=by
 refine lead_lf (lx:=x0) (ly:=y0) (W:=U) (X:=X) (Y:=Y) ?_ ?_ b h
 ·rw[f,Nat.mul_comm];omega
 ·rw[g,Nat.mul_comm];omega
structure TN (X Y A0 B0 a b p q r s u v:Nat) (odd:Bool):Prop where
 inv:TInv X Y A0 B0 a b p q r s u v (if odd then -1 else 1)
 A:A0<18446744073709551616
 a1:1≤a
 ex:∃U x0 y0:Nat,X=A0*U+x0∧Y=B0*U+y0∧x0<U∧y0<U
theorem TN.facts {X Y d f a b p q r s u v:Nat} {odd:Bool} (h:TN X Y d f a b p q r s u v odd):b≤a∧a<18446744073709551616∧1≤v∧r<4294967297∧s<4294967297∧(v≤b→s+v<18446744073709551616∧v<4294967296)∧v<18446744073709551616∧u<18446744073709551616:=by have c:=h.inv;have A:=h.A;have k:=h.a1;have l:=c.ba;have m:=c.v1;have n:=c.rm;have o:=c.sm;have t:=c.cof;have g:(a:Int)*1≤a*v:=Int.mul_le_mul_of_nonneg_left om om;have x:0≤(s:Int)*b:=Int.mul_nonneg om om;have z:(v:Int)*1≤v*a:=Int.mul_le_mul_of_nonneg_left om om;rw[Int.mul_comm (a:Int) v]at g;have j:=c.uv;refine⟨by omega,by omega,by omega,by omega,by omega,fun B=>?_,by omega,by omega⟩;have y:=c.vsmall om om;omega
theorem TN.step {X Y o t a b p q r s u v:Nat} {odd:Bool} (h:TN X Y o t a b p q r s u v odd) (g:v≤b) (j:s+v≤a-b):
 TN X Y o t b (a%b) r s u v (r+a / b*u) (s+a / b*v) (!odd)∧a / b*b≤a∧a-a / b*b=a%b∧a%b<b∧r+a / b*u<18446744073709551616∧s+a / b*v<18446744073709551616∧
  a / b*u<18446744073709551616∧a / b*v<18446744073709551616∧a / b<18446744073709551616:=by
 have I:=h.facts;obtain⟨c,A,O,U,x0,y0,y,z,M,N⟩:=h;have L:=c.v1;have G:=c.ba;have d:0<b:=om;obtain⟨k,m⟩:∃k,a / b=k:=⟨_,rfl⟩;have f:(k:Int)=(a:Int) / (b:Int):=(by rw[←m];exact Int.natCast_ediv a b);have B:=c.step (U:=U) (x0:=x0) (y0:=y0) (k:=k) om (by rw[y];simp) (by rw[z];simp) om om om om om om f;have H:=c.fits2 (k:=k) om f;have l:=Nat.div_add_mod a b;have n:=Nat.mod_lt a d;rw[m,Nat.mul_comm]at l;have g:((k*u:Nat):Int)=(k:Int)*u:=Int.natCast_mul ..;have j:((k*v:Nat):Int)=(k:Int)*v:=Int.natCast_mul ..;have x:((k*b:Nat):Int)=(k:Int)*b:=Int.natCast_mul ..;rw[←g,←j,←x]at H;rw[←g,←j,←x]at B;have J:k≤k*b:=Nat.le_mul_of_pos_right k d;have C:((a%b:Nat):Int)=(a:Int)-((k*b:Nat):Int):=om;have D:((r+k*u:Nat):Int)=(r:Int)+((k*u:Nat):Int):=om;have E:((s+k*v:Nat):Int)=(s:Int)+((k*v:Nat):Int):=om;rw[m];refine⟨⟨?_,A,d,U,x0,y0,y,z,M,N⟩,by omega,by omega,n,by omega,by omega,by omega,by omega,by omega⟩;rw[C,D,E];have F:(if (!odd)=true then -1 else 1:Int)= -(if odd=true then -1 else 1:Int):=(by cases odd <;> rfl);rw[F];exact B
theorem TN.done {X Y c d a b p q r s u v:Nat} {odd:Bool} (h:TN X Y c d a b p q r s u v odd):TurnOk X Y p q r s odd:=h.inv.done rfl
theorem TN.start {X Y b c U x0 y0:Nat} (d:X=b*U+x0) (f:Y=c*U+y0) (g:x0<U) (l:y0<U) (h:Y≤X) (k:b<18446744073709551616) (j:0<b):
 TN X Y b c b c 0 0 1 0 0 1 true:=
 ⟨TInv.start (by have:=lead_lf' d f g h;omega) om,k,j,U,x0,y0,d,f,g,l⟩
end Rad
namespace Go.Proofs.YtjlkplidpdhgbaaGreatDoor
open Go Go.Proofs Go.RowKit Go.Rad
open _root_.Rad (TN TurnOk)
theorem TB.set0 {w:World} {b p q r s:Nat} {odd:Bool} (h:TB w b p q r s odd) (c:Nat):TB (w.setCell ⟨b,0,none⟩ (.int .u64 (c:Int))) b c q r s odd:=⟨by simp;exact h.lt,(zar h.c0),(zaa (.inr om)).trans h.c1,(zaa (.inr om)).trans h.c2,(zaa (.inr om)).trans h.c3,(zaa (.inr om)).trans h.c4,(World.frozen?_setCell _ _ _ _).trans h.f0,(World.frozen?_setCell _ _ _ _).trans h.f1,(World.frozen?_setCell _ _ _ _).trans h.f2,(World.frozen?_setCell _ _ _ _).trans h.f3,(World.frozen?_setCell _ _ _ _).trans h.f4⟩
theorem TB.set1 {w:World} {b p q r s:Nat} {odd:Bool} (h:TB w b p q r s odd) (c:Nat):TB (w.setCell ⟨b,1,none⟩ (.int .u64 (c:Int))) b p c r s odd:=⟨by simp;exact h.lt,(zaa (.inr om)).trans h.c0,(zar h.c1),(zaa (.inr om)).trans h.c2,(zaa (.inr om)).trans h.c3,(zaa (.inr om)).trans h.c4,(World.frozen?_setCell _ _ _ _).trans h.f0,(World.frozen?_setCell _ _ _ _).trans h.f1,(World.frozen?_setCell _ _ _ _).trans h.f2,(World.frozen?_setCell _ _ _ _).trans h.f3,(World.frozen?_setCell _ _ _ _).trans h.f4⟩
theorem TB.set2 {w:World} {b p q r s:Nat} {odd:Bool} (h:TB w b p q r s odd) (c:Nat):TB (w.setCell ⟨b,2,none⟩ (.int .u64 (c:Int))) b p q c s odd:=⟨by simp;exact h.lt,(zaa (.inr om)).trans h.c0,(zaa (.inr om)).trans h.c1,(zar h.c2),(zaa (.inr om)).trans h.c3,(zaa (.inr om)).trans h.c4,(World.frozen?_setCell _ _ _ _).trans h.f0,(World.frozen?_setCell _ _ _ _).trans h.f1,(World.frozen?_setCell _ _ _ _).trans h.f2,(World.frozen?_setCell _ _ _ _).trans h.f3,(World.frozen?_setCell _ _ _ _).trans h.f4⟩
theorem TB.set3 {w:World} {b p q r s:Nat} {odd:Bool} (h:TB w b p q r s odd) (c:Nat):TB (w.setCell ⟨b,3,none⟩ (.int .u64 (c:Int))) b p q r c odd:=⟨by simp;exact h.lt,(zaa (.inr om)).trans h.c0,(zaa (.inr om)).trans h.c1,(zaa (.inr om)).trans h.c2,(zar h.c3),(zaa (.inr om)).trans h.c4,(World.frozen?_setCell _ _ _ _).trans h.f0,(World.frozen?_setCell _ _ _ _).trans h.f1,(World.frozen?_setCell _ _ _ _).trans h.f2,(World.frozen?_setCell _ _ _ _).trans h.f3,(World.frozen?_setCell _ _ _ _).trans h.f4⟩
theorem TB.set4 {w:World} {b p q r s:Nat} {odd:Bool} (h:TB w b p q r s odd) (c:Bool):TB (w.setCell ⟨b,4,none⟩ (.bool c)) b p q r s c:=⟨by simp;exact h.lt,(zaa (.inr om)).trans h.c0,(zaa (.inr om)).trans h.c1,(zaa (.inr om)).trans h.c2,(zaa (.inr om)).trans h.c3,(zar h.c4),(World.frozen?_setCell _ _ _ _).trans h.f0,(World.frozen?_setCell _ _ _ _).trans h.f1,(World.frozen?_setCell _ _ _ _).trans h.f2,(World.frozen?_setCell _ _ _ _).trans h.f3,(World.frozen?_setCell _ _ _ _).trans h.f4⟩
theorem TB.other {w:World} {b p q r s:Nat} {odd:Bool} (h:TB w b p q r s odd) {c i:Nat} (d:b≠c) (v:Value):TB (w.setCell ⟨c,i,none⟩ v) b p q r s odd:=
 ⟨by simp;exact h.lt,(zaa (.inl d)).trans h.c0,(zaa (.inl d)).trans h.c1,(zaa (.inl d)).trans h.c2,(zaa (.inl d)).trans h.c3,(zaa (.inl d)).trans h.c4,
  (World.frozen?_setCell _ _ _ _).trans h.f0,(World.frozen?_setCell _ _ _ _).trans h.f1,(World.frozen?_setCell _ _ _ _).trans h.f2,(World.frozen?_setCell _ _ _ _).trans h.f3,(World.frozen?_setCell _ _ _ _).trans h.f4⟩
inductive TurnPost (w:World) (X Y:Nat) (e:Ending) (w':World):Prop
 |mk (p q r s:Nat) (odd:Bool) (he:e=.returned (.agg #[.int .u64 p,.int .u64 q,.int .u64 r,.int .u64 s,.bool odd])) (hb:Below w.heap.size w w') (ht:TurnOk X Y p q r s odd)
theorem belN (w:World) (n b:Nat):Below b w (w.drewN n):=⟨rfl,rfl,rfl,Nat.le_refl _,fun _ _=>rfl⟩
theorem zgg (w:World) (I R cx l oy cy m X Y:Nat) (hx:Arr .u64 B w I R (m+2)) (hy:Arr .u64 B w l oy (m+2)) (hX:num B w I R (m+2)=X) (hY:num B w l oy (m+2)=Y)
 (y:word w I (R+(m+1))≠0) (da:Y≤X) (hm:m+2≤35184372088832) (za:m+2≤cx) (ab:m+2≤cy):
 Calls Tryz.prog 150 #[.slice (some ⟨I,R,none⟩) (m+2:Nat) cx,.slice (some ⟨l,oy,none⟩) (m+2:Nat) cy] w fun e w'=>TurnPost w X Y e w':=by
 have ha:=zag hx (i:=m) om;have ia:=zag hx (i:=m+1) om;have ja:=zag hy (i:=m) om;have ka:=zag hy (i:=m+1) om;have ea:=zat hx (i:=m) om;have sa:=zat hx (i:=m+1) om;have ta:=zat hy (i:=m) om;have ib:=zat hy (i:=m+1) om;have qa:num B w I R m<B^m:=za1 (fun i hi=>hx i om);have ra:num B w l oy m<B^m:=za1 (fun i hi=>hy i om);have V:=hx.lt om;have Z:=hy.lt om;rw[num_two]at hX hY;generalize num B w I R m=Xl at *;generalize num B w l oy m=Yl at *;generalize B^m=P at *;generalize word w I (R+m)=S at *;generalize word w I (R+(m+1))=z at *;generalize word w l (oy+m)=y2 at *;generalize word w l (oy+(m+1))=y1 at *;clear hx hy;have CL:=fun wx=>zce z sa wx;have e1:((m:Int)+2-1)=(m:Int)+1:=om;have e2:((m:Int)+2-2)=(m:Int):=om;go_enter Tryz.func150,Tryz.ntmps150;go_upto_region 1 with fail;refine zac (fun F=>Below w.heap.size w F∧TB F w.heap.size 0 0 0 0 false) ⟨zau _ _,TB.mk0 _ _ _ _ _ _ _⟩ ?_;rintro F ⟨U,j⟩;have M:∀b i v,w.cell? ⟨b,i,none⟩=some v→b<w.heap.size→F.cell? ⟨b,i,none⟩=some v:=fun b i v e hb=>(World.cell?_of_block (U.block b hb)).trans e;have db:=M _ _ _ ha V;have eb:=M _ _ _ ia V;have fb:=M _ _ _ ja Z;have gb:=M _ _ _ ka Z;have f:Hid (TB F w.heap.size 0 0 0 0 false):=j;have fa:Hid (Below w.heap.size w F):=U;clear M ha ia ja ka U j;go_wp2_with (go_at_call 135;fail);refine(CL _).mono ?_;rintro e t ⟨L,rfl,hw,g,ya⟩;subst t;clear CL;have hL:0<L∧2^(L-1)≤z∧z<2^L:=by
  rcases g with⟨h0,_⟩|h0
  ·exact absurd h0 y
  ·exact h0
 obtain⟨h,hh⟩:∃h,64-L=h:=⟨_,rfl⟩;have x:64-h=L:=om;have D:2^h*2^L=B:=(by rw[←Nat.pow_add,show h+L=64 by omega];rfl);rw[hh];obtain⟨sx,ua⟩:=_root_.Rad.top_split (G:=2^L) (H:=2^h) hX.symm qa D (Nat.pow_pos dd);obtain⟨sy,va⟩:=_root_.Rad.top_split (G:=2^L) (H:=2^h) hY.symm ra D (Nat.pow_pos dd);have oa:h<64:=om;have qx:S / 2^L<2^h:=(by rw[←x];exact zd5 om ea);have qy:y2 / 2^L<2^h:=(by rw[←x];exact zd5 om ta);have dx:z*2^h<B:=(by rw[←D,Nat.mul_comm];exact Nat.mul_lt_mul_of_pos_left hL.2.2 (Nat.pow_pos dd));have pa:y1≤z:=by
  refine _root_.Rad.lead_lf (X:=X) (Y:=Y) (lx:=Xl+P*S) (ly:=Yl+P*y2) (W:=P*B) ?_ ?_ ?_ da
  ·rw[←hX,Nat.mul_add,Nat.mul_assoc];omega
  ·rw[←hY,Nat.mul_add,Nat.mul_assoc];omega
  ·have:=Nat.mul_le_mul_left P (show S+1≤B from ea);rw[Nat.mul_add]at this;omega
 have dy:y1*2^h<B:=Nat.lt_of_le_of_lt (Nat.mul_le_mul_right _ pa) dx;have ex:=shl_or (d:=z) (s:=h) (c:=S / 2^L) om qx;have ey:=shl_or (d:=y1) (s:=h) (c:=y2 / 2^L) om qy;have kx:=shl_or_lt (d:=z) (s:=h) (c:=S / 2^L) om qx;have rx:lo (z*2^h)=z*2^h:=Nat.mod_eq_of_lt dx;have ry:lo (y1*2^h)=y1*2^h:=Nat.mod_eq_of_lt dy;rw[rx]at ex kx;rw[ry]at ey;obtain⟨A0,hA⟩:∃A0,z*2^h+S / 2^L=A0:=⟨_,rfl⟩;obtain⟨B0,J⟩:∃B0,y1*2^h+y2 / 2^L=B0:=⟨_,rfl⟩;rw[hA]at ex kx sx;rw[J]at ey sy;have hA0:0<A0:=(by rw[←hA];exact Nat.lt_of_lt_of_le (Nat.mul_pos (Nat.pos_of_ne_zero y) (Nat.pow_pos dd)) (Nat.le_add_right _ _));have HS:Hid (TN X Y A0 B0 A0 B0 0 0 1 0 0 1 true):=TN.start sx sy ua va da kx hA0;have nx:=zbn S L;have ny:=zbn y2 L;rw[←nx]at ex;rw[←ny]at ey;have EX:Hid _:=ex;have EY:Hid _:=ey;have w0:IntKind.u64.wrap (h:Int)=(h:Int):=(by rw[IntKind.wrap_u64];omega);have jb:IntKind.u64.wrap (64-(h:Int))=(L:Int):=(by rw[IntKind.wrap_u64];omega);clear sx sy ua va hX hY qa ra g hL D qx qy dx dy pa ex ey kx rx ry hA J hA0 nx ny y da ea sa ta ib;go_wp2;go_quiet (fail);rw[EX.out];go_wp2;go_quiet (fail);rw[EY.out];clear EX EY db eb fb gb;go_upto_region 5 with fail;rw[World.drewN_drewN];refine zac (fun t=>Below w.heap.size w t∧TB t w.heap.size 0 0 0 0 false) ⟨fa.out.trans (belN _ _ _),f.out.below (belN F _ F.heap.size) f.out.lt⟩ ?_;rintro t ⟨la,j⟩;clear fa f F;have f:Hid (TB t w.heap.size 0 0 0 0 false):=j;have T:Hid (Below w.heap.size w t):=la;clear j la;go_upto_region 6 with fail;refine zac (fun w3=>Below w.heap.size w w3∧TB w3 w.heap.size 0 0 0 0 false∧TB w3 t.heap.size 0 0 1 0 true∧w.heap.size≠t.heap.size) ⟨?_,?_,?_,?_⟩ ?_
 ·exact T.out.alloc T.out.size _
 ·exact f.out.below (zau t _) f.out.lt
 ·exact TB.mk0 t 0 0 1 0 true 152
 ·have ob:=f.out.lt;omega
 rintro w3 ⟨ma,j,A,o⟩;obtain⟨b9,na⟩:∃b9,t.heap.size=b9:=⟨_,rfl⟩;rw[na]at A o⊢;have nb:w.heap.size<b9:=(by have:=f.out.lt;omega);clear f T na t;have f:Hid (TB w3 w.heap.size 0 0 0 0 false):=j;have C:Hid (TB w3 b9 0 0 1 0 true):=A;have ga:Hid (Below w.heap.size w w3):=ma;clear j A ma;go_wp2;clear e1 e2 w0 jb hm za ab V Z x oa ya hh;go_loopw [7,8,10,11] (fun a7 a8 wa xa wr=>∃(a b p q r s u v:Nat) (odd:Bool),a7=.int .u64 a∧a8=.int .u64 b∧wa=.int .u64 u∧xa=.int .u64 v∧
  Hid (Below w.heap.size w wr∧TB wr w.heap.size 0 0 0 0 false∧TB wr b9 p q r s odd∧TN X Y A0 B0 a b p q r s u v odd))
  (fun _ a8 _ _ _=>(intOf a8).toNat)
 case atStart=>exact⟨_,_,_,_,_,_,_,_,_,rfl,rfl,rfl,rfl,⟨ga.out,f.out,C.out,HS.out⟩⟩
 case round=>
  clear HS f C ga;obtain⟨a,b,p,q,r,s,u,v,odd,rfl,rfl,rfl,rfl,HI⟩:=hrel;obtain⟨J,j,A,hN⟩:=HI.out;obtain⟨f1,f2,f3,f4,f5,f6,f7,f8⟩:=hN.facts;by_cases hg:v≤b∧s+v≤a-b
  ·obtain⟨E,g1,g2,g3,g4,g5,g6,g7,g8⟩:=hN.step hg.1 hg.2;obtain⟨k,hk⟩:∃k,a / b=k:=⟨_,rfl⟩;have mb:(a:Int) / (b:Int)=(k:Int):=(by rw[←hk];exact(Int.natCast_ediv a b).symm);rw[hk]at E g1 g2 g4 g5 g6 g7 g8;obtain⟨c,M⟩:∃c,a%b=c:=⟨_,rfl⟩;rw[M]at E g2 g3;have HN:Hid _:=E;have n:=hg.1;have bb:=hg.2;have h6:=f6 n;obtain⟨kb,aa⟩:∃kb,k*b=kb:=⟨_,rfl⟩;obtain⟨N,ba⟩:∃N,k*u=N:=⟨_,rfl⟩;obtain⟨O,ca⟩:∃O,k*v=O:=⟨_,rfl⟩;have cb:(k:Int)*(b:Int)=(kb:Int):=(by rw[←aa];exact(Int.natCast_mul k b).symm);have cu:(k:Int)*(u:Int)=(N:Int):=(by rw[←ba];exact(Int.natCast_mul k u).symm);have cv:(k:Int)*(v:Int)=(O:Int):=(by rw[←ca];exact(Int.natCast_mul k v).symm);rw[aa]at g1 g2;rw[ba]at g4 g6 HN;rw[ca]at g5 g7 HN;have x0:IntKind.u64.wrap (k:Int)=(k:Int):=(by rw[IntKind.wrap_u64];omega);have z:IntKind.u64.wrap (kb:Int)=(kb:Int):=(by rw[IntKind.wrap_u64];omega);have S:IntKind.u64.wrap (N:Int)=(N:Int):=(by rw[IntKind.wrap_u64];omega);have x3:IntKind.u64.wrap (O:Int)=(O:Int):=(by rw[IntKind.wrap_u64];omega);have x4:IntKind.u64.wrap ((a:Int)-(kb:Int))=(c:Int):=(by rw[IntKind.wrap_u64];omega);have x5:IntKind.u64.wrap ((r:Int)+(N:Int))=((r+N:Nat):Int):=(by rw[IntKind.wrap_u64];omega);have x6:IntKind.u64.wrap ((s:Int)+(O:Int))=((s+O:Nat):Int):=(by rw[IntKind.wrap_u64];omega);have x7:IntKind.u64.wrap ((a:Int)-(b:Int))=(a:Int)-(b:Int):=(by rw[IntKind.wrap_u64];omega);have x8:IntKind.u64.wrap ((s:Int)+(v:Int))=(s:Int)+(v:Int):=(by rw[IntKind.wrap_u64];omega);have y1:(v:Int)≤(b:Int):=om;have y2:(s:Int)+(v:Int)≤(a:Int)-(b:Int):=om;have y3:¬(b:Int)=0:=om;obtain⟨l9,c0,c1,c2,c3,c4,z0,z1,z2,z3,z4⟩:=id A;have f:Hid _:=j;have C:Hid _:=A;have HB:Hid _:=J;have lb:c<b:=g3;clear HI J j A hN E f1 f2 f3 f4 f5 f6 f7 f8 g1 g2 g3 g4 g5 g6 g7 g8 hk aa ba ca M hg n bb h6;go_wp2;refine⟨⟨b,c,r,s,u,v,r+N,s+O,!odd,rfl,rfl,(by go_num),(by go_num),⟨?_,?_,?_,HN.out⟩⟩,?_⟩
   ·have g:w.heap.size≤b9:=om;exact((((HB.out.setCell g _).setCell g _).setCell g _).setCell g _).setCell g _
   ·exact((((f.out.other o _).other o _).other o _).other o _).other o _
   ·exact((((C.out.set0 r).set2 u).set1 s).set3 v).set4 (!odd)
   ·simp only[intOf];omega
  ·have f:Hid (TB wr w.heap.size 0 0 0 0 false):=j;have HB:Hid (Below w.heap.size w wr):=J;have HD:Hid (TurnOk X Y p q r s odd):=hN.done;obtain⟨l9,c0,c1,c2,c3,c4,z0,z1,z2,z3,z4⟩:=id A;obtain⟨l4,d0,d1,d2,d3,d4,n0,n1,n2,n3,n4⟩:=id j;by_cases n:v≤b
   ·have h6:=f6 n;have x7:IntKind.u64.wrap ((a:Int)-(b:Int))=(a:Int)-(b:Int):=(by rw[IntKind.wrap_u64];omega);have x8:IntKind.u64.wrap ((s:Int)+(v:Int))=(s:Int)+(v:Int):=(by rw[IntKind.wrap_u64];omega);have y1:(v:Int)≤(b:Int):=om;have y2:¬(s:Int)+(v:Int)≤(a:Int)-(b:Int):=om;clear HI J j A hN f1 f2 f3 f4 f5 f6 f7 f8 hg n h6;go_wp2;refine bodyPost_ret (v:= .agg #[.int .u64 p,.int .u64 q,.int .u64 r,.int .u64 s,.bool odd]) rs rfl ?_;have g:w.heap.size≤w.heap.size:=Nat.le_refl _;exact .mk p q r s odd rfl (((((HB.out.setCell g _).setCell g _).setCell g _).setCell g _).setCell g _) HD.out
   ·have y1:¬(v:Int)≤(b:Int):=om;clear HI J j A hN f1 f2 f3 f4 f5 f6 f7 f8 hg n;go_wp2;refine bodyPost_ret (v:= .agg #[.int .u64 p,.int .u64 q,.int .u64 r,.int .u64 s,.bool odd]) rs rfl ?_;have g:w.heap.size≤w.heap.size:=Nat.le_refl _;exact .mk p q r s odd rfl (((((HB.out.setCell g _).setCell g _).setCell g _).setCell g _).setCell g _) HD.out
end Go.Proofs.YtjlkplidpdhgbaaGreatDoor
