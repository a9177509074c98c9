/- A part of the proof: G2, Pm10, Pm12, G3. -/
import Derived.Test.YtjlkplidpdhgbaaGreatDoorP00
import Derived.Test.YtjlkplidpdhgbaaGreatDoorP10
import Derived.Test.YtjlkplidpdhgbaaGreatDoorP04
import Derived.Test.YtjlkplidpdhgbaaGreatDoorP12
import Derived.Deep.Cut
import Derived.Deep.CutRange
import Derived.Test.YtjlkplidpdhgbaaGreatDoorP08
set_option linter.all false
set_option maxRecDepth 10000
set_option maxHeartbeats 2000000
namespace Go.Proofs.YtjlkplidpdhgbaaGreatDoor
open Go Go.Proofs Go.RowKit Go.Rad
structure TB (w:World) (b p q r s:Nat) (odd:Bool):Prop where
 lt:b<w.heap.size
 c0:w.cell? ⟨b,0,none⟩=some (.int .u64 (p:Int))
 c1:w.cell? ⟨b,1,none⟩=some (.int .u64 (q:Int))
 c2:w.cell? ⟨b,2,none⟩=some (.int .u64 (r:Int))
 c3:w.cell? ⟨b,3,none⟩=some (.int .u64 (s:Int))
 c4:w.cell? ⟨b,4,none⟩=some (.bool odd)
 f0:w.frozen? ⟨b,0,none⟩=false
 f1:w.frozen? ⟨b,1,none⟩=false
 f2:w.frozen? ⟨b,2,none⟩=false
 f3:w.frozen? ⟨b,3,none⟩=false
 f4:w.frozen? ⟨b,4,none⟩=false
theorem TB.mk0 (w:World) (p q r s:Nat) (b:Bool) (T:TypeId):TB (w.alloc (Obj.cells #[.int .u64 (p:Int),.int .u64 (q:Int),.int .u64 (r:Int),.int .u64 (s:Int),.bool b] T)) w.heap.size p q r s b:=⟨by simp,qq,qq,qq,qq,qq,qq,qq,qq,qq,qq⟩
theorem TB.below {w w':World} {b C p q r s:Nat} {c:Bool} (h:TB w b p q r s c) (d:Below C w w') (x:b<C):TB w' b p q r s c:=by
 obtain⟨lt,f,g,j,k,l,m,n,o,t,u⟩:=h;have e:=d.block b x;exact⟨Nat.lt_of_lt_of_le lt d.size,(World.cell?_of_block e).trans f,(World.cell?_of_block e).trans g,(World.cell?_of_block e).trans j,(World.cell?_of_block e).trans k,(World.cell?_of_block e).trans l,
  (World.frozen?_of_block e).trans m,(World.frozen?_of_block e).trans n,(World.frozen?_of_block e).trans o,(World.frozen?_of_block e).trans t,(World.frozen?_of_block e).trans u⟩
abbrev S2 (b c:Nat):Nat→Nat→Prop:=fun k _=>k=b∨k=c
structure MixI (w wr:World) (bx ox by' oy n p q r s:Nat) (k px qy rx sy xc yc:Nat):Prop where
 kn:k≤n
 lt:px<B∧qy<B∧rx<B∧sy<B
 c1:xc≤1
 c2:yc≤1
 chg:ChgS w wr (S2 bx by')
 ax:Arr .u64 B wr bx ox n
 ay:Arr .u64 B wr by' oy n
 ux:∀i,k≤i→word wr bx (ox+i)=word w bx (ox+i)
 uy:∀i,k≤i→word wr by' (oy+i)=word w by' (oy+i)
 ex:num B wr bx ox k+q*num B w by' oy k+B^k*px=p*num B w bx ox k+B^k*(qy+xc)
 ey:num B wr by' oy k+r*num B w bx ox k+B^k*sy=s*num B w by' oy k+B^k*(rx+yc)
theorem ma_eq (a b c:Nat):lo (a*b+c)+B*hi (a*b+c)=a*b+c:=lo_hi _
theorem mulAdd_lt {a b c:Nat} (d:a<B) (f:b<B) (g:c<B):hi (a*b+c)<B:=(mulAdd_num d f g).2.2.2
theorem MixI.step {w wr:World} {l u c x n p q r s k d f g j y z:Nat} (h:MixI w wr l u c x n p q r s k d f g j y z) (m:l≠c) (C:k<n) (W:p<B) (X:q<B) (Y:r<B) (Z:s<B)
 {a b:Nat} (G:a=word w l (u+k)) (t:b=word w c (x+k)) (D:a<B) (F:b<B):
 MixI w ((wr.setCell ⟨l,u+k,none⟩ (.int .u64 (sb (lo (p*a+d)) (lo (q*b+f)) y:Nat))).setCell ⟨c,x+k,none⟩ (.int .u64 (sb (lo (s*b+j)) (lo (r*a+g)) z:Nat)))
  l u c x n p q r s (k+1) (hi (p*a+d)) (hi (q*b+f)) (hi (r*a+g)) (hi (s*b+j)) (bw (lo (p*a+d)) (lo (q*b+f)) y) (bw (lo (s*b+j)) (lo (r*a+g)) z):=by
 obtain⟨kn,⟨S,T,U,V⟩,I,J,chg,E,H,ux,uy,L,M⟩:=h;have P:=sb_lt (lo (p*a+d)) (lo (q*b+f)) y;have R:=sb_lt (lo (s*b+j)) (lo (r*a+g)) z;have N:=sb_bw (lo_lt (p*a+d)) (lo_lt (q*b+f)) I;have O:=sb_bw (lo_lt (s*b+j)) (lo_lt (r*a+g)) J;have A:=E.set (i:=k) P;have o:Arr .u64 B (wr.setCell ⟨l,u+k,none⟩ (.int .u64 (sb (lo (p*a+d)) (lo (q*b+f)) y:Nat))) c x n:=H.set' (.inl m);refine⟨C,⟨mulAdd_lt W D S,mulAdd_lt X F T,mulAdd_lt Y D U,mulAdd_lt Z F V⟩,bw_le _ _ _,bw_le _ _ _,(chg.setB (.inl rfl) _).setB (.inr rfl) _,A.set' (.inl m.symm),o.set R,?_,?_,?_,?_⟩
 ·intro i hi;rw[word_set_other (.inl m),word_set_other (.inr om),ux i om]
 ·intro i hi;rw[word_set_other (.inr om),word_set_other (.inl m.symm),uy i om]
 ·rw[num_set_other (.inl m.symm),num_store E C,num_succ,num_succ,←G,←t,Nat.pow_succ];exact _root_.Rad.mix_word L (ma_eq p a d) (ma_eq q b f) N
 ·rw[num_store o C,num_set_other (.inl m),num_succ,num_succ,←G,←t,Nat.pow_succ];exact _root_.Rad.mix_word M (ma_eq s b j) (ma_eq r a g) O
theorem mix_any (w:World) (d m cx c o cy n p q r s:Nat) (F:Bool) (hx:Arr .u64 B w d m n) (hy:Arr .u64 B w c o n) (fx:Free w d m n) (fy:Free w c o n) (hb:d≠c)
 (ja:n≤cx) (ka:n≤cy) (ea:cy≤maxLen) (pB:p<B) (qB:q<B) (rB:r<B) (sB:s<B) (hn:0<n):
 Calls Tryz.prog 173 #[.agg #[.int .u64 p,.int .u64 q,.int .u64 r,.int .u64 s,.bool F],.slice (some ⟨d,m,none⟩) n cx,.slice (some ⟨c,o,none⟩) n cy] w fun e w'=>e=.returned (.tuple #[])∧
  ChgS w w' (S2 d c)∧Arr .u64 B w' d m n∧Arr .u64 B w' c o n∧
  (∀z,p*num B w d m n=q*num B w c o n+z→z<B^n→num B w' d m n=z)∧
  (∀z,s*num B w c o n=r*num B w d m n+z→z<B^n→num B w' c o n=z):=by
 unfold maxLen at ea;have lx:=hx.lt hn;have ly:=hy.lt hn;go_enter Tryz.func173,Tryz.ntmps173;go_upto_region 1 with fail;refine wp_world (fun j=>Below w.heap.size w j∧TB j w.heap.size p q r s F) ⟨bel1 _ _,TB.mk0 _ _ _ _ _ _ _⟩ ?_;rintro j ⟨f,T⟩;have C:=arr_below hx f;have D:=arr_below hy f;have u:Free j d m n:=fun i hi=>(World.frozen?_of_block (f.block d lx)).trans (fx i hi);have x:Free j c o n:=fun i hi=>(World.frozen?_of_block (f.block c ly)).trans (fy i hi);have V:num B j d m n=num B w d m n:=num_below hx f;have W:num B j c o n=num B w c o n:=num_below hy f;have fa:=f.size;have HN:Hid (num B j d m n=num B w d m n∧num B j c o n=num B w c o n):=⟨V,W⟩;have aa:Hid (Below w.heap.size w j):=f;have G:w.heap.size≠d∧w.heap.size≠c:=om;obtain⟨t,A⟩:∃t,w.heap.size=t:=⟨_,rfl⟩;rw[A]at T G fa lx ly⊢;have L:Hid (TB j t p q r s F):=T;have Hw:Hid (w.heap.size=t):=A;clear hx hy fx fy V W f A T;go_wp2;go_loopw [6,7,8,9,10,11,23] (fun a6 a7 a8 a9 ba ca i wr=>∃X Y Z sy xc yc k:Nat,a6=.int .u64 X∧a7=.int .u64 Y∧a8=.int .u64 Z∧a9=.int .u64 sy∧ba=.int .u64 xc∧ca=.int .u64 yc∧i=.int .i64 k∧
  MixI j wr d m c o n p q r s k X Y Z sy xc yc)
  (fun _ _ _ _ _ _ i _=>n-(intOf i).toNat)
 case atStart=>exact⟨0,0,0,0,0,0,0,rfl,rfl,rfl,rfl,rfl,rfl,rfl,by omega,⟨B_pos,B_pos,B_pos,B_pos⟩,by omega,by omega,ChgS.refl _ _,C,D,fun _ _=>rfl,fun _ _=>rfl,by simp[num_zero],by simp[num_zero]⟩
 case round=>
  obtain⟨X,Y,Z,sy,xc,yc,k,rfl,rfl,rfl,rfl,rfl,rfl,rfl,g⟩:=hrel;have hk:=g.kn;by_cases l:k<n
  ·have S:=arr_cell g.ax l;have U:=arr_cell g.ay l;have M:=g.ux k (Nat.le_refl _);have N:=g.uy k (Nat.le_refl _);have I:=arr_lt g.ax l;have J:=arr_lt g.ay l;have la:wr.frozen? ⟨d,m+k,none⟩=false:=(g.chg.free u (fun _=>by omega)) k l;have ma:wr.frozen? ⟨c,o+k,none⟩=false:=(g.chg.free x (fun _=>by omega)) k l;rw[M]at S I;rw[N]at U J;have O:∀i,wr.cell? ⟨t,i,none⟩=j.cell? ⟨t,i,none⟩:=fun i=>g.chg.cell t i L.out.lt om;have t0:=(O 0).trans L.out.c0;have t1:=(O 1).trans L.out.c1;have t2:=(O 2).trans L.out.c2;have t3:=(O 3).trans L.out.c3;obtain⟨a,ha⟩:∃a,word j d (m+k)=a:=⟨_,rfl⟩;obtain⟨b,y⟩:∃b,word j c (o+k)=b:=⟨_,rfl⟩;rw[ha]at S I;rw[y]at U J;obtain⟨l1,l2,l3,l4⟩:=g.lt;have P:=g.c1;have R:=g.c2;have HS:Hid _:=g.step hb l pB qB rB sB ha.symm y.symm I J;have M1:=mulAdd_any p a X pB I l1;have M2:=mulAdd_any q b Y qB J l2;have M3:=mulAdd_any s b sy sB J l4;have M4:=mulAdd_any r a Z rB I l3;have U1:=fun w=>sub64 (lo (p*a+X)) (lo (q*b+Y)) xc w P;have U2:=fun w=>sub64 (lo (s*b+sy)) (lo (r*a+Z)) yc w R;have ga:t≠d:=G.1;have ia:t≠c:=G.2;clear g M N O ha y l1 l2 l3 l4 P R I J u x C D;go_wp2_with (first
    |(go_at_call 104;refine(M1 _).mono ?_;rintro e w' ⟨rfl,hw⟩;subst w';clear M1)
    |(go_at_call 104;refine(M2 _).mono ?_;rintro e w' ⟨rfl,hw⟩;subst w';clear M2)
    |(go_at_call 104;refine(M3 _).mono ?_;rintro e w' ⟨rfl,hw⟩;subst w';clear M3)
    |(go_at_call 104;refine(M4 _).mono ?_;rintro e w' ⟨rfl,hw⟩;subst w';clear M4))
   go_roundw
   case rel=>exact⟨_,_,_,_,_,_,k+1,rfl,rfl,rfl,rfl,rfl,rfl,by go_num,HS.out⟩
   case measure=>simp[intOf];omega
  ·obtain rfl:k=n:=om;have HF:Hid _:=g;clear g u x C D;go_wp2;go_end0;have H:=HF.out;obtain⟨e1,e2⟩:=HN.out;have da:Below w.heap.size w j:=aa.out;refine⟨rfl,(ChgS.of_below da _).trans H.chg,H.ax,H.ay,fun z hz E=>?_,fun z hz E=>?_⟩
   ·have h:=H.ex;rw[e1,e2]at h;exact _root_.Rad.mix_end h hz (num_lt H.ax) E
   ·have h:=H.ey;rw[e1,e2]at h;exact _root_.Rad.mix_end h hz (num_lt H.ay) E
end Go.Proofs.YtjlkplidpdhgbaaGreatDoor
namespace Rad
structure TInv (X Y A0 B0 a b p q r s u v σ:Int):Prop where
 sg:σ=1∨σ= -1
 ea:a= -σ*(r*A0-s*B0)
 eb:b=σ*(u*A0-v*B0)
 det:r*v-s*u= -σ
 ba:b≤a
 b0:0≤b
 p0:0≤p
 q0:0≤q
 r0:0≤r
 s0:0≤s
 u0:0≤u
 v1:1≤v
 sv:s≤v
 uv:u≤v
 ru:r+u≤s+v
 pm:p≤4294967296
 qm:q≤4294967296
 rm:r≤4294967296
 sm:s≤4294967296
 st:(p=0∧q=0∧r=1∧s=0∧u=0∧v=1∧σ= -1)∨(p=1∧q=0∧r=0∧s=1∧σ=1)∨
  (1≤q∧1≤s∧p*s-q*r=σ∧0<σ*(s*Y-r*X)∧σ*(s*Y-r*X)<σ*(p*X-q*Y)∧σ*(p*X-q*Y)≤Y)
theorem TInv.start {X Y c b:Int} (h:b≤c) (d:0≤b):TInv X Y c b c b 0 0 1 0 0 1 (-1):=by constructor <;> first|omega|simp
theorem TInv.cof {X Y A0 B0 a b p q r s u v σ:Int} (h:TInv X Y A0 B0 a b p q r s u v σ):v*a+s*b=A0:=by have c:=h.ea;have d:=h.eb;have f:=h.det;rcases h.sg with rfl|rfl <;> grind
theorem mul_le_of {a b c d:Int} (f:a≤b) (g:c≤d) (j:0≤a) (k:0≤d):a*c≤b*d:=by refine Int.le_trans (Int.mul_le_mul_of_nonneg_left g j) (Int.mul_le_mul_of_nonneg_right f k)
theorem TInv.vsmall {X Y A0 B0 a b p q r s u v σ:Int} (h:TInv X Y A0 B0 a b p q r s u v σ) (o:A0<18446744073709551616) (f:v≤b):v<4294967296:=by have g:=h.cof;have j:=h.v1;have k:=h.ba;have d:=h.s0;have l:v*v≤v*a:=Int.mul_le_mul_of_nonneg_left om om;have m:0≤s*b:=Int.mul_nonneg d om;refine Int.not_le.1 fun c=>?_;have n:4294967296*4294967296≤v*v:=mul_le_of c c dd om;omega
theorem err_lo {u v x0 y0 U σ:Int} (c:σ=1∨σ= -1) (b:0≤u) (k:u≤v) (d:0≤x0) (f:x0<U) (g:0≤y0) (j:y0<U): -(v*(U-1))≤σ*(u*x0-v*y0):=by have l:u*x0≤v*(U-1):=mul_le_of k om b om;have m:v*y0≤v*(U-1):=Int.mul_le_mul_of_nonneg_left om om;have n:0≤u*x0:=Int.mul_nonneg b d;have o:0≤v*y0:=Int.mul_nonneg om g;rcases c with rfl|rfl <;> omega
theorem TInv.step {X Y A0 B0 a b p q r s u v σ U x0 y0 k:Int} (h:TInv X Y A0 B0 a b p q r s u v σ) (G:A0<18446744073709551616)
 (t:X=A0*U+x0) (x:Y=B0*U+y0) (A:0≤x0) (f:x0<U) (B:0≤y0) (g:y0<U)
 (n:v≤b) (C:s+v≤a-b) (y:k=a / b):TInv X Y A0 B0 b (a-k*b) r s u v (r+k*u) (s+k*v) (-σ):=by
 have hv:=h.vsmall G n;have h0:=h.v1;have c:0<b:=om;have m:1≤k:=(by rw[y];exact(Int.le_ediv_iff_mul_le c).2 (by have:=h.ba;omega));have z:0≤a-k*b∧a-k*b≤b:=(by have e:=Int.emod_add_mul_ediv a b;have E:=Int.emod_nonneg a (show b≠0 by omega);have F:=Int.emod_lt_of_pos a c;rw[←y,Int.mul_comm]at e;omega);have I:0≤k*u:=Int.mul_nonneg om h.u0;have J:v≤k*v:=(by have:=Int.mul_le_mul_of_nonneg_right m (show 0≤v by omega);omega);have H:k*u-u≤k*v-v:=(by have:=Int.mul_le_mul_of_nonneg_left h.uv (show 0≤k-1 by omega);rw[Int.sub_mul,Int.sub_mul]at this;omega);obtain⟨P,o,j,D,W,V,p0,q0,L,O,u0,v1,sv,T,N,pm,qm,M,R,S⟩:=h;have hU:0<U:=om;have E:=err_lo P u0 T A f B g;have F: -((s+v)*(U-1))≤ -σ*((r+u)*x0-(s+v)*y0):=err_lo om om N A f B g;have Z:v*U≤b*U:=Int.mul_le_mul_of_nonneg_right n om;have e4:(s+v)*U≤(a-b)*U:=Int.mul_le_mul_of_nonneg_right C om;have i1:σ*(u*X-v*Y)=b*U+σ*(u*x0-v*y0):=(by rw[j,t,x];grind);have i2: -σ*(r*X-s*Y)-σ*(u*X-v*Y)=(a-b)*U+ -σ*((r+u)*x0-(s+v)*y0):=(by rw[o,j,t,x];grind);have i3:v*U-v*(U-1)=v:=(by grind);have i4:(s+v)*U-(s+v)*(U-1)=s+v:=(by grind);refine⟨by omega,?_,?_,?_,z.2,z.1,L,O,u0,by omega,by omega,by omega,by omega,by omega,by omega,M,R,by omega,by omega,?_⟩
 ·rw[j];grind
 ·rw[o,j];grind
 ·grind
 ·have l: -σ*(v*Y-u*X)=σ*(u*X-v*Y):=(by grind);rcases S with⟨rfl,rfl,rfl,rfl,rfl,rfl,rfl⟩|⟨rfl,rfl,rfl,rfl,rfl⟩|⟨q1,s1,d,y1,y2,y3⟩
  ·refine .inr (.inl ⟨rfl,rfl,rfl,rfl,rfl⟩)
  ·refine .inr (.inr ⟨by omega,by omega,by grind,?_,?_,by grind⟩)
   ·rw[l];omega
   ·rw[l];omega
  ·refine .inr (.inr ⟨by omega,by omega,by grind,?_,?_,by grind⟩)
   ·rw[l];omega
   ·rw[l];omega
theorem TInv.fits2 {X Y A0 B0 a b p q r s u v σ k:Int} (h:TInv X Y A0 B0 a b p q r s u v σ) (f:0<b) (d:k=a / b):s+k*v≤A0∧r+k*u≤s+k*v∧k*v≤A0∧k*u≤A0∧0≤k*u∧0≤k*v∧k*b≤a∧1≤k:=by have n:=h.cof;have c:1≤k:=(by rw[d];exact(Int.le_ediv_iff_mul_le f).2 (by have:=h.ba;omega));have e:=Int.emod_add_mul_ediv a b;have l:=Int.emod_nonneg a (show b≠0 by omega);rw[←d,Int.mul_comm]at e;have m:=h.v1;have o:=h.s0;have x:(s+k*v)*b≤A0:=(by have:v*(k*b)≤v*a:=Int.mul_le_mul_of_nonneg_left om om;grind);have j:v≤k*v:=(by have:=Int.mul_le_mul_of_nonneg_right c (show 0≤v by omega);omega);have y:(s+k*v)*1≤(s+k*v)*b:=Int.mul_le_mul_of_nonneg_left om om;have g:k*u-u≤k*v-v:=(by have:=Int.mul_le_mul_of_nonneg_left h.uv (show 0≤k-1 by omega);rw[Int.sub_mul,Int.sub_mul]at this;omega);have t:0≤k*u:=Int.mul_nonneg om h.u0;have:=h.ru;have:=h.r0;have:=h.uv;omega
inductive TurnOk (X Y p q r s:Nat) (odd:Bool):Prop
 |none (h:q=0)
 |mk (hq:0<q) (hb:p≤4294967296∧q≤4294967296∧r≤4294967296∧s≤4294967296) (x y:Nat)
  (e:odd=false→p*X=q*Y+x∧s*Y=r*X+y∧p*s=q*r+1)
  (o:odd=true→q*Y=p*X+x∧r*X=s*Y+y∧q*r=p*s+1)
  (h0:0<y) (h1:y<x) (h2:x≤Y)
theorem TInv.done {X Y p q r s:Nat} {A0 B0 a b u v σ:Int} {c:Bool} (j:σ=if c then -1 else 1) (h:TInv X Y A0 B0 a b p q r s u v σ):TurnOk X Y p q r s c:=by
 obtain⟨J,z,A,k,y,x,B,D,F,I,u0,O,M,N,H,C,E,G,L,t⟩:=h;rcases t with⟨-,h,-⟩|⟨-,h,-⟩|⟨q1,s1,d,y1,y2,y3⟩
 ·exact .none om
 ·exact .none om
 ·have l:((p*X:Nat):Int)=(p:Int)*X:=Int.natCast_mul ..;have m:((q*Y:Nat):Int)=(q:Int)*Y:=Int.natCast_mul ..;have n:((r*X:Nat):Int)=(r:Int)*X:=Int.natCast_mul ..;have o:((s*Y:Nat):Int)=(s:Int)*Y:=Int.natCast_mul ..;have f:((p*s:Nat):Int)=(p:Int)*s:=Int.natCast_mul ..;have g:((q*r:Nat):Int)=(q:Int)*r:=Int.natCast_mul ..;rw[←l,←m,←n,←o]at *;rw[←f,←g]at d;cases c
  ·have:σ=1:=(by simpa using j);subst this;refine .mk om om (p*X-q*Y) (s*Y-r*X) (fun _=>by omega) (fun h=>by cases h) om om om
  ·have:σ= -1:=(by simpa using j);subst this;refine .mk om om (q*Y-p*X) (r*X-s*Y) (fun h=>by cases h) (fun _=>by omega) om om om
theorem top_split {X low P x1 x2 H G β:Nat} (j:X=low+P*(x2+β*x1)) (k:low<P) (b:H*G=β) (g:0<G):
 X=(x1*H+x2 / G)*(P*G)+(low+P*(x2%G))∧low+P*(x2%G)<P*G:=by
 have e:=Nat.div_add_mod x2 G;have c:(x1*H+x2 / G)*(P*G)=P*(β*x1)+P*(G*(x2 / G)):=by
  rw[Nat.add_mul,←b];congr 1
  ·simp only[Nat.mul_comm,Nat.mul_left_comm]
  ·simp only[Nat.mul_comm,Nat.mul_left_comm]
 refine⟨?_,?_⟩
 ·rw[c,j]
  conv=>lhs;rw[←e]
  simp only[Nat.mul_add];omega
 ·have d:x2%G+1≤G:=Nat.mod_lt _ g;have f:=Nat.mul_le_mul_left P d;rw[Nat.mul_add]at f;omega
theorem lead_lf {X Y lx ly W b y1:Nat} (g:X=lx+W*b) (j:Y=ly+W*y1) (f:lx<W) (h:Y≤X):y1≤b:=by refine Nat.le_of_not_lt fun c=>?_;have d:=Nat.mul_le_mul_left W (show b+1≤y1 from c);rw[Nat.mul_add]at d;omega
theorem lead_lf' {X Y x0 y0 U c d:Nat} (f:X=c*U+x0) (g:Y=d*U+y0) (b:x0<U) (h:Y≤X):d≤c:=by
 refine lead_lf (lx:=x0) (ly:=y0) (W:=U) (X:=X) (Y:=Y) ?_ ?_ b h
 ·rw[f,Nat.mul_comm];omega
 ·rw[g,Nat.mul_comm];omega
structure TN (X Y A0 B0 a b p q r s u v:Nat) (odd:Bool):Prop where
 inv:TInv X Y A0 B0 a b p q r s u v (if odd then -1 else 1)
 A:A0<18446744073709551616
 a1:1≤a
 ex:∃U x0 y0:Nat,X=A0*U+x0∧Y=B0*U+y0∧x0<U∧y0<U
theorem TN.facts {X Y f g a b p q r s u v:Nat} {d:Bool} (h:TN X Y f g a b p q r s u v d):b≤a∧a<18446744073709551616∧1≤v∧r<4294967297∧s<4294967297∧(v≤b→s+v<18446744073709551616∧v<4294967296)∧v<18446744073709551616∧u<18446744073709551616:=by have c:=h.inv;have B:=h.A;have l:=h.a1;have m:=c.ba;have n:=c.v1;have o:=c.rm;have t:=c.sm;have x:=c.cof;have j:(a:Int)*1≤a*v:=Int.mul_le_mul_of_nonneg_left om om;have y:0≤(s:Int)*b:=Int.mul_nonneg om om;have A:(v:Int)*1≤v*a:=Int.mul_le_mul_of_nonneg_left om om;rw[Int.mul_comm (a:Int) v]at j;have k:=c.uv;refine⟨by omega,by omega,by omega,by omega,by omega,fun C=>?_,by omega,by omega⟩;have z:=c.vsmall om om;omega
theorem TN.step {X Y t x a b p q r s u v:Nat} {c:Bool} (h:TN X Y t x a b p q r s u v c) (j:v≤b) (l:s+v≤a-b):
 TN X Y t x b (a%b) r s u v (r+a / b*u) (s+a / b*v) (!c)∧a / b*b≤a∧a-a / b*b=a%b∧a%b<b∧r+a / b*u<18446744073709551616∧s+a / b*v<18446744073709551616∧
  a / b*u<18446744073709551616∧a / b*v<18446744073709551616∧a / b<18446744073709551616:=by
 have J:=h.facts;obtain⟨d,A,P,U,x0,y0,z,B,N,O⟩:=h;have M:=d.v1;have H:=d.ba;have f:0<b:=om;obtain⟨k,n⟩:∃k,a / b=k:=⟨_,rfl⟩;have g:(k:Int)=(a:Int) / (b:Int):=(by rw[←n];exact Int.natCast_ediv a b);have C:=d.step (U:=U) (x0:=x0) (y0:=y0) (k:=k) om (by rw[z];simp) (by rw[B];simp) om om om om om om g;have I:=d.fits2 (k:=k) om g;have m:=Nat.div_add_mod a b;have o:=Nat.mod_lt a f;rw[n,Nat.mul_comm]at m;have j:((k*u:Nat):Int)=(k:Int)*u:=Int.natCast_mul ..;have l:((k*v:Nat):Int)=(k:Int)*v:=Int.natCast_mul ..;have y:((k*b:Nat):Int)=(k:Int)*b:=Int.natCast_mul ..;rw[←j,←l,←y]at I;rw[←j,←l,←y]at C;have L:k≤k*b:=Nat.le_mul_of_pos_right k f;have D:((a%b:Nat):Int)=(a:Int)-((k*b:Nat):Int):=om;have E:((r+k*u:Nat):Int)=(r:Int)+((k*u:Nat):Int):=om;have F:((s+k*v:Nat):Int)=(s:Int)+((k*v:Nat):Int):=om;rw[n];refine⟨⟨?_,A,f,U,x0,y0,z,B,N,O⟩,by omega,by omega,o,by omega,by omega,by omega,by omega,by omega⟩;rw[D,E,F];have G:(if (!c)=true then -1 else 1:Int)= -(if c=true then -1 else 1:Int):=(by cases c <;> rfl);rw[G];exact C
theorem TN.done {X Y d f a b p q r s u v:Nat} {c:Bool} (h:TN X Y d f a b p q r s u v c):TurnOk X Y p q r s c:=h.inv.done rfl
theorem TN.start {X Y b c U x0 y0:Nat} (d:X=b*U+x0) (f:Y=c*U+y0) (g:x0<U) (l:y0<U) (h:Y≤X) (k:b<18446744073709551616) (j:0<b):
 TN X Y b c b c 0 0 1 0 0 1 true:=
 ⟨TInv.start (by have:=lead_lf' d f g h;omega) om,k,j,U,x0,y0,d,f,g,l⟩
end Rad
namespace Go.Proofs.YtjlkplidpdhgbaaGreatDoor
open Go Go.Proofs Go.RowKit Go.Rad
open _root_.Rad (TN TurnOk)
theorem TB.set0 {w:World} {b p q r s:Nat} {c:Bool} (h:TB w b p q r s c) (d:Nat):TB (w.setCell ⟨b,0,none⟩ (.int .u64 (d:Int))) b d q r s c:=⟨by simp;exact h.lt,(cell_same h.c0),(cell_other (.inr om)).trans h.c1,(cell_other (.inr om)).trans h.c2,(cell_other (.inr om)).trans h.c3,(cell_other (.inr om)).trans h.c4,(World.frozen?_setCell _ _ _ _).trans h.f0,(World.frozen?_setCell _ _ _ _).trans h.f1,(World.frozen?_setCell _ _ _ _).trans h.f2,(World.frozen?_setCell _ _ _ _).trans h.f3,(World.frozen?_setCell _ _ _ _).trans h.f4⟩
theorem TB.set1 {w:World} {b p q r s:Nat} {c:Bool} (h:TB w b p q r s c) (d:Nat):TB (w.setCell ⟨b,1,none⟩ (.int .u64 (d:Int))) b p d r s c:=⟨by simp;exact h.lt,(cell_other (.inr om)).trans h.c0,(cell_same h.c1),(cell_other (.inr om)).trans h.c2,(cell_other (.inr om)).trans h.c3,(cell_other (.inr om)).trans h.c4,(World.frozen?_setCell _ _ _ _).trans h.f0,(World.frozen?_setCell _ _ _ _).trans h.f1,(World.frozen?_setCell _ _ _ _).trans h.f2,(World.frozen?_setCell _ _ _ _).trans h.f3,(World.frozen?_setCell _ _ _ _).trans h.f4⟩
theorem TB.set2 {w:World} {b p q r s:Nat} {c:Bool} (h:TB w b p q r s c) (d:Nat):TB (w.setCell ⟨b,2,none⟩ (.int .u64 (d:Int))) b p q d s c:=⟨by simp;exact h.lt,(cell_other (.inr om)).trans h.c0,(cell_other (.inr om)).trans h.c1,(cell_same h.c2),(cell_other (.inr om)).trans h.c3,(cell_other (.inr om)).trans h.c4,(World.frozen?_setCell _ _ _ _).trans h.f0,(World.frozen?_setCell _ _ _ _).trans h.f1,(World.frozen?_setCell _ _ _ _).trans h.f2,(World.frozen?_setCell _ _ _ _).trans h.f3,(World.frozen?_setCell _ _ _ _).trans h.f4⟩
theorem TB.set3 {w:World} {b p q r s:Nat} {c:Bool} (h:TB w b p q r s c) (d:Nat):TB (w.setCell ⟨b,3,none⟩ (.int .u64 (d:Int))) b p q r d c:=⟨by simp;exact h.lt,(cell_other (.inr om)).trans h.c0,(cell_other (.inr om)).trans h.c1,(cell_other (.inr om)).trans h.c2,(cell_same h.c3),(cell_other (.inr om)).trans h.c4,(World.frozen?_setCell _ _ _ _).trans h.f0,(World.frozen?_setCell _ _ _ _).trans h.f1,(World.frozen?_setCell _ _ _ _).trans h.f2,(World.frozen?_setCell _ _ _ _).trans h.f3,(World.frozen?_setCell _ _ _ _).trans h.f4⟩
theorem TB.set4 {w:World} {b p q r s:Nat} {d:Bool} (h:TB w b p q r s d) (c:Bool):TB (w.setCell ⟨b,4,none⟩ (.bool c)) b p q r s c:=⟨by simp;exact h.lt,(cell_other (.inr om)).trans h.c0,(cell_other (.inr om)).trans h.c1,(cell_other (.inr om)).trans h.c2,(cell_other (.inr om)).trans h.c3,(cell_same h.c4),(World.frozen?_setCell _ _ _ _).trans h.f0,(World.frozen?_setCell _ _ _ _).trans h.f1,(World.frozen?_setCell _ _ _ _).trans h.f2,(World.frozen?_setCell _ _ _ _).trans h.f3,(World.frozen?_setCell _ _ _ _).trans h.f4⟩
theorem TB.other {w:World} {b p q r s:Nat} {f:Bool} (h:TB w b p q r s f) {c i:Nat} (d:b≠c) (v:Value):TB (w.setCell ⟨c,i,none⟩ v) b p q r s f:=
 ⟨by simp;exact h.lt,(cell_other (.inl d)).trans h.c0,(cell_other (.inl d)).trans h.c1,(cell_other (.inl d)).trans h.c2,(cell_other (.inl d)).trans h.c3,(cell_other (.inl d)).trans h.c4,
  (World.frozen?_setCell _ _ _ _).trans h.f0,(World.frozen?_setCell _ _ _ _).trans h.f1,(World.frozen?_setCell _ _ _ _).trans h.f2,(World.frozen?_setCell _ _ _ _).trans h.f3,(World.frozen?_setCell _ _ _ _).trans h.f4⟩
inductive TurnPost (w:World) (X Y:Nat) (e:Ending) (w':World):Prop
 |mk (p q r s:Nat) (odd:Bool) (he:e=.returned (.agg #[.int .u64 p,.int .u64 q,.int .u64 r,.int .u64 s,.bool odd])) (hb:Below w.heap.size w w') (ht:TurnOk X Y p q r s odd)
theorem belN (w:World) (n b:Nat):Below b w (w.drewN n):=⟨rfl,rfl,rfl,Nat.le_refl _,fun _ _=>rfl⟩
theorem turnOf_any (w:World) (J S cx n oy cy m X Y:Nat) (hx:Arr .u64 B w J S (m+2)) (hy:Arr .u64 B w n oy (m+2)) (hX:num B w J S (m+2)=X) (hY:num B w n oy (m+2)=Y)
 (z:word w J (S+(m+1))≠0) (ea:Y≤X) (hm:m+2≤35184372088832) (ab:m+2≤cx) (bb:m+2≤cy):
 Calls Tryz.prog 150 #[.slice (some ⟨J,S,none⟩) (m+2:Nat) cx,.slice (some ⟨n,oy,none⟩) (m+2:Nat) cy] w fun e w'=>TurnPost w X Y e w':=by
 have ia:=arr_cell hx (i:=m) om;have ja:=arr_cell hx (i:=m+1) om;have ka:=arr_cell hy (i:=m) om;have la:=arr_cell hy (i:=m+1) om;have fa:=arr_lt hx (i:=m) om;have ta:=arr_lt hx (i:=m+1) om;have ua:=arr_lt hy (i:=m) om;have jb:=arr_lt hy (i:=m+1) om;have ra:num B w J S m<B^m:=num_lt (fun i hi=>hx i om);have sa:num B w n oy m<B^m:=num_lt (fun i hi=>hy i om);have Z:=hx.lt om;have aa:=hy.lt om;rw[num_two]at hX hY;generalize num B w J S m=Xl at *;generalize num B w n oy m=Yl at *;generalize B^m=P at *;generalize word w J (S+m)=T at *;generalize word w J (S+(m+1))=A at *;generalize word w n (oy+m)=y2 at *;generalize word w n (oy+(m+1))=y1 at *;clear hx hy;have CL:=fun wx=>leadingZeros_any A ta wx;have e1:((m:Int)+2-1)=(m:Int)+1:=om;have e2:((m:Int)+2-2)=(m:Int):=om;go_enter Tryz.func150,Tryz.ntmps150;go_upto_region 1 with fail;refine wp_world (fun I=>Below w.heap.size w I∧TB I w.heap.size 0 0 0 0 false) ⟨bel1 _ _,TB.mk0 _ _ _ _ _ _ _⟩ ?_;rintro I ⟨V,l⟩;have N:∀b i v,w.cell? ⟨b,i,none⟩=some v→b<w.heap.size→I.cell? ⟨b,i,none⟩=some v:=fun b i v e hb=>(World.cell?_of_block (V.block b hb)).trans e;have eb:=N _ _ _ ia Z;have fb:=N _ _ _ ja Z;have gb:=N _ _ _ ka aa;have ib:=N _ _ _ la aa;have f:Hid (TB I w.heap.size 0 0 0 0 false):=l;have ga:Hid (Below w.heap.size w I):=V;clear N ia ja ka la V l;go_wp2_with (go_at_call 135;fail);refine(CL _).mono ?_;rintro e x ⟨L,rfl,hw,j,za⟩;subst x;clear CL;have hL:0<L∧2^(L-1)≤A∧A<2^L:=by
  rcases j with⟨h0,_⟩|h0
  ·exact absurd h0 z
  ·exact h0
 obtain⟨h,hh⟩:∃h,64-L=h:=⟨_,rfl⟩;have y:64-h=L:=om;have E:2^h*2^L=B:=(by rw[←Nat.pow_add,show h+L=64 by omega];rfl);rw[hh];obtain⟨sx,va⟩:=_root_.Rad.top_split (G:=2^L) (H:=2^h) hX.symm ra E (Nat.pow_pos dd);obtain⟨sy,wa⟩:=_root_.Rad.top_split (G:=2^L) (H:=2^h) hY.symm sa E (Nat.pow_pos dd);have pa:h<64:=om;have qx:T / 2^L<2^h:=(by rw[←y];exact hi_shl_lt om fa);have qy:y2 / 2^L<2^h:=(by rw[←y];exact hi_shl_lt om ua);have dx:A*2^h<B:=(by rw[←E,Nat.mul_comm];exact Nat.mul_lt_mul_of_pos_left hL.2.2 (Nat.pow_pos dd));have qa:y1≤A:=by
  refine _root_.Rad.lead_lf (X:=X) (Y:=Y) (lx:=Xl+P*T) (ly:=Yl+P*y2) (W:=P*B) ?_ ?_ ?_ ea
  ·rw[←hX,Nat.mul_add,Nat.mul_assoc];omega
  ·rw[←hY,Nat.mul_add,Nat.mul_assoc];omega
  ·have:=Nat.mul_le_mul_left P (show T+1≤B from fa);rw[Nat.mul_add]at this;omega
 have dy:y1*2^h<B:=Nat.lt_of_le_of_lt (Nat.mul_le_mul_right _ qa) dx;have ex:=shl_or (d:=A) (s:=h) (c:=T / 2^L) om qx;have ey:=shl_or (d:=y1) (s:=h) (c:=y2 / 2^L) om qy;have kx:=shl_or_lt (d:=A) (s:=h) (c:=T / 2^L) om qx;have rx:lo (A*2^h)=A*2^h:=Nat.mod_eq_of_lt dx;have ry:lo (y1*2^h)=y1*2^h:=Nat.mod_eq_of_lt dy;rw[rx]at ex kx;rw[ry]at ey;obtain⟨A0,hA⟩:∃A0,A*2^h+T / 2^L=A0:=⟨_,rfl⟩;obtain⟨B0,M⟩:∃B0,y1*2^h+y2 / 2^L=B0:=⟨_,rfl⟩;rw[hA]at ex kx sx;rw[M]at ey sy;have hA0:0<A0:=(by rw[←hA];exact Nat.lt_of_lt_of_le (Nat.mul_pos (Nat.pos_of_ne_zero z) (Nat.pow_pos dd)) (Nat.le_add_right _ _));have HS:Hid (TN X Y A0 B0 A0 B0 0 0 1 0 0 1 true):=TN.start sx sy va wa ea kx hA0;have nx:=shr_nat T L;have ny:=shr_nat y2 L;rw[←nx]at ex;rw[←ny]at ey;have EX:Hid _:=ex;have EY:Hid _:=ey;have w0:IntKind.u64.wrap (h:Int)=(h:Int):=(by rw[IntKind.wrap_u64];omega);have lb:IntKind.u64.wrap (64-(h:Int))=(L:Int):=(by rw[IntKind.wrap_u64];omega);clear sx sy va wa hX hY ra sa j hL E qx qy dx dy qa ex ey kx rx ry hA M hA0 nx ny z ea fa ta ua jb;go_wp2;go_quiet (fail);rw[EX.out];go_wp2;go_quiet (fail);rw[EY.out];clear EX EY eb fb gb ib;go_upto_region 5 with fail;rw[World.drewN_drewN];refine wp_world (fun x=>Below w.heap.size w x∧TB x w.heap.size 0 0 0 0 false) ⟨ga.out.trans (belN _ _ _),f.out.below (belN I _ I.heap.size) f.out.lt⟩ ?_;rintro x ⟨ma,l⟩;clear ga f I;have f:Hid (TB x w.heap.size 0 0 0 0 false):=l;have U:Hid (Below w.heap.size w x):=ma;clear l ma;go_upto_region 6 with fail;refine wp_world (fun w3=>Below w.heap.size w w3∧TB w3 w.heap.size 0 0 0 0 false∧TB w3 x.heap.size 0 0 1 0 true∧w.heap.size≠x.heap.size) ⟨?_,?_,?_,?_⟩ ?_
 ·exact U.out.alloc U.out.size _
 ·exact f.out.below (bel1 x _) f.out.lt
 ·exact TB.mk0 x 0 0 1 0 true 152
 ·have pb:=f.out.lt;omega
 rintro w3 ⟨na,l,C,t⟩;obtain⟨b9,oa⟩:∃b9,x.heap.size=b9:=⟨_,rfl⟩;rw[oa]at C t⊢;have ob:w.heap.size<b9:=(by have:=f.out.lt;omega);clear f U oa x;have f:Hid (TB w3 w.heap.size 0 0 0 0 false):=l;have D:Hid (TB w3 b9 0 0 1 0 true):=C;have ha:Hid (Below w.heap.size w w3):=na;clear l C na;go_wp2;clear e1 e2 w0 lb hm ab bb Z aa y pa za hh;go_loopw [7,8,10,11] (fun a7 a8 xa ya wr=>∃(a b p q r s u v:Nat) (g:Bool),a7=.int .u64 a∧a8=.int .u64 b∧xa=.int .u64 u∧ya=.int .u64 v∧
  Hid (Below w.heap.size w wr∧TB wr w.heap.size 0 0 0 0 false∧TB wr b9 p q r s g∧TN X Y A0 B0 a b p q r s u v g))
  (fun _ a8 _ _ _=>(intOf a8).toNat)
 case atStart=>exact⟨_,_,_,_,_,_,_,_,_,rfl,rfl,rfl,rfl,⟨ha.out,f.out,D.out,HS.out⟩⟩
 case round=>
  clear HS f D ha;obtain⟨a,b,p,q,r,s,u,v,g,rfl,rfl,rfl,rfl,HI⟩:=hrel;obtain⟨M,l,C,hN⟩:=HI.out;obtain⟨f1,f2,f3,f4,f5,f6,f7,f8⟩:=hN.facts;by_cases hg:v≤b∧s+v≤a-b
  ·obtain⟨F,g1,g2,g3,g4,g5,g6,g7,g8⟩:=hN.step hg.1 hg.2;obtain⟨k,hk⟩:∃k,a / b=k:=⟨_,rfl⟩;have nb:(a:Int) / (b:Int)=(k:Int):=(by rw[←hk];exact(Int.natCast_ediv a b).symm);rw[hk]at F g1 g2 g4 g5 g6 g7 g8;obtain⟨c,N⟩:∃c,a%b=c:=⟨_,rfl⟩;rw[N]at F g2 g3;have HN:Hid _:=F;have o:=hg.1;have db:=hg.2;have h6:=f6 o;obtain⟨kb,ba⟩:∃kb,k*b=kb:=⟨_,rfl⟩;obtain⟨O,ca⟩:∃O,k*u=O:=⟨_,rfl⟩;obtain⟨R,da⟩:∃R,k*v=R:=⟨_,rfl⟩;have cb:(k:Int)*(b:Int)=(kb:Int):=(by rw[←ba];exact(Int.natCast_mul k b).symm);have cu:(k:Int)*(u:Int)=(O:Int):=(by rw[←ca];exact(Int.natCast_mul k u).symm);have cv:(k:Int)*(v:Int)=(R:Int):=(by rw[←da];exact(Int.natCast_mul k v).symm);rw[ba]at g1 g2;rw[ca]at g4 g6 HN;rw[da]at g5 g7 HN;have x0:IntKind.u64.wrap (k:Int)=(k:Int):=(by rw[IntKind.wrap_u64];omega);have A:IntKind.u64.wrap (kb:Int)=(kb:Int):=(by rw[IntKind.wrap_u64];omega);have T:IntKind.u64.wrap (O:Int)=(O:Int):=(by rw[IntKind.wrap_u64];omega);have x3:IntKind.u64.wrap (R:Int)=(R:Int):=(by rw[IntKind.wrap_u64];omega);have x4:IntKind.u64.wrap ((a:Int)-(kb:Int))=(c:Int):=(by rw[IntKind.wrap_u64];omega);have x5:IntKind.u64.wrap ((r:Int)+(O:Int))=((r+O:Nat):Int):=(by rw[IntKind.wrap_u64];omega);have x6:IntKind.u64.wrap ((s:Int)+(R:Int))=((s+R:Nat):Int):=(by rw[IntKind.wrap_u64];omega);have x7:IntKind.u64.wrap ((a:Int)-(b:Int))=(a:Int)-(b:Int):=(by rw[IntKind.wrap_u64];omega);have x8:IntKind.u64.wrap ((s:Int)+(v:Int))=(s:Int)+(v:Int):=(by rw[IntKind.wrap_u64];omega);have y1:(v:Int)≤(b:Int):=om;have y2:(s:Int)+(v:Int)≤(a:Int)-(b:Int):=om;have y3:¬(b:Int)=0:=om;obtain⟨l9,c0,c1,c2,c3,c4,z0,z1,z2,z3,z4⟩:=id C;have f:Hid _:=l;have D:Hid _:=C;have HB:Hid _:=M;have mb:c<b:=g3;clear HI M l C hN F f1 f2 f3 f4 f5 f6 f7 f8 g1 g2 g3 g4 g5 g6 g7 g8 hk ba ca da N hg o db h6;go_wp2;refine⟨⟨b,c,r,s,u,v,r+O,s+R,!g,rfl,rfl,(by go_num),(by go_num),⟨?_,?_,?_,HN.out⟩⟩,?_⟩
   ·have j:w.heap.size≤b9:=om;exact((((HB.out.setCell j _).setCell j _).setCell j _).setCell j _).setCell j _
   ·exact((((f.out.other t _).other t _).other t _).other t _).other t _
   ·exact((((D.out.set0 r).set2 u).set1 s).set3 v).set4 (!g)
   ·simp only[intOf];omega
  ·have f:Hid (TB wr w.heap.size 0 0 0 0 false):=l;have HB:Hid (Below w.heap.size w wr):=M;have HD:Hid (TurnOk X Y p q r s g):=hN.done;obtain⟨l9,c0,c1,c2,c3,c4,z0,z1,z2,z3,z4⟩:=id C;obtain⟨l4,d0,d1,d2,d3,d4,n0,n1,n2,n3,n4⟩:=id l;by_cases o:v≤b
   ·have h6:=f6 o;have x7:IntKind.u64.wrap ((a:Int)-(b:Int))=(a:Int)-(b:Int):=(by rw[IntKind.wrap_u64];omega);have x8:IntKind.u64.wrap ((s:Int)+(v:Int))=(s:Int)+(v:Int):=(by rw[IntKind.wrap_u64];omega);have y1:(v:Int)≤(b:Int):=om;have y2:¬(s:Int)+(v:Int)≤(a:Int)-(b:Int):=om;clear HI M l C hN f1 f2 f3 f4 f5 f6 f7 f8 hg o h6;go_wp2;refine bodyPost_ret (v:= .agg #[.int .u64 p,.int .u64 q,.int .u64 r,.int .u64 s,.bool g]) rs rfl ?_;have j:w.heap.size≤w.heap.size:=Nat.le_refl _;exact .mk p q r s g rfl (((((HB.out.setCell j _).setCell j _).setCell j _).setCell j _).setCell j _) HD.out
   ·have y1:¬(v:Int)≤(b:Int):=om;clear HI M l C hN f1 f2 f3 f4 f5 f6 f7 f8 hg o;go_wp2;refine bodyPost_ret (v:= .agg #[.int .u64 p,.int .u64 q,.int .u64 r,.int .u64 s,.bool g]) rs rfl ?_;have j:w.heap.size≤w.heap.size:=Nat.le_refl _;exact .mk p q r s g rfl (((((HB.out.setCell j _).setCell j _).setCell j _).setCell j _).setCell j _) HD.out
end Go.Proofs.YtjlkplidpdhgbaaGreatDoor
