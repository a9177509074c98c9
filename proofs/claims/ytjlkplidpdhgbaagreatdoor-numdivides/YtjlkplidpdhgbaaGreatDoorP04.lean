/- A part of the proof: Kar3, Kar5, W16, W17, Kar6, W18, Pm11. -/
import Derived.Test.YtjlkplidpdhgbaaGreatDoorP00
import Derived.Test.YtjlkplidpdhgbaaGreatDoorP03
import Derived.Test.YtjlkplidpdhgbaaGreatDoorP01
import Derived.WalkSpells
import Derived.Deep.RegionHeld
set_option linter.all false
set_option maxRecDepth 10000
set_option maxHeartbeats 1500000
namespace Go.Proofs.YtjlkplidpdhgbaaGreatDoor
open Go Go.Proofs Go.RowKit Go.Rad
theorem zc7 (f n:Nat) (X:n<48):zdx f n:=by
 intro w g d S z I P j J R y c r cr hn O ea C ca da ba aa t s u l m q fa d1 d2 d3 T U ar ga;have D1:=d1 om om;have D2:=d2 om om;have p:g<w.heap.size:=s.lt om;have F:0<r→g≠y∨d+2*n≤c∨c+r≤d:=fun h=>d3 om h;clear d1 d2 d3 T U;obtain⟨H,D,E,o,ha⟩:=info_parts zb0;go_enter Tryz.func145,Tryz.ntmps145;go_wp2_with (first
  |(refine zb3 .u64 B za2 rfl _ 22 rfl 98 H Tryz.underlying22 D E _ _ _ rfl g d (Sl.mk _ _ _) s u ?_;intro x b)
  |(go_at_call 113;fail))
 have o:num B x g d n=0:=_root_.Rad.vs_zeros (fun i hi=>b.zero i om);refine(zdr x _ _ _ g d (2*n) S z I n P j J n R (Sl.mk _ _ _) (Sl.mk _ _ _) (Sl.mk _ _ _) b.arr (b.chg.free u (fun _=>p))
  (b.chg.arr l l.lt (fun _=>by omega)) (b.chg.arr m m.lt (fun _=>by omega)) om C t o (fun _=>by omega) (fun _=>by omega)).mono ?_
 rintro e L ⟨rfl,V,W,A⟩;have b1:g<x.heap.size:=Nat.lt_of_lt_of_le p b.chg.size;have K:Chg w L g d (d+2*n):=b.chg.trans V;have Y:Arr .u64 B L y c r:=K.arr q q.lt (fun h=>by have:=F h;omega);have Z:ChgS w L (R2 g d (d+2*n) y c (c+r)):=(K.toS om).mono fun k i _ h=>by unfold R2;omega
 have M:num B x z I n=num B w z I n:=b.chg.num l.lt (fun _=>by omega);have N:num B x j J n=num B w j J n:=b.chg.num m.lt (fun _=>by omega);rw[M,N]at A;have G:Hid _:=A;clear A M N o;go_wp2;refine bodyPost_ret (results_none rfl _ _ _) rfl ?_;exact⟨rfl,Z,W,Y,G.out⟩
theorem zd8:∀(f n:Nat),zdx f n
 |0,n=>by
  by_cases h:n<48
  ·exact zc7 0 n h
  ·intro w l x q k t o d u p j g r m s c b;exact absurd b h
 |f+1,n=>by
  by_cases h:n<48
  ·exact zc7 (f+1) n h
  ·exact zf3 f (fun n=>zd8 f n) n h
def Fr (base:Nat) (v:Value):Prop:=∀b o n c:Nat,v=.slice (some ⟨b,o,none⟩) n c→base≤b
theorem Fr_nil (base:Nat):Fr base (.slice none 0 0):=by intro b o n c h;injection h with h1;cases h1
theorem Fr_some (base o n c:Nat):Fr base (.slice (some ⟨base,o,none⟩) n c):=by intro b o n c h;injection h with h1;injection h1 with h1;injection h1 with h1;omega
theorem zbj (w:World) (f:Option Addr) (b o n c m:Nat) (s:Sl f b o n) (u:n≤c) (j:n≤maxLen) (q:m≤maxLen) (r:Arr .u64 B w b o n):
 Calls Tryz.prog 86 #[.slice f n c,.int .i64 m] w fun e w'=>∃k,e=.returned (.slice f k k)∧w'=w∧k≤m∧k≤n∧Mag w (.slice f k k) (num B w b o (min m n)) k:=by
 refine(zfd w f b o n c m s u j q r).mono ?_;rintro e w' ⟨k,rfl,rfl,l,p,g,x⟩;refine⟨k,rfl,rfl,l,p,f,b,o,k,rfl,fun h=>s om,Nat.le_refl _,?_,?_,g⟩
 ·have:=r.sub (d:=0) (m:=k) om;simpa using this
 ·exact(_root_.Rad.vs_top om (fun i t y=>x i t om om)).symm
def MulW (m:Nat):Prop:=
 ∀(w:World) (vx vy:Value) (x nx y ny:Nat),Mag w vx x nx→Mag w vy y ny→(nx≤m∨ny≤m)→nx+ny≤1099511627776→
  Calls Tryz.prog 82 #[vx,vy] w fun e w'=>∃v n,e=.returned v∧Below w.heap.size w w'∧Mag w' v (x*y) n∧n≤nx+ny∧Fr w.heap.size v
def MulB (m:Nat):Prop:=
 ∀(w:World) (bz nz cz bx ox nx cx:Nat) (ax:Option Addr) (vy:Value) (y ny:Nat),ny≤m→48≤ny→nx+ny≤1099511627776→nz=nx+ny→Mag w vy y ny→
  Sl ax bx ox nx→nx≤cx→Arr .u64 B w bx ox nx→Arr .u64 B w bz 0 nz→Free w bz 0 nz→nz≤cz→cz≤maxLen→num B w bz 0 nz=0→bz≠bx→(∀b o c:Nat,vy=.slice (some ⟨b,o,none⟩) ny c→bz≠b)→
  Calls Tryz.prog 114 #[.slice (some ⟨bz,0,none⟩) nz cz,.slice ax nx cx,vy] w fun e w'=>e=.returned (.tuple #[])∧Chg w w' bz 0 nz∧Arr .u64 B w' bz 0 nz∧
   num B w' bz 0 nz=num B w bx ox nx*y
theorem zfj (m:Nat) (hB:MulB m):MulW m:=by
 intro w vx vy x j y l hx hy da hl;have MX:=hx;have MY:=hy;obtain⟨ax,N,O,W,rfl,E,aa,p,R,ea⟩:=hx;obtain⟨ay,u,P,X,rfl,F,ba,q,S,fa⟩:=hy;obtain⟨V,D,G,H,I⟩:=info_parts zb0;have T:Hid (num B w N O j=x):=R;have U:Hid (num B w u P l=y):=S;clear R S;have f:j+l≤maxLen:=(by unfold maxLen;omega);by_cases ca:j<l
 ·by_cases Y:j=0
  ·subst Y;go_enter Tryz.func82,Tryz.ntmps82;go_wp2;go_ret;refine⟨_,0,rfl,zz,?_,by omega,Fr_nil _⟩;rw[←T.out,zao,Nat.zero_mul];exact zff _
  ·by_cases Z:j<48
   ·go_enter Tryz.func82,Tryz.ntmps82;go_wp2_with (first
     |(at_make;refine zap .u64 B za2 rfl _ _ 22 rfl 98 V Tryz.underlying22 D G H .i64 .i64 _ _ (j+l) rfl rfl om om (by rw[I];omega) f ?_;intro z d)
     |(go_at_call 113;fail)
     |(go_at_call 114;fail))
    have g:num B z u P l*num B z N O j=y*x:=(by rw[zah q d.below,zah p d.below,U.out,T.out]);refine(zdr z _ _ _ w.heap.size 0 (j+l) (j+l) u P l X N O j W (Sl.mk _ _ _) F E d.arr d.free (zae q d.below) (zae p d.below) om (Nat.le_refl _) f
     (zd9 d _ om) (fun h=> .inl (by have:=q.lt h;omega)) (fun h=> .inl (by have:=p.lt h;omega))).mono ?_
    rintro e A ⟨rfl,C,J,r⟩;rw[g]at r;rw[Nat.zero_add]at C;have s:Below w.heap.size w A:=d.below.trans (C.below (Nat.le_refl _) (by have:=d.lt;omega));have HV:Hid (num B A w.heap.size 0 (j+l)=x*y):=(by rw[r];exact Nat.mul_comm _ _);clear r d;go_wp2_with (go_at_call 86;refine(zbj _ _ _ _ _ _ (j+l) (Sl.mk _ _ _) (Nat.le_refl _) f f J).mono ?_;rintro e w' ⟨k,rfl,M,t,L,n⟩;subst M);go_ret;rw[Nat.min_self,HV.out]at n;exact⟨_,k,rfl,s,n,t,Fr_some _ _ _ _⟩
   ·go_enter Tryz.func82,Tryz.ntmps82;go_wp2_with (first
     |(at_make;refine zap .u64 B za2 rfl _ _ 22 rfl 98 V Tryz.underlying22 D G H .i64 .i64 _ _ (j+l) rfl rfl om om (by rw[I];omega) f ?_;intro z d)
     |(go_at_call 113;fail)
     |(go_at_call 114;fail))
    refine(hB z w.heap.size (j+l) (j+l) u P l X ay _ x j om om om om (MX.below d.below) F ba (zae q d.below) d.arr d.free (Nat.le_refl _) f
     (zd9 d _ om) (by have:=q.lt om;omega) (fun b o c h=>by have e:=E om;rw[e]at h;injection h with h1 h2 h3;injection h1 with h1;injection h1 with h1;have:=p.lt om;omega)).mono ?_
    rintro e A ⟨rfl,C,J,r⟩;rw[zah q d.below,U.out]at r;have s:Below w.heap.size w A:=d.below.trans (C.below (Nat.le_refl _) (by have:=d.lt;omega));have HV:Hid (num B A w.heap.size 0 (j+l)=x*y):=(by rw[r];exact Nat.mul_comm _ _);clear r d;go_wp2_with (go_at_call 86;refine(zbj _ _ _ _ _ _ (j+l) (Sl.mk _ _ _) (Nat.le_refl _) f f J).mono ?_;rintro e w' ⟨k,rfl,M,t,L,n⟩;subst M);go_ret;rw[Nat.min_self,HV.out]at n;exact⟨_,k,rfl,s,n,t,Fr_some _ _ _ _⟩
 ·by_cases Y:l=0
  ·subst Y;go_enter Tryz.func82,Tryz.ntmps82;go_wp2;go_ret;refine⟨_,0,rfl,zz,?_,by omega,Fr_nil _⟩;rw[←U.out,zao,Nat.mul_zero];exact zff _
  ·by_cases Z:l<48
   ·go_enter Tryz.func82,Tryz.ntmps82;go_wp2_with (first
     |(at_make;refine zap .u64 B za2 rfl _ _ 22 rfl 98 V Tryz.underlying22 D G H .i64 .i64 _ _ (j+l) rfl rfl om om (by rw[I];omega) f ?_;intro z d)
     |(go_at_call 113;fail)
     |(go_at_call 114;fail))
    have g:num B z N O j*num B z u P l=x*y:=(by rw[zah p d.below,zah q d.below,T.out,U.out]);refine(zdr z _ _ _ w.heap.size 0 (j+l) (j+l) N O j W u P l X (Sl.mk _ _ _) E F d.arr d.free (zae p d.below) (zae q d.below) om (Nat.le_refl _) f
     (zd9 d _ om) (fun h=> .inl (by have:=p.lt h;omega)) (fun h=> .inl (by have:=q.lt h;omega))).mono ?_
    rintro e A ⟨rfl,C,J,r⟩;rw[g]at r;rw[Nat.zero_add]at C;have s:Below w.heap.size w A:=d.below.trans (C.below (Nat.le_refl _) (by have:=d.lt;omega));have HV:Hid (num B A w.heap.size 0 (j+l)=x*y):=r;clear r d;go_wp2_with (go_at_call 86;refine(zbj _ _ _ _ _ _ (j+l) (Sl.mk _ _ _) (Nat.le_refl _) f f J).mono ?_;rintro e w' ⟨k,rfl,M,t,L,n⟩;subst M);go_ret;rw[Nat.min_self,HV.out]at n;exact⟨_,k,rfl,s,n,t,Fr_some _ _ _ _⟩
   ·go_enter Tryz.func82,Tryz.ntmps82;go_wp2_with (first
     |(at_make;refine zap .u64 B za2 rfl _ _ 22 rfl 98 V Tryz.underlying22 D G H .i64 .i64 _ _ (j+l) rfl rfl om om (by rw[I];omega) f ?_;intro z d)
     |(go_at_call 113;fail)
     |(go_at_call 114;fail))
    refine(hB z w.heap.size (j+l) (j+l) N O j W ax _ y l om om om om (MY.below d.below) E aa (zae p d.below) d.arr d.free (Nat.le_refl _) f
     (zd9 d _ om) (by have:=p.lt om;omega) (fun b o c h=>by have e:=F om;rw[e]at h;injection h with h1 h2 h3;injection h1 with h1;injection h1 with h1;have:=q.lt om;omega)).mono ?_
    rintro e A ⟨rfl,C,J,r⟩;rw[zah p d.below,T.out]at r;have s:Below w.heap.size w A:=d.below.trans (C.below (Nat.le_refl _) (by have:=d.lt;omega));have HV:Hid (num B A w.heap.size 0 (j+l)=x*y):=r;clear r d;go_wp2_with (go_at_call 86;refine(zbj _ _ _ _ _ _ (j+l) (Sl.mk _ _ _) (Nat.le_refl _) f f J).mono ?_;rintro e w' ⟨k,rfl,M,t,L,n⟩;subst M);go_ret;rw[Nat.min_self,HV.out]at n;exact⟨_,k,rfl,s,n,t,Fr_some _ _ _ _⟩
theorem zcb (s:Int) (b: -9223372036854775808≤s) (c:s≤9223372036854775807) (w:World):
 Calls Tryz.prog 84 #[.int .i64 s] w fun e w'=>e=.returned (.int .u64 (s.natAbs:Int))∧w'=w:=by
 go_enter Tryz.func84,Tryz.ntmps84;by_cases d:s<0
 ·go_wp2;go_ret;exact⟨zb8 (by rw[IntKind.wrap_u64,IntKind.wrap_u64];omega),rfl⟩
 ·go_wp2;go_ret;exact⟨zb8 om,rfl⟩
theorem one_mag (w:World) (x:Nat) (d:¬x=0) (h:x<B):Mag (w.alloc (.cells #[.int .u64 (x:Int)] 98)) (.slice (some ⟨w.heap.size,0,none⟩) 1 1) x 1:=by
 have c:(w.alloc (.cells #[.int .u64 (x:Int)] 98)).cell? ⟨w.heap.size,0,none⟩=some (.int .u64 (x:Int)):=(by rw[World.cell?_alloc_at (w:=w) _ _ w.heap.size 0 rfl];rfl);have b:=zbv c;refine⟨_,w.heap.size,0,1,rfl,Sl.mk _ _ _,Nat.le_refl _,fun i hi=>?_,?_,.inr ?_⟩
 ·obtain rfl:i=0:=om;rw[Nat.zero_add,b];exact⟨c,h⟩
 ·rw[zaj,zao,Nat.zero_add,b];simp
 ·rw[show 0+(1-1)=0 from rfl,b];exact d
theorem zfg (s:Int) (f: -9223372036854775808≤s) (g:s≤9223372036854775807) (w:World):
 Calls Tryz.prog 77 #[.agg #[.int .i64 s,.slice none 0 0]] w fun e w'=>∃v n,e=.returned v∧Below w.heap.size w w'∧Mag w' v s.natAbs n∧n≤1:=by
 have k:∀(w:World) (a:Option Addr) (n c:Nat),(binOp .neq 22 (.slice a n c) (.slice none 0 0)).run Tryz.prog w=.ok (.bool (!a.isNone)) w:=fun w a n c=>run_neq_slice_nil_any w 22 98 a n c 0 0 Tryz.underlying22;by_cases j:s=0
 ·subst j;go_enter Tryz.func77,Tryz.ntmps77;go_wp2;go_ret;exact⟨_,0,rfl,(zz).alloc (Nat.le_refl _) _,zff _,by omega⟩
 ·have d:¬s.natAbs=0:=om;have b:s.natAbs<B:=(by unfold B;omega);go_enter Tryz.func77,Tryz.ntmps77;go_wp2_with (go_at_call 84;refine(zcb s f g _).mono ?_;rintro e w' ⟨rfl,rfl⟩);go_ret;refine⟨_,1,rfl,((zz).alloc (Nat.le_refl _) _).alloc (by simp) _,?_,Nat.le_refl _⟩;have:=one_mag (w.alloc (.cells #[.int .i64 s,.slice none 0 0] 24)) s.natAbs d b;have e:(w.alloc (.cells #[.int .i64 s,.slice none 0 0] 24)).heap.size=w.heap.size+1:=(by simp);rw[e]at this;exact this
def IsInt (w:World) (v:Value) (z:Int):Prop:=
 (v=.agg #[.int .i64 z,.slice none 0 0]∧ -9223372036854775808≤z∧z≤9223372036854775807)∨
 ∃(s:Int) (a:Addr) (n c m:Nat),v=.agg #[.int .i64 s,.slice (some a) n c]∧Mag w (.slice (some a) n c) m n∧(s=1∧z=(m:Int)∧9223372036854775807<z∨s= -1∧z= -(m:Int)∧z< -9223372036854775808)
theorem za6 (w:World) (v:Value) (z:Int) (o:IsInt w v z):
 Calls Tryz.prog 77 #[v] w fun e w'=>∃v n,e=.returned v∧Below w.heap.size w w'∧Mag w' v z.natAbs n:=by
 rcases o with⟨rfl,d,f⟩|⟨s,a,n,c,m,rfl,hm,hs⟩
 ·refine(zfg z d f w).mono ?_;rintro e w' ⟨v,n,d,f,l,_⟩;exact⟨v,n,d,f,l⟩
 ·have p:∀(w:World) (a:Option Addr) (n c:Nat),(binOp .neq 22 (.slice a n c) (.slice none 0 0)).run Tryz.prog w=.ok (.bool (!a.isNone)) w:=fun w a n c=>run_neq_slice_nil_any w 22 98 a n c 0 0 Tryz.underlying22;have k:z.natAbs=m:=om;rw[k];have j:Below w.heap.size w (w.alloc (Obj.cells #[Value.int IntKind.i64 s,Value.slice (some a) n c] 24)):=(zz).alloc (Nat.le_refl _) _;have g:=hm.below j;have b:Hid _:=g;clear g hm hs k;go_enter Tryz.func77,Tryz.ntmps77;go_wp2;go_ret;exact⟨_,n,rfl,j,b.out⟩
def sgn (neg:Bool) (m:Nat):Int:=if neg then -(m:Int) else (m:Int)
theorem zbd (m:Nat):sgn false m=(m:Int):=rfl
theorem zca (m:Nat):sgn true m= -(m:Int):=rfl
theorem zav (w:World) (neg:Bool) (v:Value) (m n:Nat) (s:Mag w v m n):
 Calls Tryz.prog 76 #[.bool neg,v] w fun e w'=>∃v,e=.returned v∧Below w.heap.size w w'∧IsInt w' v (sgn neg m):=by
 have HV:=s;obtain⟨a,b,o,c,rfl,C,G,g,j,q⟩:=s;by_cases u:n=0
 ·subst u;have A:m=0:=(by rw[←j];rfl);subst A;clear j q g HV;go_enter Tryz.func76,Tryz.ntmps76;go_wp2;refine bodyPost_ret (v:= .agg #[.int .i64 0,.slice none 0 0]) (by simp[results,go_sem,loadVar]) rfl ?_;exact⟨_,rfl,(zz).alloc (Nat.le_refl _) _,.inl ⟨by unfold sgn;cases neg <;> rfl,by unfold sgn;cases neg <;> simp,by unfold sgn;cases neg <;> simp⟩⟩
 ·obtain rfl:=C om;have F:b<w.heap.size:=g.lt om;have p:∀X,Below w.heap.size w (w.alloc X):=fun X=>(zz).alloc (Nat.le_refl _) _;by_cases x:n=1
  ·subst x;have f:=zag g (i:=0) om;have l:=zat g (i:=0) om;rw[zaj,zao,Nat.zero_add,Nat.pow_zero,Nat.one_mul,Nat.add_zero]at j;rw[Nat.add_zero,j]at f l;have d:Hid _:=HV;have HB:Hid _:=p;clear j q g HV p;unfold B at l;cases neg
   ·by_cases y:(m:Int)≤9223372036854775807
    ·have t:IntKind.i64.wrap (m:Int)=(m:Int):=(by rw[IntKind.wrap_i64];omega);go_enter Tryz.func76,Tryz.ntmps76;go_wp2;refine bodyPost_ret (v:= .agg #[.int .i64 (m:Int),.slice none 0 0]) (by simp[results,go_sem,loadVar]) rfl ?_;exact⟨_,rfl,HB.out _,.inl ⟨by rw[zbd],by rw[zbd];omega,by rw[zbd];omega⟩⟩
    ·go_enter Tryz.func76,Tryz.ntmps76;go_wp2;refine bodyPost_ret (v:= .agg #[.int .i64 1,.slice (some ⟨b,o,none⟩) 1 c]) (by simp[results,go_sem,loadVar]) rfl ?_;exact⟨_,rfl,HB.out _,.inr ⟨1,_,1,c,m,rfl,Mag.below d.out (HB.out _),.inl ⟨rfl,zbd m,by rw[zbd];omega⟩⟩⟩
   ·by_cases y:(m:Int)≤9223372036854775808
    ·have t:IntKind.i64.wrap (-IntKind.i64.wrap (m:Int))= -(m:Int):=(by rw[IntKind.wrap_i64,IntKind.wrap_i64];omega);go_enter Tryz.func76,Tryz.ntmps76;go_wp2;refine bodyPost_ret (v:= .agg #[.int .i64 (-(m:Int)),.slice none 0 0]) (by simp[results,go_sem,loadVar];have D:=t;simp only[IntKind.wrap_i64,go_sem]at D⊢;simp only[wrap64]at *;omega) rfl ?_;exact⟨_,rfl,HB.out _,.inl ⟨by rw[zca],by rw[zca];omega,by rw[zca];omega⟩⟩
    ·have E:¬(m:Int)≤9223372036854775807:=om;go_enter Tryz.func76,Tryz.ntmps76;go_wp2;refine bodyPost_ret (v:= .agg #[.int .i64 (-1),.slice (some ⟨b,o,none⟩) 1 c]) (by simp[results,go_sem,loadVar]) rfl ?_;exact⟨_,rfl,HB.out _,.inr ⟨-1,_,1,c,m,rfl,Mag.below d.out (HB.out _),.inr ⟨rfl,zca m,by rw[zca];omega⟩⟩⟩
  ·have k:=HV.ge om;have r:B≤B^(n-1):=Nat.le_self_pow om B;have z:B≤m:=Nat.le_trans r k;unfold B at z;have d:Hid _:=HV;have HB:Hid _:=p;clear j q g HV p k r;have H:¬(n:Int)=0:=om;have I:¬(n:Int)=1:=om;cases neg
   ·go_enter Tryz.func76,Tryz.ntmps76;go_wp2;refine bodyPost_ret (v:= .agg #[.int .i64 1,.slice (some ⟨b,o,none⟩) n c]) (by simp[results,go_sem,loadVar]) rfl ?_;exact⟨_,rfl,HB.out _,.inr ⟨1,_,n,c,m,rfl,Mag.below d.out (HB.out _),.inl ⟨rfl,zbd m,by rw[zbd];omega⟩⟩⟩
   ·go_enter Tryz.func76,Tryz.ntmps76;go_wp2;refine bodyPost_ret (v:= .agg #[.int .i64 (-1),.slice (some ⟨b,o,none⟩) n c]) (by simp[results,go_sem,loadVar]) rfl ?_;exact⟨_,rfl,HB.out _,.inr ⟨-1,_,n,c,m,rfl,Mag.below d.out (HB.out _),.inr ⟨rfl,zca m,by rw[zca];omega⟩⟩⟩
theorem zd0 {w w':World} {b lo hi:Nat} (h:Below w.heap.size w w') (c:b<w.heap.size):Chg w w' b lo hi:=⟨h.os,h.tape,h.output,h.size,fun k d _=>h.block k d,fun i _=>h.cell (p:=⟨b,i,none⟩) c,fun i=>h.frozen (p:=⟨b,i,none⟩) c⟩
theorem zb7 {w w':World} {b o n:Nat} (h:Free w b o n) (c:Below w.heap.size w w') (d:b<w.heap.size):Free w' b o n:=fun i hi=>(c.frozen (p:=⟨b,o+i,none⟩) d).trans (h i hi)
theorem chg_S {a w w':World} {b lo hi:Nat} {S:Nat→Nat→Prop} (h:Chg a w b lo hi) (k:ChgS w w' S) (j:∀c i,c<a.heap.size→¬S c i) (d:b<a.heap.size):Chg a w' b lo hi:=
 ⟨k.os.trans h.os,k.tape.trans h.tape,k.output.trans h.output,Nat.le_trans h.size k.size,
  fun c f g=>(k.block c (Nat.lt_of_lt_of_le f h.size) (fun i=>j c i f)).trans (h.block c f g),
  fun i hi=>(k.cell b i (Nat.lt_of_lt_of_le d h.size) (j b i d)).trans (h.cell i hi),
  fun i=>(k.froz b i (Nat.lt_of_lt_of_le d h.size)).trans (h.froz i)⟩
theorem enough_pos {f n r:Nat} (b:48≤n) (h:zc5 f n r):0<r:=by
 cases f with
 |zero=>unfold zc5 at h;omega
 |succ f=>rcases h with h|⟨h,_⟩ <;> omega
theorem part_step {β k q zl zh zh' xl p y c X:Nat} (m:zl+β^k*zh=xl*y) (b:zh'+β^q*c=zh+p*y) (j:xl+β^k*p≤X) (l:X*y<β^(k+q)):
 zl+β^k*zh'=(xl+β^k*p)*y:=by
 have d:β^k*(zh'+β^q*c)=β^k*(zh+p*y):=(by rw[b]);rw[Nat.mul_add,Nat.mul_add,←Nat.mul_assoc,←Nat.pow_add,←Nat.mul_assoc]at d;have g:(xl+β^k*p)*y≤X*y:=Nat.mul_le_mul_right _ j;rw[Nat.add_mul]at g⊢;have f:c=0:=(by refine Classical.byContradiction fun f=>?_;have:=Nat.le_mul_of_pos_right (β^(k+q)) (show 0<c by omega);omega);subst f;rw[Nat.mul_zero]at d;omega
theorem zf2 (m:Nat) (hW:MulW m):MulB (m+1):=by
 intro w g nz cz n o f cx ax vy y b hm mb hl pb hy sb xb T ma ya yb vb fb dc ib;subst pb;have MY:=hy;obtain⟨ay,C,oy,cy,rfl,eb,wa,la,bb,rb⟩:=hy;obtain rfl:=eb om;have ub:=ib C oy cy rfl;clear ib;obtain⟨i0,za,X,gb,hb⟩:=info_parts zb0;have HY:Hid (num B w C oy b=y):=bb;have HX:Hid _:=fb;clear bb fb;have ta:g<w.heap.size:=ma.lt om;have lb:C<w.heap.size:=la.lt om;have e2:IntKind.i64.wrap (2*(b:Int))=2*(b:Int):=(by rw[IntKind.wrap_i64];omega);go_enter Tryz.func114,Tryz.ntmps114;go_wp2_with (first
  |(go_at_call 144;refine(roomFor_any b b (Nat.le_refl _) om _).mono ?_;rintro e l ⟨r,rfl,rfl,xa,hr⟩)
  |(at_make;refine zap .u64 B za2 rfl _ _ 22 rfl 98 i0 Tryz.underlying22 za X gb .i64 .i64 _ _ r rfl rfl om om (by rw[hb];omega) (by unfold maxLen;omega) ?_;intro w1 U)
  |(at_make;refine zap .u64 B za2 rfl _ _ 22 rfl 98 i0 Tryz.underlying22 za X gb .i64 .i64 _ _ (2*b) rfl rfl om om (by rw[hb];omega) (by unfold maxLen;omega) ?_;intro w2 E))
 have r0:=enough_pos mb xa;have l1:=U.lt;have l2:=E.lt;have B2:Below l.heap.size l w2:=U.below.trans (E.below.mono om);have N2:num B w2 g 0 (f+b)=0:=(zah ma B2).trans HX.out;have qa:=zae ma B2;have aa:=zae U.arr E.below;have fa:=zb7 U.free E.below l1;have Z:=E.arr;have ea:=E.free;have C2:Chg l w2 g 0 (f+b):=zd0 B2 ta;obtain⟨H,W⟩:∃H,H=l.heap.size:=⟨_,rfl⟩;obtain⟨I,va⟩:∃I,I=w1.heap.size:=⟨_,rfl⟩;rw[←W]at aa fa l1 ta lb⊢;rw[←va]at Z ea l1⊢;have kb:0<f→n<H:=fun h=>by rw[W];exact T.lt h
 have A:Hid _:=W;clear U E B2 l2 HX W va;go_loopw [9] (fun i wr=>∃k:Nat,k≤f+b∧i=.int .i64 k∧Chg l wr g 0 (f+b)∧Arr .u64 B wr g 0 (f+b)∧Arr .u64 B wr H 0 r∧Free wr H 0 r∧Arr .u64 B wr I 0 (2*b)∧Free wr I 0 (2*b)∧
  num B wr g 0 (f+b)=num B l n o (min k f)*y)
  (fun i _=>f-(intOf i).toNat)
 case atStart=>exact⟨0,by omega,rfl,C2,qa,aa,fa,Z,ea,by rw[Nat.zero_min,zao,Nat.zero_mul];exact N2⟩
 case round=>
  obtain⟨k,hk,rfl,q,s,F,P,G,R,t⟩:=hrel;clear C2 qa aa fa Z ea N2;by_cases zb:k<f
  ·rw[Nat.min_eq_left om]at t;obtain rfl:=sb om;have tb:=kb om;have ra:Arr .u64 B wr n o f:=q.arr T T.lt (fun _=> .inl om);have sa:Arr .u64 B wr C oy b:=q.arr la la.lt (fun _=> .inl om);have jb:Mag wr (.slice (some ⟨C,oy,none⟩) b cy) y b:=by
    refine⟨_,C,oy,cy,rfl,eb,wa,sa,(q.num (fun _=>by have:=A.out;omega) (fun _=> .inl om)).trans HY.out,?_⟩;rcases rb with h1|h1
    ·exact .inl h1
    ·refine .inr ?_;rw[zab (q.cellAt (by have:=A.out;omega) (.inl om))];exact h1
   have px:num B wr n (o+k) (min b (f-k))=num B l n (o+k) (min b (f-k)):=q.num (fun _=>by have:=A.out;omega) (fun _=> .inl om);have HN:Hid _:=t;have c1:¬cx=k:=om;have c2:¬cz=k:=om;have CF:=zbj wr (some ⟨n,o+k,none⟩) n (o+k) (f-k) (cx-k) b (Sl.mk _ _ _) om (by unfold maxLen;omega) (by unfold maxLen;omega) (ra.sub om);rw[px]at CF;have HP:Hid _:=px;clear t px;go_wp2_with (go_at_call 86;fail);refine CF.mono ?_;rintro e Y ⟨p,rfl,hw,bc,cc,oa⟩;subst hw;clear CF;have pa:num B Y C oy b=y:=(q.num (fun _=>by have:=A.out;omega) (fun _=> .inl om)).trans HY.out;by_cases qb:p=b
   ·have cb:=qb.symm;subst cb;have e3:min b (f-k)=b:=om;have CH:=zd8 b b Y I 0 (2*b) n (o+k) b C oy cy H 0 r r om om xa (Nat.le_refl _) (Nat.le_refl _) wa (Nat.le_refl _) (by unfold maxLen;omega) (by unfold maxLen;omega) G R
     (ra.sub om) sa F P (fun _ _=> .inl om) (fun _ _=> .inl om) (fun _ _=> .inl om) (fun _ _=> .inl om) (fun _ _=> .inl om) _ (Sl.mk H 0 r)
    go_wp2_with (go_at_call 145;fail);refine CH.mono ?_;rintro e w4 ⟨rfl,g1,g2,g3,g4⟩;clear CH;have hR:∀c i,c<H→¬R2 I 0 (0+2*b) H 0 (0+r) c i:=fun c i hc=>zb1 om om;have K4:Chg l w4 g 0 (f+b):=chg_S q g1 (fun c i hc=>hR c i (by have:=A.out;omega)) (by have:=A.out;omega);have u:Arr .u64 B w4 g 0 (f+b):=g1.arr s (fun i hi=>hR _ _ om);have D:Arr .u64 B w4 H 0 r:=g3;have ha:Free w4 H 0 r:=g1.free P F.lt;have z:Arr .u64 B w4 I 0 (2*b):=g2;have ga:Free w4 I 0 (2*b):=g1.free R G.lt;have N:num B w4 g 0 k=num B Y g 0 k:=g1.num (zbg s om) (fun i hi=>hR _ _ om);have O:num B w4 g k (f+b-k)=num B Y g k (f+b-k):=(by have S:=s.sub (d:=k) (m:=f+b-k) om;rw[Nat.zero_add]at S;exact g1.num S (fun i hi=>hR _ _ om));have M:Free w4 g 0 (f+b):=K4.free ya (fun _=>by have:=A.out;omega);have J:Arr .u64 B w4 g k (f+b-k):=(by have:=u.sub (d:=k) (m:=f+b-k) om;rwa [Nat.zero_add]at this);have L:Free w4 g k (f+b-k):=(by have:=M.sub (d:=k) (m:=f+b-k) om;rwa [Nat.zero_add]at this);have g5:num B w4 I 0 (2*b)=num B l n (o+k) (min b (f-k))*y:=(by rw[g4,pa,←HP.out,e3]);have CA:=zbt w4 (some ⟨g,k,none⟩) (some ⟨I,0,none⟩) g k (f+b-k) (cz-k) I 0 (2*b) (2*b) (Sl.mk _ _ _) (Sl.mk _ _ _) J L z om (fun _=> .inl om) (by unfold maxLen;omega);rw[g5]at CA;clear g4 g5 e3 q s F P G R oa g1 g2 g3;go_wp2_with (go_at_call 142;fail);refine CA.mono ?_;rintro e V ⟨rfl,q1,q2,c,hc,q3⟩;clear CA;have q5:num B w4 g 0 k+B^k*num B w4 g k (f+b-k)=num B l n o k*y:=(by have S:=HN.out;rw[show f+b=k+(f+b-k)by omega,za5,Nat.zero_add]at S;rw[N,O];exact S);have K5:Chg l V g 0 (f+b):=K4.trans (q1.mono om om);have l4:g<w4.heap.size:=u.lt om;have da:Arr .u64 B V g 0 (f+b):=fun i hi=>by
     by_cases na:i<k
     ·have e:=q1.cell (0+i) om;rw[zab e,e];exact u i hi
     ·obtain⟨j,rfl⟩:=Nat.exists_eq_add_of_le (Nat.le_of_not_lt na);have:=q2 j om
      rwa [Nat.zero_add]
    have ca:=q1.arr D D.lt (fun _=> .inl om);have ja:=q1.free ha D.lt;have ba:=q1.arr z z.lt (fun _=> .inl om);have ia:=q1.free ga z.lt;have X1:num B l n o k+B^k*num B l n (o+k) (min b (f-k))=num B l n o (min (k+b) f):=(by rw[show min (k+b) f=k+min b (f-k)by omega,za5]);have X2:num B l n o (min (k+b) f)≤num B l n o f:=(by have e:num B l n o (min (k+b) f+(f-min (k+b) f))=num B l n o f:=(by congr 1;omega);rw[za5]at e;exact Nat.le.intro e);have X3:num B l n o f*y<B^(k+(f+b-k)):=(by rw[show k+(f+b-k)=f+b by omega];exact _root_.Rad.mul_lt_pow (za1 T) MY.lt);have N5:num B V g 0 (f+b)=num B l n o (min (k+b) f)*y:=(by rw[←X1]at X2⊢;have h1:=part_step q5 q3 X2 X3;rw[←h1];have e:num B V g 0 (f+b)=num B V g 0 (k+(f+b-k)):=(by congr 1;omega);rw[e,za5,Nat.zero_add,q1.num (fun _=>l4) (fun _=>by omega)]);have ka:Hid _:=N5;clear N5 X1 X2 X3 q5 q3 HN pa N O HP u M J L q1 q2;go_wp2;go_roundw
    case rel=>exact⟨k+b,by omega,by go_num,K5,da,ca,ja,ba,ia,ka.out⟩
    case measure=>simp[intOf];omega
   ·have CW:=hW Y (.slice (some ⟨n,o+k,none⟩) p p) _ _ p y b oa jb (.inl om) om;go_wp2_with (go_at_call 82;fail);refine CW.mono ?_;rintro e w4 ⟨v,n',rfl,x,nb,ac,ua⟩;clear CW;obtain⟨av,bv,ov,cv,rfl,db,wb,ob,ab,_⟩:=nb;have lz:g<Y.heap.size:=s.lt om;have K4:Chg l w4 g 0 (f+b):=q.trans (zd0 x lz);have u:Arr .u64 B w4 g 0 (f+b):=zae s x;have D:Arr .u64 B w4 H 0 r:=zae F x;have ha:Free w4 H 0 r:=zb7 P x (F.lt r0);have z:Arr .u64 B w4 I 0 (2*b):=zae G x;have ga:Free w4 I 0 (2*b):=zb7 R x (G.lt om);have N:num B w4 g 0 k=num B Y g 0 k:=zah (zbg s om) x;have O:num B w4 g k (f+b-k)=num B Y g k (f+b-k):=(by have S:=s.sub (d:=k) (m:=f+b-k) om;rw[Nat.zero_add]at S;exact zah S x);have M:Free w4 g 0 (f+b):=K4.free ya (fun _=>by have:=A.out;omega);have J:Arr .u64 B w4 g k (f+b-k):=(by have:=u.sub (d:=k) (m:=f+b-k) om;rwa [Nat.zero_add]at this);have L:Free w4 g k (f+b-k):=(by have:=M.sub (d:=k) (m:=f+b-k) om;rwa [Nat.zero_add]at this);have CA:=zbt w4 (some ⟨g,k,none⟩) av g k (f+b-k) (cz-k) bv ov n' cv (Sl.mk _ _ _) db J L ob om (fun h=> .inl (by have e:=ua bv ov n' cv (by rw[db h]);omega)) (by unfold maxLen;omega);rw[ab]at CA;clear ab q s F P G R oa x ua;go_wp2_with (go_at_call 142;fail);refine CA.mono ?_;rintro e V ⟨rfl,q1,q2,c,hc,q3⟩;clear CA;have q5:num B w4 g 0 k+B^k*num B w4 g k (f+b-k)=num B l n o k*y:=(by have S:=HN.out;rw[show f+b=k+(f+b-k)by omega,za5,Nat.zero_add]at S;rw[N,O];exact S);have K5:Chg l V g 0 (f+b):=K4.trans (q1.mono om om);have l4:g<w4.heap.size:=u.lt om;have da:Arr .u64 B V g 0 (f+b):=fun i hi=>by
     by_cases na:i<k
     ·have e:=q1.cell (0+i) om;rw[zab e,e];exact u i hi
     ·obtain⟨j,rfl⟩:=Nat.exists_eq_add_of_le (Nat.le_of_not_lt na);have:=q2 j om
      rwa [Nat.zero_add]
    have ca:=q1.arr D D.lt (fun _=> .inl om);have ja:=q1.free ha D.lt;have ba:=q1.arr z z.lt (fun _=> .inl om);have ia:=q1.free ga z.lt;have X1:num B l n o k+B^k*num B l n (o+k) (min b (f-k))=num B l n o (min (k+b) f):=(by rw[show min (k+b) f=k+min b (f-k)by omega,za5]);have X2:num B l n o (min (k+b) f)≤num B l n o f:=(by have e:num B l n o (min (k+b) f+(f-min (k+b) f))=num B l n o f:=(by congr 1;omega);rw[za5]at e;exact Nat.le.intro e);have X3:num B l n o f*y<B^(k+(f+b-k)):=(by rw[show k+(f+b-k)=f+b by omega];exact _root_.Rad.mul_lt_pow (za1 T) MY.lt);have N5:num B V g 0 (f+b)=num B l n o (min (k+b) f)*y:=(by rw[←X1]at X2⊢;have h1:=part_step q5 q3 X2 X3;rw[←h1];have e:num B V g 0 (f+b)=num B V g 0 (k+(f+b-k)):=(by congr 1;omega);rw[e,za5,Nat.zero_add,q1.num (fun _=>l4) (fun _=>by omega)]);have ka:Hid _:=N5;clear N5 X1 X2 X3 q5 q3 HN pa N O HP u M J L q1 q2;go_wp2;go_roundw
    case rel=>exact⟨k+b,by omega,by go_num,K5,da,ca,ja,ba,ia,ka.out⟩
    case measure=>simp[intOf];omega
  ·rw[Nat.min_eq_right om]at t;have HN:Hid _:=t;clear t;go_wp2;go_end0;exact⟨rfl,q,s,HN.out⟩
theorem mulB_any:∀m,MulB m
 |0=>by intro w f o j d p l g c q y n k b;omega
 |m+1=>zf2 m (zfj m (mulB_any m))
theorem zc8 (w:World) (d f:Value) (x b y c:Nat) (j:Mag w d x b) (k:Mag w f y c) (g:b+c≤1099511627776):
 Calls Tryz.prog 82 #[d,f] w fun e w'=>∃v n,e=.returned v∧Below w.heap.size w w'∧Mag w' v (x*y) n∧n≤b+c∧Fr w.heap.size v:=
 zfj b (mulB_any b) w d f x b y c j k (.inl (Nat.le_refl _)) g
theorem IsInt.below {w w':World} {v:Value} {z:Int} (h:IsInt w v z) (b:Below w.heap.size w w'):IsInt w' v z:=by
 rcases h with h|⟨s,a,n,c,m,g,d,f⟩
 ·exact .inl h
 ·exact .inr ⟨s,a,n,c,m,g,d.below b,f⟩
theorem IsInt.form {w:World} {v:Value} {z:Int} (h:IsInt w v z):∃s a n c,v=.agg #[.int .i64 s,.slice a n c]:=by
 rcases h with⟨rfl,_,_⟩|⟨s,a,n,c,m,rfl,hm,hs⟩
 ·exact⟨_,_,_,_,rfl⟩
 ·exact⟨_,_,_,_,rfl⟩
theorem za4 (w:World) (z:Int) (b: -9223372036854775808≤z) (c:z≤9223372036854775807):IsInt w (.agg #[.int .i64 z,.slice none 0 0]) z:= .inl ⟨rfl,b,c⟩
theorem IsInt.sgn {w:World} {s z:Int} {a:Option Addr} {n c:Nat} (h:IsInt w (.agg #[.int .i64 s,.slice a n c]) z):
 -9223372036854775808≤s∧s≤9223372036854775807∧(s<0↔z<0)∧(0<s↔0<z)∧(a=none→s=z∧n=0∧c=0):=by
 rcases h with⟨h,h1,h2⟩|⟨s',a',n',c',m,h,hm,hs⟩
 ·simp only[Value.agg.injEq,Array.mk.injEq,List.cons.injEq,Value.int.injEq,Value.slice.injEq,and_true,true_and]at h;obtain⟨rfl,rfl,rfl,rfl⟩:=h;exact⟨h1,h2,Iff.rfl,Iff.rfl,fun _=>⟨rfl,rfl,rfl⟩⟩
 ·simp only[Value.agg.injEq,Array.mk.injEq,List.cons.injEq,Value.int.injEq,Value.slice.injEq,and_true,true_and]at h;obtain⟨rfl,rfl,rfl,rfl⟩:=h;exact⟨by omega,by omega,by omega,by omega,fun h=>by simp at h⟩
theorem IsInt.mag {w:World} {s z:Int} {a:Addr} {n c:Nat} (h:IsInt w (.agg #[.int .i64 s,.slice (some a) n c]) z):Mag w (.slice (some a) n c) z.natAbs n∧(s=1∧0<z∨s= -1∧z<0):=by
 rcases h with⟨h,b,h2⟩|⟨s',a',n',c',m,h,hm,hs⟩
 ·simp at h
 ·simp only[Value.agg.injEq,Array.mk.injEq,List.cons.injEq,Value.int.injEq,Value.slice.injEq,and_true,true_and]at h;obtain⟨rfl,b,rfl,rfl⟩:=h;obtain rfl:=oi b;have e:z.natAbs=m:=om;rw[e];exact⟨hm,by omega⟩
theorem Mag.set {w:World} {v u:Value} {x n:Nat} {p:Addr} (h:Mag w v x n) (d:∀y,w.cell? p≠some (.int .u64 y)) (z:p=⟨p.block,p.off,none⟩):Mag (w.setCell p u) v x n:=by
 obtain⟨r,b,o,c,A,g,s,k,B,t⟩:=h;rw[z]at d⊢;generalize p.block=pb at d⊢;generalize p.off=po at d⊢;have q:pb≠b∨po<o∨o+n≤po:=by
  by_cases l:pb=b
  ·subst l;right;refine Classical.byContradiction fun m=>?_;have j:=(k (po-o) om).1;rw[show o+(po-o)=po by omega]at j;exact d _ j
  ·exact .inl l
 refine⟨r,b,o,c,A,g,s,k.set' q,by rw[zan q,B],?_⟩;rcases t with f|f
 ·exact .inl f
 ·by_cases C:n=0
  ·exact .inl C
  ·right;rw[za0 om];exact f
theorem IsInt.set {w:World} {v u:Value} {z:Int} {p:Addr} (h:IsInt w v z) (d:∀y,w.cell? p≠some (.int .u64 y)) (f:p=⟨p.block,p.off,none⟩):IsInt (w.setCell p u) v z:=by
 rcases h with h|⟨s,a,n,c,m,g,b,j⟩
 ·exact .inl h
 ·exact .inr ⟨s,a,n,c,m,g,b.set d f,j⟩
theorem IsInt.stored {w:World} {v u1 u2 y:Value} {z:Int} {b:Nat} {x:Int} (h:IsInt w v z) (c:w.cell? ⟨b,0,none⟩=some (.int .i64 x)) (d:w.cell? ⟨b,1,none⟩=some y)
 (g:∀q,y≠ .int .u64 q):IsInt ((w.setCell ⟨b,0,none⟩ u1).setCell ⟨b,1,none⟩ u2) v z:=by
 refine(h.set (by rw[c];intro q;simp) rfl).set ?_ rfl;rw[zaa om,d];intro q f;exact g q (oi f)
theorem qEq (w:World) (a:Option Addr) (n c:Nat):(binOp .eql 22 (.slice a n c) (.slice none 0 0)).run Tryz.prog w=.ok (.bool a.isNone) w:=Lib.run_eql_slice_nil w 22 98 a n c 0 0 Tryz.underlying22
theorem qNe (w:World) (a:Option Addr) (n c:Nat):(binOp .neq 22 (.slice a n c) (.slice none 0 0)).run Tryz.prog w=.ok (.bool (!a.isNone)) w:=run_neq_slice_nil_any w 22 98 a n c 0 0 Tryz.underlying22
theorem zac {P:Program} {Q:Exit→Act→World→Prop} {a:Act} {w:World} {c:Code} (F:World→Prop) (d:F w) (h:∀b,F b→c.wp P Q a b):c.wp P Q a w:=h w d
theorem zau (w:World) (X:Obj):Below w.heap.size w (w.alloc X):=(zz).alloc (Nat.le_refl _) _
theorem bel2 (w:World) (X Y:Obj):Below w.heap.size w ((w.alloc X).alloc Y):=(zau w X).alloc (by simp) _
theorem zcr (w:World) (X Y Z:Obj):Below w.heap.size w (((w.alloc X).alloc Y).alloc Z):=(bel2 w X Y).alloc (by simp;omega) _
theorem sign_any (w:World) (v:Value) (z:Int) (b:IsInt w v z):
 Calls Tryz.prog 18 #[v] w fun e w'=>e=.returned (.int .i64 (zbb z 0))∧Below w.heap.size w w':=by
 obtain⟨s,a,n,c,rfl⟩:=b.form;obtain⟨d,f,g,j,k⟩:=b.sgn;have e:zbb z 0=zbb s 0:=(by unfold zbb;split <;> split <;> first|omega|(split <;> split <;> omega)|(split <;> omega));rw[e];clear b e d f g j k;go_enter Tryz.func18,Tryz.ntmps18;go_wp2_with (go_at_call 74;refine(compare_i _ _ _).mono ?_;rintro e w' ⟨rfl,l⟩;subst l);go_ret;exact⟨rfl,zau _ _⟩
theorem zfm (w:World) (z:Int) (b: -9223372036854775808≤z) (c:z≤9223372036854775807):
 Calls Tryz.prog 16 #[.int .i64 z] w fun e w'=>∃v,e=.returned v∧Below w.heap.size w w'∧IsInt w' v z:=by
 go_enter Tryz.func16,Tryz.ntmps16;go_wp2;refine bodyPost_ret (v:= .agg #[.int .i64 z,.slice none 0 0]) (by simp[results,go_sem,loadVar]) rfl ?_;exact⟨_,rfl,zau _ _,za4 _ _ b c⟩
theorem neg_any (w:World) (v:Value) (z:Int) (hv:IsInt w v z):
 Calls Tryz.prog 20 #[v] w fun e w'=>∃v,e=.returned v∧Below w.heap.size w w'∧IsInt w' v (-z):=by
 have q:=qEq;obtain⟨s,a,n,c,rfl⟩:=hv.form;obtain⟨g1,g2,g3,g4,g5⟩:=hv.sgn;by_cases hf:a=none∧s≠ -9223372036854775808
 ·obtain⟨rfl,hs⟩:=hf;obtain⟨rfl,rfl,rfl⟩:=g5 rfl;have ga:((s != -9223372036854775808)=true):=(by simpa using hs);clear hv;go_enter Tryz.func20,Tryz.ntmps20;go_wp2;refine bodyPost_ret (v:= .agg #[.int .i64 (-s),.slice none 0 0]) (by simp[results,go_sem,loadVar]) rfl ?_;exact⟨_,rfl,bel2 _ _ _,za4 _ _ om om⟩
 ·have hV:∀g,Below w.heap.size w g→IsInt g (.agg #[.int .i64 s,.slice a n c]) z:=fun g h=>hv.below h;have aa:Hid (sgn (decide (s>0)) z.natAbs= -z):=by
   show sgn (decide (s>0)) z.natAbs= -z;by_cases h0:0<s
   ·rw[decide_eq_true h0,zca];omega
   ·rw[decide_eq_false h0,zbd];omega
  clear g3 g4 g5 hv;rcases a with _|a
  ·have fa:(s != -9223372036854775808)=false:=(by simpa using hf);clear hf;go_enter Tryz.func20,Tryz.ntmps20;go_wp2;refine zac (fun g=>Below w.heap.size w g∧w.heap.size+1<g.heap.size∧g.cell? ⟨w.heap.size,0,none⟩=some (.int .i64 s)∧g.cell? ⟨w.heap.size,1,none⟩=some (.slice none n c)∧g.cell? ⟨w.heap.size+1,0,none⟩=some (.int .i64 0)∧g.cell? ⟨w.heap.size+1,1,none⟩=some (.slice none 0 0)∧g.frozen? ⟨w.heap.size+1,0,none⟩=false∧g.frozen? ⟨w.heap.size+1,1,none⟩=false) ⟨bel2 _ _ _,by simp,by go_keep,by go_keep,by go_keep,by go_keep,by go_keep,by go_keep⟩ ?_;rintro g ⟨l,D,T,U,r0,r1,f0,f1⟩;have F:w.heap.size<g.heap.size:=om;refine zaq zbf [⟨15,[],[],[1]⟩,⟨16,[0],[0],[]⟩,⟨17,[1],[0,1],[]⟩,⟨18,[],[],[1]⟩,⟨19,[3],[3],[]⟩,⟨20,[2,4],[0,1,2,3,4],[]⟩] [] kfl 21 rfl kfl (fun (i:Nat) (v:Value) (G:World)=>match i with|0=>v=.pointer (some ⟨w.heap.size,0,none⟩)|1=>v=.int .i64 (s)|2=>v=.bool (decide ((s)>(0)))|3=>v=.agg #[.int .i64 s,.slice none n c]|4=>∃n,Mag G v z.natAbs n|5=>IsInt G v (-z)|_=>True) (fun _ G=>Below g.heap.size g G) (fun u H=>Below u.heap.size u H) (zz).drew (fun i v u H h hx=>match i,h with|0,h=>h|1,h=>h|2,h=>h|3,h=>h|4,h=>by obtain⟨n,h⟩:=h;exact⟨n,h.below hx⟩|5,h=>h.below hx|n+6,_=>trivial) ?_ ?_
   ·intro i o r m k L fr u t hL S R C b d;clear hL S R C
    match i,m,k with
    |0,m,k=>?_
    |1,m,k=>?_
    |2,m,k=>?_
    |3,m,k=>?_
    |4,m,k=>obtain rfl:=oi m;obtain rfl:=oi k;have N:=evs 18 (b 3 dd _ rfl);clear b d;refine zam rfl rfl fun K y=>?_;go_simp;refine(za6 u _ z (hV u (l.trans (t.mono l.size)))).mono ?_;rintro e H ⟨v4,n4,rfl,B,x⟩;exact y _ _ ⟨⟨n4,x⟩,t.trans (B.mono t.size),B,nn⟩
    |5,m,k=>obtain rfl:=oi m;obtain rfl:=oi k;have M:=evs 17 (b 2 dd _ rfl);obtain⟨u4,O,p4⟩:=evr 19 (P:=fun u4=>∃n,Mag u u4 z.natAbs n) (b 4 dd _ rfl);clear b d;refine zam rfl rfl fun K y=>?_;obtain⟨n4,x⟩:=p4;go_simp;refine(zav u (decide ((s)>(0))) _ _ _ x).mono ?_;rintro e H ⟨v5,rfl,B,E⟩;exact y _ _ ⟨by rw[aa.out]at E;exact E,t.trans (B.mono t.size),B,nn⟩
    |n+6,m,k=>exact absurd k (by simp)
    all_goals obtain rfl:=oi m;obtain rfl:=oi k;simp only[uxw,uw,evt]at b d;have ba:=(t.cell (p:=⟨w.heap.size,0,none⟩) F).trans T;have ca:=(t.cell (p:=⟨w.heap.size,1,none⟩) F).trans U;refine zam rfl rfl fun K y=>?_;go_simp;exact y _ _ ⟨rfl,t,zz,nn⟩
   ·intro vs wn f j A;clear A;have e0:vs 0=_:=f 0 dd;have e1:vs 1=_:=f 1 dd;have M:vs 2=_:=f 2 dd;have N:vs 3=_:=f 3 dd;obtain⟨u4,O,p4⟩:∃u4,vs 4=u4∧(∃n,Mag wn u4 z.natAbs n):=⟨_,rfl,f 4 dd⟩;obtain⟨u5,e5,W⟩:∃u5,vs 5=u5∧(IsInt wn u5 (-z)):=⟨_,rfl,f 5 dd⟩;simp only[zbx,Nat.reduceAdd,e0,e1,M,N,O,e5,Act.put,ll];clear f e0 e1 M N O e5;have X:=(j.cell (p:=⟨w.heap.size+1,0,none⟩) D).trans r0;have Y:=(j.cell (p:=⟨w.heap.size+1,1,none⟩) D).trans r1;have da:=(j.frozen (p:=⟨w.heap.size+1,0,none⟩) D).trans f0;have ea:=(j.frozen (p:=⟨w.heap.size+1,1,none⟩) D).trans f1;obtain⟨Z,I,V,J,rfl⟩:=W.form;have hE:=(((l.trans (j.mono l.size)).setCell (p:=⟨w.heap.size+1,0,none⟩) (by simp) (.int .i64 Z)).setCell (p:=⟨w.heap.size+1,1,none⟩) (by simp) (.slice I V J));have hI:=W.stored (u1:= .int .i64 Z) (u2:= .slice I V J) X Y (by intro q;simp);clear W l j r0 r1 f0 f1 D;go_wp2;refine bodyPost_ret (v:= .agg #[.int .i64 Z,.slice I V J]) rt rfl ?_;exact⟨_,rfl,hE,hI⟩
  ·clear hf;go_enter Tryz.func20,Tryz.ntmps20;go_wp2;refine zac (fun g=>Below w.heap.size w g∧w.heap.size+1<g.heap.size∧g.cell? ⟨w.heap.size,0,none⟩=some (.int .i64 s)∧g.cell? ⟨w.heap.size,1,none⟩=some (.slice (some a) n c)∧g.cell? ⟨w.heap.size+1,0,none⟩=some (.int .i64 0)∧g.cell? ⟨w.heap.size+1,1,none⟩=some (.slice none 0 0)∧g.frozen? ⟨w.heap.size+1,0,none⟩=false∧g.frozen? ⟨w.heap.size+1,1,none⟩=false) ⟨bel2 _ _ _,by simp,by go_keep,by go_keep,by go_keep,by go_keep,by go_keep,by go_keep⟩ ?_;rintro g ⟨l,D,T,U,r0,r1,f0,f1⟩;have F:w.heap.size<g.heap.size:=om;refine zaq zbf [⟨15,[],[],[1]⟩,⟨16,[0],[0],[]⟩,⟨17,[1],[0,1],[]⟩,⟨18,[],[],[1]⟩,⟨19,[3],[3],[]⟩,⟨20,[2,4],[0,1,2,3,4],[]⟩] [] kfl 21 rfl kfl (fun (i:Nat) (v:Value) (G:World)=>match i with|0=>v=.pointer (some ⟨w.heap.size,0,none⟩)|1=>v=.int .i64 (s)|2=>v=.bool (decide ((s)>(0)))|3=>v=.agg #[.int .i64 s,.slice (some a) n c]|4=>∃n,Mag G v z.natAbs n|5=>IsInt G v (-z)|_=>True) (fun _ G=>Below g.heap.size g G) (fun u H=>Below u.heap.size u H) (zz).drew (fun i v u H h hx=>match i,h with|0,h=>h|1,h=>h|2,h=>h|3,h=>h|4,h=>by obtain⟨n,h⟩:=h;exact⟨n,h.below hx⟩|5,h=>h.below hx|n+6,_=>trivial) ?_ ?_
   ·intro i o r m k L fr u t hL S R C b d;clear hL S R C
    match i,m,k with
    |0,m,k=>?_
    |1,m,k=>?_
    |2,m,k=>?_
    |3,m,k=>?_
    |4,m,k=>obtain rfl:=oi m;obtain rfl:=oi k;have N:=evs 18 (b 3 dd _ rfl);clear b d;refine zam rfl rfl fun K y=>?_;go_simp;refine(za6 u _ z (hV u (l.trans (t.mono l.size)))).mono ?_;rintro e H ⟨v4,n4,rfl,B,x⟩;exact y _ _ ⟨⟨n4,x⟩,t.trans (B.mono t.size),B,nn⟩
    |5,m,k=>obtain rfl:=oi m;obtain rfl:=oi k;have M:=evs 17 (b 2 dd _ rfl);obtain⟨u4,O,p4⟩:=evr 19 (P:=fun u4=>∃n,Mag u u4 z.natAbs n) (b 4 dd _ rfl);clear b d;refine zam rfl rfl fun K y=>?_;obtain⟨n4,x⟩:=p4;go_simp;refine(zav u (decide ((s)>(0))) _ _ _ x).mono ?_;rintro e H ⟨v5,rfl,B,E⟩;exact y _ _ ⟨by rw[aa.out]at E;exact E,t.trans (B.mono t.size),B,nn⟩
    |n+6,m,k=>exact absurd k (by simp)
    all_goals obtain rfl:=oi m;obtain rfl:=oi k;simp only[uxw,uw,evt]at b d;have ba:=(t.cell (p:=⟨w.heap.size,0,none⟩) F).trans T;have ca:=(t.cell (p:=⟨w.heap.size,1,none⟩) F).trans U;refine zam rfl rfl fun K y=>?_;go_simp;exact y _ _ ⟨rfl,t,zz,nn⟩
   ·intro vs wn f j A;clear A;have e0:vs 0=_:=f 0 dd;have e1:vs 1=_:=f 1 dd;have M:vs 2=_:=f 2 dd;have N:vs 3=_:=f 3 dd;obtain⟨u4,O,p4⟩:∃u4,vs 4=u4∧(∃n,Mag wn u4 z.natAbs n):=⟨_,rfl,f 4 dd⟩;obtain⟨u5,e5,W⟩:∃u5,vs 5=u5∧(IsInt wn u5 (-z)):=⟨_,rfl,f 5 dd⟩;simp only[zbx,Nat.reduceAdd,e0,e1,M,N,O,e5,Act.put,ll];clear f e0 e1 M N O e5;have X:=(j.cell (p:=⟨w.heap.size+1,0,none⟩) D).trans r0;have Y:=(j.cell (p:=⟨w.heap.size+1,1,none⟩) D).trans r1;have da:=(j.frozen (p:=⟨w.heap.size+1,0,none⟩) D).trans f0;have ea:=(j.frozen (p:=⟨w.heap.size+1,1,none⟩) D).trans f1;obtain⟨Z,I,V,J,rfl⟩:=W.form;have hE:=(((l.trans (j.mono l.size)).setCell (p:=⟨w.heap.size+1,0,none⟩) (by simp) (.int .i64 Z)).setCell (p:=⟨w.heap.size+1,1,none⟩) (by simp) (.slice I V J));have hI:=W.stored (u1:= .int .i64 Z) (u2:= .slice I V J) X Y (by intro q;simp);clear W l j r0 r1 f0 f1 D;go_wp2;refine bodyPost_ret (v:= .agg #[.int .i64 Z,.slice I V J]) rt rfl ?_;exact⟨_,rfl,hE,hI⟩
end Go.Proofs.YtjlkplidpdhgbaaGreatDoor
namespace Rad
theorem mix_word {L X Y W β p q P Q c a b l1 l2 P' Q' z c':Nat} (h:L+q*Y+W*P=p*X+W*(Q+c))
 (g:l1+β*P'=p*a+P) (j:l2+β*Q'=q*b+Q) (k:z+l2+c=l1+β*c'):
 (L+W*z)+q*(Y+W*b)+W*β*P'=p*(X+W*a)+W*β*(Q'+c'):=by
 have l:W*(l1+β*P')=W*(p*a+P):=(by rw[g]);have m:W*(l2+β*Q')=W*(q*b+Q):=(by rw[j]);have n:W*(z+l2+c)=W*(l1+β*c'):=(by rw[k]);have d:q*(Y+W*b)=q*Y+W*(q*b):=(by rw[Nat.mul_add];congr 1;rw[←Nat.mul_assoc,Nat.mul_comm q W,Nat.mul_assoc]);have f:p*(X+W*a)=p*X+W*(p*a):=(by rw[Nat.mul_add];congr 1;rw[←Nat.mul_assoc,Nat.mul_comm p W,Nat.mul_assoc]);rw[d,f];simp only[Nat.mul_add,Nat.mul_assoc]at *;omega
theorem mix_end {L X Y W p q P Q c z:Nat} (h:L+q*Y+W*P=p*X+W*(Q+c)) (j:p*X=q*Y+z) (g:L<W) (b:z<W):L=z:=by have f:L+W*P=z+W*(Q+c):=om;have d:(L+W*P)%W=(z+W*(Q+c))%W:=(by rw[f]);rw[Nat.add_mul_mod_self_left,Nat.add_mul_mod_self_left,Nat.mod_eq_of_lt g,Nat.mod_eq_of_lt b]at d;exact d
theorem gcd_turn {p q r s X Y x y:Nat} (b:p*X=q*Y+x) (c:s*Y=r*X+y) (j:p*s=q*r+1):Nat.gcd x y=Nat.gcd X Y:=by
 apply Nat.dvd_antisymm
 ·have d1:=Nat.gcd_dvd_left x y;have d2:=Nat.gcd_dvd_right x y;apply Nat.dvd_gcd
  ·have e:s*x+q*y=X:=(by have d:s*(p*X)=s*(q*Y+x):=(by rw[b]);have f:q*(s*Y)=q*(r*X+y):=(by rw[c]);have g:(p*s)*X=(q*r+1)*X:=(by rw[j]);rw[Nat.add_mul,Nat.one_mul]at g;have k:s*(p*X)=p*s*X:=(by rw[←Nat.mul_assoc,Nat.mul_comm s p]);have l:q*(r*X)=q*r*X:=(by rw[←Nat.mul_assoc]);have m:s*(q*Y)=q*(s*Y):=(by rw[←Nat.mul_assoc,Nat.mul_comm s q,Nat.mul_assoc]);rw[Nat.mul_add]at d f;omega);rw[←e];exact Nat.dvd_add (Nat.dvd_trans d1 (Nat.dvd_mul_left x s)) (Nat.dvd_trans d2 (Nat.dvd_mul_left y q))
  ·have e:r*x+p*y=Y:=(by have d:r*(p*X)=r*(q*Y+x):=(by rw[b]);have f:p*(s*Y)=p*(r*X+y):=(by rw[c]);have g:(p*s)*Y=(q*r+1)*Y:=(by rw[j]);rw[Nat.add_mul,Nat.one_mul]at g;have k:p*(s*Y)=p*s*Y:=(by rw[←Nat.mul_assoc]);have l:r*(q*Y)=q*r*Y:=(by rw[←Nat.mul_assoc,Nat.mul_comm r q]);have m:r*(p*X)=p*(r*X):=(by rw[←Nat.mul_assoc,Nat.mul_comm r p,Nat.mul_assoc]);rw[Nat.mul_add]at d f;omega);rw[←e];exact Nat.dvd_add (Nat.dvd_trans d1 (Nat.dvd_mul_left x r)) (Nat.dvd_trans d2 (Nat.dvd_mul_left y p))
 ·have d1:=Nat.gcd_dvd_left X Y;have d2:=Nat.gcd_dvd_right X Y;apply Nat.dvd_gcd
  ·exact(Nat.dvd_add_right (Nat.dvd_trans d2 (Nat.dvd_mul_left Y q))).1 (b▸Nat.dvd_trans d1 (Nat.dvd_mul_left X p))
  ·exact(Nat.dvd_add_right (Nat.dvd_trans d1 (Nat.dvd_mul_left X r))).1 (c▸Nat.dvd_trans d2 (Nat.dvd_mul_left Y s))
theorem turn_gcd {X Y p q r s x y:Nat} {odd:Bool} (e:odd=false→p*X=q*Y+x∧s*Y=r*X+y∧p*s=q*r+1)
 (o:odd=true→q*Y=p*X+x∧r*X=s*Y+y∧q*r=p*s+1):Nat.gcd x y=Nat.gcd X Y:=by
 cases odd
 ·obtain⟨b,c,d⟩:=e rfl;exact gcd_turn b c d
 ·obtain⟨b,c,d⟩:=o rfl;rw[gcd_turn (X:=Y) (Y:=X) b c d,Nat.gcd_comm]
end Rad
