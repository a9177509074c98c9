/- A part of the proof: Kar3, Kar5, Kar6, W18. -/
import Derived.Test.YtjlkplidpdhgbaaGreatDoorP00
import Derived.Test.YtjlkplidpdhgbaaGreatDoorP03
import Derived.Test.YtjlkplidpdhgbaaGreatDoorP01
import Derived.Deep.RegionHeld
set_option linter.all false
set_option maxRecDepth 10000
set_option maxHeartbeats 1500000
namespace Go.Proofs.YtjlkplidpdhgbaaGreatDoor
open Go Go.Proofs Go.RowKit Go.Rad
theorem zdn (f n:Nat) (X:n<48):zec f n:=by
 intro w g d S z I P j J R y c r cr hn O ea C ca da ba aa t s u l m q fa d1 d2 d3 T U ar ga;have D1:=d1 om om;have D2:=d2 om om;have p:g<w.heap.size:=s.lt om;have F:0<r→g≠y∨d+2*n≤c∨c+r≤d:=fun h=>d3 om h;clear d1 d2 d3 T U;obtain⟨H,D,E,o,ha⟩:=info_parts zcs;go_enter Tryz.func145,Tryz.ntmps145;go_wp2_with (first
  |(refine zcw .u64 B zbg rfl _ 22 rfl 98 H Tryz.underlying22 D E _ _ _ rfl g d (Sl.mk _ _ _) s u ?_;intro x b)
  |(go_at_call 113;fail))
 have o:num B x g d n=0:=_root_.Rad.vs_zeros (fun i hi=>b.zero i om);refine(zd6 x _ _ _ g d (2*n) S z I n P j J n R (Sl.mk _ _ _) (Sl.mk _ _ _) (Sl.mk _ _ _) b.arr (b.chg.free u (fun _=>p))
  (b.chg.arr l l.lt (fun _=>by omega)) (b.chg.arr m m.lt (fun _=>by omega)) om C t o (fun _=>by omega) (fun _=>by omega)).mono ?_
 rintro e L ⟨rfl,V,W,A⟩;have b1:g<x.heap.size:=Nat.lt_of_lt_of_le p b.chg.size;have K:Chg w L g d (d+2*n):=b.chg.trans V;have Y:Arr .u64 B L y c r:=K.arr q q.lt (fun h=>by have:=F h;omega);have Z:ChgS w L (R2 g d (d+2*n) y c (c+r)):=(K.toS om).mono fun k i _ h=>by unfold R2;omega
 have M:num B x z I n=num B w z I n:=b.chg.num l.lt (fun _=>by omega);have N:num B x j J n=num B w j J n:=b.chg.num m.lt (fun _=>by omega);rw[M,N]at A;have G:Hid _:=A;clear A M N o;go_wp2;refine bodyPost_ret (results_none rfl _ _ _) rfl ?_;exact⟨rfl,Z,W,Y,G.out⟩
theorem zep:∀(f n:Nat),zec f n
 |0,n=>by
  by_cases h:n<48
  ·exact zdn 0 n h
  ·intro w l x q k t o d u p j g r m s c b;exact absurd b h
 |f+1,n=>by
  by_cases h:n<48
  ·exact zdn (f+1) n h
  ·exact zgs f (fun n=>zep f n) n h
def Fr (base:Nat) (v:Value):Prop:=∀b o n c:Nat,v=.slice (some ⟨b,o,none⟩) n c→base≤b
theorem Fr_nil (d:Nat):Fr d (.slice none 0 0):=by intro b o n c h;injection h with h1;cases h1
theorem Fr_some (d o n c:Nat):Fr d (.slice (some ⟨d,o,none⟩) n c):=by intro b o n c h;injection h with h1;injection h1 with h1;injection h1 with h1;omega
theorem zbx (w:World) (f:Option Addr) (b o n c m:Nat) (s:Sl f b o n) (u:n≤c) (j:n≤maxLen) (q:m≤maxLen) (r:Arr .u64 B w b o n):
 Calls Tryz.prog 86 #[.slice f n c,.int .i64 m] w fun e w'=>∃k,e=.returned (.slice f k k)∧w'=w∧k≤m∧k≤n∧Mag w (.slice f k k) (num B w b o (min m n)) k:=by
 refine(zfy w f b o n c m s u j q r).mono ?_;rintro e w' ⟨k,rfl,rfl,l,p,g,x⟩;refine⟨k,rfl,rfl,l,p,f,b,o,k,rfl,fun h=>s om,Nat.le_refl _,?_,?_,g⟩
 ·have:=r.sub (d:=0) (m:=k) om;simpa using this
 ·exact(_root_.Rad.vs_top om (fun i t y=>x i t om om)).symm
def MulW (m:Nat):Prop:=
 ∀(w:World) (vx vy:Value) (x nx y ny:Nat),Mag w vx x nx→Mag w vy y ny→(nx≤m∨ny≤m)→nx+ny≤1099511627776→
  Calls Tryz.prog 82 #[vx,vy] w fun e w'=>∃v n,e=.returned v∧Below w.heap.size w w'∧Mag w' v (x*y) n∧n≤nx+ny∧Fr w.heap.size v
def MulB (m:Nat):Prop:=
 ∀(w:World) (bz nz cz bx ox nx cx:Nat) (ax:Option Addr) (vy:Value) (y ny:Nat),ny≤m→48≤ny→nx+ny≤1099511627776→nz=nx+ny→Mag w vy y ny→
  Sl ax bx ox nx→nx≤cx→Arr .u64 B w bx ox nx→Arr .u64 B w bz 0 nz→Free w bz 0 nz→nz≤cz→cz≤maxLen→num B w bz 0 nz=0→bz≠bx→(∀b o c:Nat,vy=.slice (some ⟨b,o,none⟩) ny c→bz≠b)→
  Calls Tryz.prog 114 #[.slice (some ⟨bz,0,none⟩) nz cz,.slice ax nx cx,vy] w fun e w'=>e=.returned (.tuple #[])∧Chg w w' bz 0 nz∧Arr .u64 B w' bz 0 nz∧
   num B w' bz 0 nz=num B w bx ox nx*y
theorem zf6 (m:Nat) (hB:MulB m):MulW m:=by
 intro w vx vy x j y l hx hy da hl;have MX:=hx;have MY:=hy;obtain⟨ax,N,O,W,rfl,E,aa,p,R,ea⟩:=hx;obtain⟨ay,u,P,X,rfl,F,ba,q,S,fa⟩:=hy;obtain⟨V,D,G,H,I⟩:=info_parts zcs;have T:Hid (num B w N O j=x):=R;have U:Hid (num B w u P l=y):=S;clear R S;have f:j+l≤maxLen:=(by unfold maxLen;omega);by_cases ca:j<l
 ·by_cases Y:j=0
  ·subst Y;go_enter Tryz.func82,Tryz.ntmps82;go_wp2;go_ret;refine⟨_,0,rfl,zz,?_,by omega,Fr_nil _⟩;rw[←T.out,zas,Nat.zero_mul];exact zf1 _
  ·by_cases Z:j<48
   ·go_enter Tryz.func82,Tryz.ntmps82;go_wp2_with (first
     |(at_make;refine zau .u64 B zbg rfl _ _ 22 rfl 98 V Tryz.underlying22 D G H .i64 .i64 _ _ (j+l) rfl rfl om om (by rw[I];omega) f ?_;intro z d)
     |(go_at_call 113;fail)
     |(go_at_call 114;fail))
    have g:num B z u P l*num B z N O j=y*x:=(by rw[zal q d.below,zal p d.below,U.out,T.out]);refine(zd6 z _ _ _ w.heap.size 0 (j+l) (j+l) u P l X N O j W (Sl.mk _ _ _) F E d.arr d.free (zaf q d.below) (zaf p d.below) om (Nat.le_refl _) f
     (zeq d _ om) (fun h=> .inl (by have:=q.lt h;omega)) (fun h=> .inl (by have:=p.lt h;omega))).mono ?_
    rintro e A ⟨rfl,C,J,r⟩;rw[g]at r;rw[Nat.zero_add]at C;have s:Below w.heap.size w A:=d.below.trans (C.below (Nat.le_refl _) (by have:=d.lt;omega));have HV:Hid (num B A w.heap.size 0 (j+l)=x*y):=(by rw[r];exact Nat.mul_comm _ _);clear r d;go_wp2_with (go_at_call 86;refine(zbx _ _ _ _ _ _ (j+l) (Sl.mk _ _ _) (Nat.le_refl _) f f J).mono ?_;rintro e w' ⟨k,rfl,M,t,L,n⟩;subst M);go_ret;rw[Nat.min_self,HV.out]at n;exact⟨_,k,rfl,s,n,t,Fr_some _ _ _ _⟩
   ·go_enter Tryz.func82,Tryz.ntmps82;go_wp2_with (first
     |(at_make;refine zau .u64 B zbg rfl _ _ 22 rfl 98 V Tryz.underlying22 D G H .i64 .i64 _ _ (j+l) rfl rfl om om (by rw[I];omega) f ?_;intro z d)
     |(go_at_call 113;fail)
     |(go_at_call 114;fail))
    refine(hB z w.heap.size (j+l) (j+l) u P l X ay _ x j om om om om (MX.below d.below) F ba (zaf q d.below) d.arr d.free (Nat.le_refl _) f
     (zeq d _ om) (by have:=q.lt om;omega) (fun b o c h=>by have e:=E om;rw[e]at h;injection h with h1 h2 h3;injection h1 with h1;injection h1 with h1;have:=p.lt om;omega)).mono ?_
    rintro e A ⟨rfl,C,J,r⟩;rw[zal q d.below,U.out]at r;have s:Below w.heap.size w A:=d.below.trans (C.below (Nat.le_refl _) (by have:=d.lt;omega));have HV:Hid (num B A w.heap.size 0 (j+l)=x*y):=(by rw[r];exact Nat.mul_comm _ _);clear r d;go_wp2_with (go_at_call 86;refine(zbx _ _ _ _ _ _ (j+l) (Sl.mk _ _ _) (Nat.le_refl _) f f J).mono ?_;rintro e w' ⟨k,rfl,M,t,L,n⟩;subst M);go_ret;rw[Nat.min_self,HV.out]at n;exact⟨_,k,rfl,s,n,t,Fr_some _ _ _ _⟩
 ·by_cases Y:l=0
  ·subst Y;go_enter Tryz.func82,Tryz.ntmps82;go_wp2;go_ret;refine⟨_,0,rfl,zz,?_,by omega,Fr_nil _⟩;rw[←U.out,zas,Nat.mul_zero];exact zf1 _
  ·by_cases Z:l<48
   ·go_enter Tryz.func82,Tryz.ntmps82;go_wp2_with (first
     |(at_make;refine zau .u64 B zbg rfl _ _ 22 rfl 98 V Tryz.underlying22 D G H .i64 .i64 _ _ (j+l) rfl rfl om om (by rw[I];omega) f ?_;intro z d)
     |(go_at_call 113;fail)
     |(go_at_call 114;fail))
    have g:num B z N O j*num B z u P l=x*y:=(by rw[zal p d.below,zal q d.below,T.out,U.out]);refine(zd6 z _ _ _ w.heap.size 0 (j+l) (j+l) N O j W u P l X (Sl.mk _ _ _) E F d.arr d.free (zaf p d.below) (zaf q d.below) om (Nat.le_refl _) f
     (zeq d _ om) (fun h=> .inl (by have:=p.lt h;omega)) (fun h=> .inl (by have:=q.lt h;omega))).mono ?_
    rintro e A ⟨rfl,C,J,r⟩;rw[g]at r;rw[Nat.zero_add]at C;have s:Below w.heap.size w A:=d.below.trans (C.below (Nat.le_refl _) (by have:=d.lt;omega));have HV:Hid (num B A w.heap.size 0 (j+l)=x*y):=r;clear r d;go_wp2_with (go_at_call 86;refine(zbx _ _ _ _ _ _ (j+l) (Sl.mk _ _ _) (Nat.le_refl _) f f J).mono ?_;rintro e w' ⟨k,rfl,M,t,L,n⟩;subst M);go_ret;rw[Nat.min_self,HV.out]at n;exact⟨_,k,rfl,s,n,t,Fr_some _ _ _ _⟩
   ·go_enter Tryz.func82,Tryz.ntmps82;go_wp2_with (first
     |(at_make;refine zau .u64 B zbg rfl _ _ 22 rfl 98 V Tryz.underlying22 D G H .i64 .i64 _ _ (j+l) rfl rfl om om (by rw[I];omega) f ?_;intro z d)
     |(go_at_call 113;fail)
     |(go_at_call 114;fail))
    refine(hB z w.heap.size (j+l) (j+l) N O j W ax _ y l om om om om (MY.below d.below) E aa (zaf p d.below) d.arr d.free (Nat.le_refl _) f
     (zeq d _ om) (by have:=p.lt om;omega) (fun b o c h=>by have e:=F om;rw[e]at h;injection h with h1 h2 h3;injection h1 with h1;injection h1 with h1;have:=q.lt om;omega)).mono ?_
    rintro e A ⟨rfl,C,J,r⟩;rw[zal p d.below,T.out]at r;have s:Below w.heap.size w A:=d.below.trans (C.below (Nat.le_refl _) (by have:=d.lt;omega));have HV:Hid (num B A w.heap.size 0 (j+l)=x*y):=r;clear r d;go_wp2_with (go_at_call 86;refine(zbx _ _ _ _ _ _ (j+l) (Sl.mk _ _ _) (Nat.le_refl _) f f J).mono ?_;rintro e w' ⟨k,rfl,M,t,L,n⟩;subst M);go_ret;rw[Nat.min_self,HV.out]at n;exact⟨_,k,rfl,s,n,t,Fr_some _ _ _ _⟩
theorem zef {w w':World} {b lo hi:Nat} (h:Below w.heap.size w w') (c:b<w.heap.size):Chg w w' b lo hi:=⟨h.os,h.tape,h.output,h.size,fun k d _=>h.block k d,fun i _=>h.cell (p:=⟨b,i,none⟩) c,fun i=>h.frozen (p:=⟨b,i,none⟩) c⟩
theorem zcd {w w':World} {b o n:Nat} (h:Free w b o n) (c:Below w.heap.size w w') (d:b<w.heap.size):Free w' b o n:=fun i hi=>(c.frozen (p:=⟨b,o+i,none⟩) d).trans (h i hi)
theorem chg_S {a w w':World} {b lo hi:Nat} {S:Nat→Nat→Prop} (h:Chg a w b lo hi) (k:ChgS w w' S) (j:∀c i,c<a.heap.size→¬S c i) (d:b<a.heap.size):Chg a w' b lo hi:=
 ⟨k.os.trans h.os,k.tape.trans h.tape,k.output.trans h.output,Nat.le_trans h.size k.size,
  fun c f g=>(k.block c (Nat.lt_of_lt_of_le f h.size) (fun i=>j c i f)).trans (h.block c f g),
  fun i hi=>(k.cell b i (Nat.lt_of_lt_of_le d h.size) (j b i d)).trans (h.cell i hi),
  fun i=>(k.froz b i (Nat.lt_of_lt_of_le d h.size)).trans (h.froz i)⟩
theorem enough_pos {f n r:Nat} (b:48≤n) (h:zdj f n r):0<r:=by
 cases f with
 |zero=>unfold zdj at h;omega
 |succ f=>rcases h with h|⟨h,_⟩ <;> omega
theorem part_step {β k q zl zh zh' xl p y c X:Nat} (m:zl+β^k*zh=xl*y) (b:zh'+β^q*c=zh+p*y) (j:xl+β^k*p≤X) (l:X*y<β^(k+q)):
 zl+β^k*zh'=(xl+β^k*p)*y:=by
 have d:β^k*(zh'+β^q*c)=β^k*(zh+p*y):=(by rw[b]);rw[Nat.mul_add,Nat.mul_add,←Nat.mul_assoc,←Nat.pow_add,←Nat.mul_assoc]at d;have g:(xl+β^k*p)*y≤X*y:=Nat.mul_le_mul_right _ j;rw[Nat.add_mul]at g⊢;have f:c=0:=(by refine Classical.byContradiction fun f=>?_;have:=Nat.le_mul_of_pos_right (β^(k+q)) (show 0<c by omega);omega);subst f;rw[Nat.mul_zero]at d;omega
theorem zgr (m:Nat) (hW:MulW m):MulB (m+1):=by
 intro w g nz cz o q f cx ax vy y b hm nb hl qb hy tb yb U na za zb wb gb ec jb;subst qb;have MY:=hy;obtain⟨ay,D,oy,cy,rfl,fb,xa,ma,cb,sb⟩:=hy;obtain rfl:=fb om;have vb:=jb D oy cy rfl;clear jb;obtain⟨i0,ab,Y,hb,ib⟩:=info_parts zcs;have HY:Hid (num B w D oy b=y):=cb;have HX:Hid _:=gb;clear cb gb;have ua:g<w.heap.size:=na.lt om;have mb:D<w.heap.size:=ma.lt om;have e2:IntKind.i64.wrap (2*(b:Int))=2*(b:Int):=(by rw[IntKind.wrap_i64];omega);go_enter Tryz.func114,Tryz.ntmps114;go_wp2_with (first
  |(go_at_call 144;refine(roomFor_any b b (Nat.le_refl _) om _).mono ?_;rintro e l ⟨r,rfl,rfl,ya,hr⟩)
  |(at_make;refine zau .u64 B zbg rfl _ _ 22 rfl 98 i0 Tryz.underlying22 ab Y hb .i64 .i64 _ _ r rfl rfl om om (by rw[ib];omega) (by unfold maxLen;omega) ?_;intro w1 V)
  |(at_make;refine zau .u64 B zbg rfl _ _ 22 rfl 98 i0 Tryz.underlying22 ab Y hb .i64 .i64 _ _ (2*b) rfl rfl om om (by rw[ib];omega) (by unfold maxLen;omega) ?_;intro w2 F))
 have r0:=enough_pos nb ya;have l1:=V.lt;have l2:=F.lt;have B2:Below l.heap.size l w2:=V.below.trans (F.below.mono om);have N2:num B w2 g 0 (f+b)=0:=(zal na B2).trans HX.out;have ra:=zaf na B2;have ba:=zaf V.arr F.below;have ga:=zcd V.free F.below l1;have aa:=F.arr;have fa:=F.free;have C2:Chg l w2 g 0 (f+b):=zef B2 ua;obtain⟨I,X⟩:∃I,I=l.heap.size:=⟨_,rfl⟩;obtain⟨J,wa⟩:∃J,J=w1.heap.size:=⟨_,rfl⟩;rw[←X]at ba ga l1 ua mb⊢;rw[←wa]at aa fa l1⊢;have lb:0<f→o<I:=fun h=>by rw[X];exact U.lt h
 have C:Hid _:=X;clear V F B2 l2 HX X wa;go_loopw [9] (fun i wr=>∃k:Nat,k≤f+b∧i=.int .i64 k∧Chg l wr g 0 (f+b)∧Arr .u64 B wr g 0 (f+b)∧Arr .u64 B wr I 0 r∧Free wr I 0 r∧Arr .u64 B wr J 0 (2*b)∧Free wr J 0 (2*b)∧
  num B wr g 0 (f+b)=num B l o q (min k f)*y)
  (fun i _=>f-(intOf i).toNat)
 case atStart=>exact⟨0,by omega,rfl,C2,ra,ba,ga,aa,fa,by rw[Nat.zero_min,zas,Nat.zero_mul];exact N2⟩
 case round=>
  obtain⟨k,hk,rfl,s,t,G,R,H,S,u⟩:=hrel;clear C2 ra ba ga aa fa N2;by_cases ac:k<f
  ·rw[Nat.min_eq_left om]at u;obtain rfl:=tb om;have ub:=lb om;have sa:Arr .u64 B wr o q f:=s.arr U U.lt (fun _=> .inl om);have ta:Arr .u64 B wr D oy b:=s.arr ma ma.lt (fun _=> .inl om);have kb:Mag wr (.slice (some ⟨D,oy,none⟩) b cy) y b:=by
    refine⟨_,D,oy,cy,rfl,fb,xa,ta,(s.num (fun _=>by have:=C.out;omega) (fun _=> .inl om)).trans HY.out,?_⟩;rcases sb with h1|h1
    ·exact .inl h1
    ·refine .inr ?_;rw[zac (s.cellAt (by have:=C.out;omega) (.inl om))];exact h1
   have px:num B wr o (q+k) (min b (f-k))=num B l o (q+k) (min b (f-k)):=s.num (fun _=>by have:=C.out;omega) (fun _=> .inl om);have HN:Hid _:=u;have c1:¬cx=k:=om;have c2:¬cz=k:=om;have CF:=zbx wr (some ⟨o,q+k,none⟩) o (q+k) (f-k) (cx-k) b (Sl.mk _ _ _) om (by unfold maxLen;omega) (by unfold maxLen;omega) (sa.sub om);rw[px]at CF;have HP:Hid _:=px;clear u px;go_wp2_with (go_at_call 86;fail);refine CF.mono ?_;rintro e Z ⟨p,rfl,hw,cc,dc,pa⟩;subst hw;clear CF;have qa:num B Z D oy b=y:=(s.num (fun _=>by have:=C.out;omega) (fun _=> .inl om)).trans HY.out;by_cases rb:p=b
   ·have db:=rb.symm;subst db;have e3:min b (f-k)=b:=om;have CH:=zep b b Z J 0 (2*b) o (q+k) b D oy cy I 0 r r om om ya (Nat.le_refl _) (Nat.le_refl _) xa (Nat.le_refl _) (by unfold maxLen;omega) (by unfold maxLen;omega) H S
     (sa.sub om) ta G R (fun _ _=> .inl om) (fun _ _=> .inl om) (fun _ _=> .inl om) (fun _ _=> .inl om) (fun _ _=> .inl om) _ (Sl.mk I 0 r)
    go_wp2_with (go_at_call 145;fail);refine CH.mono ?_;rintro e n ⟨rfl,g1,g2,g3,g4⟩;clear CH;have hR:∀c i,c<I→¬R2 J 0 (0+2*b) I 0 (0+r) c i:=fun c i hc=>zb8 om om;have K4:Chg l n g 0 (f+b):=chg_S s g1 (fun c i hc=>hR c i (by have:=C.out;omega)) (by have:=C.out;omega);have x:Arr .u64 B n g 0 (f+b):=g1.arr t (fun i hi=>hR _ _ om);have E:Arr .u64 B n I 0 r:=g3;have ia:Free n I 0 r:=g1.free R G.lt;have A:Arr .u64 B n J 0 (2*b):=g2;have ha:Free n J 0 (2*b):=g1.free S H.lt;have O:num B n g 0 k=num B Z g 0 k:=g1.num (zbk t om) (fun i hi=>hR _ _ om);have P:num B n g k (f+b-k)=num B Z g k (f+b-k):=(by have T:=t.sub (d:=k) (m:=f+b-k) om;rw[Nat.zero_add]at T;exact g1.num T (fun i hi=>hR _ _ om));have N:Free n g 0 (f+b):=K4.free za (fun _=>by have:=C.out;omega);have L:Arr .u64 B n g k (f+b-k):=(by have:=x.sub (d:=k) (m:=f+b-k) om;rwa [Nat.zero_add]at this);have M:Free n g k (f+b-k):=(by have:=N.sub (d:=k) (m:=f+b-k) om;rwa [Nat.zero_add]at this);have g5:num B n J 0 (2*b)=num B l o (q+k) (min b (f-k))*y:=(by rw[g4,qa,←HP.out,e3]);have CA:=zcj n (some ⟨g,k,none⟩) (some ⟨J,0,none⟩) g k (f+b-k) (cz-k) J 0 (2*b) (2*b) (Sl.mk _ _ _) (Sl.mk _ _ _) L M A om (fun _=> .inl om) (by unfold maxLen;omega);rw[g5]at CA;clear g4 g5 e3 s t G R H S pa g1 g2 g3;go_wp2_with (go_at_call 142;fail);refine CA.mono ?_;rintro e W ⟨rfl,q1,q2,c,hc,q3⟩;clear CA;have q5:num B n g 0 k+B^k*num B n g k (f+b-k)=num B l o q k*y:=(by have T:=HN.out;rw[show f+b=k+(f+b-k)by omega,zba,Nat.zero_add]at T;rw[O,P];exact T);have K5:Chg l W g 0 (f+b):=K4.trans (q1.mono om om);have l4:g<n.heap.size:=x.lt om;have ea:Arr .u64 B W g 0 (f+b):=fun i hi=>by
     by_cases oa:i<k
     ·have e:=q1.cell (0+i) om;rw[zac e,e];exact x i hi
     ·obtain⟨j,rfl⟩:=Nat.exists_eq_add_of_le (Nat.le_of_not_lt oa);have:=q2 j om
      rwa [Nat.zero_add]
    have da:=q1.arr E E.lt (fun _=> .inl om);have ka:=q1.free ia E.lt;have ca:=q1.arr A A.lt (fun _=> .inl om);have ja:=q1.free ha A.lt;have X1:num B l o q k+B^k*num B l o (q+k) (min b (f-k))=num B l o q (min (k+b) f):=(by rw[show min (k+b) f=k+min b (f-k)by omega,zba]);have X2:num B l o q (min (k+b) f)≤num B l o q f:=(by have e:num B l o q (min (k+b) f+(f-min (k+b) f))=num B l o q f:=(by congr 1;omega);rw[zba]at e;exact Nat.le.intro e);have X3:num B l o q f*y<B^(k+(f+b-k)):=(by rw[show k+(f+b-k)=f+b by omega];exact _root_.Rad.mul_lt_pow (zbb U) MY.lt);have N5:num B W g 0 (f+b)=num B l o q (min (k+b) f)*y:=(by rw[←X1]at X2⊢;have h1:=part_step q5 q3 X2 X3;rw[←h1];have e:num B W g 0 (f+b)=num B W g 0 (k+(f+b-k)):=(by congr 1;omega);rw[e,zba,Nat.zero_add,q1.num (fun _=>l4) (fun _=>by omega)]);have la:Hid _:=N5;clear N5 X1 X2 X3 q5 q3 HN qa O P HP x N L M q1 q2;go_wp2;go_roundw
    case rel=>exact⟨k+b,by omega,by go_num,K5,ea,da,ka,ca,ja,la.out⟩
    case measure=>simp[intOf];omega
   ·have CW:=hW Z (.slice (some ⟨o,q+k,none⟩) p p) _ _ p y b pa kb (.inl om) om;go_wp2_with (go_at_call 82;fail);refine CW.mono ?_;rintro e n ⟨v,n',rfl,z,ob,bc,va⟩;clear CW;obtain⟨av,bv,ov,cv,rfl,eb,xb,pb,bb,_⟩:=ob;have lz:g<Z.heap.size:=t.lt om;have K4:Chg l n g 0 (f+b):=s.trans (zef z lz);have x:Arr .u64 B n g 0 (f+b):=zaf t z;have E:Arr .u64 B n I 0 r:=zaf G z;have ia:Free n I 0 r:=zcd R z (G.lt r0);have A:Arr .u64 B n J 0 (2*b):=zaf H z;have ha:Free n J 0 (2*b):=zcd S z (H.lt om);have O:num B n g 0 k=num B Z g 0 k:=zal (zbk t om) z;have P:num B n g k (f+b-k)=num B Z g k (f+b-k):=(by have T:=t.sub (d:=k) (m:=f+b-k) om;rw[Nat.zero_add]at T;exact zal T z);have N:Free n g 0 (f+b):=K4.free za (fun _=>by have:=C.out;omega);have L:Arr .u64 B n g k (f+b-k):=(by have:=x.sub (d:=k) (m:=f+b-k) om;rwa [Nat.zero_add]at this);have M:Free n g k (f+b-k):=(by have:=N.sub (d:=k) (m:=f+b-k) om;rwa [Nat.zero_add]at this);have CA:=zcj n (some ⟨g,k,none⟩) av g k (f+b-k) (cz-k) bv ov n' cv (Sl.mk _ _ _) eb L M pb om (fun h=> .inl (by have e:=va bv ov n' cv (by rw[eb h]);omega)) (by unfold maxLen;omega);rw[bb]at CA;clear bb s t G R H S pa z va;go_wp2_with (go_at_call 142;fail);refine CA.mono ?_;rintro e W ⟨rfl,q1,q2,c,hc,q3⟩;clear CA;have q5:num B n g 0 k+B^k*num B n g k (f+b-k)=num B l o q k*y:=(by have T:=HN.out;rw[show f+b=k+(f+b-k)by omega,zba,Nat.zero_add]at T;rw[O,P];exact T);have K5:Chg l W g 0 (f+b):=K4.trans (q1.mono om om);have l4:g<n.heap.size:=x.lt om;have ea:Arr .u64 B W g 0 (f+b):=fun i hi=>by
     by_cases oa:i<k
     ·have e:=q1.cell (0+i) om;rw[zac e,e];exact x i hi
     ·obtain⟨j,rfl⟩:=Nat.exists_eq_add_of_le (Nat.le_of_not_lt oa);have:=q2 j om
      rwa [Nat.zero_add]
    have da:=q1.arr E E.lt (fun _=> .inl om);have ka:=q1.free ia E.lt;have ca:=q1.arr A A.lt (fun _=> .inl om);have ja:=q1.free ha A.lt;have X1:num B l o q k+B^k*num B l o (q+k) (min b (f-k))=num B l o q (min (k+b) f):=(by rw[show min (k+b) f=k+min b (f-k)by omega,zba]);have X2:num B l o q (min (k+b) f)≤num B l o q f:=(by have e:num B l o q (min (k+b) f+(f-min (k+b) f))=num B l o q f:=(by congr 1;omega);rw[zba]at e;exact Nat.le.intro e);have X3:num B l o q f*y<B^(k+(f+b-k)):=(by rw[show k+(f+b-k)=f+b by omega];exact _root_.Rad.mul_lt_pow (zbb U) MY.lt);have N5:num B W g 0 (f+b)=num B l o q (min (k+b) f)*y:=(by rw[←X1]at X2⊢;have h1:=part_step q5 q3 X2 X3;rw[←h1];have e:num B W g 0 (f+b)=num B W g 0 (k+(f+b-k)):=(by congr 1;omega);rw[e,zba,Nat.zero_add,q1.num (fun _=>l4) (fun _=>by omega)]);have la:Hid _:=N5;clear N5 X1 X2 X3 q5 q3 HN qa O P HP x N L M q1 q2;go_wp2;go_roundw
    case rel=>exact⟨k+b,by omega,by go_num,K5,ea,da,ka,ca,ja,la.out⟩
    case measure=>simp[intOf];omega
  ·rw[Nat.min_eq_right om]at u;have HN:Hid _:=u;clear u;go_wp2;go_end0;exact⟨rfl,s,t,HN.out⟩
theorem mulB_any:∀m,MulB m
 |0=>by intro w f o j d p l g c q y n k b;omega
 |m+1=>zgr m (zf6 m (mulB_any m))
theorem zfd (w:World) (d f:Value) (x b y c:Nat) (j:Mag w d x b) (k:Mag w f y c) (g:b+c≤1099511627776):
 Calls Tryz.prog 82 #[d,f] w fun e w'=>∃v n,e=.returned v∧Below w.heap.size w w'∧Mag w' v (x*y) n∧n≤b+c∧Fr w.heap.size v:=
 zf6 b (mulB_any b) w d f x b y c j k (.inl (Nat.le_refl _)) g
theorem IsInt.below {w w':World} {v:Value} {z:Int} (h:IsInt w v z) (b:Below w.heap.size w w'):IsInt w' v z:=by
 rcases h with h|⟨s,a,n,c,m,g,d,f⟩
 ·exact .inl h
 ·exact .inr ⟨s,a,n,c,m,g,d.below b,f⟩
theorem IsInt.form {w:World} {v:Value} {z:Int} (h:IsInt w v z):∃s a n c,v=.agg #[.int .i64 s,.slice a n c]:=by
 rcases h with⟨rfl,_,_⟩|⟨s,a,n,c,m,rfl,hm,hs⟩
 ·exact⟨_,_,_,_,rfl⟩
 ·exact⟨_,_,_,_,rfl⟩
theorem za9 (w:World) (z:Int) (b: -9223372036854775808≤z) (c:z≤9223372036854775807):IsInt w (.agg #[.int .i64 z,.slice none 0 0]) z:= .inl ⟨rfl,b,c⟩
theorem IsInt.sgn {w:World} {s z:Int} {a:Option Addr} {n c:Nat} (h:IsInt w (.agg #[.int .i64 s,.slice a n c]) z):
 -9223372036854775808≤s∧s≤9223372036854775807∧(s<0↔z<0)∧(0<s↔0<z)∧(a=none→s=z∧n=0∧c=0):=by
 rcases h with⟨h,h1,h2⟩|⟨s',a',n',c',m,h,hm,hs⟩
 ·simp only[Value.agg.injEq,Array.mk.injEq,List.cons.injEq,Value.int.injEq,Value.slice.injEq,and_true,true_and]at h;obtain⟨rfl,rfl,rfl,rfl⟩:=h;exact⟨h1,h2,Iff.rfl,Iff.rfl,fun _=>⟨rfl,rfl,rfl⟩⟩
 ·simp only[Value.agg.injEq,Array.mk.injEq,List.cons.injEq,Value.int.injEq,Value.slice.injEq,and_true,true_and]at h;obtain⟨rfl,rfl,rfl,rfl⟩:=h;exact⟨by omega,by omega,by omega,by omega,fun h=>by simp at h⟩
theorem IsInt.mag {w:World} {s z:Int} {a:Addr} {n c:Nat} (h:IsInt w (.agg #[.int .i64 s,.slice (some a) n c]) z):Mag w (.slice (some a) n c) z.natAbs n∧(s=1∧0<z∨s= -1∧z<0):=by
 rcases h with⟨h,b,h2⟩|⟨s',a',n',c',m,h,hm,hs⟩
 ·simp at h
 ·simp only[Value.agg.injEq,Array.mk.injEq,List.cons.injEq,Value.int.injEq,Value.slice.injEq,and_true,true_and]at h;obtain⟨rfl,b,rfl,rfl⟩:=h;obtain rfl:=oi b;have e:z.natAbs=m:=om;rw[e];exact⟨hm,by omega⟩
theorem Mag.set {w:World} {v u:Value} {x n:Nat} {p:Addr} (h:Mag w v x n) (d:∀y,w.cell? p≠some (.int .u64 y)) (z:p=⟨p.block,p.off,none⟩):Mag (w.setCell p u) v x n:=by
 obtain⟨r,b,o,c,A,g,s,k,B,t⟩:=h;rw[z]at d⊢;generalize p.block=pb at d⊢;generalize p.off=po at d⊢;have q:pb≠b∨po<o∨o+n≤po:=by
  by_cases l:pb=b
  ·subst l;right;refine Classical.byContradiction fun m=>?_;have j:=(k (po-o) om).1;rw[show o+(po-o)=po by omega]at j;exact d _ j
  ·exact .inl l
 refine⟨r,b,o,c,A,g,s,k.set' q,by rw[zar q,B],?_⟩;rcases t with f|f
 ·exact .inl f
 ·by_cases C:n=0
  ·exact .inl C
  ·right;rw[zbf om];exact f
theorem IsInt.set {w:World} {v u:Value} {z:Int} {p:Addr} (h:IsInt w v z) (d:∀y,w.cell? p≠some (.int .u64 y)) (f:p=⟨p.block,p.off,none⟩):IsInt (w.setCell p u) v z:=by
 rcases h with h|⟨s,a,n,c,m,g,b,j⟩
 ·exact .inl h
 ·exact .inr ⟨s,a,n,c,m,g,b.set d f,j⟩
theorem IsInt.stored {w:World} {v u1 u2 y:Value} {z:Int} {b:Nat} {x:Int} (h:IsInt w v z) (c:w.cell? ⟨b,0,none⟩=some (.int .i64 x)) (d:w.cell? ⟨b,1,none⟩=some y)
 (g:∀q,y≠ .int .u64 q):IsInt ((w.setCell ⟨b,0,none⟩ u1).setCell ⟨b,1,none⟩ u2) v z:=by
 refine(h.set (by rw[c];intro q;simp) rfl).set ?_ rfl;rw[zaa om,d];intro q f;exact g q (oi f)
theorem qEq (w:World) (a:Option Addr) (n c:Nat):(binOp .eql 22 (.slice a n c) (.slice none 0 0)).run Tryz.prog w=.ok (.bool a.isNone) w:=Lib.run_eql_slice_nil w 22 98 a n c 0 0 Tryz.underlying22
theorem qNe (w:World) (a:Option Addr) (n c:Nat):(binOp .neq 22 (.slice a n c) (.slice none 0 0)).run Tryz.prog w=.ok (.bool (!a.isNone)) w:=run_neq_slice_nil_any w 22 98 a n c 0 0 Tryz.underlying22
theorem zab {P:Program} {Q:Exit→Act→World→Prop} {a:Act} {w:World} {c:Code} (F:World→Prop) (d:F w) (h:∀b,F b→c.wp P Q a b):c.wp P Q a w:=h w d
theorem zao (w:World) (X:Obj):Below w.heap.size w (w.alloc X):=(zz).alloc (Nat.le_refl _) _
theorem zd2 (w:World) (X Y:Obj):Below w.heap.size w ((w.alloc X).alloc Y):=(zao w X).alloc (by simp) _
theorem zc3 (w:World) (X Y Z:Obj):Below w.heap.size w (((w.alloc X).alloc Y).alloc Z):=(zd2 w X Y).alloc (by simp;omega) _
theorem zbr (w:World) (v:Value) (z:Int) (b:IsInt w v z):
 Calls Tryz.prog 18 #[v] w fun e w'=>e=.returned (.int .i64 (zat z 0))∧Below w.heap.size w w':=by
 obtain⟨s,a,n,c,rfl⟩:=b.form;obtain⟨d,f,g,j,k⟩:=b.sgn;have e:zat z 0=zat s 0:=(by unfold zat;split <;> split <;> first|omega|(split <;> split <;> omega)|(split <;> omega));rw[e];clear b e d f g j k;go_enter Tryz.func18,Tryz.ntmps18;go_wp2_with (go_at_call 74;refine(zc4 _ _ _).mono ?_;rintro e w' ⟨rfl,l⟩;subst l);go_ret;exact⟨rfl,zao _ _⟩
theorem zga (w:World) (z:Int) (b: -9223372036854775808≤z) (c:z≤9223372036854775807):
 Calls Tryz.prog 16 #[.int .i64 z] w fun e w'=>∃v,e=.returned v∧Below w.heap.size w w'∧IsInt w' v z:=by
 go_enter Tryz.func16,Tryz.ntmps16;go_wp2;refine bodyPost_ret (v:= .agg #[.int .i64 z,.slice none 0 0]) (by simp[results,go_sem,loadVar]) rfl ?_;exact⟨_,rfl,zao _ _,za9 _ _ b c⟩
theorem zf7 (w:World) (v:Value) (z:Int) (hv:IsInt w v z):
 Calls Tryz.prog 20 #[v] w fun e w'=>∃v,e=.returned v∧Below w.heap.size w w'∧IsInt w' v (-z):=by
 have q:=qEq;obtain⟨s,a,n,c,rfl⟩:=hv.form;obtain⟨g1,g2,g3,g4,g5⟩:=hv.sgn;by_cases hf:a=none∧s≠ -9223372036854775808
 ·obtain⟨rfl,hs⟩:=hf;obtain⟨rfl,rfl,rfl⟩:=g5 rfl;have ga:((s != -9223372036854775808)=true):=(by simpa using hs);clear hv;go_enter Tryz.func20,Tryz.ntmps20;go_wp2;refine bodyPost_ret (v:= .agg #[.int .i64 (-s),.slice none 0 0]) (by simp[results,go_sem,loadVar]) rfl ?_;exact⟨_,rfl,zd2 _ _ _,za9 _ _ om om⟩
 ·have hV:∀g,Below w.heap.size w g→IsInt g (.agg #[.int .i64 s,.slice a n c]) z:=fun g h=>hv.below h;have aa:Hid (sgn (decide (s>0)) z.natAbs= -z):=by
   show sgn (decide (s>0)) z.natAbs= -z;by_cases h0:0<s
   ·rw[decide_eq_true h0,zcg];omega
   ·rw[decide_eq_false h0,zbh];omega
  clear g3 g4 g5 hv;rcases a with _|a
  ·have fa:(s != -9223372036854775808)=false:=(by simpa using hf);clear hf;go_enter Tryz.func20,Tryz.ntmps20;go_wp2;refine zab (fun g=>Below w.heap.size w g∧w.heap.size+1<g.heap.size∧g.cell? ⟨w.heap.size,0,none⟩=some (.int .i64 s)∧g.cell? ⟨w.heap.size,1,none⟩=some (.slice none n c)∧g.cell? ⟨w.heap.size+1,0,none⟩=some (.int .i64 0)∧g.cell? ⟨w.heap.size+1,1,none⟩=some (.slice none 0 0)∧g.frozen? ⟨w.heap.size+1,0,none⟩=false∧g.frozen? ⟨w.heap.size+1,1,none⟩=false) ⟨zd2 _ _ _,by simp,by go_keep,by go_keep,by go_keep,by go_keep,by go_keep,by go_keep⟩ ?_;rintro g ⟨l,D,T,U,r0,r1,f0,f1⟩;have F:w.heap.size<g.heap.size:=om;refine zaq za6 [⟨15,[],[],[1]⟩,⟨16,[0],[0],[]⟩,⟨17,[1],[0,1],[]⟩,⟨18,[],[],[1]⟩,⟨19,[3],[3],[]⟩,⟨20,[2,4],[0,1,2,3,4],[]⟩] [] kfl 21 rfl kfl (fun (i:Nat) (v:Value) (G:World)=>match i with|0=>v=.pointer (some ⟨w.heap.size,0,none⟩)|1=>v=.int .i64 (s)|2=>v=.bool (decide ((s)>(0)))|3=>v=.agg #[.int .i64 s,.slice none n c]|4=>∃n,Mag G v z.natAbs n|5=>IsInt G v (-z)|_=>True) (fun _ G=>Below g.heap.size g G) (fun u H=>Below u.heap.size u H) (zz).drew (fun i v u H h hx=>match i,h with|0,h=>h|1,h=>h|2,h=>h|3,h=>h|4,h=>by obtain⟨n,h⟩:=h;exact⟨n,h.below hx⟩|5,h=>h.below hx|n+6,_=>trivial) ?_ ?_
   ·intro i o r m k L fr u t hL S R C b d;clear hL S R C
    match i,m,k with
    |0,m,k=>?_
    |1,m,k=>?_
    |2,m,k=>?_
    |3,m,k=>?_
    |4,m,k=>obtain rfl:=oi m;obtain rfl:=oi k;have N:=evs 18 (b 3 dd _ rfl);clear b d;refine zap rfl rfl fun K y=>?_;go_simp;refine(za5 u _ z (hV u (l.trans (t.mono l.size)))).mono ?_;rintro e H ⟨v4,n4,rfl,B,x⟩;exact y _ _ ⟨⟨n4,x⟩,t.trans (B.mono t.size),B,nn⟩
    |5,m,k=>obtain rfl:=oi m;obtain rfl:=oi k;have M:=evs 17 (b 2 dd _ rfl);obtain⟨u4,O,p4⟩:=evr 19 (P:=fun u4=>∃n,Mag u u4 z.natAbs n) (b 4 dd _ rfl);clear b d;refine zap rfl rfl fun K y=>?_;obtain⟨n4,x⟩:=p4;go_simp;refine(za7 u (decide ((s)>(0))) _ _ _ x).mono ?_;rintro e H ⟨v5,rfl,B,E⟩;exact y _ _ ⟨by rw[aa.out]at E;exact E,t.trans (B.mono t.size),B,nn⟩
    |n+6,m,k=>exact absurd k (by simp)
    all_goals obtain rfl:=oi m;obtain rfl:=oi k;simp only[uxw,uw,evt]at b d;have ba:=(t.cell (p:=⟨w.heap.size,0,none⟩) F).trans T;have ca:=(t.cell (p:=⟨w.heap.size,1,none⟩) F).trans U;refine zap rfl rfl fun K y=>?_;go_simp;exact y _ _ ⟨rfl,t,zz,nn⟩
   ·intro vs wn f j A;clear A;have e0:vs 0=_:=f 0 dd;have e1:vs 1=_:=f 1 dd;have M:vs 2=_:=f 2 dd;have N:vs 3=_:=f 3 dd;obtain⟨u4,O,p4⟩:∃u4,vs 4=u4∧(∃n,Mag wn u4 z.natAbs n):=⟨_,rfl,f 4 dd⟩;obtain⟨u5,e5,W⟩:∃u5,vs 5=u5∧(IsInt wn u5 (-z)):=⟨_,rfl,f 5 dd⟩;simp only[zbp,Nat.reduceAdd,e0,e1,M,N,O,e5,Act.put,ll];clear f e0 e1 M N O e5;have X:=(j.cell (p:=⟨w.heap.size+1,0,none⟩) D).trans r0;have Y:=(j.cell (p:=⟨w.heap.size+1,1,none⟩) D).trans r1;have da:=(j.frozen (p:=⟨w.heap.size+1,0,none⟩) D).trans f0;have ea:=(j.frozen (p:=⟨w.heap.size+1,1,none⟩) D).trans f1;obtain⟨Z,I,V,J,rfl⟩:=W.form;have hE:=(((l.trans (j.mono l.size)).setCell (p:=⟨w.heap.size+1,0,none⟩) (by simp) (.int .i64 Z)).setCell (p:=⟨w.heap.size+1,1,none⟩) (by simp) (.slice I V J));have hI:=W.stored (u1:= .int .i64 Z) (u2:= .slice I V J) X Y (by intro q;simp);clear W l j r0 r1 f0 f1 D;go_wp2;refine bodyPost_ret (v:= .agg #[.int .i64 Z,.slice I V J]) rt rfl ?_;exact⟨_,rfl,hE,hI⟩
  ·clear hf;go_enter Tryz.func20,Tryz.ntmps20;go_wp2;refine zab (fun g=>Below w.heap.size w g∧w.heap.size+1<g.heap.size∧g.cell? ⟨w.heap.size,0,none⟩=some (.int .i64 s)∧g.cell? ⟨w.heap.size,1,none⟩=some (.slice (some a) n c)∧g.cell? ⟨w.heap.size+1,0,none⟩=some (.int .i64 0)∧g.cell? ⟨w.heap.size+1,1,none⟩=some (.slice none 0 0)∧g.frozen? ⟨w.heap.size+1,0,none⟩=false∧g.frozen? ⟨w.heap.size+1,1,none⟩=false) ⟨zd2 _ _ _,by simp,by go_keep,by go_keep,by go_keep,by go_keep,by go_keep,by go_keep⟩ ?_;rintro g ⟨l,D,T,U,r0,r1,f0,f1⟩;have F:w.heap.size<g.heap.size:=om;refine zaq za6 [⟨15,[],[],[1]⟩,⟨16,[0],[0],[]⟩,⟨17,[1],[0,1],[]⟩,⟨18,[],[],[1]⟩,⟨19,[3],[3],[]⟩,⟨20,[2,4],[0,1,2,3,4],[]⟩] [] kfl 21 rfl kfl (fun (i:Nat) (v:Value) (G:World)=>match i with|0=>v=.pointer (some ⟨w.heap.size,0,none⟩)|1=>v=.int .i64 (s)|2=>v=.bool (decide ((s)>(0)))|3=>v=.agg #[.int .i64 s,.slice (some a) n c]|4=>∃n,Mag G v z.natAbs n|5=>IsInt G v (-z)|_=>True) (fun _ G=>Below g.heap.size g G) (fun u H=>Below u.heap.size u H) (zz).drew (fun i v u H h hx=>match i,h with|0,h=>h|1,h=>h|2,h=>h|3,h=>h|4,h=>by obtain⟨n,h⟩:=h;exact⟨n,h.below hx⟩|5,h=>h.below hx|n+6,_=>trivial) ?_ ?_
   ·intro i o r m k L fr u t hL S R C b d;clear hL S R C
    match i,m,k with
    |0,m,k=>?_
    |1,m,k=>?_
    |2,m,k=>?_
    |3,m,k=>?_
    |4,m,k=>obtain rfl:=oi m;obtain rfl:=oi k;have N:=evs 18 (b 3 dd _ rfl);clear b d;refine zap rfl rfl fun K y=>?_;go_simp;refine(za5 u _ z (hV u (l.trans (t.mono l.size)))).mono ?_;rintro e H ⟨v4,n4,rfl,B,x⟩;exact y _ _ ⟨⟨n4,x⟩,t.trans (B.mono t.size),B,nn⟩
    |5,m,k=>obtain rfl:=oi m;obtain rfl:=oi k;have M:=evs 17 (b 2 dd _ rfl);obtain⟨u4,O,p4⟩:=evr 19 (P:=fun u4=>∃n,Mag u u4 z.natAbs n) (b 4 dd _ rfl);clear b d;refine zap rfl rfl fun K y=>?_;obtain⟨n4,x⟩:=p4;go_simp;refine(za7 u (decide ((s)>(0))) _ _ _ x).mono ?_;rintro e H ⟨v5,rfl,B,E⟩;exact y _ _ ⟨by rw[aa.out]at E;exact E,t.trans (B.mono t.size),B,nn⟩
    |n+6,m,k=>exact absurd k (by simp)
    all_goals obtain rfl:=oi m;obtain rfl:=oi k;simp only[uxw,uw,evt]at b d;have ba:=(t.cell (p:=⟨w.heap.size,0,none⟩) F).trans T;have ca:=(t.cell (p:=⟨w.heap.size,1,none⟩) F).trans U;refine zap rfl rfl fun K y=>?_;go_simp;exact y _ _ ⟨rfl,t,zz,nn⟩
   ·intro vs wn f j A;clear A;have e0:vs 0=_:=f 0 dd;have e1:vs 1=_:=f 1 dd;have M:vs 2=_:=f 2 dd;have N:vs 3=_:=f 3 dd;obtain⟨u4,O,p4⟩:∃u4,vs 4=u4∧(∃n,Mag wn u4 z.natAbs n):=⟨_,rfl,f 4 dd⟩;obtain⟨u5,e5,W⟩:∃u5,vs 5=u5∧(IsInt wn u5 (-z)):=⟨_,rfl,f 5 dd⟩;simp only[zbp,Nat.reduceAdd,e0,e1,M,N,O,e5,Act.put,ll];clear f e0 e1 M N O e5;have X:=(j.cell (p:=⟨w.heap.size+1,0,none⟩) D).trans r0;have Y:=(j.cell (p:=⟨w.heap.size+1,1,none⟩) D).trans r1;have da:=(j.frozen (p:=⟨w.heap.size+1,0,none⟩) D).trans f0;have ea:=(j.frozen (p:=⟨w.heap.size+1,1,none⟩) D).trans f1;obtain⟨Z,I,V,J,rfl⟩:=W.form;have hE:=(((l.trans (j.mono l.size)).setCell (p:=⟨w.heap.size+1,0,none⟩) (by simp) (.int .i64 Z)).setCell (p:=⟨w.heap.size+1,1,none⟩) (by simp) (.slice I V J));have hI:=W.stored (u1:= .int .i64 Z) (u2:= .slice I V J) X Y (by intro q;simp);clear W l j r0 r1 f0 f1 D;go_wp2;refine bodyPost_ret (v:= .agg #[.int .i64 Z,.slice I V J]) rt rfl ?_;exact⟨_,rfl,hE,hI⟩
end Go.Proofs.YtjlkplidpdhgbaaGreatDoor
