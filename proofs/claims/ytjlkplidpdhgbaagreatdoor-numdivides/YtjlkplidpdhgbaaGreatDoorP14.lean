/- A part of the proof: H2, D3a, Tx, Tx2, W36, W37, W38, V1, V2. -/
import Derived.Test.YtjlkplidpdhgbaaGreatDoorP00
import Derived.Test.YtjlkplidpdhgbaaGreatDoorP07
import Derived.Test.YtjlkplidpdhgbaaGreatDoorP09
import Derived.Lib.ItoaMem
import Derived.Lib.AtoiAll
import Derived.Lib.ParseIntB
import Derived.Test.YtjlkplidpdhgbaaGreatDoorP04
import Derived.WalkSpells
import Derived.Deep.QuietTactic
import Derived.BigQuiet
import Derived.Test.YtjlkplidpdhgbaaGreatDoorP10
import Derived.Test.YtjlkplidpdhgbaaGreatDoorShelf
import Derived.Lib.ConvBytes
set_option linter.all false
set_option maxRecDepth 10000
set_option maxHeartbeats 2000000
namespace Rad
structure LI (X Y x y p q p' q':Nat) (odd:Bool):Prop where
 i1:q'*x+q*y=X
 i2:p'*x+p*y=Y
 g:Nat.gcd x y=Nat.gcd X Y
 e:odd=false→x+q*Y=p*X∧y+p'*X=q'*Y
 o:odd=true→x+p*X=q*Y∧y+q'*Y=p'*X
 x0:0<x
theorem LI.start {X Y:Nat} (h:0<X):LI X Y X Y 1 0 0 1 false:=⟨by omega,by omega,rfl,fun _=>by omega,(fun h=>by cases h),h⟩
theorem LI.lt {X Y x y p q b c:Nat} {odd:Bool} (h:LI X Y x y p q b c odd):b≤Y∧c≤X:=by have d:=Nat.le_mul_of_pos_right b h.x0;have f:=Nat.le_mul_of_pos_right c h.x0;have:=h.i1;have:=h.i2;omega
theorem LI.step {X Y x y p q b c k z:Nat} {odd:Bool} (h:LI X Y x y p q b c odd) (l:k*y+z=x) (t:z<y):LI X Y y z b c (p+k*b) (q+k*c) (!odd):=by
 obtain⟨u,A,g,e,o,x0⟩:=h;have n:(q+k*c)*y+c*z=c*x+q*y:=(by rw[←l,Nat.mul_add,Nat.add_mul,Nat.mul_left_comm c k y,Nat.mul_assoc k c y];omega);have r:(p+k*b)*y+b*z=b*x+p*y:=(by rw[←l,Nat.mul_add,Nat.add_mul,Nat.mul_left_comm b k y,Nat.mul_assoc k b y];omega);refine⟨n.trans u,r.trans A,?_,fun h=>?_,fun h=>?_,by omega⟩
 ·have m:x%y=z:=(by rw[←l,Nat.mul_comm k y,Nat.mul_add_mod,Nat.mod_eq_of_lt t]);rw[←g,Nat.gcd_comm x y,Nat.gcd_rec y x,m,Nat.gcd_comm]
 ·have j:odd=true:=(by simpa using h);obtain⟨s,d⟩:=o j;refine⟨by rw[←d],?_⟩;have f:=congrArg (k* ·) d;simp only[Nat.mul_add]at f;rw[Nat.add_mul,Nat.add_mul,Nat.mul_assoc k b,Nat.mul_assoc k c];omega
 ·have j:odd=false:=(by simpa using h);obtain⟨s,d⟩:=e j;refine⟨by rw[←d],?_⟩;have f:=congrArg (k* ·) d;simp only[Nat.mul_add]at f;rw[Nat.add_mul,Nat.add_mul,Nat.mul_assoc k b,Nat.mul_assoc k c];omega
end Rad
namespace Go.Proofs.YtjlkplidpdhgbaaGreatDoor
open Go Go.Proofs Go.RowKit Go.Rad
open _root_.Rad LI
inductive LastPost (w:World) (X Y:Nat) (e:Ending) (w':World):Prop
 |mk (g p q:Nat) (odd:Bool) (he:e=.returned (.tuple #[.int .u64 g,.agg #[.int .u64 p,.int .u64 q,.int .u64 0,.int .u64 0,.bool odd]])) (hb:Below w.heap.size w w')
  (hg:g=Nat.gcd X Y) (ho:odd=false→g+q*Y=p*X) (hn:odd=true→g+p*X=q*Y) (hp:p<B) (hq:q<B)
theorem lastTurn_any (w:World) (X Y:Nat) (hX:0<X) (Z:X<B) (aa:Y<B):
 Calls Tryz.prog 126 #[.int .u64 X,.int .u64 Y] w fun e w'=>LastPost w X Y e w':=by
 go_enter Tryz.func126,Tryz.ntmps126;go_upto_region 1 with fail
 refine zac (fun g=>Below w.heap.size w g∧TB g w.heap.size 0 0 0 0 false) ⟨zau _ _,TB.mk0 _ _ _ _ _ _ _⟩ ?_;rintro g ⟨P,T5⟩;have t:Hid (Below w.heap.size w g):=P;have d:Hid (TB g w.heap.size 0 0 0 0 false):=T5;clear P T5;go_upto_region 2 with fail;refine zac (fun I=>Below w.heap.size w I∧TB I w.heap.size 0 0 0 0 false∧TB I g.heap.size 1 0 0 0 false∧w.heap.size≠g.heap.size) ⟨?_,?_,?_,?_⟩ ?_
 ·exact t.out.alloc t.out.size _
 ·exact d.out.below (zau g _) d.out.lt
 ·exact TB.mk0 g 1 0 0 0 false 152
 ·have H:=d.out.lt;omega
 rintro I ⟨R,u,n,m⟩;obtain⟨A,S⟩:∃A,g.heap.size=A:=⟨_,rfl⟩;rw[S]at n m⊢;have fa:w.heap.size<A:=(by have:=d.out.lt;omega);clear d t S g;have c:Hid (TB I w.heap.size 0 0 0 0 false):=u;have f:Hid (TB I A 1 0 0 0 false):=n;have L:Hid (Below w.heap.size w I):=R;clear u n R;go_wp2;go_loopw [0,1,7,8] (fun a0 V a7 a8 wr=>∃(x y p q j l:Nat) (odd:Bool),a0=.int .u64 x∧V=.int .u64 y∧a7=.int .u64 j∧a8=.int .u64 l∧
  Hid (Below w.heap.size w wr∧TB wr w.heap.size 0 0 0 0 false∧TB wr A p q 0 0 odd∧LI X Y x y p q j l odd∧x<B∧y<B∧p<B∧q<B))
  (fun _ V _ _ _=>(intOf V).toNat)
 case atStart=>exact⟨_,_,_,_,_,_,_,rfl,rfl,rfl,rfl,⟨L.out,c.out,f.out,LI.start hX,Z,aa,by decide,by decide⟩⟩
 case round=>
  clear c f L;obtain⟨x,y,p,q,j,l,odd,rfl,rfl,rfl,rfl,U⟩:=hrel;obtain⟨W,u,n,o,xB,yB,pB,qB⟩:=U.out;obtain⟨l9,c0,c1,c2,c3,c4,z0,z1,z2,z3,z4⟩:=id n;have c:Hid (TB wr w.heap.size 0 0 0 0 false):=u;have f:Hid (TB wr A p q 0 0 odd):=n;have HB:Hid (Below w.heap.size w wr):=W;have N:Hid (LI X Y x y p q j l odd):=o;have O:B=18446744073709551616:=rfl;by_cases hy:y=0
  ·subst hy;have HP:Hid (∀w',Below w.heap.size w w'→LastPost w X Y (.returned (.tuple #[.int .u64 x,.agg #[.int .u64 p,.int .u64 q,.int .u64 0,.int .u64 0,.bool odd]])) w'):=fun w' h=> .mk x p q odd rfl h (by have:=o.g;rw[Nat.gcd_zero_right]at this;exact this) (fun h=>(o.e h).1) (fun h=>(o.o h).1) pB qB;obtain⟨l4,d0,d1,d2,d3,d4,n0,n1,n2,n3,n4⟩:=id u;clear U W u n o xB yB pB qB O N c f;go_wp2;go_region
   all_goals
    go_wp2;refine bodyPost_ret (v:= .tuple #[.int .u64 x,.agg #[.int .u64 p,.int .u64 q,.int .u64 0,.int .u64 0,.bool odd]]) rs rfl ?_;have b:w.heap.size≤w.heap.size:=Nat.le_refl _;refine HP.out _ ?_
    first
     |exact(((((HB.out.drew.setCell b _).setCell b _).setCell b _).setCell b _).setCell b _)
     |exact(((((HB.out.setCell b _).setCell b _).setCell b _).setCell b _).setCell b _).drew
     |exact(((((HB.out.setCell b _).setCell b _).setCell b _).setCell b _).setCell b _)
  ·have ca:0<y:=om;obtain⟨k,T⟩:∃k,x / y=k:=⟨_,rfl⟩;obtain⟨z,hz⟩:∃z,x%y=z:=⟨_,rfl⟩;have G:k*y+z=x:=(by rw[←T,←hz,Nat.mul_comm];exact Nat.div_add_mod x y);have da:z<y:=(by rw[←hz];exact Nat.mod_lt _ ca);have C:=o.step G da;have H:=C.lt;have M:Hid _:=C;have ea:(x:Int) / (y:Int)=(k:Int):=(by rw[←T];exact(Int.natCast_ediv x y).symm);obtain⟨J,F⟩:∃J,k*y=J:=⟨_,rfl⟩;obtain⟨r,D⟩:∃r,k*j=r:=⟨_,rfl⟩;obtain⟨s,E⟩:∃s,k*l=s:=⟨_,rfl⟩;have cb:(k:Int)*(y:Int)=(J:Int):=(by rw[←F];exact(Int.natCast_mul k y).symm);have cu:(k:Int)*(j:Int)=(r:Int):=(by rw[←D];exact(Int.natCast_mul k j).symm);have cv:(k:Int)*(l:Int)=(s:Int):=(by rw[←E];exact(Int.natCast_mul k l).symm);have ba:k≤x:=(by rw[←T];exact Nat.div_le_self _ _);have b:=o.lt;rw[F]at G;rw[D,E]at H M;have x0:IntKind.u64.wrap (k:Int)=(k:Int):=(by rw[IntKind.wrap_u64];omega);have x1:IntKind.u64.wrap (J:Int)=(J:Int):=(by rw[IntKind.wrap_u64];omega);have x2:IntKind.u64.wrap (r:Int)=(r:Int):=(by rw[IntKind.wrap_u64];omega);have x3:IntKind.u64.wrap (s:Int)=(s:Int):=(by rw[IntKind.wrap_u64];omega);have x4:IntKind.u64.wrap ((x:Int)-(J:Int))=(z:Int):=(by rw[IntKind.wrap_u64];omega);have x5:IntKind.u64.wrap ((p:Int)+(r:Int))=((p+r:Nat):Int):=(by rw[IntKind.wrap_u64];omega);have x6:IntKind.u64.wrap ((q:Int)+(s:Int))=((q+s:Nat):Int):=(by rw[IntKind.wrap_u64];omega);have y3:¬(y:Int)=0:=om;have HF:Hid (y<B∧z<B∧j<B∧l<B):=(by show _∧_∧_∧_;omega);clear U W u n o C H b T hz G F D E ba xB yB pB qB O N;go_wp2;refine⟨⟨y,z,j,l,p+r,q+s,!odd,rfl,rfl,(by go_num),(by go_num),⟨?_,?_,?_,M.out,HF.out⟩⟩,?_⟩
   ·have b:w.heap.size≤A:=om;exact((HB.out.setCell b _).setCell b _).setCell b _
   ·exact((c.out.other m _).other m _).other m _
   ·exact((f.out.set0 j).set1 l).set4 (!odd)
   ·simp only[intOf];omega
end Go.Proofs.YtjlkplidpdhgbaaGreatDoor
namespace Go.Proofs.YtjlkplidpdhgbaaGreatDoor
open Go Go.Proofs Go.RowKit Go.Rad
def NV (w1:World) (st:Bool) (z:Int) (v:Value) (w:World):Prop:=∃b:Nat,v=.pointer (some ⟨b,0,none⟩)∧w1.heap.size≤b∧∃s a n c,FB w b (.int .i64 s) (.slice a n c)∧(st=true→IsInt w (.agg #[.int .i64 s,.slice a n c]) z)
theorem NV.below {j w w':World} {g:Bool} {z:Int} {v:Value} (h:NV j g z v w) (f:Below w.heap.size w w'):NV j g z v w':=by obtain⟨b,l,d,s,a,n,c,k,hi⟩:=h;exact⟨b,l,d,s,a,n,c,k.below f,fun e=>(hi e).below f⟩
structure TwoV (w1:World) (z1 z2:Int) (Lp Lq Ls Lt:Bool) (xp xq:Value) (w:World):Prop where
 bel:Below w1.heap.size w1 w
 p:Lp=true→NV w1 Ls z1 xp w
 q:Lq=true→NV w1 Lt z2 xq w
 apart:Lp=true→Lq=true→xp≠xq
theorem TwoV.start (b:World) (f g:Int) (c d:Value):TwoV b f g false false false false c d b.drew:=⟨zad _,fun h=>(by cases h),fun h=>(by cases h),fun h=>(by cases h)⟩
theorem TwoV.below {j:World} {m n:Int} {c d f g:Bool} {k l:Value} {w w':World} (h:TwoV j m n c d f g k l w) (b:Below w.heap.size w w'):TwoV j m n c d f g k l w':=⟨h.bel.trans (b.mono h.bel.size),fun e=>(h.p e).below b,fun e=>(h.q e).below b,h.apart⟩
theorem NV.new (b w:World) (z:Int) (c:b.heap.size≤w.heap.size):NV b false z (.pointer (some ⟨w.heap.size,0,none⟩)) (w.alloc (Obj.cells #[.int .i64 0,.slice none 0 0] 24)):=⟨_,rfl,c,0,none,0,0,FB.mk0 _ _ _ _,fun h=>(by cases h)⟩
theorem NV.stored {j w:World} {l:Bool} {z:Int} {b:Nat} (h:NV j l z (.pointer (some ⟨b,0,none⟩)) w) {s:Int} {a:Option Addr} {n c:Nat} (k:IsInt w (.agg #[.int .i64 s,.slice a n c]) z):
 NV j true z (.pointer (some ⟨b,0,none⟩)) ((w.setCell ⟨b,0,none⟩ (.int .i64 s)).setCell ⟨b,1,none⟩ (.slice a n c)):=by
 obtain⟨o,g,d,r,m,q,p,f,hi⟩:=h;simp only[Value.pointer.injEq,Option.some.injEq,Addr.mk.injEq,and_true]at g;subst g;exact⟨_,rfl,d,s,a,n,c,f.set _ _,fun _=>k.keep (f.keep _ _)⟩
theorem NV.kept {l w:World} {o k:Bool} {z y:Int} {b:Nat} {v:Value} (h:NV l o z v w) (t:NV l k y (.pointer (some ⟨b,0,none⟩)) w) (j:v≠ .pointer (some ⟨b,0,none⟩)) (u x:Value):
 NV l o z v ((w.setCell ⟨b,0,none⟩ u).setCell ⟨b,1,none⟩ x):=by
 obtain⟨p,rfl,d,s,a,n,c,r,hi⟩:=h;obtain⟨B,m,q,E,A,D,C,g,hi'⟩:=t;simp only[Value.pointer.injEq,Option.some.injEq,Addr.mk.injEq,and_true]at m;subst m;have f:p≠b:=fun e=>j (by rw[e]);exact⟨_,rfl,d,s,a,n,c,r.other _ _ f,fun e=>(hi e).keep (g.keep _ _)⟩
theorem NV.ge {g w:World} {k:Bool} {z:Int} {b:Nat} (h:NV g k z (.pointer (some ⟨b,0,none⟩)) w):g.heap.size≤b∧∃s a n c,FB w b (.int .i64 s) (.slice a n c):=by obtain⟨m,f,d,q,l,p,o,j,hi⟩:=h;simp only[Value.pointer.injEq,Option.some.injEq,Addr.mk.injEq,and_true]at f;subst f;exact⟨d,_,_,_,_,j⟩
theorem NV.keep {k w:World} {f:Bool} {z:Int} {b:Nat} (h:NV k f z (.pointer (some ⟨b,0,none⟩)) w) (g j:Value):Keep w ((w.setCell ⟨b,0,none⟩ g).setCell ⟨b,1,none⟩ j):=by obtain⟨_,s,a,n,c,d⟩:=h.ge;exact d.keep _ _
theorem zbe {a:Act} {d t:Nat} {v:Value} (h:d≠t):(a.put (some d) v).eval (.tmp t)=a.eval (.tmp t):=zak h
end Go.Proofs.YtjlkplidpdhgbaaGreatDoor
namespace Rad
open Go
abbrev IsDg (b:UInt8):Prop:=48≤b.toNat∧b.toNat≤57
def runD:List UInt8→Nat
 |[]=>0
 |b::r=>if IsDg b then runD r+1 else 0
def dvalF (acc:Nat) (l:List UInt8):Nat:=l.foldl (fun a b=>a*10+(b.toNat-48)) acc
def dval (l:List UInt8):Nat:=dvalF 0 l
def wlen:List UInt8→Nat
 |[]=>0
 |b::r=>if b=45 then 1+(if r.head? =some 48 then 0 else runD r) else if b=48 then 1 else runD (b::r)
def digs:List UInt8→List UInt8
 |[]=>[]
 |b::r=>if b=45 then r else b::r
abbrev Valid (l:List UInt8):Prop:=wlen l=l.length∧digs l≠[]
def val (l:List UInt8):Int:=if l.head? =some 45 then -(dval (digs l):Int) else (dval (digs l):Int)
theorem runD_le:∀l,runD l≤l.length
 |[]=>Nat.le_refl _
 |b::r=>by unfold runD;have:=runD_le r;split <;> simp <;> omega
theorem runD_all:∀ {l:List UInt8},runD l=l.length→∀b∈l,IsDg b
 |[],_,b,hb=>by simp at hb
 |c::r,h,b,hb=>by
  unfold runD at h
  split at h
  ·rename_i hc
   rcases List.mem_cons.1 hb with rfl|d
   ·exact hc
   ·exact runD_all (by simpa using h) b d
  ·simp at h
theorem zdu:∀ {l:List UInt8},(∀b∈l,IsDg b)→runD l=l.length
 |[],_=>rfl
 |c::r,h=>by unfold runD;rw[if_pos (h c List.mem_cons_self),zdu fun b d=>h b (List.mem_cons_of_mem _ d)];rfl
theorem runD_at:∀ {l:List UInt8} {i:Nat} (h:i<l.length),i<runD l→IsDg l[i]
 |b::r,i,h,hi=>by
  by_cases c:IsDg b
  ·have e:runD (b::r)=runD r+1:=(by rw[runD,if_pos c]);rw[e]at hi;cases i with
   |zero=>exact c
   |succ i=>exact runD_at (l:=r) (by simpa using h) om
  ·have e:runD (b::r)=0:=(by rw[runD,if_neg c]);omega
theorem runD_stop:∀ {l:List UInt8} (h:runD l<l.length),¬IsDg l[runD l]
 |b::r,h=>by
  by_cases c:IsDg b
  ·have e:runD (b::r)=runD r+1:=(by rw[runD,if_pos c]);simp only[e]at h⊢;exact runD_stop (l:=r) (by simpa using h)
  ·have e:runD (b::r)=0:=(by rw[runD,if_neg c]);simp only[e];exact c
theorem dvalF_append (b:Nat) (l m:List UInt8):dvalF b (l++m)=dvalF (dvalF b l) m:=by unfold dvalF;rw[List.foldl_append]
theorem zd2 (c:Nat) (l:List UInt8):dvalF c l=c*10^l.length+dval l:=by
 induction l generalizing c with
 |nil=>simp[dvalF,dval]
 |cons b r ih=>have d:dvalF c (b::r)=dvalF (c*10+(b.toNat-48)) r:=rfl;have f:dval (b::r)=dvalF (0*10+(b.toNat-48)) r:=rfl;rw[d,f,ih,ih (0*10+(b.toNat-48)),List.length_cons,Nat.pow_succ,Nat.add_mul,Nat.zero_mul,Nat.zero_add,Nat.mul_assoc,Nat.mul_comm 10];omega
theorem zcx (l m:List UInt8):dval (l++m)=dval l*10^m.length+dval m:=by show dvalF 0 (l++m)=_;rw[dvalF_append,zd2];rfl
theorem zc3 (b:UInt8) (r:List UInt8):dval (b::r)=(b.toNat-48)*10^r.length+dval r:=by have:dval (b::r)=dvalF (0*10+(b.toNat-48)) r:=rfl;rw[this,zd2];simp
theorem dval_lt:∀ {l:List UInt8},(∀b∈l,IsDg b)→dval l<10^l.length
 |[],_=>by decide
 |b::r,h=>by have g:=dval_lt fun c f=>h c (List.mem_cons_of_mem _ f);have d:=h b List.mem_cons_self;rw[zc3,List.length_cons,Nat.pow_succ];have j:(b.toNat-48)*10^r.length≤9*10^r.length:=Nat.mul_le_mul_right _ (by unfold IsDg at d;omega);omega
theorem dval_ge {b:UInt8} {r:List UInt8} (f:IsDg b) (c:b≠48):10^r.length≤dval (b::r):=by rw[zc3];have d:1≤b.toNat-48:=(by unfold IsDg at f;have:b.toNat≠48:=fun h=>c (UInt8.toNat_inj.1 h);omega);have:=Nat.mul_le_mul_right (10^r.length) d;omega
theorem zf0 {l:List UInt8} {b:UInt8} (h:Lib.decDigits (dval l)=l) (d:0<dval l) (c:IsDg b):Lib.decDigits (dval (l++[b]))=l++[b]:=by have e:dval (l++[b])=dval l*10+(b.toNat-48):=(by rw[zcx,zc3];simp[dval,dvalF]);unfold IsDg at c;rw[e,Lib.decDigits,dif_neg om,show(dval l*10+(b.toNat-48)) / 10=dval l by omega,show(dval l*10+(b.toNat-48))%10=b.toNat-48 by omega,h,show 48+(b.toNat-48)=b.toNat by omega];simp
theorem zdj {b:UInt8} {r:List UInt8} (o:b≠48) (h:∀c∈b::r,IsDg c):Lib.decDigits (dval (b::r))=b::r:=by
 have l:∀n (m:List UInt8),m.length=n→(∀c∈m,IsDg c)→Lib.decDigits (dval (b::m))=b::m:=by
  intro n
  induction n with
  |zero=>intro m j _;obtain rfl:=List.length_eq_zero_iff.1 j;have q:=h b List.mem_cons_self;unfold IsDg at q;have e:dval [b]=b.toNat-48:=(by rw[zc3];simp[dval,dvalF]);rw[e,Lib.decDigits,dif_pos om,show 48+(b.toNat-48)=b.toNat by omega];simp
  |succ n ih=>intro m j f;have g:m≠[]:=(by intro e;rw[e]at j;simp at j);have d:=List.dropLast_concat_getLast g;have p:=ih m.dropLast (by rw[List.length_dropLast];omega) (fun c k=>f c (List.dropLast_subset _ k));rw[←d,←List.cons_append];refine zf0 p ?_ (f _ (List.getLast_mem g));exact Nat.lt_of_lt_of_le (Nat.pow_pos dd) (dval_ge (h b List.mem_cons_self) o)
 exact l _ r rfl fun c k=>h c (List.mem_cons_of_mem _ k)
theorem zcm:∀(l:List UInt8) (d:Nat),(∀b∈l,IsDg b)→dvalF d l<18446744073709551616→Lib.parseUint10 d l=.ok (dvalF d l)
 |[],d,_,_=>rfl
 |c::r,d,h,hl=>by have g:=h c List.mem_cons_self;have e:dvalF d (c::r)=dvalF (d*10+(c.toNat-48)) r:=rfl;rw[e]at hl⊢;have j:d*10+(c.toNat-48)≤dvalF (d*10+(c.toNat-48)) r:=(by rw[zd2];have:=Nat.le_mul_of_pos_right (d*10+(c.toNat-48)) (Nat.pow_pos (show 0<10 by decide) (n:=r.length));omega);unfold Lib.parseUint10;rw[if_pos (show 48≤c.toNat∧c.toNat≤57 from g),if_neg om,if_neg om];exact zcm r _ (fun b f=>h b (List.mem_cons_of_mem _ f)) hl
theorem zct:∀(l:List UInt8) (M d:Nat),(∀b∈l,IsDg b)→dvalF d l≤M→M<18446744073709551616→Lib.parseUintM M d l=.ok (dvalF d l)
 |[],M,d,_,_,_=>rfl
 |c::r,M,d,h,hl,hM=>by have g:=h c List.mem_cons_self;have e:dvalF d (c::r)=dvalF (d*10+(c.toNat-48)) r:=rfl;rw[e]at hl⊢;have j:d*10+(c.toNat-48)≤dvalF (d*10+(c.toNat-48)) r:=(by rw[zd2];have:=Nat.le_mul_of_pos_right (d*10+(c.toNat-48)) (Nat.pow_pos (show 0<10 by decide) (n:=r.length));omega);unfold Lib.parseUintM;rw[if_pos (show 48≤c.toNat∧c.toNat≤57 from g),if_neg om,if_neg om];exact zct r M _ (fun b f=>h b (List.mem_cons_of_mem _ f)) hl hM
theorem digs_neg (r:List UInt8):digs (45::r)=r:=by simp[digs]
theorem digs_pos {b:UInt8} (c:b≠45) (r:List UInt8):digs (b::r)=b::r:=by simp[digs,c]
theorem wlen_neg (r:List UInt8):wlen (45::r)=1+(if r.head? =some 48 then 0 else runD r):=by simp[wlen]
theorem wlen_zero (r:List UInt8):wlen (48::r)=1:=by simp[wlen]
theorem wlen_pos {b:UInt8} (d:b≠45) (c:b≠48) (r:List UInt8):wlen (b::r)=runD (b::r):=by simp[wlen,d,c]
theorem Valid.cases {l:List UInt8} (h:Valid l):(∃b r,digs l=b::r∧(∀c∈b::r,IsDg c)∧(b=48→r=[]∧l=[48]))∧(l=digs l∧l.head?≠some 45∨l=45::digs l):=by
 obtain⟨d,j⟩:=h;cases l with
 |nil=>simp[digs]at j
 |cons b r=>
  by_cases g:b=45
  ·subst g;rw[digs_neg]at j⊢;refine⟨?_,.inr rfl⟩;cases r with
   |nil=>simp at j
   |cons c r=>
    rw[wlen_neg]at d;by_cases f:c=48
    ·subst f;simp at d
    ·rw[if_neg (by simpa using f)]at d;refine⟨c,r,rfl,runD_all (by simp at d⊢;omega),fun e=>absurd e f⟩
  ·rw[digs_pos g];refine⟨⟨b,r,rfl,?_,fun e=>?_⟩,.inl ⟨rfl,by simpa using g⟩⟩
   ·by_cases m:b=48
    ·subst m;rw[wlen_zero]at d;have k:r=[]:=List.length_eq_zero_iff.1 (by simpa using d.symm);subst k;intro c f;simp at f;subst f;exact⟨by decide,by decide⟩
    ·rw[wlen_pos g m]at d;exact runD_all d
   ·subst e;rw[wlen_zero]at d;have k:r=[]:=List.length_eq_zero_iff.1 (by simpa using d.symm);subst k;exact⟨rfl,rfl⟩
theorem Valid.digits {l:List UInt8} (h:Valid l):∀c∈digs l,IsDg c:=by obtain⟨⟨b,r,f,d,_⟩,_⟩:=h.cases;rw[f];exact d
theorem Valid.val_abs {l:List UInt8}: (val l).natAbs=dval (digs l):=by unfold val;split <;> simp
theorem Valid.back {l:List UInt8} (h:Valid l):Lib.itoa (val l)=l:=by
 obtain⟨⟨b,r,f,c,g⟩,m⟩:=h.cases;rcases m with⟨he,hh⟩|he
 ·have e:val l=((dval (digs l):Nat):Int):=(by unfold val;rw[if_neg hh]);rw[e,Lib.itoa_nonneg];by_cases d:b=48
  ·obtain⟨_,j⟩:=g d;subst j;have:dval (digs [48])=0:=dd;rw[this,Lib.decDigits_one dd];rfl
  ·rw[f,zdj d c,←f];exact he.symm
 ·have e:val l= -((dval (digs l):Nat):Int):=(by unfold val;rw[if_pos (by rw[he];rfl)]);have d:b≠48:=fun d=>by have:=(g d).2;rw[this]at he;simp[digs]at he
  have k:0<dval (digs l):=(by rw[f];exact Nat.lt_of_lt_of_le (Nat.pow_pos dd) (dval_ge (c b List.mem_cons_self) d));rw[e,Lib.itoa_neg _ k,f,zdj d c,←f];exact he.symm
theorem dg_not_sign {c:UInt8} (h:IsDg c):¬c.toNat=43∧¬c.toNat=45:=by unfold IsDg at h;omega
theorem zfn {d:List UInt8} (c:d≠[]) (h:∀b∈d,IsDg b) (f:d.length≤19):Lib.parseMag d=.ok (dval d):=by unfold Lib.parseMag;rw[if_neg c];refine zcm d 0 h ?_;have g:dvalF 0 d<10^d.length:=dval_lt h;have j:10^d.length≤10^19:=Nat.pow_le_pow_right dd f;omega
theorem pu_ok {d:List UInt8} (c:d≠[]) (h:∀b∈d,IsDg b) (f:d.length≤19):Lib.parseUintB 64 d=.ok (dval d):=by unfold Lib.parseUintB;rw[if_neg c];have g:dvalF 0 d<10^d.length:=dval_lt h;have j:10^d.length≤10^19:=Nat.pow_le_pow_right dd f;exact zct d _ 0 h om dd
theorem atoi_ok {l:List UInt8} (h:Valid l) (o:(digs l).length≤18):Lib.atoiAll l=.ok (val l):=by
 have k:=h.digits;have q:dval (digs l)<1000000000000000000:=(by have s:=dval_lt k;have t:10^(digs l).length≤10^18:=Nat.pow_le_pow_right dd o;omega);have g:=zfn h.2 k om;obtain⟨⟨b,r,d,_,_⟩,p⟩:=h.cases;have n:IsDg b:=k b (by rw[d];exact List.mem_cons_self);have f:=dg_not_sign n;rcases p with⟨he,hh⟩|he
 ·have e:val l=((dval (digs l):Nat):Int):=(by unfold val;rw[if_neg hh]);rw[e];have c:l=b::r:=(by rw[he];exact d);rw[←he]at g;rw[he]at c⊢;rw[←he]at c⊢;rw[c]at g⊢;unfold Lib.atoiAll;simp only[f.1,f.2,or_self,if_false,g];have m:digs (b::r)=b::r:=(by rw[←c];exact he.symm);rw[d]at q;rw[m];rw[if_neg om];simp
 ·have e:val l= -((dval (digs l):Nat):Int):=(by unfold val;rw[if_pos (by rw[he];rfl)]);rw[e];rw[he];unfold Lib.atoiAll;simp only[digs_neg];have j:(45:UInt8).toNat=45:=rfl;simp only[j,or_true,if_true,g];simp only[not_true,false_and,if_false,true_and];rw[if_neg om]
theorem chunk_step {W D:Nat} {t:List UInt8} {n V:Nat} (f:n≤t.length) (b:W=0∨n=19) (h:W*10^t.length+dval t=V) (c:D=dval (t.take n)):
 (W*10000000000000000000+D)*10^(t.drop n).length+dval (t.drop n)=V:=by
 have e:=zcx (t.take n) (t.drop n);rw[List.take_append_drop]at e;have d:t.length=n+(t.drop n).length:=(by rw[List.length_drop];omega);rw[e,d]at h;rw[c,←h,Nat.add_mul,Nat.add_assoc];congr 1;rcases b with b|b
 ·rw[b];simp
 ·rw[b,Nat.pow_add,←Nat.mul_assoc]
end Rad
namespace Go.Proofs.YtjlkplidpdhgbaaGreatDoor
open Go Go.Proofs Go.RowKit Go.Rad
theorem ba_empty {s:ByteArray} (h:s.size=0):s.toList.isEmpty=true:=by rw[ByteArray.toList_eq,List.isEmpty_iff];exact List.eq_nil_of_length_eq_zero (by simpa using h)
theorem ba_full {s:ByteArray} (h:0<s.size):s.toList.isEmpty=false:=by rw[ByteArray.toList_eq,←Bool.not_eq_true,List.isEmpty_iff];intro b;have c:s.data.toList.length=0:=(by rw[b];rfl);have d:s.data.toList.length=s.size:=(by simp);omega
theorem ba_head {s:ByteArray} (h:0<s.size):s.data.toList.head? =some s[0]:=by have b:0<s.data.toList.length:=(by simpa using h);rw[List.head?_eq_getElem?,List.getElem?_eq_getElem b];rfl
theorem u8_ne {b:UInt8} {n:Nat} (d:n<256) (h:¬b=UInt8.ofNat n):¬(b.toNat:Int)=(n:Int):=by intro c;apply h;apply UInt8.toNat_inj.1;simp;omega
def dl (l:List UInt8):Nat:=if l.head? =some 48 then 0 else _root_.Rad.runD l
theorem zcw (w:World) (s:ByteArray) (F:s.size≤9223372036854775806):
 Calls Tryz.prog 96 #[.string s] w fun e w'=>e=.returned (.int .i64 (dl s.data.toList:Nat))∧w'=w:=by
 have b:s.data.toList.length=s.size:=(by simp);obtain⟨r,c⟩:∃r,dl s.data.toList=r:=⟨_,rfl⟩;rw[c];by_cases y:s.size=0
 ·have u:=ba_empty y;have:s.data.toList=[]:=List.eq_nil_of_length_eq_zero om;rw[this]at c;obtain rfl:r=0:=c.symm;clear c b this;go_enter Tryz.func96,Tryz.ntmps96;go_wp2;have j:(s.size:Int)=0:=om;go_loop [13] (fun i=>i=.int .i64 0) (fun i=>0)
  case atStart=>rfl
  case round=>obtain rfl:=hrel;go_wp2;go_ret;exact⟨rfl,rfl⟩
 ·have j:0<s.size:=om;have u:=ba_full j;have f:=ba_head j;by_cases d:s[0]=48
  ·have x:(s[0].toNat:Int)=48:=(by rw[d];rfl);have:r=0:=(by rw[←c];unfold dl;rw[f,d];rfl);subst this;clear c b f;go_enter Tryz.func96,Tryz.ntmps96;go_wp2;go_ret;exact⟨rfl,rfl⟩
  ·have x:¬(s[0].toNat:Int)=48:=u8_ne (n:=48) dd d;have k:r=_root_.Rad.runD s.data.toList:=(by rw[←c];unfold dl;rw[f,if_neg];intro h;exact d (Option.some.inj h));have C:r≤s.size:=(by rw[k,←b];exact _root_.Rad.runD_le _);have m:Hid (∀i (h:i<s.size),i<r→48≤(s[i].toNat:Int)∧(s[i].toNat:Int)≤57):=fun i h hi=>by have:=_root_.Rad.runD_at (l:=s.data.toList) (i:=i) om om;unfold _root_.Rad.IsDg at this;have e:s.data.toList[i]'om=s[i]:=rfl;rw[e]at this;omega
   have p:Hid (∀(h:r<s.size),((s[r].toNat:Int)<48∨57<(s[r].toNat:Int))):=fun h=>by have:=_root_.Rad.runD_stop (l:=s.data.toList) om;unfold _root_.Rad.IsDg at this;have e:s.data.toList[_root_.Rad.runD s.data.toList]'om=s[r]:=(by subst k;rfl);rw[e]at this;omega
   clear k c b f;go_enter Tryz.func96,Tryz.ntmps96;go_wp2;go_loop [13] (fun i=>∃t:Nat,t≤r∧i=.int .i64 (t:Int)) (fun i=>s.size-(intOf i).toNat)
   case atStart=>exact⟨0,by omega,rfl⟩
   case round=>
    obtain⟨i,hi,rfl⟩:=hrel;by_cases o:i=r
    ·subst o;by_cases B:i=s.size
     ·have q:¬(i:Int)<(s.size:Int):=om;go_wp2;go_ret;exact⟨rfl,rfl⟩
     ·have q:(i:Int)<(s.size:Int):=om;have g:i<s.size:=om;rcases p.out g with h|h
      ·go_wp2;go_ret;exact⟨rfl,rfl⟩
      ·have D:¬(s[i].toNat:Int)<48:=om;go_wp2;go_ret;exact⟨rfl,rfl⟩
    ·have q:(i:Int)<(s.size:Int):=om;have g:i<s.size:=om;obtain⟨d,E⟩:=m.out i g om;have z:¬(s[i].toNat:Int)<48:=om;have A:¬57<(s[i].toNat:Int):=om;go_wp2;exact⟨⟨i+1,by omega,by go_num⟩,by simp[intOf];omega⟩
theorem ze4 (s:ByteArray) (k:Nat):(s.extract k s.size).data.toList=s.data.toList.drop k:=by rw[ByteArray.data_extract,Array.toList_extract,List.extract_eq_take_drop,List.take_of_length_le];simp
theorem ba_take (s:ByteArray) (k:Nat):(s.extract 0 k).data.toList=s.data.toList.take k:=by rw[ByteArray.data_extract,Array.toList_extract,List.extract_eq_take_drop];simp
theorem zas (s:ByteArray):s.data.toList.length=s.size:=by simp
theorem ba_all (s:ByteArray):s.extract 0 s.size=s:=by simp
theorem dl_le (l:List UInt8):dl l≤l.length:=by unfold dl;have:=_root_.Rad.runD_le l;split <;> omega
theorem ze3 {s:ByteArray} (h:0<s.size):s.data.toList=s[0]::s.data.toList.drop 1:=by
 have:=ba_head h;cases hl:s.data.toList with
 |nil=>rw[hl]at this;simp at this
 |cons a t=>rw[hl]at this;simp at this;simp[this]
theorem zea (w:World) (s:ByteArray) (y:s.size≤9223372036854775806) (r:Nat) (f:_root_.Rad.wlen s.data.toList=r):
 Calls Tryz.prog 62 #[.string s] w fun e w'=>e=.returned (.int .i64 (r:Nat))∧w'=w:=by
 have b:s.data.toList.length=s.size:=zas s;by_cases D:s.size=0
 ·have z:=ba_empty D;have c:s.data.toList=[]:=List.eq_nil_of_length_eq_zero om;rw[c]at f;obtain rfl:r=0:=f.symm;have B:s.extract 0 s.size=s:=ba_all s;have g:=zcw w s y;rw[c,show dl []=0 from rfl]at g;have A:s=ByteArray.empty:=(by apply ByteArray.ext;apply Array.toList_inj.1;rw[c];rfl);clear f b c B;subst A;go_enter Tryz.func62,Tryz.ntmps62;go_wp2_with (go_at_call 96;refine g.mono ?_;rintro e w' ⟨rfl,m⟩;subst m);go_ret;exact⟨rfl,rfl⟩
 ·have t:0<s.size:=om;have z:=ba_full t;have j:=ze3 t;by_cases o:s[0]=45
  ·have u:(s[0].toNat:Int)=45:=(by rw[o];rfl);obtain⟨q,p⟩:∃q,dl (s.data.toList.drop 1)=q:=⟨_,rfl⟩;have g:=zcw w (s.extract 1 s.size) (by simp;omega);rw[ze4,p]at g;have d:r=1+q:=(by rw[←f,j,o,_root_.Rad.wlen_neg,←p];rfl);have l:q≤s.size:=(by rw[←p,←b];refine Nat.le_trans (dl_le _) ?_;simp);subst d;have C:IntKind.i64.wrap (1+(q:Int))=((1+q:Nat):Int):=(by rw[IntKind.wrap_i64];omega);clear f p b j;go_enter Tryz.func62,Tryz.ntmps62;go_wp2_with (go_at_call 96;refine g.mono ?_;rintro e w' ⟨rfl,m⟩;subst m);go_ret;exact⟨by go_num,rfl⟩
  ·have u:¬(s[0].toNat:Int)=45:=u8_ne (n:=45) dd o;by_cases k:s[0]=48
   ·have x:(s[0].toNat:Int)=48:=(by rw[k];rfl);obtain rfl:r=1:=(by rw[←f,j,k,_root_.Rad.wlen_zero]);clear f b j;go_enter Tryz.func62,Tryz.ntmps62;go_wp2;go_ret;exact⟨rfl,rfl⟩
   ·have x:¬(s[0].toNat:Int)=48:=u8_ne (n:=48) dd k;have g:=zcw w (s.extract 0 s.size) (by rw[ba_all];exact y);have d:dl s.data.toList=r:=(by rw[←f,j,_root_.Rad.wlen_pos o k];unfold dl;rw[if_neg];simpa using k);have l:r≤s.size:=(by rw[←d,←b];exact dl_le _);rw[ba_all,d]at g;have E:=ba_all s;have F:(((s[0].toNat:Nat):Int)==45)=false:=(by simpa using u);have G:(((s[0].toNat:Nat):Int)==48)=false:=(by simpa using x);have C:IntKind.i64.wrap ((r:Int))=(r:Int):=(by rw[IntKind.wrap_i64];omega);clear f b j d;go_enter Tryz.func62,Tryz.ntmps62;go_wp2_with (go_at_call 96;refine g.mono ?_;rintro e w' ⟨rfl,m⟩;subst m);go_ret;exact⟨by go_num,rfl⟩
theorem zck (w:World) (s:ByteArray) (k:s.size≤9223372036854775806) (f:0<s.size):
 Calls Tryz.prog 101 #[.string s] w fun e w'=>∃(b:Bool) (t:ByteArray),e=.returned (.tuple #[.bool b,.string t])∧t.data.toList=_root_.Rad.digs s.data.toList∧(b=true↔s.data.toList.head? =some 45)∧t.size≤s.size∧∃n,w'=w.drewN n:=by
 have j:=ba_full f;have d:=ze3 f;by_cases c:s[0]=45
 ·have g:(s[0].toNat:Int)=45:=(by rw[c];rfl);go_enter Tryz.func101,Tryz.ntmps101;go_wp2;go_quiet (fail);go_wp2;go_ret2;refine⟨true,s.extract 1 s.size,rfl,?_,?_,by simp,_,rfl⟩
  ·rw[ze4,d,c,_root_.Rad.digs_neg];rfl
  ·rw[d,c];simp
 ·have g:¬(s[0].toNat:Int)=45:=u8_ne (n:=45) dd c;go_enter Tryz.func101,Tryz.ntmps101;go_wp2;go_ret2;refine⟨false,s,rfl,?_,?_,Nat.le_refl _,0,rfl⟩
  ·rw[d,_root_.Rad.digs_pos c]
  ·rw[d];simp[c]
theorem ends_iff {l:List UInt8}: _root_.Rad.digs l≠[]↔l≠[]∧l≠[45]:=by
 cases l with
 |nil=>simp[_root_.Rad.digs]
 |cons b t=>
  by_cases c:b=45
  ·subst c;rw[_root_.Rad.digs_neg];simp
  ·rw[_root_.Rad.digs_pos c];simp[c]
theorem zc4 (w:World) (s:ByteArray) (r:Bool) (b:r=true↔_root_.Rad.digs s.data.toList≠[]):
 Calls Tryz.prog 63 #[.string s] w fun e w'=>e=.returned (.bool r)∧w'=w:=by
 have c:(!s.toList.isEmpty&&!s.toList==[45])=r:=(by rw[ends_iff,←ByteArray.toList_eq]at b;apply Bool.eq_iff_iff.2;rw[b];simp);by_cases f:s.toList=[]
 ·rw[f]at c;have d:r=false:=(by rw[←c];rfl);subst d;clear c b;go_enter Tryz.func63,Tryz.ntmps63;go_wp2;go_ret;exact⟨rfl,rfl⟩
 ·clear b;go_enter Tryz.func63,Tryz.ntmps63;go_wp2;go_ret;exact⟨rfl,rfl⟩
theorem zfu (w:World) (s:ByteArray) (l:s.size≤9223372036854775806) (k:0<s.size) (r:Bool) (f:r=decide (1000<(_root_.Rad.digs s.data.toList).length)):
 Calls Tryz.prog 64 #[.string s] w fun e w'=>e=.returned (.bool r)∧∃n,w'=w.drewN n:=by
 have d:=zck w s l k;go_enter Tryz.func64,Tryz.ntmps64;go_wp2_with (go_at_call 101;fail);refine d.mono ?_;rintro e w' ⟨b,t,rfl,g,-,m,n,o⟩;have c:r=decide (1000<t.size):=(by rw[f,←g,zas]);clear d f g;subst o;rcases Nat.lt_or_ge 1000 t.size with h|h
 ·have j:(1000:Int)<(t.size:Int):=om;obtain rfl:r=true:=(by rw[c];simpa using h);clear c;go_wp2;go_ret;exact⟨rfl,n,rfl⟩
 ·have j:¬(1000:Int)<(t.size:Int):=om;obtain rfl:r=false:=(by rw[c];simpa using h);clear c;go_wp2;go_ret;refine⟨?_,n,rfl⟩;show Ending.returned (.bool (decide ((1000:Int)<(t.size:Int))))=_;rw[decide_eq_false (show ¬(1000:Int)<(t.size:Int)by omega)]
theorem ze5 (w:World) (e:TypeId) (s:ByteArray):Below w.heap.size w (Lib.bytesWorld w e s):=⟨rfl,rfl,rfl,by rw[Lib.bytesWorld_size];omega,fun k b=>Lib.bytesWorld_at_old w e s k om⟩
theorem parseUint_any (w:World) (s:ByteArray) (d:Nat) (c:s.data.toList≠[]) (h:∀b∈s.data.toList,_root_.Rad.IsDg b) (g:s.size≤19) (f:d=_root_.Rad.dval s.data.toList):
 Calls Tryz.prog 103 #[.string s,.int .i64 10,.int .i64 64] w fun e w'=>e=.returned (.tuple #[.int .u64 (d:Nat),.nilIface])∧Below w.heap.size w w':=by
 refine(Tryz.strconv_ParseUint_10_at64_ok s om d (by rw[f];exact _root_.Rad.pu_ok c h (by rw[zas];exact g)) w).mono ?_;rintro e w' ⟨rfl,j⟩;refine⟨rfl,?_⟩;rcases j with rfl|rfl
 ·exact zz
 ·exact ze5 _ _ _
theorem atoi_any (w:World) (s:ByteArray) (z:Int) (h:_root_.Rad.Valid s.data.toList) (b:(_root_.Rad.digs s.data.toList).length≤18) (f:s.size≤1001) (d:z=_root_.Rad.val s.data.toList):
 Calls Tryz.prog 102 #[.string s] w fun e w'=>e=.returned (.tuple #[.int .i64 z,.nilIface])∧Below w.heap.size w w':=by
 refine(Tryz.strconv_Atoi_ok s om z (by rw[d];exact _root_.Rad.atoi_ok h b) w).mono ?_;rintro e w' ⟨rfl,c⟩;refine⟨rfl,?_⟩;rcases c with rfl|⟨t,rfl⟩
 ·exact zz
 ·exact ze5 _ _ _
theorem za8 (B:Nat) (w:World) (n:Nat):Below B w (w.drewN n):=⟨rfl,rfl,rfl,Nat.le_refl _,fun _ _=>rfl⟩
structure Res (w w1:World) (b:Nat):Prop where
 below:Below w.heap.size w w1
 ge:w.heap.size≤b
 lt:b<w1.heap.size
 c0:w1.cell? ⟨b,0,none⟩=some (.int .i64 0)
 c1:w1.cell? ⟨b,1,none⟩=some (.slice none 0 0)
 f0:w1.frozen? ⟨b,0,none⟩=false
 f1:w1.frozen? ⟨b,1,none⟩=false
theorem Res.mk0 (w:World):Res w (w.alloc (Obj.cells #[Value.int IntKind.i64 0,Value.slice none 0 0] 24)) w.heap.size:=⟨zau _ _,Nat.le_refl _,by simp,qq,qq,qq,qq⟩
theorem Res.step {w f g:World} {b B:Nat} (h:Res w f b) (c:Below B f g) (d:b<B):Res w g b:=by
 have j:=h.ge;refine⟨h.below.trans (c.mono om),h.ge,Nat.lt_of_lt_of_le h.lt c.size,?_,?_,?_,?_⟩
 ·exact(World.cell?_of_block (c.block b d)).trans h.c0
 ·exact(World.cell?_of_block (c.block b d)).trans h.c1
 ·exact(World.frozen?_of_block (c.block b d)).trans h.f0
 ·exact(World.frozen?_of_block (c.block b d)).trans h.f1
theorem Res.done {w d:World} {b:Nat} (h:Res w d b) {s:Int} {a:Option Addr} {n c:Nat} {z:Int} (f:IsInt d (.agg #[.int .i64 s,.slice a n c]) z):
 Below w.heap.size w ((d.setCell ⟨b,0,none⟩ (.int .i64 s)).setCell ⟨b,1,none⟩ (.slice a n c))∧IsInt ((d.setCell ⟨b,0,none⟩ (.int .i64 s)).setCell ⟨b,1,none⟩ (.slice a n c)) (.agg #[.int .i64 s,.slice a n c]) z:=
 ⟨(h.below.setCell (p:=⟨b,0,none⟩) h.ge _).setCell (p:=⟨b,1,none⟩) h.ge _,f.stored h.c0 h.c1 (by intro q;simp)⟩
theorem value_short (w:World) (s:ByteArray) (I:_root_.Rad.Valid s.data.toList) (J:s.size≤1001) (u:(_root_.Rad.digs s.data.toList).length≤18) (z:Int) (D:z=_root_.Rad.val s.data.toList) (x: -9223372036854775808≤z∧z≤9223372036854775807) (H:0<s.size):
 Calls Tryz.prog 65 #[.string s] w fun e w'=>∃v,e=.returned v∧Below w.heap.size w w'∧IsInt w' v z:=by
 have R:=Res.mk0 w;go_enter Tryz.func65,Tryz.ntmps65;go_wp2_with (go_at_call 101;fail);have o:=zck (w.alloc (Obj.cells #[Value.int IntKind.i64 0,Value.slice none 0 0] 24)) s om H;refine o.mono ?_;rintro e E ⟨b,t,rfl,y,-,L,n,C⟩;have R2:Res w E w.heap.size:=R.step (B:=w.heap.size+1) (by subst C;exact za8 _ _ _) om;have A:t.size≤18:=(by rw[←zas,y];exact u);clear C R o;have P:(t.size:Int)≤18:=om;have l:=atoi_any E s z I u J D;clear y D;go_wp2_with (go_at_call 102;fail);refine l.mono ?_;rintro e O ⟨rfl,c⟩;have j:=R2.step c R2.lt;clear R2 l;have m:=zfm O z x.1 x.2;go_wp2_with (go_at_call 16;fail);refine m.mono ?_;rintro e w4 ⟨v,rfl,d,k⟩;have r:=j.step d j.lt;clear j m d c;obtain⟨N,F,M,G,rfl⟩:=k.form;obtain⟨p,q⟩:=r.done k;have f:Hid _:=p;have g:Hid _:=q;obtain⟨-,-,lt,U,V,S,T⟩:=r;clear p q k;go_wp2;refine bodyPost_ret (v:= .agg #[.int .i64 N,.slice F M G]) rt rfl ?_;exact⟨_,rfl,f.out,g.out⟩
end Go.Proofs.YtjlkplidpdhgbaaGreatDoor
