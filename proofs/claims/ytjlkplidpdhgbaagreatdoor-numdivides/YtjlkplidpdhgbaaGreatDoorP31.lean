/- A part of the proof: G16, G11, H10, Pm6, D2, D3, D4, Pm7, D5, Pm13, Draw4, S7a. -/
import Derived.Test.YtjlkplidpdhgbaaGreatDoorP00
import Derived.Test.YtjlkplidpdhgbaaGreatDoorP30
import Derived.Deep.LoopGhost
import Derived.Test.YtjlkplidpdhgbaaGreatDoorP24
import Derived.Test.YtjlkplidpdhgbaaGreatDoorP23
import Derived.Test.YtjlkplidpdhgbaaGreatDoorP26
import Derived.Test.YtjlkplidpdhgbaaGreatDoorP09
import Derived.Test.YtjlkplidpdhgbaaGreatDoorP08
import Derived.Test.YtjlkplidpdhgbaaGreatDoorP05
import Derived.Test.YtjlkplidpdhgbaaGreatDoorP04
import Derived.Deep.Cut
import Derived.Deep.CutRange
import Derived.Test.YtjlkplidpdhgbaaGreatDoorP21
import Derived.Test.YtjlkplidpdhgbaaGreatDoorP14
import Derived.Test.YtjlkplidpdhgbaaGreatDoorP27
import Derived.Test.YtjlkplidpdhgbaaGreatDoorP19
import Derived.Test.YtjlkplidpdhgbaaGreatDoorP15
import Derived.Test.YtjlkplidpdhgbaaGreatDoorP25
import Derived.Test.YtjlkplidpdhgbaaGreatDoorP22
import Derived.Test.YtjlkplidpdhgbaaGreatDoorP29
set_option linter.all false
set_option maxRecDepth 10000
set_option maxHeartbeats 4000000
namespace Go.Proofs.YtjlkplidpdhgbaaGreatDoor
open Go Go.Proofs Go.RowKit Go.Rad
theorem gcd_round {a b:Int} (c:b≠0):Int.gcd b (a%b)=Int.gcd a b:=by
 rw[Int.gcd_comm a b];have h:=Int.mul_ediv_add_emod a b
 conv=>rhs;rw[←h]
 rw[Int.gcd_mul_left_add_right]
theorem gcd_end (a:Int):Int.gcd a 0=a.natAbs:=Int.gcd_zero_right a
theorem emod_lt {a b:Int} (c:b≠0):(a%b).natAbs<b.natAbs:=by have d:=Int.emod_nonneg a c;have f:=Int.emod_lt_of_neg a (b:=b);have g:=Int.emod_lt_of_pos a (b:=b);omega
theorem ZW.n {w:World} {s:Bool} {a:Option Addr} {n c:Nat} {z:Int} (h:IsZ w (.agg #[.bool s,.slice a n c]) z):n=0↔z=0:=by have:=h.dg.2.zero_iff;omega
theorem zGcd_any (w:World) (va vb:Value) (a b:Int) (u:Nat) (hx:IsZ w va a) (hy:IsZ w vb b) (hA:a.natAbs<10000^u) (hB:b.natAbs<10000^u) (hL:u≤100000):
 Calls Tryz.prog 36 #[va,vb] w fun e w'=>∃v,e=.returned v∧Below w.heap.size w w'∧IsZ w' v ((Int.gcd a b:Nat):Int):=by
 obtain⟨sa,aa,na,ca,rfl⟩:=hx.form;obtain⟨sb,ab,nb,cb,rfl⟩:=hy.form;have HX:Hid (IsZ w (.agg #[.bool sa,.slice aa na ca]) a∧IsZ w (.agg #[.bool sb,.slice ab nb cb]) b):=⟨hx,hy⟩;have HA:Hid (a.natAbs<10000^u∧b.natAbs<10000^u):=⟨hA,hB⟩;clear hx hy hA hB;go_enter Tryz.func36,Tryz.ntmps36;go_upto_region 1 with fail;refine zac (fun G=>Below w.heap.size w G∧FB G w.heap.size (.bool sa) (.slice aa na ca)∧FB G (w.heap.size+1) (.bool sb) (.slice ab nb cb)∧FB G (w.heap.size+1+1) (.bool false) (.slice none 0 0)) (fb3 w _ _ _ _ _ _ _ _ _ rfl) ?_;rintro G ⟨j,t,y,p⟩;obtain⟨I,fa⟩:∃b,b=w.heap.size+1+1:=⟨_,rfl⟩;obtain⟨m,o⟩:∃b,b=w.heap.size+1:=⟨_,rfl⟩;obtain⟨l,d⟩:∃b,b=w.heap.size:=⟨_,rfl⟩;rw[←fa]at p⊢;rw[←o]at y⊢;rw[←d]at t⊢;have HO:Hid (w.heap.size≤l∧l<m∧m<I):=(by show _∧_∧_;omega);clear d o fa;have ba:Hid (Below w.heap.size w G∧FB G I (.bool false) (.slice none 0 0)∧ZW G l a∧ZW G m b):=⟨j,p,⟨_,_,_,_,t,HX.out.1.below j⟩,⟨_,_,_,_,y,HX.out.2.below j⟩⟩;clear j t y p HX;obtain⟨X0,ea⟩:∃X0,b.natAbs=X0:=⟨_,rfl⟩;have da:Hid (b.natAbs=X0):=ea;clear ea;go_loopg [] X0 (fun g wr=>∃f c:Int,Hid (Int.gcd f c=Int.gcd a b∧c.natAbs=g∧f.natAbs<10000^u∧c.natAbs<10000^u)∧Hid (Below w.heap.size w wr∧FB wr I (.bool false) (.slice none 0 0)∧ZW wr l f∧ZW wr m c))
 case atStart=>exact⟨a,b,⟨rfl,da.out,HA.out.1,HA.out.2⟩,ba⟩
 case round=>
  clear ba da;obtain⟨f,c,W,HR⟩:=hrel;obtain⟨j,p,⟨s2,a2,n2,c2,t,I2⟩,⟨F,B,s,C,y,Y⟩⟩:=HR.out;have E:=ZW.n Y;have q:Hid (Below w.heap.size w wr∧FB wr I (.bool false) (.slice none 0 0)∧FB wr l (.bool s2) (.slice a2 n2 c2)∧FB wr m (.bool F) (.slice B s C)):=⟨j,p,t,y⟩;have X:Hid (IsZ wr (.agg #[.bool s2,.slice a2 n2 c2]) f∧IsZ wr (.agg #[.bool F,.slice B s C]) c):=⟨I2,Y⟩;obtain⟨l2,S,T,-,-⟩:=t;obtain⟨l3,U,V,-,-⟩:=y;clear HR j p I2 Y;by_cases h0:s=0
  ·have D:c=0:=E.1 h0;subst D;clear E;subst h0;go_wp2_with (go_at_call 73;fail);have CZ:=zmade_z wr false s2 a2 n2 c2 f X.out.1;have L:sgn false f.natAbs=((Int.gcd a b:Nat):Int):=(by rw[zbd,←W.out.1,gcd_end]);rw[L]at CZ;clear L;refine CZ.mono ?_;rintro e O ⟨v2,rfl,d,R⟩;obtain⟨s7,a7,n7,c7,rfl⟩:=R.form;have p:=q.out.2.1.below d;have HW:Hid (Below w.heap.size w _):=zaf (q.out.1.trans (d.mono q.out.1.size)) (show w.heap.size≤I by have:=HO.out;omega) (.bool s7) (.slice a7 n7 c7);have HE:Hid (IsZ _ _ _):=R.storedF (x:=false) (u1:= .bool s7) (u2:= .slice a7 n7 c7) p;clear CZ d R q X W HA;obtain⟨l4,ra,ta,ua,wa⟩:=p;go_wp2;refine bodyPost_ret (v:= .agg #[.bool s7,.slice a7 n7 c7]) rs rfl ?_;exact⟨_,rfl,HW.out,HE.out⟩
  ·have D:c≠0:=fun h=>h0 (E.2 h);have z:Hid (c≠0):=D;have qa:(0:Int)<(s:Int):=om;clear E D;go_wp2_with (go_at_call 35;fail);refine(zDiv_any wr _ _ f c u X.out.1 X.out.2 z.out W.out.2.2.1 W.out.2.2.2 hL).mono ?_;rintro e O ⟨vq,vr,rfl,d,hq,hr⟩;obtain⟨s5,a5,n5,c5,rfl⟩:=hq.form;obtain⟨N,H,M,J,rfl⟩:=hr.form;clear hq;have r:Hid (IsZ O (.agg #[.bool N,.slice H M J]) (f%c)∧Below wr.heap.size wr O):=⟨hr,d⟩;clear hr d;go_upto_region 3 with fail;refine zac (fun wx=>Below O.heap.size O wx∧FB wx (O.heap.size+1) (.bool N) (.slice H M J)) ?_ ?_
   ·obtain⟨h1,h2,h3,h4⟩:=fb3 O (.bool s5) (.slice a5 n5 c5) (.bool N) (.slice H M J) (.int .i64 0) (.int .i64 0) 31 31 26 rfl;exact⟨h1,h3⟩
   rintro w3 ⟨o,F6⟩;obtain⟨b6,ga⟩:∃b,b=O.heap.size+1:=⟨_,rfl⟩;rw[←ga]at F6⊢;have n:Below wr.heap.size wr w3:=r.out.2.trans (o.mono r.out.2.size);have t:=q.out.2.2.1.below n;have y:=q.out.2.2.2.below n;have p:=q.out.2.1.below n;have Y:=X.out.2.below n;have I6:=r.out.1.below o;have ha:l≠m∧l≠b6∧m≠b6∧I≠l∧I≠m∧w.heap.size≤l∧w.heap.size≤m:=(by have h1:=HO.out;have h2:=q.out.2.2.2.lt;have h3:=r.out.2.size;omega);obtain⟨m1,m2,m3,m4,m5,m6,m7⟩:=ha;have BW:=q.out.1.trans (n.mono q.out.1.size);have Z:=t.set (.bool F) (.slice B s C);have P:=y.other (.bool F) (.slice B s C) (Ne.symm m1);have E1:=t.ext (.bool _) (.slice _ _ _) (.bool F) (.slice B s C);have E2:=P.ext (.bool _) (.slice _ _ _) (.bool N) (.slice H M J);have k:Hid (Below w.heap.size w (za9 (za9 w3 l (.bool F) (.slice B s C)) m (.bool N) (.slice H M J))∧FB (za9 (za9 w3 l (.bool F) (.slice B s C)) m (.bool N) (.slice H M J)) I (.bool false) (.slice none 0 0)∧
    ZW (za9 (za9 w3 l (.bool F) (.slice B s C)) m (.bool N) (.slice H M J)) l c∧ZW (za9 (za9 w3 l (.bool F) (.slice B s C)) m (.bool N) (.slice H M J)) m (f%c)):=
    ⟨zaf (zaf BW m6 _ _) m7 _ _,(p.other _ _ m4).other _ _ m5,⟨_,_,_,_,Z.other _ _ m1,E2.z _ _ (E1.z _ _ Y)⟩,⟨_,_,_,_,P.set _ _,E2.z _ _ (E1.z _ _ I6)⟩⟩
   have A:Hid (Int.gcd c (f%c)=Int.gcd a b∧(f%c).natAbs<gk∧c.natAbs<10000^u∧(f%c).natAbs<10000^u):=(by obtain⟨h1,h2,h3,h4⟩:=W.out;have h5:=emod_lt (a:=f) z.out;exact⟨(gcd_round z.out).trans h1,by omega,h4,Nat.lt_trans h5 h4⟩);clear o ga n r q X W z Y I6 p BW Z P E1 E2 l2 S T l3 U V;obtain⟨l2,S,T,la,ma⟩:=t;obtain⟨l3,U,V,oa,pa⟩:=y;obtain⟨l6,ia,ja,-,-⟩:=F6;have m8:=m1.symm;have m9:=m2.symm;have ka:=m3.symm;go_region
   all_goals
    clear l2 S T la ma l3 U V oa pa l6 ia ja m1 m2 m3 m4 m5 m6 m7 m8 m9 ka;go_wp2;go_roundg (f%c).natAbs
    case measure=>exact A.out.2.1
    case rel=>exact⟨c,f%c,⟨A.out.1,rfl,A.out.2.2.1,A.out.2.2.2⟩,⟨k.out.1.drew,k.out.2.1.drew,k.out.2.2.1.below (zad _),k.out.2.2.2.below (zad _)⟩⟩
theorem div_zero (w:World) (N O:Value) (x:Int) (M:IsInt w N x) (C:IsInt w O 0):
 Calls Tryz.prog 34 #[N,O] w fun e w'=>e=.returned (.tuple #[.agg #[.int .i64 0,.slice none 0 0],.agg #[.int .i64 0,.slice none 0 0],.agg #[.int .i64 4,.int .i64 0]])∧Below w.heap.size w w':=by
 obtain⟨s,T,n,c,rfl⟩:=M.form;obtain⟨t,d,m,f,rfl⟩:=C.form;have B:t=0:=(by have:=C.sgn;omega);subst B;go_enter Tryz.func34,Tryz.ntmps34;go_upto_region 1 with fail;refine zac (fun g=>Below w.heap.size w g∧FB g w.heap.size (.int .i64 s) (.slice T n c)∧FB g (w.heap.size+1) (.int .i64 0) (.slice d m f)∧FB g (w.heap.size+1+1) (.int .i64 0) (.slice none 0 0)∧FB g (w.heap.size+1+1+1) (.int .i64 0) (.slice none 0 0)∧FB g (w.heap.size+1+1+1+1) (.int .i64 0) (.int .i64 0)) (fb5 w _ _ _ _ _ _ _ _ _ _ _ _ _ _ _ rfl) ?_;rintro g ⟨k,G,H,I,J,L⟩;obtain⟨b2,l⟩:∃b,b=w.heap.size:=⟨_,rfl⟩;obtain⟨b3,o⟩:∃b,b=w.heap.size+1:=⟨_,rfl⟩;obtain⟨u,p⟩:∃b,b=w.heap.size+1+1:=⟨_,rfl⟩;obtain⟨y,q⟩:∃b,b=w.heap.size+1+1+1:=⟨_,rfl⟩;obtain⟨z,r⟩:∃b,b=w.heap.size+1+1+1+1:=⟨_,rfl⟩;have A:u≠y∧u≠z∧y≠z∧w.heap.size≤u∧w.heap.size≤y∧w.heap.size≤z:=om;rw[←r]at L⊢;rw[←q]at J⊢;rw[←p]at I⊢;rw[←o]at H⊢;rw[←l]at G⊢;obtain⟨l2,U,V,-,-⟩:=G;obtain⟨l3,W,X,-,-⟩:=H;obtain⟨D,E,F,w4,P,R⟩:=A;have j:=zaf (zaf (zaf k w4 (.int .i64 0) (.slice none 0 0)) P (.int .i64 0) (.slice none 0 0)) R (.int .i64 4) (.int .i64 0);have S:Hid (Below _ _ _):=j;obtain⟨l4,Y,Z,ha,ia⟩:=I;obtain⟨l5,aa,ba,ja,ka⟩:=J;obtain⟨l6,ca,da,la,ma⟩:=L;have ea:=D.symm;have fa:=E.symm;have ga:=F.symm;clear l o p q r k M C w4 P R j;go_wp2;refine bodyPost_ret (v:= .tuple #[.agg #[.int .i64 0,.slice none 0 0],.agg #[.int .i64 0,.slice none 0 0],.agg #[.int .i64 4,.int .i64 0]]) rs rfl ?_;exact⟨rfl,S.out⟩
theorem zDiv_zero (w:World) (U V:Value) (a:Int) (T:IsZ w U a) (M:IsZ w V 0):
 Calls Tryz.prog 35 #[U,V] w fun e w'=>e=.returned (.tuple #[.agg #[.bool false,.slice none 0 0],.agg #[.bool false,.slice none 0 0],.agg #[.int .i64 4,.int .i64 0]])∧Below w.heap.size w w':=by
 obtain⟨p,m,o,n,rfl⟩:=T.form;obtain⟨C,s,n2,t,rfl⟩:=M.form;obtain rfl:n2=0:=M.dg.2.zero_iff.1 rfl;clear T M;go_enter Tryz.func35,Tryz.ntmps35;go_upto_region 1 with fail;refine zac (fun c=>Below w.heap.size w c∧FB c w.heap.size (.bool p) (.slice m o n)∧FB c (w.heap.size+1) (.bool C) (.slice s 0 t)∧FB c (w.heap.size+1+1) (.bool false) (.slice none 0 0)∧FB c (w.heap.size+1+1+1) (.bool false) (.slice none 0 0)∧FB c (w.heap.size+1+1+1+1) (.int .i64 0) (.int .i64 0)) ⟨(((((zau w _).alloc (by simp;try omega) _).alloc (by simp;try omega) _).alloc (by simp;try omega) _).alloc (by simp;try omega) _),(((((FB.mk0 w _ _ _).alloc _).alloc _).alloc _).alloc _),by simpa using ((((FB.mk0 ((w).alloc (Obj.cells #[.bool p,.slice m o n] 31)) _ _ _).alloc _).alloc _).alloc _),by simpa using (((FB.mk0 ((((w).alloc (Obj.cells #[.bool p,.slice m o n] 31))).alloc (Obj.cells #[.bool C,.slice s 0 t] 31)) _ _ _).alloc _).alloc _),by simpa using ((FB.mk0 ((((((w).alloc (Obj.cells #[.bool p,.slice m o n] 31))).alloc (Obj.cells #[.bool C,.slice s 0 t] 31))).alloc (Obj.cells #[.bool false,.slice none 0 0] 31)) _ _ _).alloc _),by simpa using (FB.mk0 ((((((((w).alloc (Obj.cells #[.bool p,.slice m o n] 31))).alloc (Obj.cells #[.bool C,.slice s 0 t] 31))).alloc (Obj.cells #[.bool false,.slice none 0 0] 31))).alloc (Obj.cells #[.bool false,.slice none 0 0] 31)) _ _ _)⟩ ?_;rintro c ⟨u,j,k,d,f,g⟩;obtain⟨q,B⟩:∃b,b=w.heap.size+1+1+1+1:=⟨_,rfl⟩;obtain⟨y1,A⟩:∃b,b=w.heap.size+1+1+1:=⟨_,rfl⟩;obtain⟨y0,z⟩:∃b,b=w.heap.size+1+1:=⟨_,rfl⟩;obtain⟨R,y⟩:∃b,b=w.heap.size+1:=⟨_,rfl⟩;obtain⟨x0,x⟩:∃b,b=w.heap.size:=⟨_,rfl⟩;rw[←B]at g⊢;rw[←A]at f⊢;rw[←z]at d⊢;rw[←y]at k⊢;rw[←x]at j⊢;have l:Hid (w.heap.size≤x0∧x0<R∧R<y0∧y0<y1∧y1<q):=(by show _∧_∧_∧_∧_;omega);have D:Hid _:=u;have H:Hid (FB c x0 (.bool p) (.slice m o n)):=j;have r:Hid (FB c R (.bool C) (.slice s 0 t)):=k;have E:Hid (TZ false undef c y0):=⟨false,none,0,0,d,fun h=>(by cases h)⟩;have F:Hid (TZ false undef c y1):=⟨false,none,0,0,f,fun h=>(by cases h)⟩;have G:Hid (TFa false undef c q):=⟨0,0,g,fun h=>(by cases h),fun _=>⟨rfl,rfl⟩⟩;have I:Hid (FB c y0 (.bool false) (.slice none 0 0)):=d;have J:Hid (FB c y1 (.bool false) (.slice none 0 0)):=f;have L:Hid (FB c q (.int .i64 0) (.int .i64 0)):=g;clear u x y z A B j k d f g;obtain⟨l2,X,Y,-,-⟩:=r.out;have S:Below w.heap.size w (za9 (za9 (za9 c y0 (.bool false) (.slice none 0 0)) y1 (.bool false) (.slice none 0 0)) q (.int .i64 4) (.int .i64 0)):=zaf (zaf (zaf D.out (by have:=l.out;omega) _ _) (by have:=l.out;omega) _ _) (by have:=l.out;omega) _ _;have W:Hid _:=S;obtain⟨l4,Z,aa,ia,ja⟩:=I.out;obtain⟨l5,ba,ca,ka,la⟩:=J.out;obtain⟨l6,da,ea,ma,na⟩:=L.out;have N:y0≠y1:=(by have:=l.out;omega);have O:y0≠q:=(by have:=l.out;omega);have P:y1≠q:=(by have:=l.out;omega);have fa:=N.symm;have ga:=O.symm;have ha:=P.symm;clear S E F G H r;go_wp2;refine bodyPost_ret (v:= .tuple #[.agg #[.bool false,.slice none 0 0],.agg #[.bool false,.slice none 0 0],.agg #[.int .i64 4,.int .i64 0]]) rs rfl ?_;exact⟨rfl,W.out⟩
end Go.Proofs.YtjlkplidpdhgbaaGreatDoor
namespace Rad
end Rad
namespace Go.Proofs.YtjlkplidpdhgbaaGreatDoor
open Go Go.Proofs Go.RowKit Go.Rad
end Go.Proofs.YtjlkplidpdhgbaaGreatDoor
namespace Rad
end Rad
namespace Go.Proofs.YtjlkplidpdhgbaaGreatDoor
open Go Go.Proofs Go.RowKit Go.Rad
def ZV (w:World) (b:Nat) (z:Int):Prop:=∃s a n c,FB w b (.bool s) (.slice a n c)∧IsZ w (.agg #[.bool s,.slice a n c]) z
theorem ZV.below {w w':World} {b:Nat} {z:Int} (h:ZV w b z) (d:Below w.heap.size w w'):ZV w' b z:=by obtain⟨s,a,n,c,f,g⟩:=h;exact⟨s,a,n,c,f.below d,g.below d⟩
theorem ZV.set {w:World} {b:Nat} {z:Int} {x s:Bool} {a d:Option Addr} {n c j f:Nat} (h:FB w b (.bool x) (.slice d j f)) (g:IsZ w (.agg #[.bool s,.slice a n c]) z):
 ZV ((w.setCell ⟨b,0,none⟩ (.bool s)).setCell ⟨b,1,none⟩ (.slice a n c)) b z:=⟨s,a,n,c,h.set _ _,g.stored h.c0 h.c1 (by intro q;simp) (by intro q;simp)⟩
theorem ZV.other {w:World} {b p:Nat} {z:Int} {x:Bool} {f:Option Addr} {m g:Nat} (h:ZV w b z) (d:FB w p (.bool x) (.slice f m g)) (l:b≠p) (o r:Value):
 ZV ((w.setCell ⟨p,0,none⟩ o).setCell ⟨p,1,none⟩ r) b z:=by
 obtain⟨s,a,n,c,j,k⟩:=h;exact⟨s,a,n,c,j.other _ _ l,k.stored d.c0 d.c1 (by intro q;simp) (by intro q;simp)⟩
theorem zAbs_any (w:World) (v:Value) (z:Int) (A:IsZ w v z):
 Calls Tryz.prog 33 #[v] w fun e w'=>∃v,e=.returned v∧Below w.heap.size w w'∧IsZ w' v (z.natAbs:Int):=by
 obtain⟨s,a,n,c,rfl⟩:=A.form;have O:Hid (IsZ w (.agg #[.bool s,.slice a n c]) z):=A;clear A;go_enter Tryz.func33,Tryz.ntmps33;go_upto_region 1 with fail;refine zac (fun r=>Below w.heap.size w r∧FB r w.heap.size (.bool s) (.slice a n c)∧FB r (w.heap.size+1) (.bool false) (.slice none 0 0)) (fb2 w _ _ _ _ _ _ rfl) ?_;rintro r ⟨l,L,j⟩;obtain⟨T,B,C,-,-⟩:=L;have u:Hid _:=j;have d:Hid _:=l;clear j l;go_wp2_with (go_at_call 73;fail);obtain⟨Y,k,I,W,b,o,X,rfl,H,G,p,F,J,P⟩:=IsZ.below O.out d.out;simp only[Value.agg.injEq,Array.mk.injEq,List.cons.injEq,Value.bool.injEq,Value.slice.injEq,and_true]at I;obtain⟨-,rfl,rfl,rfl⟩:=I;have t:=zfy r false a b o n c z.natAbs H G p F J;rw[zbd]at t;clear H G p F J P T B C;refine t.mono ?_;rintro e w2 ⟨v2,rfl,f,g⟩;clear t;obtain⟨E,x,D,y,rfl⟩:=g.form;have j:=u.out.below f;have m:=d.out.trans (f.mono d.out.size);have N:Hid (Below w.heap.size w _):=zaf m (show w.heap.size≤w.heap.size+1 by omega) (.bool E) (.slice x D y);have M:Hid (IsZ _ _ _):=g.stored (u1:= .bool E) (u2:= .slice x D y) j.c0 j.c1 (by intro q;simp) (by intro q;simp);clear f g m;obtain⟨Z,R,S,U,V⟩:=j;go_wp2;refine bodyPost_ret (v:= .agg #[.bool E,.slice x D y]) rs rfl ?_;exact⟨_,rfl,N.out,M.out⟩
end Go.Proofs.YtjlkplidpdhgbaaGreatDoor
namespace Rad
end Rad
namespace Go.Rad
open Go Go.RowKit
end Go.Rad
namespace Go.Proofs.YtjlkplidpdhgbaaGreatDoor
open Go Go.Proofs Go.RowKit Go.Rad
def dvc (y:Int):Int:=if y=0 then 4 else 0
def rst (x y:Int):Int:=if y=0 then 0 else x%y
theorem zTop {w:World} {s:Bool} {a:Option Addr} {n c:Nat} {z:Int} (h:IsZ w (.agg #[.bool s,.slice a n c]) z):0<n→∀x,a=some x→x.block<w.heap.size:=by intro k x m;obtain⟨p,q,t,r,b,f,l,j,d,o,-⟩:=h.dg.2;simp only[Value.slice.injEq]at b;obtain⟨rfl,-,rfl⟩:=b;have g:=f k;rw[m]at g;obtain rfl:=oi g;exact d.lt k
def LiesZ (lo hi:Nat) (a:Option Addr) (n:Nat):Prop:=0<n→∀z,a=some z→lo≤z.block∧z.block<hi
theorem LiesZ.mk {w:World} {s:Bool} {a:Option Addr} {n c:Nat} {x:Int} {lo hi:Nat} (h:IsZ w (.agg #[.bool s,.slice a n c]) x) (g:ZNew lo (.agg #[.bool s,.slice a n c])) (f:w.heap.size≤hi):LiesZ lo hi a n:=fun d z b=>⟨g.at z b,Nat.lt_of_lt_of_le (zTop h d z b) f⟩
theorem zAway1 {w:World} {s:Bool} {a:Option Addr} {n c:Nat} {z:Int} (h:IsZ w (.agg #[.bool s,.slice a n c]) z) {p i:Nat} (u:0<n→∀x,a=some x→x.block≠p) (v:Value):IsZ (w.setCell ⟨p,i,none⟩ v) (.agg #[.bool s,.slice a n c]) z:=by
 by_cases t:0<n
 ·exact h.away (u t) v
 ·obtain⟨B,m,g,j,b,o,l,rfl,y,q,d,C,A,E⟩:=h;have f:=g;simp only[Value.agg.injEq,Array.mk.injEq,List.cons.injEq,Value.slice.injEq,and_true]at f;have r:m=0:=om;subst r;exact⟨_,0,g,j,b,o,l,rfl,y,q,d,fun k D=>by omega,A,.inl rfl⟩
theorem zAway {w:World} {s:Bool} {a:Option Addr} {n c:Nat} {z:Int} (h:IsZ w (.agg #[.bool s,.slice a n c]) z) {p:Nat} (b:0<n→∀x,a=some x→x.block≠p) (u v:Value):IsZ (za9 w p u v) (.agg #[.bool s,.slice a n c]) z:=zAway1 (zAway1 h b u) b v
theorem zOver {w:World} {s:Bool} {a:Option Addr} {n c:Nat} {z:Int} (h:IsZ w (.agg #[.bool s,.slice a n c]) z) {p:Nat} {u v u' v':Int} (f:FB w p (.int .i64 u) (.int .i64 v)) (b:z=0∨(u=u'∧v=v')):IsZ (za9 w p (.int .i64 u') (.int .i64 v')) (.agg #[.bool s,.slice a n c]) z:=by
 rcases b with b|⟨rfl,rfl⟩
 ·have d:=h.dg.2.zero_iff;exact zAway h (fun g=>absurd (d.1 om) om) _ _
 ·exact(f.extSame (.int _) (.int _)).z _ _ h
theorem div_all (w:World) (c d:Value) (x y:Int) (k:IsInt w c x) (l:IsInt w d y) (m:x.natAbs<B^159) (n:y.natAbs<B^53):
 Calls Tryz.prog 34 #[c,d] w fun e w'=>∃f g,e=.returned (.tuple #[f,g,.agg #[.int .i64 (dvc y),.int .i64 0]])∧Below w.heap.size w w'∧IsInt w' f (x / y)∧IsInt w' g (rst x y):=by
 by_cases b:y=0
 ·subst b;refine(div_zero w c d x k l).mono ?_;rintro e w' ⟨rfl,j⟩;exact⟨_,_,rfl,j,by rw[Int.ediv_zero];exact za4 _ 0 dd dd,za4 _ 0 dd dd⟩
 ·refine(div_any w c d x y 53 k l b m n dd).mono ?_;rintro e w' ⟨f,g,rfl,j,o,p⟩;exact⟨f,g,by rw[dvc,if_neg b],j,o,by rw[rst,if_neg b];exact p⟩
theorem zdiv_all (w:World) (c d:Value) (x y:Int) (k:IsZ w c x) (l:IsZ w d y) (m:x.natAbs<10000^250) (n:y.natAbs<10000^250):
 Calls Tryz.prog 35 #[c,d] w fun e w'=>∃f g,e=.returned (.tuple #[f,g,.agg #[.int .i64 (dvc y),.int .i64 0]])∧Below w.heap.size w w'∧IsZ w' f (x / y)∧IsZ w' g (rst x y):=by
 by_cases b:y=0
 ·subst b;refine(zDiv_zero w c d x k l).mono ?_;rintro e w' ⟨rfl,j⟩;exact⟨_,_,rfl,j,by rw[Int.ediv_zero];exact zcl _,zcl _⟩
 ·refine(zDiv_any w c d x y 250 k l b m n dd).mono ?_;rintro e w' ⟨f,g,rfl,j,o,p⟩;exact⟨f,g,by rw[dvc,if_neg b],j,o,by rw[rst,if_neg b];exact p⟩
theorem pval_fault (l:List UInt8):zex l=0∨(zci l=0∧pat l=0):=by
 unfold zex zci pat;by_cases b:_root_.Rad.Valid l
 ·by_cases c:1000<(_root_.Rad.digs l).length
  ·left;rw[if_neg (fun h=>by have:=h.2;omega)]
  ·right;rw[if_pos b,if_neg c,if_pos b];exact⟨rfl,rfl⟩
 ·left;rw[if_neg (fun h=>b h.1)]
structure DK (w wr:World) (pc pa qc qa uc ua x y:Int) (b5 b6 b7 b8 b9 b10 b11 b12:Nat) (sX:Int) (aX:Option Addr) (nX cX:Nat) (sY:Int) (aY:Option Addr) (nY cY:Nat) (sA:Bool) (aA:Option Addr) (nA cA:Nat) (sB:Bool) (aB:Option Addr) (nB cB:Nat):Prop where
 below:Below w.heap.size w wr
 f5:FB wr b5 (.int .i64 sX) (.slice aX nX cX)
 f6:FB wr b6 (.int .i64 pc) (.int .i64 pa)
 f7:FB wr b7 (.int .i64 sY) (.slice aY nY cY)
 f8:FB wr b8 (.int .i64 qc) (.int .i64 qa)
 f9:FB wr b9 (.bool sA) (.slice aA nA cA)
 f10:FB wr b10 (.int .i64 uc) (.int .i64 ua)
 f11:FB wr b11 (.bool sB) (.slice aB nB cB)
 f12:FB wr b12 (.int .i64 qc) (.int .i64 qa)
 ix:IsInt wr (.agg #[.int .i64 sX,.slice aX nX cX]) x
 iy:IsInt wr (.agg #[.int .i64 sY,.slice aY nY cY]) y
 zx:IsZ wr (.agg #[.bool sA,.slice aA nA cA]) x
 zy:IsZ wr (.agg #[.bool sB,.slice aB nB cB]) y
section
variable {w wr w':World} {pc pa qc qa uc ua x y:Int} {b5 b6 b7 b8 b9 b10 b11 b12:Nat} {sX:Int} {aX:Option Addr} {nX cX:Nat} {sY:Int} {aY:Option Addr} {nY cY:Nat} {sA:Bool} {aA:Option Addr} {nA cA:Nat} {sB:Bool} {aB:Option Addr} {nB cB:Nat}
theorem DK.step (h:DK w wr pc pa qc qa uc ua x y b5 b6 b7 b8 b9 b10 b11 b12 sX aX nX cX sY aY nY cY sA aA nA cA sB aB nB cB) (b:Below wr.heap.size wr w'):DK w w' pc pa qc qa uc ua x y b5 b6 b7 b8 b9 b10 b11 b12 sX aX nX cX sY aY nY cY sA aA nA cA sB aB nB cB:=⟨h.below.trans (b.mono h.below.size),h.f5.below b,h.f6.below b,h.f7.below b,h.f8.below b,h.f9.below b,h.f10.below b,h.f11.below b,h.f12.below b,h.ix.below b,h.iy.below b,h.zx.below b,h.zy.below b⟩
theorem DK.set6 (h:DK w wr pc pa qc qa uc ua x y b5 b6 b7 b8 b9 b10 b11 b12 sX aX nX cX sY aY nY cY sA aA nA cA sB aB nB cB) (j:w.heap.size≤b5∧b5<b6∧b6<b7∧b7<b8∧b8<b9∧b9<b10∧b10<b11∧b11<b12) (g:LiesZ (b8+1) b9 aA nA∧LiesZ (b10+1) b11 aB nB) (c d:Int):
 DK w (za9 wr b6 (.int .i64 c) (.int .i64 d)) c d qc qa uc ua x y b5 b6 b7 b8 b9 b10 b11 b12 sX aX nX cX sY aY nY cY sA aA nA cA sB aB nB cB:=by
 have K:=h.f6.keep' (.int _) (.int _) (.int .i64 c) (.int .i64 d);exact⟨zaf h.below om _ _,h.f5.other2 _ _ om,h.f6.set _ _,h.f7.other2 _ _ om,h.f8.other2 _ _ om,h.f9.other2 _ _ om,h.f10.other2 _ _ om,h.f11.other2 _ _ om,h.f12.other2 _ _ om,h.ix.keep K,h.iy.keep K,
  zAway h.zx (fun b z f=>by have:=g.1 b z f;omega) _ _,zAway h.zy (fun b z f=>by have:=g.2 b z f;omega) _ _⟩
theorem DK.set10 (h:DK w wr pc pa qc qa uc ua x y b5 b6 b7 b8 b9 b10 b11 b12 sX aX nX cX sY aY nY cY sA aA nA cA sB aB nB cB) (j:w.heap.size≤b5∧b5<b6∧b6<b7∧b7<b8∧b8<b9∧b9<b10∧b10<b11∧b11<b12) (g:LiesZ (b8+1) b9 aA nA∧LiesZ (b10+1) b11 aB nB) (c d:Int):
 DK w (za9 wr b10 (.int .i64 c) (.int .i64 d)) pc pa qc qa c d x y b5 b6 b7 b8 b9 b10 b11 b12 sX aX nX cX sY aY nY cY sA aA nA cA sB aB nB cB:=by
 have K:=h.f10.keep' (.int _) (.int _) (.int .i64 c) (.int .i64 d);exact⟨zaf h.below om _ _,h.f5.other2 _ _ om,h.f6.other2 _ _ om,h.f7.other2 _ _ om,h.f8.other2 _ _ om,h.f9.other2 _ _ om,h.f10.set _ _,h.f11.other2 _ _ om,h.f12.other2 _ _ om,h.ix.keep K,h.iy.keep K,
  zAway h.zx (fun b z f=>by have:=g.1 b z f;omega) _ _,zAway h.zy (fun b z f=>by have:=g.2 b z f;omega) _ _⟩
end
structure TwoI (wr:World) (p q:Nat) (s:Int) (a:Option Addr) (n c:Nat) (t:Int) (b:Option Addr) (m d:Nat) (Q R:Int):Prop where
 f1:FB wr p (.int .i64 s) (.slice a n c)
 f2:FB wr q (.int .i64 t) (.slice b m d)
 i1:IsInt wr (.agg #[.int .i64 s,.slice a n c]) Q
 i2:IsInt wr (.agg #[.int .i64 t,.slice b m d]) R
structure TwoZ (wr:World) (p q:Nat) (s:Bool) (a:Option Addr) (n c:Nat) (t:Bool) (b:Option Addr) (m d:Nat) (Q R:Int):Prop where
 f1:FB wr p (.bool s) (.slice a n c)
 f2:FB wr q (.bool t) (.slice b m d)
 z1:IsZ wr (.agg #[.bool s,.slice a n c]) Q
 z2:IsZ wr (.agg #[.bool t,.slice b m d]) R
section
variable {w wr w':World} {p q:Nat} {s t:Int} {a b:Option Addr} {n c m d:Nat} {Q R:Int} {sz tz:Bool}
theorem TwoI.step (h:TwoI wr p q s a n c t b m d Q R) (f:Below wr.heap.size wr w'):TwoI w' p q s a n c t b m d Q R:=⟨h.f1.below f,h.f2.below f,h.i1.below f,h.i2.below f⟩
theorem TwoZ.step (h:TwoZ wr p q sz a n c tz b m d Q R) (f:Below wr.heap.size wr w'):TwoZ w' p q sz a n c tz b m d Q R:=⟨h.f1.below f,h.f2.below f,h.z1.below f,h.z2.below f⟩
theorem TwoI.put (h:TwoI wr p q s a n c t b m d Q R) {o:Nat} {u v:Int} (f:FB wr o (.int .i64 u) (.int .i64 v)) (k:p≠o∧q≠o) (g j:Int):TwoI (za9 wr o (.int .i64 g) (.int .i64 j)) p q s a n c t b m d Q R:=by have K:=f.keep' (.int _) (.int _) (.int .i64 g) (.int .i64 j);exact⟨h.f1.other2 _ _ k.1,h.f2.other2 _ _ k.2,h.i1.keep K,h.i2.keep K⟩
theorem twoI_mk (u:World) (o:IsInt u (.agg #[.int .i64 s,.slice a n c]) Q) (p:IsInt u (.agg #[.int .i64 t,.slice b m d]) R) (g j:TypeId) {W:World} (q:W=(u.alloc (Obj.cells #[.int .i64 s,.slice a n c] g)).alloc (Obj.cells #[.int .i64 t,.slice b m d] j)):
 Below u.heap.size u W∧TwoI W u.heap.size (u.heap.size+1) s a n c t b m d Q R:=by
 obtain⟨f,k,l⟩:=fb2 u _ _ _ _ _ _ q;exact⟨f,k,l,o.below f,p.below f⟩
theorem twoZ_mk (u:World) (o:IsZ u (.agg #[.bool sz,.slice a n c]) Q) (p:IsZ u (.agg #[.bool tz,.slice b m d]) R) (g j:TypeId) {W:World} (q:W=(u.alloc (Obj.cells #[.bool sz,.slice a n c] g)).alloc (Obj.cells #[.bool tz,.slice b m d] j)):
 Below u.heap.size u W∧TwoZ W u.heap.size (u.heap.size+1) sz a n c tz b m d Q R:=by
 obtain⟨f,k,l⟩:=fb2 u _ _ _ _ _ _ q;exact⟨f,k,l,o.below f,p.below f⟩
end
section
variable {w wr w':World} {pc pa qc qa uc ua x y:Int} {b5 b6 b7 b8 b9 b10 b11 b12:Nat} {sX:Int} {aX:Option Addr} {nX cX:Nat} {sY:Int} {aY:Option Addr} {nY cY:Nat} {sA:Bool} {aA:Option Addr} {nA cA:Nat} {sB:Bool} {aB:Option Addr} {nB cB:Nat} {p q:Nat} {s t:Int} {a b:Option Addr} {n c m d:Nat} {Q R:Int} {sz tz:Bool}
 {e f:Option Addr} {k l i j:Nat} {Q' R':Int}
theorem dk_div (h:DK w wr pc pa qc qa uc ua x y b5 b6 b7 b8 b9 b10 b11 b12 sX aX nX cX sY aY nY cY sA aA nA cA sB aB nB cB) (l:w.heap.size≤b5∧b5<b6∧b6<b7∧b7<b8∧b8<b9∧b9<b10∧b10<b11∧b11<b12) (k:LiesZ (b8+1) b9 aA nA∧LiesZ (b10+1) b11 aB nB) (p:IsInt wr (.agg #[.int .i64 s,.slice a n c]) Q) (q:IsInt wr (.agg #[.int .i64 t,.slice b m d]) R) (g:Int) {W:World}
 (o:W=((za9 wr b6 (.int .i64 g) (.int .i64 0)).alloc (Obj.cells #[.int .i64 s,.slice a n c] 24)).alloc (Obj.cells #[.int .i64 t,.slice b m d] 24)):
 DK w W g 0 qc qa uc ua x y b5 b6 b7 b8 b9 b10 b11 b12 sX aX nX cX sY aY nY cY sA aA nA cA sB aB nB cB∧TwoI W wr.heap.size (wr.heap.size+1) s a n c t b m d Q R:=by
 have K:=h.f6.keep' (.int _) (.int _) (.int .i64 g) (.int .i64 0);obtain⟨f,j⟩:=twoI_mk (za9 wr b6 (.int .i64 g) (.int .i64 0)) (p.keep K) (q.keep K) 24 24 o;exact⟨(h.set6 l k g 0).step f,by simpa using j⟩
theorem dk_zdiv (h:DK w wr pc pa qc qa uc ua x y b5 b6 b7 b8 b9 b10 b11 b12 sX aX nX cX sY aY nY cY sA aA nA cA sB aB nB cB) (D:w.heap.size≤b5∧b5<b6∧b6<b7∧b7<b8∧b8<b9∧b9<b10∧b10<b11∧b11<b12) (C:LiesZ (b8+1) b9 aA nA∧LiesZ (b10+1) b11 aB nB) (H:b12<p∧b12<q) (g:Int) (z:(Q'=0∧R'=0)∨(uc=g∧ua=0)) (B:TwoI wr p q s a n c t b m d Q R)
 (F:IsZ wr (.agg #[.bool sz,.slice e k l]) Q') (G:IsZ wr (.agg #[.bool tz,.slice f i j]) R') {W:World}
 (E:W=((za9 wr b10 (.int .i64 g) (.int .i64 0)).alloc (Obj.cells #[.bool sz,.slice e k l] 31)).alloc (Obj.cells #[.bool tz,.slice f i j] 31)):
 DK w W pc pa qc qa g 0 x y b5 b6 b7 b8 b9 b10 b11 b12 sX aX nX cX sY aY nY cY sA aA nA cA sB aB nB cB∧TwoI W p q s a n c t b m d Q R∧TwoZ W wr.heap.size (wr.heap.size+1) sz e k l tz f i j Q' R':=by
 have o:=zOver F h.f10 (u':=g) (v':=0) (z.imp (fun h=>h.1) id);have r:=zOver G h.f10 (u':=g) (v':=0) (z.imp (fun h=>h.2) id);obtain⟨u,A⟩:=twoZ_mk (za9 wr b10 (.int .i64 g) (.int .i64 0)) o r 31 31 E;exact⟨(h.set10 D C g 0).step u,(B.put h.f10 om g 0).step u,by simpa using A⟩
end
theorem p53 {n:Nat} (h:n<10000^250):n<B^53:=Nat.lt_of_lt_of_le h (by unfold B;decide)
theorem cmpI_lt {x y:Int} (h:x<y):zbb x y= -1:=by unfold zbb;rw[if_pos h]
theorem cmpI_eq (x:Int):zbb x x=0:=by unfold zbb;rw[if_neg om,if_pos rfl]
theorem cmpI_nonneg {x:Int} (h:0≤x):0≤zbb x 0:=by unfold zbb;rw[if_neg om];split <;> omega
theorem cmpI_one (x:Int): -1≤zbb x 0∧zbb x 0≤1:=by unfold zbb;split <;> (try split) <;> omega
theorem back (z:Int) (g:z.natAbs<10000^250) (c:ByteArray) (h:c=⟨(txt z).toArray⟩):zci c.data.toList=0∧pat c.data.toList=0∧zex c.data.toList=z∧c.size≤9223372036854775806:=by
 obtain⟨d,j,k⟩:=_root_.Rad.itoa_back z;obtain⟨M,f⟩:∃M,M=250:=⟨_,rfl⟩;have l:=k (4*M) om (by rw[Nat.pow_mul,f];exact g);have b:c.data.toList=txt z:=(by rw[h]);refine⟨?_,?_,?_,?_⟩
 ·rw[b];unfold zci txt;rw[if_pos d,if_neg om]
 ·rw[b];unfold pat txt;rw[if_pos d]
 ·rw[b];unfold zex txt;rw[if_pos ⟨d,by omega⟩,j]
 ·rw[←zas,b];have m:=(digs_len (txt z)).2;have n:(_root_.Rad.digs (txt z)).length≤4*M:=l;omega
theorem bezout_all (w:World) (c d:Value) (a b:Int) (g:IsInt w c a) (j:IsInt w d b) (n:a.natAbs<B^53) (o:b.natAbs<B^53) (k:TabB w):
 Calls Tryz.prog 38 #[c,d] w fun e w'=>BezPost w a b e w':=by
 have l:B^53≤B^60:=Nat.pow_le_pow_right za2 dd;have m:B^53≤B^159:=Nat.pow_le_pow_right za2 dd;by_cases f:b=0
 ·exact bezout_zero w c d a b g j om k f
 ·exact bezout_ne w c d a b g j om om f
theorem bez_bounds {a b u v:Int} {M:Nat} (l:1<M) (m:a.natAbs<M) (o:b.natAbs<M) (j:b=0→u=zbb a 0∧v=0) (h:b≠0→u*a+v*b=(Int.gcd a b:Nat)∧0≤u∧u<(b.natAbs:Int) / (Int.gcd a b:Nat)):u.natAbs<M∧v.natAbs<M:=by
 by_cases c:b=0
 ·obtain⟨d,f⟩:=j c;have:=cmpI_one a;omega
 ·obtain⟨d,f,k⟩:=h c;have g:0<Int.gcd a b:=Nat.gcd_pos_of_pos_right _ om;have n:(b.natAbs:Int) / (Int.gcd a b:Nat)≤b.natAbs:=Int.ediv_le_self _ om;exact⟨by omega,_root_.Rad.bez_v c g (Int.gcd_dvd_right _ _) d f k m l⟩
theorem res_le {x y:Int} {M:Nat} (c:x.natAbs<M) (d:y.natAbs<M):(x / y).natAbs<M∧(rst x y).natAbs<M∧((Int.gcd x y:Nat):Int).natAbs<M:=by
 refine⟨Nat.lt_of_le_of_lt ?_ c,?_,?_⟩
 ·exact Int.natAbs_ediv_le_natAbs x y
 ·unfold rst
  split
  ·omega
  ·rename_i b
   have f:=Int.emod_nonneg x b;have g:=Int.emod_lt x b;omega
 ·rw[Int.natAbs_natCast];by_cases b:y=0
  ·rw[b,Int.gcd_zero_right];exact c
  ·exact Nat.lt_of_le_of_lt (Nat.gcd_le_right _ om) d
theorem mul_le {x y:Int} (b:x.natAbs<10000^250) (c:y.natAbs<10000^250):(x*y).natAbs<10000^(250+250+1):=by obtain⟨k,d⟩:∃k,k=250:=⟨_,rfl⟩;rw[←d]at b c⊢;rw[Int.natAbs_mul,Nat.pow_succ,Nat.pow_add];exact Nat.lt_of_lt_of_le (Nat.mul_lt_mul'' b c) (Nat.le_mul_of_pos_right _ dd)
theorem over_le {y u:Int} {g M:Nat} (f:y.natAbs<M) (b:0≤u) (c:u<(y.natAbs:Int) / (g:Int)):((y.natAbs:Int) / (g:Int)).natAbs<M:=by have d:(y.natAbs:Int) / (g:Int)≤y.natAbs:=Int.ediv_le_self _ om;omega
inductive ZQ (w:World) (v:Value) (q r:Int):Prop
 |mk (vq vr:Value) (hv:v=.tuple #[vq,vr,.agg #[.int .i64 0,.int .i64 0]]) (hq:IsZ w vq q) (hr:IsZ w vr r)
theorem ZQ.ext {w w':World} {v:Value} {q r:Int} (h:ZQ w v q r) (k:Ext w w'):ZQ w' v q r:=by obtain⟨f,g,d,b,c⟩:=h;exact⟨f,g,d,k.z _ _ b,k.z _ _ c⟩
theorem zdiv_zq (w:World) (b c:Value) (x y:Int) (m:IsZ w b x) (n:IsZ w c y) (d:y≠0) (f:x.natAbs<10000^250) (g:y.natAbs<10000^250):
 Calls Tryz.prog 35 #[b,c] w fun e w'=>∃v,e=.returned v∧Below w.heap.size w w'∧ZQ w' v (x / y) (x%y):=by
 refine(zDiv_any w b c x y 250 m n d f g dd).mono ?_;rintro e w' ⟨o,p,rfl,j,k,l⟩;exact⟨_,rfl,j,o,p,rfl,k,l⟩
end Go.Proofs.YtjlkplidpdhgbaaGreatDoor
