/- A part of the proof: Q3, Q4, Q1b, Q5, Q6, Q7, Q8, Q9, W22, Q10, Pm20, H9, H11. -/
import Derived.Test.YtjlkplidpdhgbaaGreatDoorP00
import Derived.Test.YtjlkplidpdhgbaaGreatDoorP26
import Derived.Test.YtjlkplidpdhgbaaGreatDoorP21
import Derived.Test.YtjlkplidpdhgbaaGreatDoorP16
import Derived.Test.YtjlkplidpdhgbaaGreatDoorP17
import Derived.Deep.RegionWith
import Derived.Test.YtjlkplidpdhgbaaGreatDoorP18
import Derived.Test.YtjlkplidpdhgbaaGreatDoorP24
import Derived.Test.YtjlkplidpdhgbaaGreatDoorP15
import Derived.Test.YtjlkplidpdhgbaaGreatDoorP10
import Derived.Test.YtjlkplidpdhgbaaGreatDoorP13
import Derived.Test.YtjlkplidpdhgbaaGreatDoorP14
import Derived.Test.YtjlkplidpdhgbaaGreatDoorP11
set_option linter.all false
set_option maxRecDepth 10000
set_option maxHeartbeats 4000000
namespace Go.Proofs.YtjlkplidpdhgbaaGreatDoor
open Go Go.Proofs Go.RowKit Go.Rad
theorem isOne_any (w:World) (v:Value) (z:Int) (g:IsInt w v z):
 Calls Tryz.prog 97 #[v] w fun e w'=>e=.returned (.bool (decide (z=1)))∧Below w.heap.size w w':=by
 have q:=qEq;rcases g with⟨rfl,h1,h2⟩|⟨s,a,n,c,m,rfl,hm,hs⟩
 ·by_cases d:z=1
  ·subst d;go_enter Tryz.func97,Tryz.ntmps97;go_wp2;go_ret;exact⟨rfl,zau _ _⟩
  ·have b:decide (z=1)=false:=(by simpa using d);rw[b];clear b;go_enter Tryz.func97,Tryz.ntmps97;go_wp2;go_ret;exact⟨rfl,zau _ _⟩
 ·have d:¬z=1:=om;have b:decide (z=1)=false:=(by simpa using d);rw[b];by_cases f:s=1
  ·clear hs hm;subst f;go_enter Tryz.func97,Tryz.ntmps97;go_wp2;go_ret;exact⟨rfl,zau _ _⟩
  ·clear hs hm;go_enter Tryz.func97,Tryz.ntmps97;go_wp2;go_ret;exact⟨rfl,zau _ _⟩
end Go.Proofs.YtjlkplidpdhgbaaGreatDoor
namespace Go.Proofs.YtjlkplidpdhgbaaGreatDoor
open Go Go.Proofs Go.RowKit Go.Rad
def TI2 (s0:Int) (a0:Option Addr) (n0 c0:Nat) (d:Bool) (v:Value) (w:World) (b:Nat):Prop:=∃s a n c,FB w b (.int .i64 s) (.slice a n c)∧(d=true→v=.agg #[.int .i64 s,.slice a n c])∧(d=false→s=s0∧a=a0∧n=n0∧c=c0)
section
variable {s0:Int} {a0:Option Addr} {n0 c0:Nat}
theorem TI2.below {d:Bool} {v:Value} {w w':World} {b:Nat} (h:TI2 s0 a0 n0 c0 d v w b) (j:Below w.heap.size w w'):TI2 s0 a0 n0 c0 d v w' b:=by obtain⟨s,a,n,c,f,g⟩:=h;exact⟨s,a,n,c,f.below j,g⟩
theorem TI2.free {v v':Value} {w:World} {b:Nat} (h:TI2 s0 a0 n0 c0 false v w b):TI2 s0 a0 n0 c0 false v' w b:=by obtain⟨s,a,n,c,d,g,f⟩:=h;exact⟨s,a,n,c,d,fun h=>(by cases h),f⟩
theorem TI2.lt {d:Bool} {v:Value} {w:World} {b:Nat} (h:TI2 s0 a0 n0 c0 d v w b):b<w.heap.size:=by obtain⟨s,a,n,c,f,g⟩:=h;exact f.lt
theorem TI2.at {d:Bool} {fr:Act} {q t:Nat} {u:Value} {w:World} {b:Nat} (c:q≠t) (h:TI2 s0 a0 n0 c0 d (fr.eval (.tmp t)) w b):TI2 s0 a0 n0 c0 d ((fr.put (some q) u).eval (.tmp t)) w b:=by rw[zbe c];exact h
theorem TI2.other2 {d:Bool} {v:Value} {w:World} {b c:Nat} (h:TI2 s0 a0 n0 c0 d v w b) (l m:Value) (k:b≠c):TI2 s0 a0 n0 c0 d v (za9 w c l m) b:=by obtain⟨s,a,n,f,g,j⟩:=h;exact⟨s,a,n,f,g.other2 _ _ k,j⟩
theorem TI2.store {d:Bool} {v:Value} {w:World} {b:Nat} (h:TI2 s0 a0 n0 c0 d v w b) (s:Int) (a:Option Addr) (n c:Nat):TI2 s0 a0 n0 c0 true (.agg #[.int .i64 s,.slice a n c]) (za9 w b (.int .i64 s) (.slice a n c)) b:=by obtain⟨_,_,_,_,f,g⟩:=h;exact⟨s,a,n,c,f.set _ _,fun _=>rfl,fun h=>(by cases h)⟩
theorem TI2.keep {d:Bool} {v:Value} {w:World} {b:Nat} (h:TI2 s0 a0 n0 c0 d v w b) (g j:Value):Keep w (za9 w b g j):=by obtain⟨s,a,n,c,f,k⟩:=h;exact f.keep' (.int _) (.soft (.slice _ _ _)) _ _
theorem TI2.fb {v:Value} {w:World} {b:Nat} (h:TI2 s0 a0 n0 c0 false v w b):FB w b (.int .i64 s0) (.slice a0 n0 c0):=by obtain⟨s,a,n,c,d,g,f⟩:=h;obtain⟨rfl,rfl,rfl,rfl⟩:=f rfl;exact d
end
def TZ2 (s0:Bool) (a0:Option Addr) (n0 c0:Nat) (d:Bool) (v:Value) (w:World) (b:Nat):Prop:=∃s a n c,FB w b (.bool s) (.slice a n c)∧(d=true→v=.agg #[.bool s,.slice a n c])∧(d=false→s=s0∧a=a0∧n=n0∧c=c0)
section
variable {s0:Bool} {a0:Option Addr} {n0 c0:Nat}
theorem TZ2.below {d:Bool} {v:Value} {w w':World} {b:Nat} (h:TZ2 s0 a0 n0 c0 d v w b) (j:Below w.heap.size w w'):TZ2 s0 a0 n0 c0 d v w' b:=by obtain⟨s,a,n,c,f,g⟩:=h;exact⟨s,a,n,c,f.below j,g⟩
theorem TZ2.free {v v':Value} {w:World} {b:Nat} (h:TZ2 s0 a0 n0 c0 false v w b):TZ2 s0 a0 n0 c0 false v' w b:=by obtain⟨s,a,n,c,d,g,f⟩:=h;exact⟨s,a,n,c,d,fun h=>(by cases h),f⟩
theorem TZ2.lt {d:Bool} {v:Value} {w:World} {b:Nat} (h:TZ2 s0 a0 n0 c0 d v w b):b<w.heap.size:=by obtain⟨s,a,n,c,f,g⟩:=h;exact f.lt
theorem TZ2.at {d:Bool} {fr:Act} {q t:Nat} {u:Value} {w:World} {b:Nat} (c:q≠t) (h:TZ2 s0 a0 n0 c0 d (fr.eval (.tmp t)) w b):TZ2 s0 a0 n0 c0 d ((fr.put (some q) u).eval (.tmp t)) w b:=by rw[zbe c];exact h
theorem TZ2.other2 {d:Bool} {v:Value} {w:World} {b c:Nat} (h:TZ2 s0 a0 n0 c0 d v w b) (l m:Value) (k:b≠c):TZ2 s0 a0 n0 c0 d v (za9 w c l m) b:=by obtain⟨s,a,n,f,g,j⟩:=h;exact⟨s,a,n,f,g.other2 _ _ k,j⟩
theorem TZ2.store {d:Bool} {v:Value} {w:World} {b:Nat} (h:TZ2 s0 a0 n0 c0 d v w b) (s:Bool) (a:Option Addr) (n c:Nat):TZ2 s0 a0 n0 c0 true (.agg #[.bool s,.slice a n c]) (za9 w b (.bool s) (.slice a n c)) b:=by obtain⟨_,_,_,_,f,g⟩:=h;exact⟨s,a,n,c,f.set _ _,fun _=>rfl,fun h=>(by cases h)⟩
theorem TZ2.keep {d:Bool} {v:Value} {w:World} {b:Nat} (h:TZ2 s0 a0 n0 c0 d v w b) (g j:Value):Keep w (za9 w b g j):=by obtain⟨s,a,n,c,f,k⟩:=h;exact f.keep' (.soft (.bool _)) (.soft (.slice _ _ _)) _ _
theorem TZ2.fb {v:Value} {w:World} {b:Nat} (h:TZ2 s0 a0 n0 c0 false v w b):FB w b (.bool s0) (.slice a0 n0 c0):=by obtain⟨s,a,n,c,d,g,f⟩:=h;obtain⟨rfl,rfl,rfl,rfl⟩:=f rfl;exact d
theorem TZ2.ext {d:Bool} {v:Value} {w:World} {b:Nat} (h:TZ2 s0 a0 n0 c0 d v w b) (g j:Value):Ext w (za9 w b g j):=by obtain⟨s,a,n,c,f,k⟩:=h;exact f.ext (.bool _) (.slice _ _ _) _ _
end
end Go.Proofs.YtjlkplidpdhgbaaGreatDoor
namespace Go.Proofs.YtjlkplidpdhgbaaGreatDoor
open Go Go.Proofs Go.RowKit Go.Rad
structure LW (w wx:World) (x0 x1 y0:Nat) (r:Rat):Prop where
 bel:Below w.heap.size w wx
 p:∃a b:Int,IV wx x0 a∧IV wx x1 b∧0<b∧r.num=a∧(r.den:Int)=b
 y:FB4 wx y0 (.int .i64 0) (.slice none 0 0) (.int .i64 0) (.slice none 0 0)
end Go.Proofs.YtjlkplidpdhgbaaGreatDoor
namespace Rad
theorem bez_end {a b X U V:Nat} {c:Bool} (h:Rl a b X 0 U V c):X=Nat.gcd a b∧∃t:Int,(X:Int)=(if c then -(U:Int) else (U:Int))*a+t*b:=by refine⟨by rw[←h.g,Nat.gcd_zero_right],?_⟩;obtain⟨σ,j,k,f,d,-⟩:=h.c;refine⟨j,?_⟩;rw[d,f];cases c <;> simp <;> grind
theorem bez_turn {a b X Y U V p q g:Nat} {c odd:Bool} (h:Rl a b X Y U V c) (r:g=Nat.gcd X Y) (e:odd=false→g+q*Y=p*X) (o:odd=true→g+p*X=q*Y):
 g=Nat.gcd a b∧∃t:Int,(g:Int)=(if c !=odd then -((p*U+q*V:Nat):Int) else ((p*U+q*V:Nat):Int))*a+t*b:=by
 refine⟨r.trans h.g,?_⟩;obtain⟨σ,j,k,m,f,l⟩:=h.c;cases odd
 ·have n:(g:Int)+q*Y=p*X:=(by exact_mod_cast e rfl);refine⟨p*j-q*k,?_⟩;have d:(g:Int)=p*X-q*Y:=om;rw[d,f,l,m]
  push_cast
  cases c <;> simp <;> grind
 ·have n:(g:Int)+p*X=q*Y:=(by exact_mod_cast o rfl);refine⟨q*k-p*j,?_⟩;have d:(g:Int)=q*Y-p*X:=om;rw[d,f,l,m]
  push_cast
  cases c <;> simp <;> grind
theorem bez_final {a b u t r:Int} {g:Nat} (k:0<g) (f:(g:Int) ∣ a) (j:(g:Int) ∣ b) (h:(g:Int)=u*a+t*b) (l:∃c,u=c*(b / g)+r):∃v,(g:Int)-r*a=v*b:=by obtain⟨c,d⟩:=l;obtain⟨x,n⟩:=f;obtain⟨y,m⟩:=j;have e:b / g=y:=(by rw[m];exact Int.mul_ediv_cancel_left _ om);rw[e]at d;refine⟨t+c*x,?_⟩;rw[d]at h;grind
end Rad
namespace Go.Proofs.YtjlkplidpdhgbaaGreatDoor
open Go Go.Proofs Go.RowKit Go.Rad
open _root_.Rad Rl
inductive LR (X Y:Nat) (v:Value):Prop
 |mk (p q:Nat) (odd:Bool) (hv:v=.agg #[.int .u64 p,.int .u64 q,.int .u64 0,.int .u64 0,.bool odd]) (ho:odd=false→Nat.gcd X Y+q*Y=p*X) (hn:odd=true→Nat.gcd X Y+p*X=q*Y) (hp:p<B) (hq:q<B)
theorem zf9 {w:World} {b n Z:Nat} (j:Arr .u64 B w b 0 n) (k:num B w b 0 n=Z) (c:0<n) (g:Z<B):w.cell? ⟨b,0,none⟩=some (.int .u64 (Z:Int)):=by have d:=zfk k c (by rw[Nat.pow_one];exact g);rw[zaj,zao,Nat.zero_add,Nat.pow_zero,Nat.one_mul]at d;have f:=zag j c;rw[d]at f;exact f
inductive DesPost (w:World) (a b:Nat) (e:Ending) (w':World):Prop
 |mk (vg vu:Value) (z t:Int) (he:e=.returned (.tuple #[vg,vu])) (hb:Below w.heap.size w w') (hg:IsInt w' vg (Nat.gcd a b:Nat)) (hu:IsInt w' vu z) (h:((Nat.gcd a b:Nat):Int)=z*a+t*b) (hl:z.natAbs<B^159)
theorem zge (b:Bool) (U:Nat):sgn b U=if b then -(U:Int) else (U:Int):=by cases b <;> rfl
theorem descend_any (w:World) (va vb:Value) (a b na nb:Nat) (ha:Mag w va a na) (H:Mag w vb b nb) (nd:0<nb) (ue:na<160) (ve:nb<160) (qd:b<B^157):
 Calls Tryz.prog 93 #[va,vb] w fun e w'=>DesPost w a b e w':=by
 have HA:Hid (Mag w va a na):=ha;have he:Hid (Mag w vb b nb):=H;have yb:Hid (b<B^157):=qd;have rd:=H.pos nd;clear ha H qd;go_enter Tryz.func93,Tryz.ntmps93;go_upto_region 1 with fail;refine zac (fun E=>Below w.heap.size w E∧FB E w.heap.size (.int .i64 0) (.slice none 0 0)∧FB E (w.heap.size+1) (.int .i64 0) (.slice none 0 0)) ⟨((zau w _).alloc (by simp;try omega) _),((FB.mk0 w _ _ _).alloc _),by simpa using (FB.mk0 ((w).alloc (Obj.cells #[.int .i64 0,.slice none 0 0] 24)) _ _ _)⟩ ?_;rintro E ⟨ld,ub,wb⟩;obtain⟨y1,ce⟩:∃b,b=w.heap.size+1:=⟨_,rfl⟩;obtain⟨y0,be⟩:∃b,b=w.heap.size:=⟨_,rfl⟩;rw[←ce]at wb⊢;rw[←be]at ub⊢;have HO:Hid (w.heap.size≤y0∧y0<y1):=(by show _∧_;omega);have wa:Hid _:=ld;have hc:Hid (TI false undef E y0):=⟨0,none,0,0,ub,fun h=>(by cases h)⟩;have ic:Hid (TI false undef E y1):=⟨0,none,0,0,wb,fun h=>(by cases h)⟩;have ed:Hid (FB E y0 (.int .i64 0) (.slice none 0 0)):=ub;have fd:Hid (FB E y1 (.int .i64 0) (.slice none 0 0)):=wb;clear ld be ce ub wb;have CC:=chaseF_any E _ _ a b na nb (HA.out.below wa.out) (he.out.below wa.out) nd ue ve;go_wp2_with (go_at_call 123;fail);refine CC.mono ?_;rintro e w2 ⟨y,n0,rfl,qc,sd⟩;have CR:=runF_any E.heap.size w2 y n0 (max a b) (min a b) a b sd om qc.size yb.out;have fe:Hid (Below E.heap.size E w2):=qc;clear CC sd qc;go_wp2_with (go_at_call 124;fail);refine CR.mono ?_;rintro e w3 ⟨n,X,Y,rfl,od,qe,md,oc⟩;obtain⟨bx,cx,oa,cy,m,U,V,bu,cu,bv,cv,mi,C,R,ma,L⟩:=qe;have B3:Below E.heap.size E w3:=fe.out.trans od;have xb:Hid (Below E.heap.size E w3):=B3;have fb:Hid (ChC w3 y (.slice (some ⟨bx,0,none⟩) n cx) (.slice (some ⟨oa,0,none⟩) n cy) true (.slice (some ⟨bu,0,none⟩) m cu) (.slice (some ⟨bv,0,none⟩) m cv) mi):=C;have ib:Hid (XY E.heap.size w3 y n X Y bx cx oa cy):=R;have kc:Hid (UV E.heap.size w3 y bx oa m U V bu cu bv cv):=ma;have zb:Hid (Rl a b X Y U V mi):=L;have ac:Hid (n≤maxLen):=(by have:=R.nm;show n≤maxLen;unfold maxLen;omega);have ja:Hid (m≤maxLen):=(by have:=ma.mm;show m≤maxLen;unfold maxLen;omega);have lc:Hid (0<X∧Y<B∧Y≤X):=⟨md,oc,R.le⟩;have CF:=za3 w3 (some ⟨oa,0,none⟩) oa 0 n cy 1 (Sl.mk _ _ _) R.cy1 ac.out (by unfold maxLen;omega) R.ay;have k1:=C.c1;have lp:=C.lt;have ad:Hid (0<n∧n<160∧n≤cx∧n≤cy∧m<160):=⟨R.n0,R.nm,R.cx1,R.cy1,ma.mm⟩;have xd:num B w3 oa 0 (min 1 n)=Y:=(by rw[Nat.min_eq_left R.n0];exact zfk R.ey R.n0 (by rw[Nat.pow_one];exact oc));rw[xd]at CF;clear CR od C R ma L B3 md oc xd;go_wp2_with (go_at_call 86;fail);refine CF.mono ?_;rintro e w4 ⟨dg,rc,rfl,cc,eb,-,pb⟩;subst w4;obtain⟨lf,mf,bg,pf,rfl,-⟩:=id pb;have hY:Y=0↔rc=0:=pb.zero_iff;clear CF pb;by_cases h0:rc=0
 ·obtain rfl:=h0;obtain rfl:Y=0:=hY.2 rfl;clear hY eb;obtain⟨us,wu,eu⟩:=kc.out.ou;have AX:∀s,Below w3.heap.size w3 s→Arr .u64 B s bx 0 n∧num B s bx 0 n=X:=fun s h=>⟨zae ib.out.ax h,(zah ib.out.ax h).trans ib.out.ex⟩;have AU:∀s,Below w3.heap.size w3 s→Arr .u64 B s bu 0 m∧num B s bu 0 m=U:=fun s h=>⟨(wu.below h).arr.1,(wu.below h).arr.2.1.trans eu⟩;obtain⟨wd,ag,wf,xf,yf⟩:=ad.out;have se:=wu.hc;have k0:=fb.out.c0;have k3:=fb.out.c3;have k5:=fb.out.c5;go_upto_region 4 with fail;refine zaq zbf [⟨22,[],[],[6]⟩,⟨23,[0],[0],[]⟩,⟨24,[1],[0,1],[]⟩,⟨25,[2],[0,1,2],[]⟩,⟨26,[],[],[6]⟩,⟨27,[4],[4],[]⟩,⟨28,[5],[4,5],[]⟩,⟨29,[6],[4,5,6],[]⟩,⟨30,[7],[4,5,6,7],[]⟩,⟨31,[3,8],[0,1,2,3,4,5,6,7,8],[]⟩,⟨32,[9],[0,1,2,3,4,5,6,7,8,9],[]⟩,⟨33,[],[],[6]⟩,⟨34,[11],[11],[]⟩,⟨35,[12],[11,12],[]⟩,⟨36,[13],[11,12,13],[]⟩,⟨37,[],[],[6]⟩,⟨38,[15],[15],[]⟩,⟨39,[16],[15,16],[]⟩,⟨40,[17],[15,16,17],[]⟩,⟨41,[],[],[6]⟩,⟨42,[19],[19],[]⟩,⟨43,[20],[19,20],[]⟩,⟨44,[21],[19,20,21],[]⟩,⟨45,[22],[19,20,21,22],[]⟩,⟨46,[10,18,23],[0,1,2,3,4,5,6,7,8,9,10,15,16,17,18,19,20,21,22,23],[]⟩,⟨47,[14,24],[0,1,2,3,4,5,6,7,8,9,10,11,12,13,14,15,16,17,18,19,20,21,22,23,24],[]⟩] [] kfl 105 rfl kfl (fun (i:Nat) (v:Value) (N:World)=>match i with|0=>v=.pointer (some ⟨y,0,none⟩)|1=>v=.pointer (some ⟨y,0,none⟩)|2=>v=.pointer (some ⟨y,0,none⟩)|3=>v=.slice (some ⟨bx,0,none⟩) n (cx)|4=>v=.pointer (some ⟨y,0,none⟩)|5=>v=.pointer (some ⟨y,0,none⟩)|6=>v=.pointer (some ⟨y,0,none⟩)|7=>v=.slice (some ⟨bx,0,none⟩) n (cx)|8=>v=.int .i64 (((n:Nat):Int))|9=>∃k,k≤n∧Mag N v X k|10=>IsInt N v (sgn false X)|11=>v=.pointer (some ⟨y,0,none⟩)|12=>v=.pointer (some ⟨y,0,none⟩)|13=>v=.pointer (some ⟨y,5,none⟩)|14=>v=.bool (mi)|15=>v=.pointer (some ⟨y,0,none⟩)|16=>v=.pointer (some ⟨y,0,none⟩)|17=>v=.pointer (some ⟨y,3,none⟩)|18=>v=.slice (some ⟨bu,0,none⟩) m (cu)|19=>v=.pointer (some ⟨y,0,none⟩)|20=>v=.pointer (some ⟨y,0,none⟩)|21=>v=.pointer (some ⟨y,3,none⟩)|22=>v=.slice (some ⟨bu,0,none⟩) m (cu)|23=>v=.int .i64 (((m:Nat):Int))|24=>∃k,k≤m∧Mag N v U k|25=>IsInt N v (sgn mi U)|_=>True) (fun _ N=>Below w3.heap.size w3 N) (fun s J=>Below s.heap.size s J) (zz).drew (fun i v s J h hx=>match i,h with|0,h=>h|1,h=>h|2,h=>h|3,h=>h|4,h=>h|5,h=>h|6,h=>h|7,h=>h|8,h=>h|11,h=>h|12,h=>h|13,h=>h|14,h=>h|15,h=>h|16,h=>h|17,h=>h|18,h=>h|19,h=>h|20,h=>h|21,h=>h|22,h=>h|23,h=>h|9,h=>by obtain⟨k,h1,h2⟩:=h;exact⟨k,h1,h2.below hx⟩|10,h=>h.below hx|24,h=>by obtain⟨k,h1,h2⟩:=h;exact⟨k,h1,h2.below hx⟩|25,h=>h.below hx|n+26,_=>trivial) ?_ ?_
  ·intro i o r f j L fr s u hL sa qa T d l;clear hL sa qa T
   match i,f,j with
   |0,f,j=>?_
   |1,f,j=>?_
   |2,f,j=>?_
   |3,f,j=>?_
   |4,f,j=>?_
   |5,f,j=>?_
   |6,f,j=>?_
   |7,f,j=>?_
   |8,f,j=>?_
   |9,f,j=>obtain rfl:=oi f;obtain rfl:=oi j;have e3:=evs 25 (d 3 dd _ rfl);have e8:=evs 30 (d 8 dd _ rfl);clear d l;refine zam rfl rfl fun K A=>?_;go_simp;refine(za3 s (some ⟨bx,0,none⟩) bx 0 n _ n (Sl.mk _ _ _) om ac.out ac.out (AX s u).1).mono ?_;rintro e J ⟨v4,k4,rfl,cc,eb,ra,z⟩;subst J;exact A _ _ ⟨⟨k4,ra,by rw[Nat.min_self,(AX s u).2]at z;exact z⟩,u,zz,nn⟩
   |10,f,j=>obtain rfl:=oi f;obtain rfl:=oi j;obtain⟨u9,e9,p9⟩:=evr 31 (P:=fun u9=>∃k,k≤n∧Mag s u9 X k) (d 9 dd _ rfl);clear d l;refine zam rfl rfl fun K A=>?_;obtain⟨k9,h9,p9⟩:=p9;go_simp;refine(zav s false _ _ k9 p9).mono ?_;rintro e J ⟨v4,rfl,H,z⟩;exact A _ _ ⟨z,u.trans (H.mono u.size),H,nn⟩
   |11,f,j=>?_
   |12,f,j=>?_
   |13,f,j=>?_
   |14,f,j=>?_
   |15,f,j=>?_
   |16,f,j=>?_
   |17,f,j=>?_
   |18,f,j=>?_
   |19,f,j=>?_
   |20,f,j=>?_
   |21,f,j=>?_
   |22,f,j=>?_
   |23,f,j=>?_
   |24,f,j=>obtain rfl:=oi f;obtain rfl:=oi j;have za:=evs 40 (d 18 dd _ rfl);have cb:=evs 45 (d 23 dd _ rfl);clear d l;refine zam rfl rfl fun K A=>?_;go_simp;refine(za3 s (some ⟨bu,0,none⟩) bu 0 m _ m (Sl.mk _ _ _) om ja.out ja.out (AU s u).1).mono ?_;rintro e J ⟨v4,k4,rfl,cc,eb,ra,z⟩;subst J;exact A _ _ ⟨⟨k4,ra,by rw[Nat.min_self,(AU s u).2]at z;exact z⟩,u,zz,nn⟩
   |25,f,j=>obtain rfl:=oi f;obtain rfl:=oi j;have fa:=evs 36 (d 14 dd _ rfl);obtain⟨u24,pa,tb⟩:=evr 46 (P:=fun u24=>∃k,k≤m∧Mag s u24 U k) (d 24 dd _ rfl);clear d l;refine zam rfl rfl fun K A=>?_;obtain⟨ze,tf,tb⟩:=tb;go_simp;refine(zav s mi _ _ ze tb).mono ?_;rintro e J ⟨v4,rfl,H,z⟩;exact A _ _ ⟨z,u.trans (H.mono u.size),H,nn⟩
   |n+26,f,j=>exact absurd j (by simp)
   all_goals
    obtain rfl:=oi f;obtain rfl:=oi j;simp only[uxw,uw,evt]at d l;have c0:=(u.cell (p:=⟨y,0,none⟩) lp).trans k0;have c1:=(u.cell (p:=⟨y,5,none⟩) lp).trans k5;have c2:=(u.cell (p:=⟨y,3,none⟩) lp).trans k3;refine zam rfl rfl fun K A=>?_ <;> (go_simp;exact A _ _ ⟨rfl,u,zz,nn⟩)
  ·intro vs D c G S;clear S;have e0:vs 0=_:=c 0 dd;have e1:vs 1=_:=c 1 dd;have e2:vs 2=_:=c 2 dd;have e3:vs 3=_:=c 3 dd;have e4:vs 4=_:=c 4 dd;have e5:vs 5=_:=c 5 dd;have e6:vs 6=_:=c 6 dd;have e7:vs 7=_:=c 7 dd;have e8:vs 8=_:=c 8 dd;obtain⟨u9,e9,p9⟩:∃u9,vs 9=u9∧(∃k,k≤n∧Mag D u9 X k):=⟨_,rfl,c 9 dd⟩;obtain⟨u10,M,tc⟩:∃u10,vs 10=u10∧(IsInt D u10 (sgn false X)):=⟨_,rfl,c 10 dd⟩;have F:vs 11=_:=c 11 dd;have ea:vs 12=_:=c 12 dd;have aa:vs 13=_:=c 13 dd;have fa:vs 14=_:=c 14 dd;have ka:vs 15=_:=c 15 dd;have ga:vs 16=_:=c 16 dd;have la:vs 17=_:=c 17 dd;have za:vs 18=_:=c 18 dd;have lb:vs 19=_:=c 19 dd;have mb:vs 20=_:=c 20 dd;have ab:vs 21=_:=c 21 dd;have bb:vs 22=_:=c 22 dd;have cb:vs 23=_:=c 23 dd;obtain⟨u24,pa,tb⟩:∃u24,vs 24=u24∧(∃k,k≤m∧Mag D u24 U k):=⟨_,rfl,c 24 dd⟩;obtain⟨u25,db,ia⟩:∃u25,vs 25=u25∧(IsInt D u25 (sgn mi U)):=⟨_,rfl,c 25 dd⟩;simp only[zbx,Nat.reduceAdd,e0,e1,e2,e3,e4,e5,e6,e7,e8,e9,M,F,ea,aa,fa,ka,ga,la,za,lb,mb,ab,bb,cb,pa,db,Act.put,ll];clear c e0 e1 e2 e3 e4 e5 e6 e7 e8 e9 M F ea aa fa ka ga la za lb mb ab bb cb pa db;obtain⟨s0,a0,n9,c0,rfl⟩:=tc.form;obtain⟨s1,a1,n8,c1,rfl⟩:=ia.form;have BW:Below E.heap.size E D:=xb.out.trans (G.mono xb.out.size);have T0:=TI.below hc.out BW;have T1:=TI.below ic.out BW;have qb:y1≠y0:=(by have:=HO.out;omega);have K1:Keep D (za9 D y0 (.int .i64 s0) (.slice a0 n9 c0)):=T0.keep _ _;have K2:Keep (za9 D y0 (.int .i64 s0) (.slice a0 n9 c0)) (za9 (za9 D y0 (.int .i64 s0) (.slice a0 n9 c0)) y1 (.int .i64 s1) (.slice a1 n8 c1)):=(T1.other2 _ _ qb).keep _ _;have BF:Below w.heap.size w (za9 (za9 D y0 (.int .i64 s0) (.slice a0 n9 c0)) y1 (.int .i64 s1) (.slice a1 n8 c1)):=zaf (zaf (wa.out.trans (BW.mono wa.out.size)) HO.out.1 _ _) (by have:=HO.out;omega) _ _;have HP:Hid (DesPost w a b (.returned (.tuple #[.agg #[.int .i64 s0,.slice a0 n9 c0],.agg #[.int .i64 s1,.slice a1 n8 c1]])) (za9 (za9 D y0 (.int .i64 s0) (.slice a0 n9 c0)) y1 (.int .i64 s1) (.slice a1 n8 c1))):=(by obtain⟨e1,t,e2⟩:=_root_.Rad.bez_end zb.out;have h1:=(tc.keep K1).keep K2;have h2:=(ia.keep K1).keep K2;have h3:sgn false X=((Nat.gcd a b:Nat):Int):=(by rw[zge,←e1];rfl);rw[h3]at h1;refine .mk _ _ (sgn mi U) t rfl BF h1 h2 (by rw[zge,←e1];exact e2) ?_;have h4:=zb.out.ule lc.out.1 rd;have h5:(sgn mi U).natAbs=U:=(by rw[zge];split <;> omega);have h6:B^157≤B^159:=Nat.pow_le_pow_right za2 dd;have:=yb.out;omega);obtain⟨l0,gf,hf,je,ke⟩:=ed.out.below BW;obtain⟨l1,jf,kf,me,oe⟩:=fd.out.below BW;clear p9 tc tb ia T0 T1 K1 K2 BF BW G AX AU wu eu;have bf:=qb.symm;go_wp2;refine bodyPost_ret (v:= .tuple #[.agg #[.int .i64 s0,.slice a0 n9 c0],.agg #[.int .i64 s1,.slice a1 n8 c1]]) rs rfl ?_;exact HP.out
 ·have bc:0<Y:=Nat.pos_of_ne_zero fun h=>h0 (hY.1 h);have CS:=stepF_any E.heap.size w3 y n X Y a b (.mk bx cx oa cy m U V bu cu bv cv mi fb.out ib.out kc.out zb.out) bc xb.out.size yb.out;have vd:¬(rc:Int)=0:=om;have HY:Hid (0<Y∧Y<B∧X%Y<B):=⟨bc,lc.out.2.1,Nat.lt_trans (Nat.mod_lt _ bc) lc.out.2.1⟩;clear hY eb h0 bc zb ib kc fb k1 lp ad ac ja;go_wp2_with (go_at_call 125;fail);refine CS.mono ?_;rintro e w4 ⟨rfl,pd,re⟩;obtain⟨xa,mc,ya,nc,I,W,Z,ca,jb,da,kb,ba,C,R,ma,L⟩:=re;have ec:Hid (Below E.heap.size E w4):=xb.out.trans pd;have xc:Hid (ChC w4 y (.slice (some ⟨xa,0,none⟩) n mc) (.slice (some ⟨ya,0,none⟩) n nc) true (.slice (some ⟨ca,0,none⟩) I jb) (.slice (some ⟨da,0,none⟩) I kb) ba):=C;have cd:Hid (UV E.heap.size w4 y xa ya I W Z ca jb da kb):=ma;have gc:Hid (Rl a b Y (X%Y) W Z ba):=L;have k0:=C.c0;have k1:=C.c1;have lp:=C.lt;have de:=R.ax.lt R.n0;have ee:=R.ay.lt R.n0;have zd:=zf9 R.ax R.ex R.n0 HY.out.2.1;have ae:=zf9 R.ay R.ey R.n0 HY.out.2.2;have wd:=R.n0;have td:=R.cx1;have ud:=R.cy1;clear CS pd C R ma L;go_upto_region 6 with fail;refine zaq zbf [⟨51,[],[],[6]⟩,⟨52,[0],[0],[]⟩,⟨53,[1],[0,1],[]⟩,⟨54,[2],[0,1,2],[]⟩,⟨55,[3],[0,1,2,3],[]⟩,⟨56,[4],[0,1,2,3,4],[]⟩,⟨57,[],[],[6]⟩,⟨58,[6],[6],[]⟩,⟨59,[7],[6,7],[]⟩,⟨60,[8],[6,7,8],[]⟩,⟨61,[9],[6,7,8,9],[]⟩,⟨62,[10],[6,7,8,9,10],[]⟩,⟨63,[5,11],[0,1,2,3,4,5,6,7,8,9,10,11],[]⟩,⟨50,[12],[0,1,2,3,4,5,6,7,8,9,10,11,12],[]⟩,⟨64,[13],[0,1,2,3,4,5,6,7,8,9,10,11,12,13],[]⟩,⟨65,[13],[0,1,2,3,4,5,6,7,8,9,10,11,12,13],[]⟩,⟨8,[],[],[]⟩,⟨7,[0,1,2,3,4,5,6,7,8,9,10,11,12,13,14,16],[0,1,2,3,4,5,6,7,8,9,10,11,12,13,14,16],[]⟩] [] kfl 105 rfl kfl (fun (i:Nat) (v:Value) (N:World)=>match i with|0=>v=.pointer (some ⟨y,0,none⟩)|1=>v=.pointer (some ⟨y,0,none⟩)|2=>v=.pointer (some ⟨y,0,none⟩)|3=>v=.slice (some ⟨xa,0,none⟩) n (mc)|4=>v=.pointer (some ⟨xa,0,none⟩)|5=>v=.int .u64 (((Y:Nat):Int))|6=>v=.pointer (some ⟨y,0,none⟩)|7=>v=.pointer (some ⟨y,0,none⟩)|8=>v=.pointer (some ⟨y,1,none⟩)|9=>v=.slice (some ⟨ya,0,none⟩) n (nc)|10=>v=.pointer (some ⟨ya,0,none⟩)|11=>v=.int .u64 (((X%Y:Nat):Int))|12=>∃v2,v=.tuple #[.int .u64 ((Nat.gcd Y (X%Y):Nat):Int),v2]∧LR Y (X%Y) v2|13=>∃v2,v=.tuple #[.int .u64 ((Nat.gcd Y (X%Y):Nat):Int),v2]∧LR Y (X%Y) v2|14=>v=.int .u64 (((Nat.gcd Y (X%Y):Nat):Int))|15=>LR Y (X%Y) v|16=>∃g,v=.pointer (some ⟨g,0,none⟩)∧w4.heap.size≤g∧TB N g 0 0 0 0 false|17=>v=.int .u64 (((Nat.gcd Y (X%Y):Nat):Int))|_=>True) (fun _ N=>Below w4.heap.size w4 N) (fun s J=>Below s.heap.size s J) (zz).drew (fun i v s J h hx=>match i,h with|0,h=>h|1,h=>h|2,h=>h|3,h=>h|4,h=>h|5,h=>h|6,h=>h|7,h=>h|8,h=>h|9,h=>h|10,h=>h|11,h=>h|14,h=>h|17,h=>h|12,h=>h|13,h=>h|15,h=>h|16,h=>by obtain⟨g,h1,h2,h3⟩:=h;exact⟨g,h1,h2,h3.below hx h3.lt⟩|n+18,_=>trivial) ?_ ?_
  ·intro i o r f j L fr s u hL sa qa T d l;clear hL sa qa T
   match i,f,j with
   |0,f,j=>?_
   |1,f,j=>?_
   |2,f,j=>?_
   |3,f,j=>?_
   |4,f,j=>?_
   |5,f,j=>?_
   |6,f,j=>?_
   |7,f,j=>?_
   |8,f,j=>?_
   |9,f,j=>?_
   |10,f,j=>?_
   |11,f,j=>?_
   |12,f,j=>obtain rfl:=oi f;obtain rfl:=oi j;have e5:=evs 56 (d 5 dd _ rfl);have F:=evs 62 (d 11 dd _ rfl);clear d l;refine zam rfl rfl fun K A=>?_;go_simp;refine(lastTurn_any s Y (X%Y) HY.out.1 HY.out.2.1 HY.out.2.2).mono ?_;rintro e J ⟨g,p,q,odd,rfl,H,rfl,f,hn,hp,hq⟩;exact A _ _ ⟨⟨_,rfl,.mk p q odd rfl f hn hp hq⟩,u.trans (H.mono u.size),H,nn⟩
   |13,f,j=>?_
   |14,f,j=>obtain rfl:=oi f;obtain rfl:=oi j;obtain⟨u13,aa,rb⟩:=evr 50 (P:=fun u13=>∃v2,u13=.tuple #[.int .u64 ((Nat.gcd Y (X%Y):Nat):Int),v2]∧LR Y (X%Y) v2) (d 13 dd _ rfl);clear d l;refine zam rfl rfl fun K A=>?_;obtain⟨v2,rfl,h2⟩:=rb;go_simp;exact A _ _ ⟨rfl,u,zz,nn⟩
   |15,f,j=>obtain rfl:=oi f;obtain rfl:=oi j;obtain⟨u13,aa,rb⟩:=evr 50 (P:=fun u13=>∃v2,u13=.tuple #[.int .u64 ((Nat.gcd Y (X%Y):Nat):Int),v2]∧LR Y (X%Y) v2) (d 13 dd _ rfl);clear d l;refine zam rfl rfl fun K A=>?_;obtain⟨v2,rfl,h2⟩:=rb;go_simp;exact A _ _ ⟨h2,u,zz,nn⟩
   |16,f,j=>obtain rfl:=oi f;obtain rfl:=oi j;clear d l;refine zam rfl rfl fun K A=>?_;go_simp;exact A _ _ ⟨⟨_,rfl,u.size,TB.mk0 _ _ _ _ _ _ _⟩,u.trans ((zau _ _).mono u.size),zau _ _,nn⟩
   |17,f,j=>?_
   |n+18,f,j=>exact absurd j (by simp)
   all_goals
    obtain rfl:=oi f;obtain rfl:=oi j;simp only[uxw,uw,evt]at d l;have c0:=(u.cell (p:=⟨y,0,none⟩) lp).trans k0;have c1:=(u.cell (p:=⟨xa,0,none⟩) de).trans zd;have c2:=(u.cell (p:=⟨y,1,none⟩) lp).trans k1;have c3:=(u.cell (p:=⟨ya,0,none⟩) ee).trans ae;refine zam rfl rfl fun K A=>?_ <;> (go_simp;exact A _ _ ⟨(by first|rfl|exact d|exact d.1|exact d.2|(simp only[d];done)),u,zz,nn⟩)
  ·intro vs D c G S;clear S;have e0:vs 0=_:=c 0 dd;have e1:vs 1=_:=c 1 dd;have e2:vs 2=_:=c 2 dd;have e3:vs 3=_:=c 3 dd;have e4:vs 4=_:=c 4 dd;have e5:vs 5=_:=c 5 dd;have e6:vs 6=_:=c 6 dd;have e7:vs 7=_:=c 7 dd;have e8:vs 8=_:=c 8 dd;have e9:vs 9=_:=c 9 dd;have M:vs 10=_:=c 10 dd;have F:vs 11=_:=c 11 dd;obtain⟨u12,ea,ta⟩:∃u12,vs 12=u12∧(∃v2,u12=.tuple #[.int .u64 ((Nat.gcd Y (X%Y):Nat):Int),v2]∧LR Y (X%Y) v2):=⟨_,rfl,c 12 dd⟩;obtain⟨u13,aa,rb⟩:∃u13,vs 13=u13∧(∃v2,u13=.tuple #[.int .u64 ((Nat.gcd Y (X%Y):Nat):Int),v2]∧LR Y (X%Y) v2):=⟨_,rfl,c 13 dd⟩;have fa:vs 14=_:=c 14 dd;obtain⟨u15,ka,cf⟩:∃u15,vs 15=u15∧(LR Y (X%Y) u15):=⟨_,rfl,c 15 dd⟩;obtain⟨u16,ga,df⟩:∃u16,vs 16=u16∧(∃g,u16=.pointer (some ⟨g,0,none⟩)∧w4.heap.size≤g∧TB D g 0 0 0 0 false):=⟨_,rfl,c 16 dd⟩;have la:vs 17=_:=c 17 dd;simp only[zbx,Nat.reduceAdd,e0,e1,e2,e3,e4,e5,e6,e7,e8,e9,M,F,ea,aa,fa,ka,ga,la,Act.put,ll];clear c e0 e1 e2 e3 e4 e5 e6 e7 e8 e9 M F ea aa fa ka ga la;obtain⟨O,rfl,ob,TG⟩:=df;obtain⟨p,q,odd,rfl,f,hn,hp,hq⟩:=cf;obtain⟨lg,c0,c1,c2,c3,c4,z0,z1,z2,z3,z4⟩:=id TG;have bd:Hid ((odd=false→Nat.gcd Y (X%Y)+q*(X%Y)=p*Y)∧(odd=true→Nat.gcd Y (X%Y)+p*Y=q*(X%Y))):=⟨f,hn⟩;have HP:Hid (p<B):=hp;have HQ:Hid (q<B):=hq;have we:((p:Nat):Int)=(p:Int):=rfl;have HF:Hid (Below w4.heap.size w4 (((((D.setCell ⟨O,0,none⟩ (.int .u64 (p:Int))).setCell ⟨O,1,none⟩ (.int .u64 (q:Int))).setCell ⟨O,2,none⟩ (.int .u64 0)).setCell ⟨O,3,none⟩ (.int .u64 0)).setCell ⟨O,4,none⟩ (.bool odd))∧TB (((((D.setCell ⟨O,0,none⟩ (.int .u64 (p:Int))).setCell ⟨O,1,none⟩ (.int .u64 (q:Int))).setCell ⟨O,2,none⟩ (.int .u64 0)).setCell ⟨O,3,none⟩ (.int .u64 0)).setCell ⟨O,4,none⟩ (.bool odd)) O p q 0 0 odd):=⟨((((G.setCell (p:=⟨O,0,none⟩) ob _).setCell (p:=⟨O,1,none⟩) ob _).setCell (p:=⟨O,2,none⟩) ob _).setCell (p:=⟨O,3,none⟩) ob _).setCell (p:=⟨O,4,none⟩) ob _,((((TG.set0 p).set1 q).set2 0).set3 0).set4 odd⟩;clear f hn hp hq we TG ta rb G k0 k1 zd ae de ee wd td ud vd;go_upto_region 7 with fail;refine zac (fun w6=>Below w4.heap.size w4 w6∧TB w6 O p q 0 0 odd) HF.out ?_;clear HF lg c0 c1 c2 c3 c4 z0 z1 z2 z3 z4 D lp;rintro w6 ⟨B6,T6⟩;have fc:Hid (Below E.heap.size E w6):=ec.out.trans (B6.mono ec.out.size);have gb:Hid (ChC w6 y (.slice (some ⟨xa,0,none⟩) n mc) (.slice (some ⟨ya,0,none⟩) n nc) true (.slice (some ⟨ca,0,none⟩) I jb) (.slice (some ⟨da,0,none⟩) I kb) ba):=xc.out.below B6;have U6:=cd.out.below B6;have ja:Hid (I≤maxLen):=(by have:=U6.mm;show I≤maxLen;unfold maxLen;omega);have zf:=U6.mm;have jc:Hid (TB w6 O p q 0 0 odd):=T6;obtain⟨us,wu,eu⟩:=U6.ou;obtain⟨eg,wv,ev⟩:=U6.ov;have se:=wu.hc;have vf:=wv.hc;have AU:∀s,Below w6.heap.size w6 s→Arr .u64 B s ca 0 I∧num B s ca 0 I=W:=fun s h=>⟨(wu.below h).arr.1,(wu.below h).arr.2.1.trans eu⟩;have AV:∀s,Below w6.heap.size w6 s→Arr .u64 B s da 0 I∧num B s da 0 I=Z:=fun s h=>⟨(wv.below h).arr.1,(wv.below h).arr.2.1.trans ev⟩;have lp:=gb.out.lt;have k3:=gb.out.c3;have k4:=gb.out.c4;have lg:=T6.lt;have t0:=T6.c0;have t1:=T6.c1;clear U6 T6 B6 wu eu wv ev ec xc cd;refine zaq zbf [⟨66,[],[],[6]⟩,⟨67,[0],[0],[]⟩,⟨68,[1],[0,1],[]⟩,⟨69,[2],[0,1,2],[]⟩,⟨70,[],[],[6]⟩,⟨71,[4],[4],[]⟩,⟨72,[5],[4,5],[]⟩,⟨73,[6],[4,5,6],[]⟩,⟨74,[7],[4,5,6,7],[]⟩,⟨75,[3,8],[0,1,2,3,4,5,6,7,8],[]⟩,⟨76,[],[],[8]⟩,⟨77,[10],[10],[]⟩,⟨78,[9,11],[0,1,2,3,4,5,6,7,8,9,10,11],[]⟩,⟨79,[],[],[6]⟩,⟨80,[13],[13],[]⟩,⟨81,[14],[13,14],[]⟩,⟨82,[15],[13,14,15],[]⟩,⟨83,[],[],[6]⟩,⟨84,[17],[17],[]⟩,⟨85,[18],[17,18],[]⟩,⟨86,[19],[17,18,19],[]⟩,⟨87,[20],[17,18,19,20],[]⟩,⟨88,[12,16,21],[0,1,2,3,4,5,6,7,8,9,10,11,12,13,14,15,16,17,18,19,20,21],[]⟩,⟨89,[],[],[8]⟩,⟨90,[23],[23],[]⟩,⟨91,[22,24],[0,1,2,3,4,5,6,7,8,9,10,11,12,13,14,15,16,17,18,19,20,21,22,23,24],[]⟩,⟨92,[12,25],[0,1,2,3,4,5,6,7,8,9,10,11,12,13,14,15,16,17,18,19,20,21,22,23,24,25],[]⟩,⟨9,[0,1,2,3,4,5,6,7,8,9,10,11,12,13,14,15,16,17,18,19,20,21,22,23,24,25,26],[0,1,2,3,4,5,6,7,8,9,10,11,12,13,14,15,16,17,18,19,20,21,22,23,24,25,26],[]⟩] [] kfl 105 rfl kfl (fun (i:Nat) (v:Value) (N:World)=>match i with|0=>v=.pointer (some ⟨y,0,none⟩)|1=>v=.pointer (some ⟨y,0,none⟩)|2=>v=.pointer (some ⟨y,3,none⟩)|3=>v=.slice (some ⟨ca,0,none⟩) I (jb)|4=>v=.pointer (some ⟨y,0,none⟩)|5=>v=.pointer (some ⟨y,0,none⟩)|6=>v=.pointer (some ⟨y,3,none⟩)|7=>v=.slice (some ⟨ca,0,none⟩) I (jb)|8=>v=.int .i64 (((I:Nat):Int))|9=>∃k,k≤I∧Mag N v W k|10=>v=.pointer (some ⟨O,0,none⟩)|11=>v=.int .u64 (((p:Nat):Int))|12=>∃n,n≤161∧Mag N v (W*p) n|13=>v=.pointer (some ⟨y,0,none⟩)|14=>v=.pointer (some ⟨y,0,none⟩)|15=>v=.pointer (some ⟨y,4,none⟩)|16=>v=.slice (some ⟨da,0,none⟩) I (kb)|17=>v=.pointer (some ⟨y,0,none⟩)|18=>v=.pointer (some ⟨y,0,none⟩)|19=>v=.pointer (some ⟨y,4,none⟩)|20=>v=.slice (some ⟨da,0,none⟩) I (kb)|21=>v=.int .i64 (((I:Nat):Int))|22=>∃k,k≤I∧Mag N v Z k|23=>v=.pointer (some ⟨O,1,none⟩)|24=>v=.int .u64 (((q:Nat):Int))|25=>∃n,n≤161∧Mag N v (Z*q) n|26=>∃n,Mag N v (W*p+Z*q) n|27=>∃n,Mag N v (W*p+Z*q) n|_=>True) (fun _ N=>Below w6.heap.size w6 N) (fun s J=>Below s.heap.size s J) (zz).drew (fun i v s J h hx=>match i,h with|0,h=>h|1,h=>h|2,h=>h|3,h=>h|4,h=>h|5,h=>h|6,h=>h|7,h=>h|8,h=>h|10,h=>h|11,h=>h|13,h=>h|14,h=>h|15,h=>h|16,h=>h|17,h=>h|18,h=>h|19,h=>h|20,h=>h|21,h=>h|23,h=>h|24,h=>h|9,h=>by obtain⟨k,h1,h2⟩:=h;exact⟨k,h1,h2.below hx⟩|12,h=>by obtain⟨n,h1,h2⟩:=h;exact⟨n,h1,h2.below hx⟩|22,h=>by obtain⟨k,h1,h2⟩:=h;exact⟨k,h1,h2.below hx⟩|25,h=>by obtain⟨n,h1,h2⟩:=h;exact⟨n,h1,h2.below hx⟩|26,h=>by obtain⟨n,h⟩:=h;exact⟨n,h.below hx⟩|27,h=>by obtain⟨n,h⟩:=h;exact⟨n,h.below hx⟩|n+28,_=>trivial) ?_ ?_
   ·intro i o r f j L fr s u hL sa qa T d l;clear hL sa qa T
    match i,f,j with
    |0,f,j=>?_
    |1,f,j=>?_
    |2,f,j=>?_
    |3,f,j=>?_
    |4,f,j=>?_
    |5,f,j=>?_
    |6,f,j=>?_
    |7,f,j=>?_
    |8,f,j=>?_
    |9,f,j=>obtain rfl:=oi f;obtain rfl:=oi j;have e3:=evs 69 (d 3 dd _ rfl);have e8:=evs 74 (d 8 dd _ rfl);clear d l;refine zam rfl rfl fun K A=>?_;go_simp;refine(za3 s (some ⟨ca,0,none⟩) ca 0 I _ I (Sl.mk _ _ _) om ja.out ja.out (AU s u).1).mono ?_;rintro e J ⟨v4,k4,rfl,cc,eb,ra,z⟩;subst J;exact A _ _ ⟨⟨k4,ra,by rw[Nat.min_self,(AU s u).2]at z;exact z⟩,u,zz,nn⟩
    |10,f,j=>?_
    |11,f,j=>?_
    |12,f,j=>obtain rfl:=oi f;obtain rfl:=oi j;obtain⟨u9,e9,p9⟩:=evr 75 (P:=fun u9=>∃k,k≤I∧Mag s u9 W k) (d 9 dd _ rfl);have F:=evs 77 (d 11 dd _ rfl);clear d l;refine zam rfl rfl fun K A=>?_;obtain⟨k9,h9,p9⟩:=p9;go_simp;refine(zcy s _ _ k9 _ p9 HP.out om).mono ?_;rintro e J ⟨v4,n4,rfl,H,z,te⟩;exact A _ _ ⟨⟨n4,by omega,z⟩,u.trans (H.mono u.size),H,nn⟩
    |13,f,j=>?_
    |14,f,j=>?_
    |15,f,j=>?_
    |16,f,j=>?_
    |17,f,j=>?_
    |18,f,j=>?_
    |19,f,j=>?_
    |20,f,j=>?_
    |21,f,j=>?_
    |22,f,j=>obtain rfl:=oi f;obtain rfl:=oi j;have ga:=evs 82 (d 16 dd _ rfl);have ab:=evs 87 (d 21 dd _ rfl);clear d l;refine zam rfl rfl fun K A=>?_;go_simp;refine(za3 s (some ⟨da,0,none⟩) da 0 I _ I (Sl.mk _ _ _) om ja.out ja.out (AV s u).1).mono ?_;rintro e J ⟨v4,k4,rfl,cc,eb,ra,z⟩;subst J;exact A _ _ ⟨⟨k4,ra,by rw[Nat.min_self,(AV s u).2]at z;exact z⟩,u,zz,nn⟩
    |23,f,j=>?_
    |24,f,j=>?_
    |25,f,j=>obtain rfl:=oi f;obtain rfl:=oi j;obtain⟨u22,bb,sb⟩:=evr 88 (P:=fun u22=>∃k,k≤I∧Mag s u22 Z k) (d 22 dd _ rfl);have pa:=evs 90 (d 24 dd _ rfl);clear d l;refine zam rfl rfl fun K A=>?_;obtain⟨ye,sf,sb⟩:=sb;go_simp;refine(zcy s _ _ ye _ sb HQ.out om).mono ?_;rintro e J ⟨v4,n4,rfl,H,z,te⟩;exact A _ _ ⟨⟨n4,by omega,z⟩,u.trans (H.mono u.size),H,nn⟩
    |26,f,j=>obtain rfl:=oi f;obtain rfl:=oi j;obtain⟨u12,ea,ta⟩:=evr 78 (P:=fun u12=>∃n,n≤161∧Mag s u12 (W*p) n) (d 12 dd _ rfl);obtain⟨u25,db,ia⟩:=evr 91 (P:=fun u25=>∃n,n≤161∧Mag s u25 (Z*q) n) (d 25 dd _ rfl);clear d l;refine zam rfl rfl fun K A=>?_;obtain⟨xe,rf,ta⟩:=ta;obtain⟨af,uf,ia⟩:=ia;go_simp;refine(zdy s _ _ _ _ xe af ta ia om om).mono ?_;rintro e J ⟨v4,n4,rfl,H,z,-⟩;exact A _ _ ⟨⟨n4,z⟩,u.trans (H.mono u.size),H,nn⟩
    |27,f,j=>?_
    |n+28,f,j=>exact absurd j (by simp)
    all_goals
     obtain rfl:=oi f;obtain rfl:=oi j;simp only[uxw,uw,evt]at d l;have c0:=(u.cell (p:=⟨y,3,none⟩) lp).trans k3;have c1:=(u.cell (p:=⟨O,0,none⟩) lg).trans t0;have c2:=(u.cell (p:=⟨y,4,none⟩) lp).trans k4;have c3:=(u.cell (p:=⟨O,1,none⟩) lg).trans t1;refine zam rfl rfl fun K A=>?_ <;> (go_simp;exact A _ _ ⟨(by first|rfl|exact d|exact d.1|exact d.2|(simp only[d];done)),u,zz,nn⟩)
   ·intro vs D c G S;clear S;have e0:vs 0=_:=c 0 dd;have e1:vs 1=_:=c 1 dd;have e2:vs 2=_:=c 2 dd;have e3:vs 3=_:=c 3 dd;have e4:vs 4=_:=c 4 dd;have e5:vs 5=_:=c 5 dd;have e6:vs 6=_:=c 6 dd;have e7:vs 7=_:=c 7 dd;have e8:vs 8=_:=c 8 dd;obtain⟨u9,e9,p9⟩:∃u9,vs 9=u9∧(∃k,k≤I∧Mag D u9 W k):=⟨_,rfl,c 9 dd⟩;have M:vs 10=_:=c 10 dd;have F:vs 11=_:=c 11 dd;obtain⟨u12,ea,ta⟩:∃u12,vs 12=u12∧(∃n,n≤161∧Mag D u12 (W*p) n):=⟨_,rfl,c 12 dd⟩;have aa:vs 13=_:=c 13 dd;have fa:vs 14=_:=c 14 dd;have ka:vs 15=_:=c 15 dd;have ga:vs 16=_:=c 16 dd;have la:vs 17=_:=c 17 dd;have za:vs 18=_:=c 18 dd;have lb:vs 19=_:=c 19 dd;have mb:vs 20=_:=c 20 dd;have ab:vs 21=_:=c 21 dd;obtain⟨u22,bb,sb⟩:∃u22,vs 22=u22∧(∃k,k≤I∧Mag D u22 Z k):=⟨_,rfl,c 22 dd⟩;have cb:vs 23=_:=c 23 dd;have pa:vs 24=_:=c 24 dd;obtain⟨u25,db,ia⟩:∃u25,vs 25=u25∧(∃n,n≤161∧Mag D u25 (Z*q) n):=⟨_,rfl,c 25 dd⟩;obtain⟨u26,jd,ef⟩:∃u26,vs 26=u26∧(∃n,Mag D u26 (W*p+Z*q) n):=⟨_,rfl,c 26 dd⟩;obtain⟨u27,kd,ff⟩:∃u27,vs 27=u27∧(∃n,Mag D u27 (W*p+Z*q) n):=⟨_,rfl,c 27 dd⟩;simp only[zbx,Nat.reduceAdd,e0,e1,e2,e3,e4,e5,e6,e7,e8,e9,M,F,ea,aa,fa,ka,ga,la,za,lb,mb,ab,bb,cb,pa,db,jd,kd,Act.put,ll];clear c e0 e1 e2 e3 e4 e5 e6 e7 e8 e9 M F ea aa fa ka ga la za lb mb ab bb cb pa db jd kd;obtain⟨sc,ua⟩:=ff;obtain⟨gd,nf,cg,hd,rfl,-⟩:=id ua;clear p9 ta sb ia ef AU AV;have dc:Below E.heap.size E D:=fc.out.trans (G.mono fc.out.size);have C7:=gb.out.below G;have T7:=jc.out.below G jc.out.lt;obtain⟨w7,yd⟩:∃x,x=D:=⟨_,rfl⟩;rw[←yd]at ua dc C7 T7⊢;clear yd G fc gb jc lp k3 k4 lg t0 t1 D;have zc:Hid (Mag w7 (.slice gd sc hd) (W*p+Z*q) sc):=ua;have vc:Hid (Below E.heap.size E w7):=dc;have k5:=C7.c5;have lp:=C7.lt;have lg:=T7.lt;have t4:=T7.c4;have yc:Hid (0<Nat.gcd Y (X%Y)∧Nat.gcd Y (X%Y)<B):=⟨Nat.gcd_pos_of_pos_left _ HY.out.1,Nat.lt_of_le_of_lt (Nat.le_of_dvd HY.out.1 (Nat.gcd_dvd_left _ _)) HY.out.2.1⟩;clear ua dc C7 T7;go_upto_region 8 with fail;refine zaq zbf [⟨93,[],[],[7]⟩,⟨94,[0],[0],[]⟩,⟨95,[1],[0,1],[]⟩,⟨96,[],[],[6]⟩,⟨97,[3],[3],[]⟩,⟨98,[4],[3,4],[]⟩,⟨99,[5],[3,4,5],[]⟩,⟨100,[],[],[8]⟩,⟨101,[7],[7],[]⟩,⟨102,[6,8],[3,4,5,6,7,8],[]⟩,⟨103,[],[],[9]⟩,⟨104,[2,9,10],[0,1,2,3,4,5,6,7,8,9,10],[]⟩] [] kfl 105 rfl kfl (fun (i:Nat) (v:Value) (N:World)=>match i with|0=>v=.int .u64 (((Nat.gcd Y (X%Y):Nat):Int))|1=>Mag N v (Nat.gcd Y (X%Y)) 1|2=>IsInt N v (sgn false (Nat.gcd Y (X%Y)))|3=>v=.pointer (some ⟨y,0,none⟩)|4=>v=.pointer (some ⟨y,0,none⟩)|5=>v=.pointer (some ⟨y,5,none⟩)|6=>v=.bool (ba)|7=>v=.pointer (some ⟨O,4,none⟩)|8=>v=.bool (odd)|9=>v=.bool ((ba) !=(odd))|10=>v=.slice gd sc (hd)|11=>IsInt N v (sgn (ba !=odd) (W*p+Z*q))|_=>True) (fun _ N=>Below w7.heap.size w7 N) (fun s J=>Below s.heap.size s J) (zz).drew (fun i v s J h hx=>match i,h with|0,h=>h|3,h=>h|4,h=>h|5,h=>h|6,h=>h|7,h=>h|8,h=>h|9,h=>h|10,h=>h|1,h=>h.below hx|2,h=>h.below hx|11,h=>h.below hx|n+12,_=>trivial) ?_ ?_
    ·intro i o r f j L fr s u hL sa qa T d l;clear hL sa qa T
     match i,f,j with
     |0,f,j=>?_
     |1,f,j=>obtain rfl:=oi f;obtain rfl:=oi j;have e0:=evs 93 (d 0 dd _ rfl);clear d l;refine zam rfl rfl fun K A=>?_;go_simp;exact A _ _ ⟨mag_one _ _ yc.out.1 yc.out.2,u.trans ((zau _ _).mono u.size),zau _ _,nn⟩
     |2,f,j=>obtain rfl:=oi f;obtain rfl:=oi j;obtain⟨u1,e1,p1⟩:=evr 94 (P:=fun u1=>Mag s u1 (Nat.gcd Y (X%Y)) 1) (d 1 dd _ rfl);clear d l;refine zam rfl rfl fun K A=>?_;go_simp;refine(zav s false _ _ 1 p1).mono ?_;rintro e J ⟨v4,rfl,H,z⟩;exact A _ _ ⟨z,u.trans (H.mono u.size),H,nn⟩
     |3,f,j=>?_
     |4,f,j=>?_
     |5,f,j=>?_
     |6,f,j=>?_
     |7,f,j=>?_
     |8,f,j=>?_
     |9,f,j=>?_
     |10,f,j=>?_
     |11,f,j=>obtain rfl:=oi f;obtain rfl:=oi j;have e9:=evs 102 (d 9 dd _ rfl);have M:=evs 103 (d 10 dd _ rfl);clear d l;refine zam rfl rfl fun K A=>?_;go_simp;refine(zav s (ba !=odd) _ _ _ (zc.out.below u)).mono ?_;rintro e J ⟨v4,rfl,H,z⟩;exact A _ _ ⟨z,u.trans (H.mono u.size),H,nn⟩
     |n+12,f,j=>exact absurd j (by simp)
     all_goals
      obtain rfl:=oi f;obtain rfl:=oi j;simp only[uxw,uw,evt]at d l;have c0:=(u.cell (p:=⟨y,5,none⟩) lp).trans k5;have c1:=(u.cell (p:=⟨O,4,none⟩) lg).trans t4;refine zam rfl rfl fun K A=>?_ <;> (go_simp;exact A _ _ ⟨rfl,u,zz,nn⟩)
    ·intro vs D c G S;clear S;have e0:vs 0=_:=c 0 dd;obtain⟨u1,e1,p1⟩:∃u1,vs 1=u1∧(Mag D u1 (Nat.gcd Y (X%Y)) 1):=⟨_,rfl,c 1 dd⟩;obtain⟨u2,e2,p2⟩:∃u2,vs 2=u2∧(IsInt D u2 (sgn false (Nat.gcd Y (X%Y)))):=⟨_,rfl,c 2 dd⟩;have e3:vs 3=_:=c 3 dd;have e4:vs 4=_:=c 4 dd;have e5:vs 5=_:=c 5 dd;have e6:vs 6=_:=c 6 dd;have e7:vs 7=_:=c 7 dd;have e8:vs 8=_:=c 8 dd;have e9:vs 9=_:=c 9 dd;have M:vs 10=_:=c 10 dd;obtain⟨u11,F,uc⟩:∃u11,vs 11=u11∧(IsInt D u11 (sgn (ba !=odd) (W*p+Z*q))):=⟨_,rfl,c 11 dd⟩;simp only[zbx,Nat.reduceAdd,e0,e1,e2,e3,e4,e5,e6,e7,e8,e9,M,F,Act.put,ll];clear c e0 e1 e2 e3 e4 e5 e6 e7 e8 e9 M F;obtain⟨s0,a0,n9,c0,rfl⟩:=p2.form;obtain⟨s1,a1,n8,c1,rfl⟩:=uc.form;have BW:Below E.heap.size E D:=vc.out.trans (G.mono vc.out.size);have T0:=TI.below hc.out BW;have T1:=TI.below ic.out BW;have qb:y1≠y0:=(by have:=HO.out;omega);have K1:Keep D (za9 D y0 (.int .i64 s0) (.slice a0 n9 c0)):=T0.keep _ _;have K2:Keep (za9 D y0 (.int .i64 s0) (.slice a0 n9 c0)) (za9 (za9 D y0 (.int .i64 s0) (.slice a0 n9 c0)) y1 (.int .i64 s1) (.slice a1 n8 c1)):=(T1.other2 _ _ qb).keep _ _;have BF:Below w.heap.size w (za9 (za9 D y0 (.int .i64 s0) (.slice a0 n9 c0)) y1 (.int .i64 s1) (.slice a1 n8 c1)):=zaf (zaf (wa.out.trans (BW.mono wa.out.size)) HO.out.1 _ _) (by have:=HO.out;omega) _ _;have ie:Hid (DesPost w a b (.returned (.tuple #[.agg #[.int .i64 s0,.slice a0 n9 c0],.agg #[.int .i64 s1,.slice a1 n8 c1]])) (za9 (za9 D y0 (.int .i64 s0) (.slice a0 n9 c0)) y1 (.int .i64 s1) (.slice a1 n8 c1))):=(by obtain⟨e1,t,e2⟩:=_root_.Rad.bez_turn (p:=p) (q:=q) (odd:=odd) gc.out rfl bd.out.1 bd.out.2;have h1:=(p2.keep K1).keep K2;have h2:=(uc.keep K1).keep K2;have h3:sgn false (Nat.gcd Y (X%Y))=((Nat.gcd a b:Nat):Int):=(by rw[zge,←e1];rfl);rw[h3]at h1;have e3:p*W+q*Z=W*p+Z*q:=(by rw[Nat.mul_comm p,Nat.mul_comm q]);rw[e3,e1]at e2;refine .mk _ _ (sgn (ba !=odd) (W*p+Z*q)) t rfl BF h1 h2 (by rw[zge];exact e2) ?_;have h4:=gc.out.ule HY.out.1 rd;have pe:=gc.out.vle HY.out.1;have h5:(sgn (ba !=odd) (W*p+Z*q)).natAbs=W*p+Z*q:=(by rw[zge];split <;> omega);have h6:=Nat.mul_le_mul h4 (Nat.le_of_lt HP.out);have h7:=Nat.mul_le_mul pe (Nat.le_of_lt HQ.out);have h8:=Nat.mul_lt_mul_of_pos_right yb.out za2;have h9:B^159=B^157*B*B:=(by rw[←Nat.pow_succ,←Nat.pow_succ]);have qf:B^157*B*2≤B^157*B*B:=Nat.mul_le_mul_left _ dd;rw[h5,h9];omega);obtain⟨l0,gf,hf,je,ke⟩:=ed.out.below BW;obtain⟨l1,jf,kf,me,oe⟩:=fd.out.below BW;clear p1 p2 uc T0 T1 K1 K2 BF BW G hc ic;have bf:=qb.symm;go_wp2;refine bodyPost_ret (v:= .tuple #[.agg #[.int .i64 s0,.slice a0 n9 c0],.agg #[.int .i64 s1,.slice a1 n8 c1]]) rs rfl ?_;exact ie.out
end Go.Proofs.YtjlkplidpdhgbaaGreatDoor
namespace Go.Proofs.YtjlkplidpdhgbaaGreatDoor
open Go Go.Proofs Go.RowKit Go.Rad
theorem share_ne (w:World) (va vg:Value) (a g:Int) (S:IsInt w va a) (T:IsInt w vg g) (h0:g≠0) (hA:a.natAbs<B^159) (hG:g.natAbs<B^159):
 Calls Tryz.prog 94 #[va,vg] w fun e w'=>∃u,e=.returned u∧Below w.heap.size w w'∧IsInt w' u (a / g):=by
 obtain⟨s,J,n,c,rfl⟩:=S.form;obtain⟨t,bo,m,d,rfl⟩:=T.form;have HA:Hid _:=hA;have HG:Hid _:=hG;have HI:Hid (IsInt w _ a):=S;have HJ:Hid (IsInt w _ g):=T;clear hA hG S T;go_enter Tryz.func94,Tryz.ntmps94;go_upto_region 1 with fail;refine zac (fun E=>Below w.heap.size w E∧FB E w.heap.size (.int .i64 s) (.slice J n c)∧FB E (w.heap.size+1) (.int .i64 t) (.slice bo m d)∧FB E (w.heap.size+1+1) (.int .i64 0) (.slice none 0 0)) (fb3 w _ _ _ _ _ _ _ _ _ rfl) ?_;rintro E ⟨G,O,P,k⟩;obtain⟨L,H⟩:∃b,b=w.heap.size+1+1:=⟨_,rfl⟩;obtain⟨b3,l⟩:∃b,b=w.heap.size+1:=⟨_,rfl⟩;obtain⟨b2,f⟩:∃b,b=w.heap.size:=⟨_,rfl⟩;rw[←H]at k⊢;rw[←l]at P⊢;rw[←f]at O⊢;have HO:Hid (w.heap.size≤L∧b2<L∧b3<L):=(by show _∧_∧_;omega);have o:Hid _:=G;have q:Hid _:=O;have r:Hid _:=P;have x:Hid _:=k;clear f l H G k;obtain⟨l2,V,W,-,-⟩:=O;obtain⟨l3,X,Y,-,-⟩:=P;go_wp2_with (go_at_call 97;fail);refine(isOne_any E _ _ (HJ.out.below o.out)).mono ?_;rintro e w2 ⟨rfl,f⟩;obtain⟨l2,V,W,-,-⟩:=q.out.below f;obtain⟨l3,X,Y,-,-⟩:=r.out.below f;have k:=x.out.below f;have j:Hid _:=o.out.trans (f.mono o.out.size);by_cases I:g=1
 ·subst I;rw[decide_eq_true (rfl:(1:Int)=1)];have y:Hid (IsInt _ _ _):=(HI.out.below j.out).keep (k.keep (.int .i64 s) (.slice J n c));have p:Hid _:=zaf j.out HO.out.1 (.int .i64 s) (.slice J n c);obtain⟨l4,Z,aa,ba,ca⟩:=k;clear f q r x o j;go_wp2;refine bodyPost_ret (v:= .agg #[.int .i64 s,.slice J n c]) rs rfl ?_;exact⟨_,rfl,p.out,by rw[Int.ediv_one];exact y.out⟩
 ·rw[decide_eq_false I];have F:Hid _:=k;have CC:=cut_any w2 _ _ a g 159 (HI.out.below j.out) (HJ.out.below j.out) om HA.out HG.out dd;clear f q r x o k;go_wp2_with (go_at_call 90;fail);refine CC.mono ?_;rintro e w3 ⟨vq,vr,rfl,l,U,hr⟩;obtain⟨D,z,C,A,rfl⟩:=U.form;obtain⟨s6,a6,n6,c6,rfl⟩:=hr.form;clear CC hr;go_upto_region 4 with fail;have k:=F.out.below l;have N:=j.out.trans (l.mono j.out.size);refine zac (fun M=>Below w.heap.size w M∧FB M L (.int .i64 0) (.slice none 0 0)∧FB M w3.heap.size (.int .i64 D) (.slice z C A)∧IsInt M (.agg #[.int .i64 D,.slice z C A]) (a / g)) ?_ ?_
  ·obtain⟨R,h2,h3⟩:=fb2 w3 (.int .i64 D) (.slice z C A) (.int .i64 s6) (.slice a6 n6 c6) 24 24 rfl;exact⟨N.trans (R.mono N.size),k.below R,h2,U.below R⟩
  rintro w4 ⟨B4,k,F5,I5⟩;have y:Hid (IsInt _ _ _):=I5.keep (k.keep (.int .i64 D) (.slice z C A));have p:Hid _:=zaf B4 HO.out.1 (.int .i64 D) (.slice z C A);obtain⟨l4,Z,aa,ba,ca⟩:=k;obtain⟨l5,da,ea,-,-⟩:=F5;clear l j N B4 I5 U;go_wp2;refine bodyPost_ret (v:= .agg #[.int .i64 D,.slice z C A]) rs rfl ?_;exact⟨_,rfl,p.out,y.out⟩
end Go.Proofs.YtjlkplidpdhgbaaGreatDoor
