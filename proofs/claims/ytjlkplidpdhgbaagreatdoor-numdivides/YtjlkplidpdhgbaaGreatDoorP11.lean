/- A part of the proof: H5, H3. -/
import Derived.Test.YtjlkplidpdhgbaaGreatDoorP00
import Derived.Test.YtjlkplidpdhgbaaGreatDoorP10
import Derived.Deep.RegionLaw
import Derived.Test.YtjlkplidpdhgbaaGreatDoorP01
import Derived.Test.YtjlkplidpdhgbaaGreatDoorP04
set_option linter.all false
set_option maxRecDepth 10000
set_option maxHeartbeats 4000000
namespace Go.Proofs.YtjlkplidpdhgbaaGreatDoor
open Go Go.Proofs Go.RowKit Go.Rad
open _root_.Rad (TurnOk Rl)
structure UV (base:Nat) (w:World) (p bx by' m U V bu cu bv cv:Nat):Prop where
 ou:∃us,Wr w base bu m cu us∧lv B us=U
 ov:∃vs,Wr w base bv m cv vs∧lv B vs=V
 uv:bu≠bv
 up:bu≠p
 vp:bv≠p
 ux:bu≠bx
 uy:bu≠by'
 vx:bv≠bx
 vy:bv≠by'
 m0:0<m
 mm:m<160
 top:B^(m-1)≤V∨m=1
theorem UV.blocks {base:Nat} {w w':World} {p g b m U V c j d k:Nat} (h:UV base w p g b m U V c j d k) (y:w'.heap[c]? =w.heap[c]?) (z:w'.heap[d]? =w.heap[d]?):UV base w' p g b m U V c j d k:=by obtain⟨⟨E,A,B⟩,⟨vs,C,D⟩,l,n,o,q,r,s,t,u,x,f⟩:=h;exact⟨⟨E,A.block y,B⟩,⟨vs,C.block z,D⟩,l,n,o,q,r,s,t,u,x,f⟩
theorem UV.ltu {base:Nat} {w:World} {p f b m U V c g d j:Nat} (h:UV base w p f b m U V c g d j):c<w.heap.size∧d<w.heap.size:=by obtain⟨⟨q,k,n⟩,⟨vs,l,o⟩,r⟩:=h;exact⟨k.lt,l.lt⟩
theorem UV.below {base:Nat} {w w':World} {p f b m U V c g d j:Nat} (h:UV base w p f b m U V c g d j) (k:Below w.heap.size w w'):UV base w' p f b m U V c g d j:=h.blocks (k.block _ h.ltu.1) (k.block _ h.ltu.2)
theorem UV.other {base:Nat} {w:World} {p g b m U V d j f k c:Nat} (h:UV base w p g b m U V d j f k) (l:d≠c) (n:f≠c) (i:Nat) (v:Value):UV base (w.setCell ⟨c,i,none⟩ v) p g b m U V d j f k:=h.blocks (heap_setCell_other w ⟨c,i,none⟩ d v (by simpa using l)) (heap_setCell_other w ⟨c,i,none⟩ f v (by simpa using n))
theorem UV.swap {base:Nat} {w:World} {p f b m U V c g d j:Nat} (h:UV base w p f b m U V c g d j):UV base w p b f m U V c g d j:=⟨h.ou,h.ov,h.uv,h.up,h.vp,h.uy,h.ux,h.vy,h.vx,h.m0,h.mm,h.top⟩
theorem UV.chgS {base:Nat} {w w':World} {p c b m U V d g f j:Nat} (h:UV base w p c b m U V d g f j) (k:ChgS w w' (S2 c b)):UV base w' p c b m U V d g f j:=h.blocks (k.block _ h.ltu.1 (fun i hi=>by have:=h.ux;have:=h.uy;rcases hi with h|h <;> omega)) (k.block _ h.ltu.2 (fun i hi=>by have:=h.vx;have:=h.vy;rcases hi with h|h <;> omega))
theorem zcs {k:IntKind} {β:Nat} {w w':World} {b o n:Nat} (h:Arr k β w b o n) (e:w'.heap[b]? =w.heap[b]?):Arr k β w' b o n∧num β w' b o n=num β w b o n:=by have c:∀i,w'.cell? ⟨b,i,none⟩=w.cell? ⟨b,i,none⟩:=fun i=>World.cell?_of_block e;exact⟨fun i hi=>by rw[zab (c _),c];exact h i hi,zaz fun i hi=>zab (c _)⟩
theorem XY.blocks {base:Nat} {w w':World} {p n X Y c k b l:Nat} (h:XY base w p n X Y c k b l) (d:w'.heap[c]? =w.heap[c]?) (f:w'.heap[b]? =w.heap[b]?):XY base w' p n X Y c k b l:=by obtain⟨y,z,A,B,C,D,g,j,q,r,m,o,F,G,s,t,u,x,E⟩:=h;exact⟨y,z,A,B,C,D,(zcs g d).1,(zcs j f).1,fun i hi=>(World.frozen?_of_block d).trans (q i hi),fun i hi=>(World.frozen?_of_block f).trans (r i hi),(zcs g d).2.trans m,(zcs j f).2.trans o,F,G,s,t,u,x,E⟩
theorem TB.blocks {w w':World} {b p q r s:Nat} {odd:Bool} (h:TB w b p q r s odd) (t:w.heap.size≤w'.heap.size) (e:w'.heap[b]? =w.heap[b]?):TB w' b p q r s odd:=by
 obtain⟨lt,c,d,f,g,j,k,l,m,n,o⟩:=h;exact⟨Nat.lt_of_lt_of_le lt t,(World.cell?_of_block e).trans c,(World.cell?_of_block e).trans d,(World.cell?_of_block e).trans f,(World.cell?_of_block e).trans g,(World.cell?_of_block e).trans j,
  (World.frozen?_of_block e).trans k,(World.frozen?_of_block e).trans l,(World.frozen?_of_block e).trans m,(World.frozen?_of_block e).trans n,(World.frozen?_of_block e).trans o⟩
inductive TMid (base:Nat) (w:World) (p bt n X Y bx cx by' cy U V P Q R S:Nat) (mi odd:Bool) (w':World):Prop
 |mk (m bu cu bv cv:Nat) (hb:Below base w w') (c:ChC w' p (.slice (some ⟨bx,0,none⟩) n cx) (.slice (some ⟨by',0,none⟩) n cy) true (.slice (some ⟨bu,0,none⟩) m cu) (.slice (some ⟨bv,0,none⟩) m cv) mi)
  (r:XY base w' p n X Y bx cx by' cy) (u:UV base w' p bx by' m U V bu cu bv cv) (t:TB w' bt P Q R S odd) (hu:bu≠bt) (hv:bv≠bt)
theorem TMid.of_append {base:Nat} {w j H w4 I x W:World} {d u n X Y t O b P m J C p q r s o cu g cv h l c D f L:Nat} {mi odd:Bool} {G vs:List Nat} (hB:Below base w j)
 (hC:ChC j d (.slice (some ⟨t,0,none⟩) n O) (.slice (some ⟨b,0,none⟩) n P) true (.slice (some ⟨o,0,none⟩) m cu) (.slice (some ⟨g,0,none⟩) m cv) mi) (y:XY base j d n X Y t O b P) (hT:TB j u p q r s odd)
 (hu:Wr j base o m cu G) (hv:Wr j base g m cv vs) (hN:o≠g∧o≠d∧g≠d∧o≠t∧o≠b∧g≠t∧g≠b) (T:o≠u∧g≠u∧d≠u) (eu:lv B G+B^m*h=J) (ev:lv B vs+B^m*l=C) (U:0<l) (hm:m+1<160) (S:base≤j.heap.size)
 (R:Below j.heap.size j H) (A1:Wr w4 base c (m+1) D (G++[h])) (A2:Below base H w4) (A3:c=o∨c=H.heap.size) (A4:∀k,k<H.heap.size→k≠o→w4.heap[k]? =H.heap[k]?)
 (M:Below w4.heap.size w4 I) (D1:Wr x base f (m+1) L (vs++[l])) (D2:Below base I x) (D3:f=g∨f=I.heap.size) (D4:∀k,k<I.heap.size→k≠g→x.heap[k]? =I.heap[k]?)
 (hW:W=(x.setCell ⟨d,3,none⟩ (.slice (some ⟨c,0,none⟩) (m+1:Nat) D)).setCell ⟨d,4,none⟩ (.slice (some ⟨f,0,none⟩) (m+1:Nat) L)):
 TMid base w d u n X Y t O b P J C p q r s mi odd W:=by
 obtain⟨n1,n2,n3,n4,n5,n6,n7⟩:=hN;obtain⟨t1,t2,t3⟩:=T;have s1:=R.size;have s2:=A2.size;have s3:=M.size;have s4:=D2.size;have lu:=hu.lt;have aa:=hv.lt;have N:∀k,k<j.heap.size→k≠o→k≠g→x.heap[k]? =j.heap[k]?:=fun k h1 h2 h3=>(D4 k om h3).trans ((M.block k om).trans ((A4 k om h2).trans (R.block k h1)));have V:=A1.lt;have F:c≠g:=(by rcases A3 with h|h <;> omega);have E:c≠f:=(by rcases D3 with h|h <;> omega);have E1:Wr x base c (m+1) D (G++[h]):=A1.block ((D4 c om F).trans (M.block c V));have lx:=y.ax.lt y.n0;have ly:=y.ay.lt y.n0;have lp:=hC.lt;have lt:=hT.lt;have C5:=hC.block om (N d lp n2.symm n3.symm);have R5:=y.blocks (N t lx n4.symm n6.symm) (N b ly n5.symm n7.symm);have T5:=hT.blocks om (N u lt t1.symm t2.symm);have B5:Below base w x:=hB.trans ((R.mono S).trans (A2.trans ((M.mono om).trans D2)));have z:c≠d∧c≠t∧c≠b∧c≠u:=(by rcases A3 with h|h <;> subst h <;> refine⟨?_,?_,?_,?_⟩ <;> omega);have A:f≠d∧f≠t∧f≠b∧f≠u:=(by rcases D3 with h|h <;> subst h <;> refine⟨?_,?_,?_,?_⟩ <;> omega);have eU:lv B (G++[h])=J:=(by rw[zbi,hu.hn];exact eu);have eV:lv B (vs++[l])=C:=(by rw[zbi,hv.hn];exact ev);have Z:B^(m+1-1)≤C:=(by have:=Nat.le_mul_of_pos_right (B^m) U;rw[Nat.add_sub_cancel];omega);have U5:UV base x d t b (m+1) J C c D f L:=⟨⟨_,E1,eU⟩,⟨_,D1,eV⟩,E,z.1,A.1,z.2.1,z.2.2.1,A.2.1,A.2.2.1,by omega,by omega,.inl Z⟩;subst hW;exact .mk (m+1) c D f L ((B5.setCell (p:=⟨d,3,none⟩) y.hp _).setCell (p:=⟨d,4,none⟩) y.hp _) ((C5.set3 _).set4 _) ((R5.other 3 _).other 4 _)
  ((U5.other z.1 A.1 3 _).other z.1 A.1 4 _) ((T5.other t3.symm _).other t3.symm _) z.2.2.2 A.2.2.2
theorem after1 {c b w4:World} {base f d j g m p q:Nat} {xs vs:List Nat} (n:Below c.heap.size c b) (s:Wr w4 base f (m+1) p xs) (o:Below base b w4) (t:f=d∨f=b.heap.size) (l:∀k,k<b.heap.size→k≠d→w4.heap[k]? =b.heap[k]?)
 (x:d≠g) (y:d≠j) (A:g<c.heap.size) (r:Wr c base j m q vs):
 w4.heap[g]? =c.heap[g]?∧Wr w4 base j m q vs∧c.heap.size≤w4.heap.size∧(∀k,c.heap.size≤k→k<b.heap.size→w4.heap[k]? =b.heap[k]?∨k=d)∧Hid (Below c.heap.size c b∧Wr w4 base f (m+1) p xs∧Below base b w4∧(f=d∨f=b.heap.size)∧(∀k,k<b.heap.size→k≠d→w4.heap[k]? =b.heap[k]?)):=by
 have B:=n.size;have C:=o.size;have z:=r.lt;exact⟨(l g om x.symm).trans (n.block g A),r.block ((l j om y.symm).trans (n.block j z)),by omega,fun k _ u=>(Classical.em (k=d)).elim .inr fun h=> .inl (l k u h),⟨n,s,o,t,l⟩⟩
theorem after2 {w4 b c:World} {base d g f m n:Nat} {xs:List Nat} (j:Below w4.heap.size w4 b) (o:Wr c base d (m+1) n xs) (p:Below base b c) (q:d=g∨d=b.heap.size) (l:∀k,k<b.heap.size→k≠g→c.heap[k]? =b.heap[k]?)
 (r:g≠f) (s:f<w4.heap.size):
 c.heap[f]? =w4.heap[f]?∧Hid (Below w4.heap.size w4 b∧Wr c base d (m+1) n xs∧Below base b c∧(d=g∨d=b.heap.size)∧(∀k,k<b.heap.size→k≠g→c.heap[k]? =b.heap[k]?)):=by
 have t:=j.size;exact⟨(l f om r.symm).trans (j.block f s),⟨j,o,p,q,l⟩⟩
inductive ChF (base:Nat) (w:World) (p n X Y a b:Nat):Prop
 |mk (bx cx by' cy m U V bu cu bv cv:Nat) (mi:Bool) (c:ChC w p (.slice (some ⟨bx,0,none⟩) n cx) (.slice (some ⟨by',0,none⟩) n cy) true (.slice (some ⟨bu,0,none⟩) m cu) (.slice (some ⟨bv,0,none⟩) m cv) mi)
  (r:XY base w p n X Y bx cx by' cy) (u:UV base w p bx by' m U V bu cu bv cv) (l:Rl a b X Y U V mi)
inductive TurnF (base:Nat) (w:World) (pc n X Y a b:Nat) (e:Ending) (w':World):Prop
 |mk (x y:Nat) (he:e=.returned (.tuple #[])) (hb:Below base w w') (hc:ChF base w' pc n x y a b) (h0:0<y) (h1:y<x) (h2:x≤Y)
inductive SpQ (base:Nat) (w1:World) (bu cu bv cv m U V:Nat) (a4 a5:Value) (wx:World):Prop
 |mk (h l:Nat) (e4:a4=.int .u64 h) (e5:a5=.int .u64 l) (ch:ChgS w1 wx (S2 bu bv)) (wu:∃us,Wr wx base bu m cu us∧lv B us+B^m*h=U) (wv:∃vs,Wr wx base bv m cv vs∧lv B vs+B^m*l=V)
  (hh:h<B) (hl:l<B)
theorem turnF_any (base:Nat) (w:World) (j n X Y a b p q r s:Nat) (odd:Bool) (hC:ChF base w j n X Y a b) (ht:TurnOk X Y p q r s odd) (hq:0<q) (pa:base≤w.heap.size) (tb:b<B^157):
 Calls Tryz.prog 151 #[.pointer (some ⟨j,0,none⟩),.agg #[.int .u64 p,.int .u64 q,.int .u64 r,.int .u64 s,.bool odd]] w fun e w'=>TurnF base w j n X Y a b e w':=by
 obtain⟨f,E,c,F,m,U,V,A,cu,D,cv,mi,C,R,UV,L⟩:=hC;rcases ht with h|⟨_,nc,x,y,he,ho,h0,h1,h2,pr,qs⟩
 ·omega
 obtain⟨p1,q1,r1,s1⟩:p<B∧q<B∧r<B∧s<B:=(by unfold B;omega);obtain⟨pB,rB⟩:p+q+1<B∧r+s+1<B:=(by unfold B;omega);have L':=L.turn he ho (_root_.Rad.turn_gcd he ho) pr qs om;have HL:Hid (Rl a b x y (p*U+q*V) (r*U+s*V) (mi !=odd)):=L';have va:Hid (0<y∧y<x∧x≤Y):=⟨h0,h1,h2⟩;have HE:Hid _:=he;have HO:Hid _:=ho;have O:Hid (base≤w.heap.size):=pa;have la:Hid (r*U+s*V<B^157∧(U≤V∨V=0)∧p*U+q*V≤r*U+s*V∧V≤r*U+s*V):=by
  have h3:=L'.vle om;refine⟨Nat.lt_of_le_of_lt h3 tb,?_,?_,?_⟩
  ·rcases L.o with h|h
   ·exact .inl h.1
   ·exact .inr h.2
  ·rcases L'.o with h|h
   ·exact h.1
   ·exact Nat.add_le_add (Nat.mul_le_mul_right _ pr) (Nat.mul_le_mul_right _ qs)
  ·have:=Nat.le_mul_of_pos_left V (show 0<s by omega);omega
 obtain⟨U',rb⟩:∃x,p*U+q*V=x:=⟨_,rfl⟩;obtain⟨V',sb⟩:∃x,r*U+s*V=x:=⟨_,rfl⟩;rw[rb,sb]at HL la;clear he ho h0 h1 h2 hq nc pa L L' tb;go_enter Tryz.func151,Tryz.ntmps151;go_upto_region 1 with fail;refine zac (fun o=>Below w.heap.size w o∧TB o w.heap.size p q r s odd) ⟨zau _ _,TB.mk0 _ _ _ _ _ _ _⟩ ?_;rintro o ⟨na,T⟩;have C1:=C.below na;have R1:=R.below na;have U1:=UV.below na;have hl:=C.lt;have lx:=R.ax.lt R.n0;have ly:=R.ay.lt R.n0;have lu:=UV.ltu;have N:Hid (Below base w o):=na.mono O.out;obtain⟨G,wa⟩:∃G,w.heap.size=G:=⟨_,rfl⟩;have za:base≤G:=(by rw[←wa];exact O.out);rw[wa]at T hl lx ly lu;have da:Hid (base≤G):=za;have HT:Hid (TB o G p q r s odd):=T;have HC:Hid (ChC o j (.slice (some ⟨f,0,none⟩) n E) (.slice (some ⟨c,0,none⟩) n F) true (.slice (some ⟨A,0,none⟩) m cu) (.slice (some ⟨D,0,none⟩) m cv) mi):=C1;have HR:Hid (XY base o j n X Y f E c F):=R1;have HU:Hid (Go.Proofs.YtjlkplidpdhgbaaGreatDoor.UV base o j f c m U V A cu D cv):=U1;obtain⟨lp,k0,k1,k2,k3,k4,k5,z0,z1,-,z3,z4,z5⟩:=id C1;obtain⟨lt,t0,t1,t2,t3,t4,y0,y1,y2,y3,y4⟩:=id T;rw[wa];have u:Hid (j≠G∧f≠G∧c≠G∧A≠G∧D≠G):=(by show _∧_∧_∧_∧_;omega);clear C R UV C1 R1 U1 T na wa za hl lx ly lu;obtain⟨us,xa,eu⟩:=HU.out.ou;obtain⟨vs,ya,ev⟩:=HU.out.ov;have CS:=spread_any base o.drew A cu D cv m p q r s odd us vs (xa.below (zad _)) (ya.below (zad _)) HU.out.uv pB rB HU.out.m0;have gc:Hid _:=xa;have hc:Hid _:=ya;have fc:Hid (lv B us=U∧lv B vs=V):=⟨eu,ev⟩;have gb:=xa.arr.2.1;have ib:=ya.arr.2.1;rw[eu]at gb;rw[ev]at ib;have pb:Hid (∀d h l,ChgS o.drew d (S2 A D)→num B d A 0 m+B^m*h=p*num B o.drew A 0 m+q*num B o.drew D 0 m→num B d D 0 m+B^m*l=r*num B o.drew A 0 m+s*num B o.drew D 0 m→
  h≤p+q+1→l≤r+s+1→(∃us,Wr d base A m cu us)→(∃vs,Wr d base D m cv vs)→SpQ base o A cu D cv m U' V' (.int .u64 h) (.int .u64 l) d):=by
  intro d h l g ex ey hh hl ⟨ra,wu⟩ ⟨aa,wv⟩;have e1:num B o.drew A 0 m=U:=gb;have e2:num B o.drew D 0 m=V:=ib;rw[e1,e2]at ex ey;rw[rb]at ex;rw[sb]at ey;rw[wu.arr.2.1]at ex;rw[wv.arr.2.1]at ey;exact .mk h l rfl rfl ((ChgS.refl o _).drew.trans g) ⟨ra,wu,ex⟩ ⟨aa,wv,ey⟩ om om
 clear xa ya eu ev gb ib pB rB;go_wp2;go_cut [4,5] from 6 to 23 (fun a4 a5 wx=>SpQ base o A cu D cv m U' V' a4 a5 wx)
 case first=>
  go_region_with (go_at_call 172;refine CS.mono ?_;rintro e d ⟨h,l,rfl,g,ax,ay,ex,ey,hh,hl,wu,wv⟩)
  all_goals
   have HQ:Hid (SpQ base o A cu D cv m U' V' (.int .u64 h) (.int .u64 l) d):=pb.out d h l g ex ey hh hl wu wv;clear g ax ay ex ey hh hl wu wv CS;go_wp2_with fail;go_meet
   case rel=>exact HQ.out
 case rest=>
 obtain⟨h,l,rfl,rfl,g,⟨ra,wu,eu⟩,⟨aa,wv,ev⟩,hh,hl⟩:=hcut;obtain⟨d,yb⟩:∃d,d=wc:=⟨_,rfl⟩;rw[←yb]at g wu wv⊢;have qa:∀k,k<o.heap.size→k≠A→k≠D→d.heap[k]? =o.heap[k]?:=fun k hk h1 h2=>g.block k hk (fun i hi=>by rcases hi with h|h <;> omega);obtain⟨n1,n2,n3,n4,n5⟩:=u.out;have S:=HU.out;have C2:=HC.out.block g.size (qa j HC.out.lt S.up.symm S.vp.symm);have R2:=HR.out.blocks (qa f (HR.out.ax.lt HR.out.n0) S.ux.symm S.vx.symm) (qa c (HR.out.ay.lt HR.out.n0) S.uy.symm S.vy.symm);have T2:=HT.out.blocks g.size (qa G HT.out.lt n4.symm n5.symm);have B2:Below base w d:=N.out.trans (g.below (fun k i hk hs=>by have:=wu.hb;have:=wv.hb;rcases hs with h|h <;> omega) (Nat.le_trans O.out N.out.size));have ia:Hid (Below base w d):=B2;have sa:Hid (ChC d j (.slice (some ⟨f,0,none⟩) n E) (.slice (some ⟨c,0,none⟩) n F) true (.slice (some ⟨A,0,none⟩) m cu) (.slice (some ⟨D,0,none⟩) m cv) mi):=C2;have bb:Hid (XY base d j n X Y f E c F):=R2;have db:Hid (TB d G p q r s odd):=T2;have ea:Hid (A≠D∧A≠j∧D≠j∧A≠f∧A≠c∧D≠f∧D≠c∧0<m∧m<160∧(B^(m-1)≤V∨m=1)):=⟨S.uv,S.up,S.vp,S.ux,S.uy,S.vx,S.vy,S.m0,S.mm,S.top⟩;have ma:Hid (Wr d base A m cu ra):=wu;have Z:Hid (Wr d base D m cv aa):=wv;have ja:Hid (lv B ra+B^m*h=U'∧lv B aa+B^m*l=V'):=⟨eu,ev⟩;have mb:Hid (h<B∧l<B):=⟨hh,hl⟩;have wb:bits .or .u64 (h:Int) (l:Int)=((h ||| l:Nat):Int):=bits_or_u64_nat h l (by unfold B at hh;omega) (by unfold B at hl;omega);have ob:Hid _:=wb;clear CS pb yb wc qa n1 n2 n3 n4 n5 S C2 R2 T2 B2 g wu wv eu ev hh hl wb HU HC HR HT N fc gc hc o lp k0 k1 k2 k3 k4 k5 z0 z1 z3 z4 z5 lt t0 t1 t2 t3 t4 y0 y1 y2 y3 y4;go_upto_region 3 with fail;go_cut [26] from 23 to 26 (fun v wx=>v=.bool (decide (¬(h=0∧l=0)))∧wx=d)
 case first=>
  go_wp2_with fail;rw[ob.out];go_meet
  case rel=>
   refine⟨?_,rfl⟩;congr 1;by_cases h0:h ||| l=0
   ·have h1:=Nat.or_eq_zero_iff.1 h0;rw[h0,decide_eq_false (fun h2=>h2 h1)];rfl
   ·have h1:¬(h=0∧l=0):=fun h2=>h0 (Nat.or_eq_zero_iff.2 h2);rw[decide_eq_true h1];simpa using h1
 case rest=>
 obtain⟨rfl,zc⟩:=hcut;subst wc;go_upto_if 26 with fail;go_cut [] from 6 to 46 (fun wx=>Hid (TMid base w j G n X Y f E c F U' V' p q r s mi odd wx))
 case first=>
  by_cases h0:h=0∧l=0
  ·have hd:decide (¬(h=0∧l=0))=false:=(by simp[h0]);rw[hd];obtain⟨rfl,rfl⟩:=h0;have HQ:Hid (TMid base w j G n X Y f E c F U' V' p q r s mi odd d):=(by obtain⟨e1,e2⟩:=ja.out;rw[Nat.mul_zero,Nat.add_zero]at e1 e2;obtain⟨n1,n2,n3,n4,n5,n6,n7,n8,n9,uc⟩:=ea.out;obtain⟨v1,v2,v3,v4⟩:=la.out;exact .mk m A cu D cv ia.out sa.out bb.out ⟨⟨_,ma.out,e1⟩,⟨_,Z.out,e2⟩,n1,n2,n3,n4,n5,n6,n7,n8,n9,by omega⟩ db.out u.out.2.2.2.1 u.out.2.2.2.2);go_wp2_with fail;go_meet
   case rel=>exact HQ
  ·have hd:decide (¬(h=0∧l=0))=true:=(by simp[h0]);rw[hd];have jc:=mb.out;have qb:=ja.out;have eb:0<l:=(by refine Nat.pos_of_ne_zero fun e=>?_;subst e;have h1:lv B aa<B^aa.length:=lv_lt za2 Z.out.hx;rw[Z.out.hn]at h1;have h2:=Nat.le_mul_of_pos_right (B^m) (show 0<h by omega);have h3:=la.out.2.2.1;rw[Nat.mul_zero]at qb;omega);have ub:m+1<160:=(by have h1:=Nat.le_mul_of_pos_right (B^m) eb;have h2:=la.out.1;have h3:B^m<B^157:=om;have:=(Nat.pow_lt_pow_iff_right (show 1<B by decide)).1 h3;omega);have xc:base≤d.heap.size:=Nat.le_trans O.out ia.out.size;have ic:∀wx,Below d.heap.size d wx→Wr wx base A m cu ra:=fun wx hb=>ma.out.below hb;have vc:Hid (∀wx,Below d.heap.size d wx→Wr wx base D m cv aa):=fun wx hb=>Z.out.below hb;have vb:m≤1099511627776:=om;have nb:Hid (m+1<160∧0<l):=⟨ub,eb⟩;obtain⟨lp,-,-,-,k3,k4,-,-,-,-,z3,z4,-⟩:=id sa.out;obtain⟨lc,mc⟩:=jc;clear h0 hd qb eb ub;go_upto_region 4 with fail;have oc:A≠j:=ea.out.2.1;have qc:D≠j:=ea.out.2.2.1;have rc:A≠D:=ea.out.1;have bd:=ma.out.lt;go_region_law (first
    |(refine zet (by rfl) _ _ (by rfl) (by rfl) (ic _ (by first|exact(zau _ _).drew|exact((zau _ _).trans ((zau _ _).mono (by simp))).drew|exact zau _ _|exact(zau _ _).trans ((zau _ _).mono (by simp)))) _ _ h (by rfl) qq lc vb (by simp;omega) ?_;intro b1 c1 w4 A1 A2 A3 A4;obtain⟨fa,cc,xb,fb,HA⟩:=after1 (by first|exact(zau _ _).drew|exact((zau _ _).trans ((zau _ _).mono (by simp))).drew|exact zau _ _|exact(zau _ _).trans ((zau _ _).mono (by simp))) A1 A2 A3 A4 oc rc lp Z.out;have sc:=(World.cell?_of_block (a:=⟨j,4,none⟩) fa).trans k4;have tc:j<w4.heap.size:=Nat.lt_of_lt_of_le lp xb;clear A1 A2 A3 A4)
    |(refine zet (by rfl) _ _ (by rfl) (by rfl) (cc.below (by first|exact zz|exact zau _ _|exact(zau _ _).drew|exact(zz).drew)) _ _ l (by rfl) (by first|exact(fb d.heap.size (Nat.le_refl _) (by first|(simp;done)|(simp;omega))).elim (fun h7=>(World.cell?_of_block (a:=⟨d.heap.size,0,none⟩) h7).trans (by simp[go_sem];done)) (fun h7=>by omega)|exact(fb (d.heap.size+1) om (by first|(simp;done)|(simp;omega))).elim (fun h7=>(World.cell?_of_block (a:=⟨d.heap.size+1,0,none⟩) h7).trans (by simp[go_sem];done)) (fun h7=>by omega)|(simp[go_sem];done)) mc vb (by first|omega|(simp;omega)) ?_;intro b2 c2 P A1 A2 A3 A4;obtain⟨oa,HD⟩:=after2 (w4:=w4) (by first|exact zz|exact zau _ _|exact(zau _ _).drew|exact(zz).drew) A1 A2 A3 A4 qc om;have ac:=(World.cell?_of_block (a:=⟨j,3,none⟩) (oa.trans fa)).trans k3;have bc:=(World.cell?_of_block (a:=⟨j,4,none⟩) (oa.trans fa)).trans k4;have dc:=(World.frozen?_of_block (a:=⟨j,3,none⟩) (oa.trans fa)).trans z3;have ec:=(World.frozen?_of_block (a:=⟨j,4,none⟩) (oa.trans fa)).trans z4;clear A1 A2 A3 A4))
   all_goals
    have HQ:Hid (∀W,W=(P.setCell ⟨j,3,none⟩ (.slice (some ⟨b1,0,none⟩) (m+1:Nat) c1)).setCell ⟨j,4,none⟩ (.slice (some ⟨b2,0,none⟩) (m+1:Nat) c2)→TMid base w j G n X Y f E c F U' V' p q r s mi odd W):=(by intro W hW;obtain⟨n1,n2,n3,n4,n5,n6,n7,n8,n9,uc⟩:=ea.out;obtain⟨a1,a2,a3,a4,a5⟩:=HA.out;obtain⟨d1,d2,d3,d4,d5⟩:=HD.out;exact TMid.of_append ia.out sa.out bb.out db.out ma.out Z.out ⟨n1,n2,n3,n4,n5,n6,n7⟩ ⟨u.out.2.2.2.1,u.out.2.2.2.2,u.out.1⟩ ja.out.1 ja.out.2 nb.out.2 nb.out.1 (Nat.le_trans O.out ia.out.size) a1 a2 a3 a4 a5 d1 d2 d3 d4 d5 hW);clear HA HD ac bc dc ec fa oa cc xb fb sc tc;go_wp2_with fail;go_meet
    case rel=>exact HQ.out _ rfl
 case rest=>
 obtain⟨m2,H,J,I,M,B3,C3,R3,U3,T3,ba,ca⟩:=hcut.out;obtain⟨w3,zb⟩:∃w3,w3=wc:=⟨_,rfl⟩;rw[←zb]at B3 C3 R3 U3 T3⊢;have lb:Hid (Below base w w3):=B3;have ab:Hid (ChC w3 j (.slice (some ⟨f,0,none⟩) n E) (.slice (some ⟨c,0,none⟩) n F) true (.slice (some ⟨H,0,none⟩) m2 J) (.slice (some ⟨I,0,none⟩) m2 M) mi):=C3;have cb:Hid (XY base w3 j n X Y f E c F):=R3;have ua:Hid (Go.Proofs.YtjlkplidpdhgbaaGreatDoor.UV base w3 j f c m2 U' V' H J I M):=U3;have ta:Hid (TB w3 G p q r s odd):=T3;clear hcut B3 C3 R3 U3 T3 zb wc ia sa bb db ea ma Z ja mb ob la d;obtain⟨lp,-,-,-,-,-,k5,-,-,-,-,-,z5⟩:=id ab.out;obtain⟨lt,-,-,-,-,t4,-,-,-,-,-⟩:=id ta.out;have yc:=u.out.1;go_upto_region 5 with fail;have C6:=(ab.out.set5 (mi !=odd)).below (zad _);have R6:=(cb.out.other 5 (.bool (mi !=odd))).below (zad _);have U6:=(ua.out.other ua.out.up ua.out.vp 5 (.bool (mi !=odd))).below (zad _);have T6:=(ta.out.other u.out.1.symm (.bool (mi !=odd)) (i:=5)).below (zad _) (by simp;exact ta.out.lt);have B6:=(lb.out.setCell (p:=⟨j,5,none⟩) cb.out.hp (.bool (mi !=odd))).drew;have H6:Hid _:=(⟨B6,C6,R6,U6,T6⟩:_∧_∧_∧_∧_);clear B6 C6 R6 U6 T6 lb ab cb ua ta;go_region;go_upto_region 6 with fail;refine zac (fun w6=>Below base w w6∧ChC w6 j (.slice (some ⟨f,0,none⟩) n E) (.slice (some ⟨c,0,none⟩) n F) true (.slice (some ⟨H,0,none⟩) m2 J) (.slice (some ⟨I,0,none⟩) m2 M) (mi !=odd)∧XY base w6 j n X Y f E c F∧Go.Proofs.YtjlkplidpdhgbaaGreatDoor.UV base w6 j f c m2 U' V' H J I M∧TB w6 G p q r s odd) H6.out ?_;clear H6 lp k5 z5 lt t4 w3;rintro o ⟨B1,C1,R1,U1,T⟩;have N:Hid (Below base w o):=B1;have HT:Hid (TB o G p q r s odd):=T;have HC:Hid (ChC o j (.slice (some ⟨f,0,none⟩) n E) (.slice (some ⟨c,0,none⟩) n F) true (.slice (some ⟨H,0,none⟩) m2 J) (.slice (some ⟨I,0,none⟩) m2 M) (mi !=odd)):=C1;have HR:Hid (XY base o j n X Y f E c F):=R1;have HU:Hid (Go.Proofs.YtjlkplidpdhgbaaGreatDoor.UV base o j f c m2 U' V' H J I M):=U1;obtain⟨lp,k0,k1,k2,-,-,-,z0,z1,-,-,-,-⟩:=id C1;obtain⟨lt,t0,t1,t2,t3,t4,y0,y1,y2,y3,y4⟩:=id T;clear C1 R1 U1 T B1;cases odd
 ·have R:=HR.out;have CM:=mix_any o.drew f 0 E c 0 F n p q r s false (zae R.ax (zad _)) (zae R.ay (zad _)) R.fx R.fy R.xy R.cx1 R.cy1 (by have:=R.cy2;unfold maxLen;omega) p1 q1 r1 s1 R.n0;have ga:∀d,ChgS o.drew d (S2 f c)→Arr .u64 B d f 0 n→Arr .u64 B d c 0 n→
   (∀z,p*num B o.drew f 0 n=q*num B o.drew c 0 n+z→z<B^n→num B d f 0 n=z)→
   (∀z,s*num B o.drew c 0 n=r*num B o.drew f 0 n+z→z<B^n→num B d c 0 n=z)→TurnF base w j n X Y a b (.returned (.tuple #[])) d:=by
   intro d g ha hb hx hy;have t:ChgS o d (S2 f c):=(ChgS.refl o _).drew.trans g;have hX:num B o.drew f 0 n=X:=R.ex;have hY:num B o.drew c 0 n=Y:=R.ey;rw[hX,hY]at hx hy;obtain⟨g0,g1,g2⟩:=va.out;obtain⟨e1,e2,_⟩:=HE.out rfl;have kc:Y<B^n:=(by rw[←R.ey];exact za1 R.ay);have fx:=hx x e1 om;have fy:=hy y e2 om;refine .mk x y rfl (N.out.trans (t.below (fun k i hk hs=>?_) (Nat.le_trans O.out N.out.size))) (.mk f E c F m2 U' V' H J I M _ (HC.out.chgS t R.xp.symm R.yp.symm) ?_ (HU.out.chgS t) HL.out) g0 g1 g2
   ·have:=R.hx;have:=R.hy;rcases hs with h|h <;> omega
   ·exact⟨R.hp,R.hx,R.hy,R.xy,R.xp,R.yp,ha,hb,t.free R.fx (fun _=>R.ax.lt R.n0),t.free R.fy (fun _=>R.ay.lt R.n0),fx,fy,R.n0,R.nm,R.cx1,R.cy1,R.cx2,R.cy2,Nat.le_of_lt g1⟩
  have ka:Hid _:=ga;clear ga R HO HE va HT HC HR HU HL u da O N;go_wp2;go_region_with (go_at_call 173;refine CM.mono ?_;rintro e d ⟨rfl,g,ha,hb,hx,hy⟩)
  all_goals
   have HF:Hid _:=ka.out d g ha hb hx hy;clear g ha hb hx hy;go_wp2;go_end0;exact HF.out
 ·have CF:=(((((((HC.out.set0 (.slice (some ⟨c,0,none⟩) n F)).set1 (.slice (some ⟨f,0,none⟩) n E)).other u.out.1 (.int .u64 (q:Int):Value) (i:=0)).other u.out.1 (.int .u64 (p:Int):Value) (i:=1)).other u.out.1 (.int .u64 (s:Int):Value) (i:=2)).other u.out.1 (.int .u64 (r:Int):Value) (i:=3)).below (zad _));have RF:=(((((((HR.out.other 0 (.slice (some ⟨c,0,none⟩) n F)).other 1 (.slice (some ⟨f,0,none⟩) n E)).oth u.out.2.1.symm u.out.2.2.1.symm 0 (.int .u64 (q:Int):Value)).oth u.out.2.1.symm u.out.2.2.1.symm 1 (.int .u64 (p:Int):Value)).oth u.out.2.1.symm u.out.2.2.1.symm 2 (.int .u64 (s:Int):Value)).oth u.out.2.1.symm u.out.2.2.1.symm 3 (.int .u64 (r:Int):Value)).below (zad _));have jb:=HU.out.up;have kb:=HU.out.vp;have UF:=(((((((HU.out.other jb kb 0 (.slice (some ⟨c,0,none⟩) n F)).other jb kb 1 (.slice (some ⟨f,0,none⟩) n E)).other ba ca 0 (.int .u64 (q:Int):Value)).other ba ca 1 (.int .u64 (p:Int):Value)).other ba ca 2 (.int .u64 (s:Int):Value)).other ba ca 3 (.int .u64 (r:Int):Value)).below (zad _));have TF:=(((((((HT.out.other u.out.1.symm (.slice (some ⟨c,0,none⟩) n F) (i:=0)).other u.out.1.symm (.slice (some ⟨f,0,none⟩) n E) (i:=1)).set0 q).set1 p).set2 s).set3 r).below (zad _) (by simp;exact HT.out.lt));have BF:=(((((((N.out.setCell (p:=⟨j,0,none⟩) HR.out.hp (.slice (some ⟨c,0,none⟩) n F)).setCell (p:=⟨j,1,none⟩) HR.out.hp (.slice (some ⟨f,0,none⟩) n E)).setCell (p:=⟨G,0,none⟩) da.out (.int .u64 (q:Int):Value)).setCell (p:=⟨G,1,none⟩) da.out (.int .u64 (p:Int):Value)).setCell (p:=⟨G,2,none⟩) da.out (.int .u64 (s:Int):Value)).setCell (p:=⟨G,3,none⟩) da.out (.int .u64 (r:Int):Value)).drew);have HF:Hid _:=(⟨BF,CF,RF,UF,TF⟩:_∧_∧_∧_∧_);have ad:=u.out.1.symm;clear CF RF UF TF BF HC HR HU N jb kb;go_wp2;go_region
  all_goals
   go_upto_region 9 with fail
   refine zac (fun P=>Below base w P∧ChC P j (.slice (some ⟨c,0,none⟩) n F) (.slice (some ⟨f,0,none⟩) n E) true (.slice (some ⟨H,0,none⟩) m2 J) (.slice (some ⟨I,0,none⟩) m2 M) (mi !=true)∧XY base P j n X Y f E c F∧Go.Proofs.YtjlkplidpdhgbaaGreatDoor.UV base P j f c m2 U' V' H J I M∧TB P G q p s r true) HF.out ?_;clear HF HT k0 k1 k2 z0 z1 t0 t1 t2 t3 t4 y0 y1 y2 y3 y4 lp lt o;rintro P ⟨B5,C5,R,U5,T5⟩;obtain⟨lp,k0,k1,k2,-,-,-,z0,z1,-,-,-,-⟩:=id C5;obtain⟨lt,t0,t1,t2,t3,t4,y0,y1,y2,y3,y4⟩:=id T5;have CM:=mix_any P.drew c 0 F f 0 E n q p s r true (zae R.ay (zad _)) (zae R.ax (zad _)) R.fy R.fx R.xy.symm R.cy1 R.cx1 (by have:=R.cx2;unfold maxLen;omega) q1 p1 s1 r1 R.n0;have ga:∀d,ChgS P.drew d (S2 c f)→Arr .u64 B d c 0 n→Arr .u64 B d f 0 n→
    (∀z,q*num B P.drew c 0 n=p*num B P.drew f 0 n+z→z<B^n→num B d c 0 n=z)→
    (∀z,r*num B P.drew f 0 n=s*num B P.drew c 0 n+z→z<B^n→num B d f 0 n=z)→TurnF base w j n X Y a b (.returned (.tuple #[])) d:=by
    intro d g ha hb hx hy;have t:ChgS P d (S2 c f):=(ChgS.refl P _).drew.trans g;have hX:num B P.drew f 0 n=X:=R.ex;have hY:num B P.drew c 0 n=Y:=R.ey;rw[hX,hY]at hx hy;obtain⟨g0,g1,g2⟩:=va.out;obtain⟨e1,e2,_⟩:=HO.out trivial;have kc:Y<B^n:=(by rw[←R.ey];exact za1 R.ay);have fx:=hx x e1 om;have fy:=hy y e2 om;refine .mk x y rfl (B5.trans (t.below (fun k i hk hs=>?_) (Nat.le_trans O.out B5.size))) (.mk c F f E m2 U' V' H J I M _ (C5.chgS t R.yp.symm R.xp.symm) ?_ (U5.swap.chgS t) HL.out) g0 g1 g2
    ·have:=R.hx;have:=R.hy;rcases hs with h|h <;> omega
    ·exact⟨R.hp,R.hy,R.hx,R.xy.symm,R.yp,R.xp,ha,hb,t.free R.fy (fun _=>R.ay.lt R.n0),t.free R.fx (fun _=>R.ax.lt R.n0),fx,fy,R.n0,R.nm,R.cy1,R.cx1,R.cy2,R.cx2,Nat.le_of_lt g1⟩
   have ka:Hid _:=ga;clear ga R HO HE va u da O B5 C5 T5 U5 HL;go_region_with (go_at_call 173;refine CM.mono ?_;rintro e d ⟨rfl,g,ha,hb,hx,hy⟩)
   all_goals
    have HF:Hid _:=ka.out d g ha hb hx hy;clear g ha hb hx hy;go_wp2;go_end0;exact HF.out
end Go.Proofs.YtjlkplidpdhgbaaGreatDoor
namespace Go.Proofs.YtjlkplidpdhgbaaGreatDoor
open Go Go.Proofs Go.RowKit Go.Rad
structure NRow (w w':World) (z n:Nat):Prop where
 hb:Below w.heap.size w w'
 ha:Arr .u64 B w' w.heap.size 0 n
 hf:Free w' w.heap.size 0 n
 hm:Mag w' (.slice (some ⟨w.heap.size,0,none⟩) n n) z n
theorem NRow.mk' {w w':World} {z n m:Nat} (c:Below w.heap.size w w') (f:Mag w' (.slice (some ⟨w.heap.size,0,none⟩) n n) z n) (b:Arr .u64 B w' w.heap.size 0 m) (d:Free w' w.heap.size 0 m) (g:n≤m):NRow w w' z n:=⟨c,fun i hi=>b i om,fun i hi=>d i om,f⟩
theorem NRow.num {w w':World} {z n:Nat} (h:NRow w w' z n):num B w' w.heap.size 0 n=z:=by
 obtain⟨k,b,o,c,f,j,-,-,g,-⟩:=h.hm;simp only[Value.slice.injEq,true_and]at f;obtain⟨rfl,rfl⟩:=f;rcases Nat.eq_zero_or_pos n with d|d
 ·subst d;rw[←g,zao,zao]
 ·have e:=j d;simp only[Option.some.injEq,Addr.mk.injEq,and_true]at e;obtain⟨rfl,rfl⟩:=e;exact g
theorem addWords_row (w:World) (vx vy:Value) (x y o p:Nat) (hx:Mag w vx x o) (hy:Mag w vy y p) (hl:o<35184372088832) (ea:p<35184372088832):
 Calls Tryz.prog 111 #[vx,vy] w fun e w'=>∃n,e=.returned (.slice (some ⟨w.heap.size,0,none⟩) n n)∧NRow w w' (x+y) n∧n≤max o p+1:=by
 obtain⟨ax,U,ox,cx,rfl,M,ba,f,L,Z⟩:=hx;obtain⟨ay,E,oy,cy,rfl,N,ca,g,D,aa⟩:=hy;obtain⟨i0,J,O,P,R⟩:=info_parts zb0;have S:Hid (num B w U ox o=x):=L;have T:Hid (num B w E oy p=y):=D;clear L D Z aa;rcases Nat.lt_or_ge o p with fa|da
 ·have b:p+1≤maxLen:=(by unfold maxLen;omega);go_enter Tryz.func111,Tryz.ntmps111;go_wp2_with (first
   |(at_make;refine zap .u64 B za2 rfl _ _ 22 rfl 98 i0 Tryz.underlying22 J O P .i64 .i64 _ _ (p+1) rfl rfl om om (by rw[R];omega) b ?_;intro w1 z)
   |(refine zal .u64 B rfl _ _ 22 22 rfl 98 Tryz.underlying22 zb2 _ _ _ _ _ _ rfl rfl w.heap.size 0 E oy (Sl.mk _ _ _) N z.arr z.free (zae g z.below) ?_;intro w2 l))
  rw[Nat.min_eq_left (Nat.le_succ p)]at l;obtain⟨j,F,u,C,I⟩:=zb9 z g (Nat.le_succ _) l;refine(zbt w2 _ _ _ _ _ _ U ox _ _ (Sl.mk _ _ _) M F u (zae f j) om (fun h=> .inl (by have:=f.lt h;omega)) b).mono ?_;rintro e q ⟨rfl,t,s,c,X,m⟩;have G:Below w.heap.size w q:=j.trans (t.below (Nat.le_refl _) om);have d:num B q w.heap.size 0 (p+1)=x+y:=(by rw[C,zah f j,S.out,T.out]at m;have V:y<B^p:=(by rw[←T.out];exact za1 g);have W:x<B^o:=(by rw[←S.out];exact za1 f);rw[Nat.add_comm x y];exact _root_.Rad.sum_fits zco m V (Nat.lt_of_lt_of_le W (Nat.pow_le_pow_right za2 om)));have HV:Hid (num B q w.heap.size 0 (p+1)=x+y):=d;clear d m C l z;have r:Hid (Arr .u64 B q w.heap.size 0 (p+1)∧Free q w.heap.size 0 (p+1)):=⟨s,t.free u (fun _=>I)⟩;go_wp2_with (go_at_call 86;refine(zbj q _ _ _ _ _ (p+1) (Sl.mk _ _ _) (Nat.le_refl _) b b s).mono ?_;rintro e w' ⟨k,rfl,hw,H,Y,A⟩;subst hw);go_ret;rw[Nat.min_self,HV.out]at A;exact⟨k,rfl,NRow.mk' G A r.out.1 r.out.2 H,by omega⟩
 ·have b:o+1≤maxLen:=(by unfold maxLen;omega);go_enter Tryz.func111,Tryz.ntmps111;go_wp2_with (first
   |(at_make;refine zap .u64 B za2 rfl _ _ 22 rfl 98 i0 Tryz.underlying22 J O P .i64 .i64 _ _ (o+1) rfl rfl om om (by rw[R];omega) b ?_;intro w1 z)
   |(refine zal .u64 B rfl _ _ 22 22 rfl 98 Tryz.underlying22 zb2 _ _ _ _ _ _ rfl rfl w.heap.size 0 U ox (Sl.mk _ _ _) M z.arr z.free (zae f z.below) ?_;intro w2 l))
  rw[Nat.min_eq_left (Nat.le_succ o)]at l;obtain⟨j,F,u,C,I⟩:=zb9 z f (Nat.le_succ _) l;refine(zbt w2 _ _ _ _ _ _ E oy _ _ (Sl.mk _ _ _) N F u (zae g j) om (fun h=> .inl (by have:=g.lt h;omega)) b).mono ?_;rintro e q ⟨rfl,t,s,c,X,m⟩;have G:Below w.heap.size w q:=j.trans (t.below (Nat.le_refl _) om);have d:num B q w.heap.size 0 (o+1)=x+y:=(by rw[C,zah g j,S.out,T.out]at m;have V:y<B^p:=(by rw[←T.out];exact za1 g);have W:x<B^o:=(by rw[←S.out];exact za1 f);exact _root_.Rad.sum_fits zco m W (Nat.lt_of_lt_of_le V (Nat.pow_le_pow_right za2 om)));have HV:Hid (num B q w.heap.size 0 (o+1)=x+y):=d;clear d m C l z;have r:Hid (Arr .u64 B q w.heap.size 0 (o+1)∧Free q w.heap.size 0 (o+1)):=⟨s,t.free u (fun _=>I)⟩;go_wp2_with (go_at_call 86;refine(zbj q _ _ _ _ _ (o+1) (Sl.mk _ _ _) (Nat.le_refl _) b b s).mono ?_;rintro e w' ⟨k,rfl,hw,H,Y,A⟩;subst hw);go_ret;rw[Nat.min_self,HV.out]at A;exact⟨k,rfl,NRow.mk' G A r.out.1 r.out.2 H,by omega⟩
end Go.Proofs.YtjlkplidpdhgbaaGreatDoor
