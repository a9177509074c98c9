/- A part of the proof: G3, G4, G5. -/
import Derived.Test.YtjlkplidpdhgbaaGreatDoorP00
import Derived.Test.YtjlkplidpdhgbaaGreatDoorP11
import Derived.Test.YtjlkplidpdhgbaaGreatDoorP08
import Derived.Test.YtjlkplidpdhgbaaGreatDoorP10
import Derived.Test.YtjlkplidpdhgbaaGreatDoorP05
set_option linter.all false
set_option maxRecDepth 10000
set_option maxHeartbeats 4000000
namespace Go.Proofs.YtjlkplidpdhgbaaGreatDoor
open Go Go.Proofs Go.RowKit Go.Rad
open _root_.Rad (TN TurnOk)
theorem TB.set0 {w:World} {b p q r s:Nat} {c:Bool} (h:TB w b p q r s c) (d:Nat):TB (w.setCell ⟨b,0,none⟩ (.int .u64 (d:Int))) b d q r s c:=⟨by simp;exact h.lt,(zav h.c0),(zaa (.inr om)).trans h.c1,(zaa (.inr om)).trans h.c2,(zaa (.inr om)).trans h.c3,(zaa (.inr om)).trans h.c4,(World.frozen?_setCell _ _ _ _).trans h.f0,(World.frozen?_setCell _ _ _ _).trans h.f1,(World.frozen?_setCell _ _ _ _).trans h.f2,(World.frozen?_setCell _ _ _ _).trans h.f3,(World.frozen?_setCell _ _ _ _).trans h.f4⟩
theorem TB.set1 {w:World} {b p q r s:Nat} {c:Bool} (h:TB w b p q r s c) (d:Nat):TB (w.setCell ⟨b,1,none⟩ (.int .u64 (d:Int))) b p d r s c:=⟨by simp;exact h.lt,(zaa (.inr om)).trans h.c0,(zav h.c1),(zaa (.inr om)).trans h.c2,(zaa (.inr om)).trans h.c3,(zaa (.inr om)).trans h.c4,(World.frozen?_setCell _ _ _ _).trans h.f0,(World.frozen?_setCell _ _ _ _).trans h.f1,(World.frozen?_setCell _ _ _ _).trans h.f2,(World.frozen?_setCell _ _ _ _).trans h.f3,(World.frozen?_setCell _ _ _ _).trans h.f4⟩
theorem TB.set2 {w:World} {b p q r s:Nat} {c:Bool} (h:TB w b p q r s c) (d:Nat):TB (w.setCell ⟨b,2,none⟩ (.int .u64 (d:Int))) b p q d s c:=⟨by simp;exact h.lt,(zaa (.inr om)).trans h.c0,(zaa (.inr om)).trans h.c1,(zav h.c2),(zaa (.inr om)).trans h.c3,(zaa (.inr om)).trans h.c4,(World.frozen?_setCell _ _ _ _).trans h.f0,(World.frozen?_setCell _ _ _ _).trans h.f1,(World.frozen?_setCell _ _ _ _).trans h.f2,(World.frozen?_setCell _ _ _ _).trans h.f3,(World.frozen?_setCell _ _ _ _).trans h.f4⟩
theorem TB.set3 {w:World} {b p q r s:Nat} {c:Bool} (h:TB w b p q r s c) (d:Nat):TB (w.setCell ⟨b,3,none⟩ (.int .u64 (d:Int))) b p q r d c:=⟨by simp;exact h.lt,(zaa (.inr om)).trans h.c0,(zaa (.inr om)).trans h.c1,(zaa (.inr om)).trans h.c2,(zav h.c3),(zaa (.inr om)).trans h.c4,(World.frozen?_setCell _ _ _ _).trans h.f0,(World.frozen?_setCell _ _ _ _).trans h.f1,(World.frozen?_setCell _ _ _ _).trans h.f2,(World.frozen?_setCell _ _ _ _).trans h.f3,(World.frozen?_setCell _ _ _ _).trans h.f4⟩
theorem TB.set4 {w:World} {b p q r s:Nat} {d:Bool} (h:TB w b p q r s d) (c:Bool):TB (w.setCell ⟨b,4,none⟩ (.bool c)) b p q r s c:=⟨by simp;exact h.lt,(zaa (.inr om)).trans h.c0,(zaa (.inr om)).trans h.c1,(zaa (.inr om)).trans h.c2,(zaa (.inr om)).trans h.c3,(zav h.c4),(World.frozen?_setCell _ _ _ _).trans h.f0,(World.frozen?_setCell _ _ _ _).trans h.f1,(World.frozen?_setCell _ _ _ _).trans h.f2,(World.frozen?_setCell _ _ _ _).trans h.f3,(World.frozen?_setCell _ _ _ _).trans h.f4⟩
theorem TB.other {w:World} {b p q r s:Nat} {f:Bool} (h:TB w b p q r s f) {c i:Nat} (d:b≠c) (v:Value):TB (w.setCell ⟨c,i,none⟩ v) b p q r s f:=
 ⟨by simp;exact h.lt,(zaa (.inl d)).trans h.c0,(zaa (.inl d)).trans h.c1,(zaa (.inl d)).trans h.c2,(zaa (.inl d)).trans h.c3,(zaa (.inl d)).trans h.c4,
  (World.frozen?_setCell _ _ _ _).trans h.f0,(World.frozen?_setCell _ _ _ _).trans h.f1,(World.frozen?_setCell _ _ _ _).trans h.f2,(World.frozen?_setCell _ _ _ _).trans h.f3,(World.frozen?_setCell _ _ _ _).trans h.f4⟩
inductive TurnPost (w:World) (X Y:Nat) (e:Ending) (w':World):Prop
 |mk (p q r s:Nat) (odd:Bool) (he:e=.returned (.agg #[.int .u64 p,.int .u64 q,.int .u64 r,.int .u64 s,.bool odd])) (hb:Below w.heap.size w w') (ht:TurnOk X Y p q r s odd)
theorem belN (w:World) (n b:Nat):Below b w (w.drewN n):=⟨rfl,rfl,rfl,Nat.le_refl _,fun _ _=>rfl⟩
theorem turnOf_any (w:World) (J S cx n oy cy m X Y:Nat) (hx:Arr .u64 B w J S (m+2)) (hy:Arr .u64 B w n oy (m+2)) (hX:num B w J S (m+2)=X) (hY:num B w n oy (m+2)=Y)
 (z:word w J (S+(m+1))≠0) (ea:Y≤X) (hm:m+2≤35184372088832) (ab:m+2≤cx) (bb:m+2≤cy):
 Calls Tryz.prog 150 #[.slice (some ⟨J,S,none⟩) (m+2:Nat) cx,.slice (some ⟨n,oy,none⟩) (m+2:Nat) cy] w fun e w'=>TurnPost w X Y e w':=by
 have ia:=zah hx (i:=m) om;have ja:=zah hx (i:=m+1) om;have ka:=zah hy (i:=m) om;have la:=zah hy (i:=m+1) om;have fa:=zaz hx (i:=m) om;have ta:=zaz hx (i:=m+1) om;have ua:=zaz hy (i:=m) om;have jb:=zaz hy (i:=m+1) om;have ra:num B w J S m<B^m:=zbb (fun i hi=>hx i om);have sa:num B w n oy m<B^m:=zbb (fun i hi=>hy i om);have Z:=hx.lt om;have aa:=hy.lt om;rw[num_two]at hX hY;generalize num B w J S m=Xl at *;generalize num B w n oy m=Yl at *;generalize B^m=P at *;generalize word w J (S+m)=T at *;generalize word w J (S+(m+1))=A at *;generalize word w n (oy+m)=y2 at *;generalize word w n (oy+(m+1))=y1 at *;clear hx hy;have CL:=fun wx=>zcl A ta wx;have e1:((m:Int)+2-1)=(m:Int)+1:=om;have e2:((m:Int)+2-2)=(m:Int):=om;go_enter Tryz.func150,Tryz.ntmps150;go_upto_region 1 with fail;refine zab (fun I=>Below w.heap.size w I∧TB I w.heap.size 0 0 0 0 false) ⟨zao _ _,TB.mk0 _ _ _ _ _ _ _⟩ ?_;rintro I ⟨V,l⟩;have N:∀b i v,w.cell? ⟨b,i,none⟩=some v→b<w.heap.size→I.cell? ⟨b,i,none⟩=some v:=fun b i v e hb=>(World.cell?_of_block (V.block b hb)).trans e;have eb:=N _ _ _ ia Z;have fb:=N _ _ _ ja Z;have gb:=N _ _ _ ka aa;have ib:=N _ _ _ la aa;have f:Hid (TB I w.heap.size 0 0 0 0 false):=l;have ga:Hid (Below w.heap.size w I):=V;clear N ia ja ka la V l;go_wp2_with (go_at_call 135;fail);refine(CL _).mono ?_;rintro e x ⟨L,rfl,hw,j,za⟩;subst x;clear CL;have hL:0<L∧2^(L-1)≤A∧A<2^L:=by
  rcases j with⟨h0,_⟩|h0
  ·exact absurd h0 z
  ·exact h0
 obtain⟨h,hh⟩:∃h,64-L=h:=⟨_,rfl⟩;have y:64-h=L:=om;have E:2^h*2^L=B:=(by rw[←Nat.pow_add,show h+L=64 by omega];rfl);rw[hh];obtain⟨sx,va⟩:=_root_.Rad.top_split (G:=2^L) (H:=2^h) hX.symm ra E (Nat.pow_pos dd);obtain⟨sy,wa⟩:=_root_.Rad.top_split (G:=2^L) (H:=2^h) hY.symm sa E (Nat.pow_pos dd);have pa:h<64:=om;have qx:T / 2^L<2^h:=(by rw[←y];exact zel om fa);have qy:y2 / 2^L<2^h:=(by rw[←y];exact zel om ua);have dx:A*2^h<B:=(by rw[←E,Nat.mul_comm];exact Nat.mul_lt_mul_of_pos_left hL.2.2 (Nat.pow_pos dd));have qa:y1≤A:=by
  refine _root_.Rad.lead_lf (X:=X) (Y:=Y) (lx:=Xl+P*T) (ly:=Yl+P*y2) (W:=P*B) ?_ ?_ ?_ ea
  ·rw[←hX,Nat.mul_add,Nat.mul_assoc];omega
  ·rw[←hY,Nat.mul_add,Nat.mul_assoc];omega
  ·have:=Nat.mul_le_mul_left P (show T+1≤B from fa);rw[Nat.mul_add]at this;omega
 have dy:y1*2^h<B:=Nat.lt_of_le_of_lt (Nat.mul_le_mul_right _ qa) dx;have ex:=shl_or (d:=A) (s:=h) (c:=T / 2^L) om qx;have ey:=shl_or (d:=y1) (s:=h) (c:=y2 / 2^L) om qy;have kx:=shl_or_lt (d:=A) (s:=h) (c:=T / 2^L) om qx;have rx:lo (A*2^h)=A*2^h:=Nat.mod_eq_of_lt dx;have ry:lo (y1*2^h)=y1*2^h:=Nat.mod_eq_of_lt dy;rw[rx]at ex kx;rw[ry]at ey;obtain⟨A0,hA⟩:∃A0,A*2^h+T / 2^L=A0:=⟨_,rfl⟩;obtain⟨B0,M⟩:∃B0,y1*2^h+y2 / 2^L=B0:=⟨_,rfl⟩;rw[hA]at ex kx sx;rw[M]at ey sy;have hA0:0<A0:=(by rw[←hA];exact Nat.lt_of_lt_of_le (Nat.mul_pos (Nat.pos_of_ne_zero z) (Nat.pow_pos dd)) (Nat.le_add_right _ _));have HS:Hid (TN X Y A0 B0 A0 B0 0 0 1 0 0 1 true):=TN.start sx sy va wa ea kx hA0;have nx:=zbv T L;have ny:=zbv y2 L;rw[←nx]at ex;rw[←ny]at ey;have EX:Hid _:=ex;have EY:Hid _:=ey;have w0:IntKind.u64.wrap (h:Int)=(h:Int):=(by rw[IntKind.wrap_u64];omega);have lb:IntKind.u64.wrap (64-(h:Int))=(L:Int):=(by rw[IntKind.wrap_u64];omega);clear sx sy va wa hX hY ra sa j hL E qx qy dx dy qa ex ey kx rx ry hA M hA0 nx ny z ea fa ta ua jb;go_wp2;go_quiet (fail);rw[EX.out];go_wp2;go_quiet (fail);rw[EY.out];clear EX EY eb fb gb ib;go_upto_region 5 with fail;rw[World.drewN_drewN];refine zab (fun x=>Below w.heap.size w x∧TB x w.heap.size 0 0 0 0 false) ⟨ga.out.trans (belN _ _ _),f.out.below (belN I _ I.heap.size) f.out.lt⟩ ?_;rintro x ⟨ma,l⟩;clear ga f I;have f:Hid (TB x w.heap.size 0 0 0 0 false):=l;have U:Hid (Below w.heap.size w x):=ma;clear l ma;go_upto_region 6 with fail;refine zab (fun w3=>Below w.heap.size w w3∧TB w3 w.heap.size 0 0 0 0 false∧TB w3 x.heap.size 0 0 1 0 true∧w.heap.size≠x.heap.size) ⟨?_,?_,?_,?_⟩ ?_
 ·exact U.out.alloc U.out.size _
 ·exact f.out.below (zao x _) f.out.lt
 ·exact TB.mk0 x 0 0 1 0 true 152
 ·have pb:=f.out.lt;omega
 rintro w3 ⟨na,l,C,t⟩;obtain⟨b9,oa⟩:∃b9,x.heap.size=b9:=⟨_,rfl⟩;rw[oa]at C t⊢;have ob:w.heap.size<b9:=(by have:=f.out.lt;omega);clear f U oa x;have f:Hid (TB w3 w.heap.size 0 0 0 0 false):=l;have D:Hid (TB w3 b9 0 0 1 0 true):=C;have ha:Hid (Below w.heap.size w w3):=na;clear l C na;go_wp2;clear e1 e2 w0 lb hm ab bb Z aa y pa za hh;go_loopw [7,8,10,11] (fun a7 a8 xa ya wr=>∃(a b p q r s u v:Nat) (g:Bool),a7=.int .u64 a∧a8=.int .u64 b∧xa=.int .u64 u∧ya=.int .u64 v∧
  Hid (Below w.heap.size w wr∧TB wr w.heap.size 0 0 0 0 false∧TB wr b9 p q r s g∧TN X Y A0 B0 a b p q r s u v g))
  (fun _ a8 _ _ _=>(intOf a8).toNat)
 case atStart=>exact⟨_,_,_,_,_,_,_,_,_,rfl,rfl,rfl,rfl,⟨ha.out,f.out,D.out,HS.out⟩⟩
 case round=>
  clear HS f D ha;obtain⟨a,b,p,q,r,s,u,v,g,rfl,rfl,rfl,rfl,HI⟩:=hrel;obtain⟨M,l,C,hN⟩:=HI.out;obtain⟨f1,f2,f3,f4,f5,f6,f7,f8⟩:=hN.facts;by_cases hg:v≤b∧s+v≤a-b
  ·obtain⟨F,g1,g2,g3,g4,g5,g6,g7,g8⟩:=hN.step hg.1 hg.2;obtain⟨k,hk⟩:∃k,a / b=k:=⟨_,rfl⟩;have nb:(a:Int) / (b:Int)=(k:Int):=(by rw[←hk];exact(Int.natCast_ediv a b).symm);rw[hk]at F g1 g2 g4 g5 g6 g7 g8;obtain⟨c,N⟩:∃c,a%b=c:=⟨_,rfl⟩;rw[N]at F g2 g3;have HN:Hid _:=F;have o:=hg.1;have db:=hg.2;have h6:=f6 o;obtain⟨kb,ba⟩:∃kb,k*b=kb:=⟨_,rfl⟩;obtain⟨O,ca⟩:∃O,k*u=O:=⟨_,rfl⟩;obtain⟨R,da⟩:∃R,k*v=R:=⟨_,rfl⟩;have cb:(k:Int)*(b:Int)=(kb:Int):=(by rw[←ba];exact(Int.natCast_mul k b).symm);have cu:(k:Int)*(u:Int)=(O:Int):=(by rw[←ca];exact(Int.natCast_mul k u).symm);have cv:(k:Int)*(v:Int)=(R:Int):=(by rw[←da];exact(Int.natCast_mul k v).symm);rw[ba]at g1 g2;rw[ca]at g4 g6 HN;rw[da]at g5 g7 HN;have x0:IntKind.u64.wrap (k:Int)=(k:Int):=(by rw[IntKind.wrap_u64];omega);have A:IntKind.u64.wrap (kb:Int)=(kb:Int):=(by rw[IntKind.wrap_u64];omega);have T:IntKind.u64.wrap (O:Int)=(O:Int):=(by rw[IntKind.wrap_u64];omega);have x3:IntKind.u64.wrap (R:Int)=(R:Int):=(by rw[IntKind.wrap_u64];omega);have x4:IntKind.u64.wrap ((a:Int)-(kb:Int))=(c:Int):=(by rw[IntKind.wrap_u64];omega);have x5:IntKind.u64.wrap ((r:Int)+(O:Int))=((r+O:Nat):Int):=(by rw[IntKind.wrap_u64];omega);have x6:IntKind.u64.wrap ((s:Int)+(R:Int))=((s+R:Nat):Int):=(by rw[IntKind.wrap_u64];omega);have x7:IntKind.u64.wrap ((a:Int)-(b:Int))=(a:Int)-(b:Int):=(by rw[IntKind.wrap_u64];omega);have x8:IntKind.u64.wrap ((s:Int)+(v:Int))=(s:Int)+(v:Int):=(by rw[IntKind.wrap_u64];omega);have y1:(v:Int)≤(b:Int):=om;have y2:(s:Int)+(v:Int)≤(a:Int)-(b:Int):=om;have y3:¬(b:Int)=0:=om;obtain⟨l9,c0,c1,c2,c3,c4,z0,z1,z2,z3,z4⟩:=id C;have f:Hid _:=l;have D:Hid _:=C;have HB:Hid _:=M;have mb:c<b:=g3;clear HI M l C hN F f1 f2 f3 f4 f5 f6 f7 f8 g1 g2 g3 g4 g5 g6 g7 g8 hk ba ca da N hg o db h6;go_wp2;refine⟨⟨b,c,r,s,u,v,r+O,s+R,!g,rfl,rfl,(by go_num),(by go_num),⟨?_,?_,?_,HN.out⟩⟩,?_⟩
   ·have j:w.heap.size≤b9:=om;exact((((HB.out.setCell j _).setCell j _).setCell j _).setCell j _).setCell j _
   ·exact((((f.out.other t _).other t _).other t _).other t _).other t _
   ·exact((((D.out.set0 r).set2 u).set1 s).set3 v).set4 (!g)
   ·simp only[intOf];omega
  ·have f:Hid (TB wr w.heap.size 0 0 0 0 false):=l;have HB:Hid (Below w.heap.size w wr):=M;have HD:Hid (TurnOk X Y p q r s g):=hN.done;obtain⟨l9,c0,c1,c2,c3,c4,z0,z1,z2,z3,z4⟩:=id C;obtain⟨l4,d0,d1,d2,d3,d4,n0,n1,n2,n3,n4⟩:=id l;by_cases o:v≤b
   ·have h6:=f6 o;have x7:IntKind.u64.wrap ((a:Int)-(b:Int))=(a:Int)-(b:Int):=(by rw[IntKind.wrap_u64];omega);have x8:IntKind.u64.wrap ((s:Int)+(v:Int))=(s:Int)+(v:Int):=(by rw[IntKind.wrap_u64];omega);have y1:(v:Int)≤(b:Int):=om;have y2:¬(s:Int)+(v:Int)≤(a:Int)-(b:Int):=om;clear HI M l C hN f1 f2 f3 f4 f5 f6 f7 f8 hg o h6;go_wp2;refine bodyPost_ret (v:= .agg #[.int .u64 p,.int .u64 q,.int .u64 r,.int .u64 s,.bool g]) rs rfl ?_;have j:w.heap.size≤w.heap.size:=Nat.le_refl _;exact .mk p q r s g rfl (((((HB.out.setCell j _).setCell j _).setCell j _).setCell j _).setCell j _) HD.out
   ·have y1:¬(v:Int)≤(b:Int):=om;clear HI M l C hN f1 f2 f3 f4 f5 f6 f7 f8 hg o;go_wp2;refine bodyPost_ret (v:= .agg #[.int .u64 p,.int .u64 q,.int .u64 r,.int .u64 s,.bool g]) rs rfl ?_;have j:w.heap.size≤w.heap.size:=Nat.le_refl _;exact .mk p q r s g rfl (((((HB.out.setCell j _).setCell j _).setCell j _).setCell j _).setCell j _) HD.out
end Go.Proofs.YtjlkplidpdhgbaaGreatDoor
namespace Go.Proofs.YtjlkplidpdhgbaaGreatDoor
open Go Go.Proofs Go.RowKit Go.Rad
open _root_.Rad TurnOk
structure ChC (w:World) (p:Nat) (xv yv:Value) (full:Bool) (uv vv:Value) (mi:Bool):Prop where
 lt:p<w.heap.size
 c0:w.cell? ⟨p,0,none⟩=some xv
 c1:w.cell? ⟨p,1,none⟩=some yv
 c2:w.cell? ⟨p,2,none⟩=some (.bool full)
 c3:w.cell? ⟨p,3,none⟩=some uv
 c4:w.cell? ⟨p,4,none⟩=some vv
 c5:w.cell? ⟨p,5,none⟩=some (.bool mi)
 f0:w.frozen? ⟨p,0,none⟩=false
 f1:w.frozen? ⟨p,1,none⟩=false
 f2:w.frozen? ⟨p,2,none⟩=false
 f3:w.frozen? ⟨p,3,none⟩=false
 f4:w.frozen? ⟨p,4,none⟩=false
 f5:w.frozen? ⟨p,5,none⟩=false
theorem ChC.block {w:World} {p:Nat} {g j:Value} {b:Bool} {d f:Value} {c:Bool} {w':World} (h:ChC w p g j b d f c) (k:w.heap.size≤w'.heap.size) (e:w'.heap[p]? =w.heap[p]?):ChC w' p g j b d f c:=⟨Nat.lt_of_lt_of_le h.lt k,(World.cell?_of_block e).trans h.c0,(World.cell?_of_block e).trans h.c1,(World.cell?_of_block e).trans h.c2,(World.cell?_of_block e).trans h.c3,(World.cell?_of_block e).trans h.c4,(World.cell?_of_block e).trans h.c5,(World.frozen?_of_block e).trans h.f0,(World.frozen?_of_block e).trans h.f1,(World.frozen?_of_block e).trans h.f2,(World.frozen?_of_block e).trans h.f3,(World.frozen?_of_block e).trans h.f4,(World.frozen?_of_block e).trans h.f5⟩
theorem ChC.below {w:World} {p:Nat} {j k:Value} {b:Bool} {f g:Value} {d:Bool} {w':World} (h:ChC w p j k b f g d) (c:Below w.heap.size w w'):ChC w' p j k b f g d:=h.block c.size (c.block p h.lt)
theorem ChC.chg {w:World} {p:Nat} {k m:Value} {c:Bool} {g j:Value} {f:Bool} {w':World} {b l r:Nat} (h:ChC w p k m c g j f) (d:Chg w w' b l r) (n:p≠b):ChC w' p k m c g j f:=h.block d.size (d.block p h.lt n)
theorem ChC.chgS {w:World} {p:Nat} {l m:Value} {d:Bool} {j k:Value} {g:Bool} {w':World} {b c:Nat} (h:ChC w p l m d j k g) (f:ChgS w w' (S2 b c)) (o:p≠b) (n:p≠c):ChC w' p l m d j k g:=h.block f.size (f.block p h.lt (fun i hi=>by rcases hi with h|h <;> omega))
theorem ChC.other {w:World} {p:Nat} {j k:Value} {b:Bool} {f g:Value} {d:Bool} (h:ChC w p j k b f g d) {c i:Nat} (l:p≠c) (v:Value):ChC (w.setCell ⟨c,i,none⟩ v) p j k b f g d:=h.block (by simp) (Below.heap_setCell _ _ _ _ l)
theorem ChC.set0 {w:World} {p:Nat} {k j:Value} {b:Bool} {f g:Value} {d:Bool} (h:ChC w p k j b f g d) (c:Value):ChC (w.setCell ⟨p,0,none⟩ c) p c j b f g d:=⟨by simp;exact h.lt,zav h.c0,(zaa (.inr om)).trans h.c1,(zaa (.inr om)).trans h.c2,(zaa (.inr om)).trans h.c3,(zaa (.inr om)).trans h.c4,(zaa (.inr om)).trans h.c5,(World.frozen?_setCell _ _ _ _).trans h.f0,(World.frozen?_setCell _ _ _ _).trans h.f1,(World.frozen?_setCell _ _ _ _).trans h.f2,(World.frozen?_setCell _ _ _ _).trans h.f3,(World.frozen?_setCell _ _ _ _).trans h.f4,(World.frozen?_setCell _ _ _ _).trans h.f5⟩
theorem ChC.set1 {w:World} {p:Nat} {j k:Value} {b:Bool} {f g:Value} {d:Bool} (h:ChC w p j k b f g d) (c:Value):ChC (w.setCell ⟨p,1,none⟩ c) p j c b f g d:=⟨by simp;exact h.lt,(zaa (.inr om)).trans h.c0,zav h.c1,(zaa (.inr om)).trans h.c2,(zaa (.inr om)).trans h.c3,(zaa (.inr om)).trans h.c4,(zaa (.inr om)).trans h.c5,(World.frozen?_setCell _ _ _ _).trans h.f0,(World.frozen?_setCell _ _ _ _).trans h.f1,(World.frozen?_setCell _ _ _ _).trans h.f2,(World.frozen?_setCell _ _ _ _).trans h.f3,(World.frozen?_setCell _ _ _ _).trans h.f4,(World.frozen?_setCell _ _ _ _).trans h.f5⟩
theorem ChC.set3 {w:World} {p:Nat} {g j:Value} {b:Bool} {k f:Value} {d:Bool} (h:ChC w p g j b k f d) (c:Value):ChC (w.setCell ⟨p,3,none⟩ c) p g j b c f d:=⟨by simp;exact h.lt,(zaa (.inr om)).trans h.c0,(zaa (.inr om)).trans h.c1,(zaa (.inr om)).trans h.c2,zav h.c3,(zaa (.inr om)).trans h.c4,(zaa (.inr om)).trans h.c5,(World.frozen?_setCell _ _ _ _).trans h.f0,(World.frozen?_setCell _ _ _ _).trans h.f1,(World.frozen?_setCell _ _ _ _).trans h.f2,(World.frozen?_setCell _ _ _ _).trans h.f3,(World.frozen?_setCell _ _ _ _).trans h.f4,(World.frozen?_setCell _ _ _ _).trans h.f5⟩
theorem ChC.set4 {w:World} {p:Nat} {g j:Value} {b:Bool} {f k:Value} {d:Bool} (h:ChC w p g j b f k d) (c:Value):ChC (w.setCell ⟨p,4,none⟩ c) p g j b f c d:=⟨by simp;exact h.lt,(zaa (.inr om)).trans h.c0,(zaa (.inr om)).trans h.c1,(zaa (.inr om)).trans h.c2,(zaa (.inr om)).trans h.c3,zav h.c4,(zaa (.inr om)).trans h.c5,(World.frozen?_setCell _ _ _ _).trans h.f0,(World.frozen?_setCell _ _ _ _).trans h.f1,(World.frozen?_setCell _ _ _ _).trans h.f2,(World.frozen?_setCell _ _ _ _).trans h.f3,(World.frozen?_setCell _ _ _ _).trans h.f4,(World.frozen?_setCell _ _ _ _).trans h.f5⟩
theorem ChC.set5 {w:World} {p:Nat} {g j:Value} {b:Bool} {d f:Value} {k:Bool} (h:ChC w p g j b d f k) (c:Bool):ChC (w.setCell ⟨p,5,none⟩ (.bool c)) p g j b d f c:=⟨by simp;exact h.lt,(zaa (.inr om)).trans h.c0,(zaa (.inr om)).trans h.c1,(zaa (.inr om)).trans h.c2,(zaa (.inr om)).trans h.c3,(zaa (.inr om)).trans h.c4,zav h.c5,(World.frozen?_setCell _ _ _ _).trans h.f0,(World.frozen?_setCell _ _ _ _).trans h.f1,(World.frozen?_setCell _ _ _ _).trans h.f2,(World.frozen?_setCell _ _ _ _).trans h.f3,(World.frozen?_setCell _ _ _ _).trans h.f4,(World.frozen?_setCell _ _ _ _).trans h.f5⟩
structure XY (base:Nat) (w:World) (p n X Y bx cx by' cy:Nat):Prop where
 hp:base≤p
 hx:base≤bx
 hy:base≤by'
 xy:bx≠by'
 xp:bx≠p
 yp:by'≠p
 ax:Arr .u64 B w bx 0 n
 ay:Arr .u64 B w by' 0 n
 fx:Free w bx 0 n
 fy:Free w by' 0 n
 ex:num B w bx 0 n=X
 ey:num B w by' 0 n=Y
 n0:0<n
 nm:n<160
 cx1:n≤cx
 cy1:n≤cy
 cx2:cx<160
 cy2:cy<160
 le:Y≤X
theorem freeB {w w':World} {b o n:Nat} (h:Free w b o n) (d:b<w.heap.size) (c:Below w.heap.size w w'):Free w' b o n:=fun i hi=>(World.frozen?_of_block (c.block b d)).trans (h i hi)
theorem XY.below {b:Nat} {w w':World} {p n X Y k l d m:Nat} (h:XY b w p n X Y k l d m) (c:Below w.heap.size w w'):XY b w' p n X Y k l d m:=by obtain⟨z,A,B,C,D,E,f,g,r,s,o,q,j,G,t,u,x,y,F⟩:=h;exact⟨z,A,B,C,D,E,zaf f c,zaf g c,freeB r (f.lt j) c,freeB s (g.lt j) c,(zal f c).trans o,(zal g c).trans q,j,G,t,u,x,y,F⟩
theorem XY.other {b:Nat} {w:World} {p n X Y k l c m:Nat} (h:XY b w p n X Y k l c m) (i:Nat) (v:Value):XY b (w.setCell ⟨p,i,none⟩ v) p n X Y k l c m:=by
 obtain⟨B,C,D,E,d,f,o,q,t,u,r,s,G,H,x,y,z,A,F⟩:=h;refine⟨B,C,D,E,d,f,o.set' (.inl d.symm),q.set' (.inl f.symm),fun j g=>(World.frozen?_setCell _ _ _ _).trans (t j g),fun j g=>(World.frozen?_setCell _ _ _ _).trans (u j g),?_,?_,G,H,x,y,z,A,F⟩
 ·rw[zar (.inl d.symm)];exact r
 ·rw[zar (.inl f.symm)];exact s
inductive Ch (base:Nat) (w:World) (p n X Y:Nat):Prop
 |mk (bx cx by' cy:Nat) (uv vv:Value) (mi:Bool) (c:ChC w p (.slice (some ⟨bx,0,none⟩) n cx) (.slice (some ⟨by',0,none⟩) n cy) false uv vv mi) (r:XY base w p n X Y bx cx by' cy)
theorem zgp {w j f:World} {b o n m c p:Nat} (l:Cleared .u64 B w j b o n) (g:Copied .u64 B j f b o m c p) (s:m≤n):
 Arr .u64 B f b o n∧num B f b o n=num B j c p m∧Chg w f b o (o+n):=by
 have d:∀i,m≤i→f.cell? ⟨b,o+i,none⟩=j.cell? ⟨b,o+i,none⟩:=fun i hi=>g.chg.cell (o+i) om;refine⟨fun i hi=>?_,?_,l.chg.trans (g.chg.mono (Nat.le_refl _) om)⟩
 ·by_cases q:i<m
  ·exact g.arr i q
  ·have e:=d i om;rw[zac e,e];exact l.arr i hi
 ·have k:num B f b o n=num B f b o m:=_root_.Rad.vs_top s fun i k r=>by rw[zac (d i k)];exact l.zero i r
  rw[k];exact za1 g.same
theorem Fr_mono {a b:Nat} {v:Value} (h:a≤b) (f:Fr b v):Fr a v:=fun d o n c e=>Nat.le_trans h (f d o n c e)
theorem step_any (d:Nat) (w:World) (p n X Y:Nat) (hC:Ch d w p n X Y) (rb:0<Y) (O:d≤w.heap.size):
 Calls Tryz.prog 125 #[.pointer (some ⟨p,0,none⟩)] w fun e w'=>e=.returned (.tuple #[])∧Below d w w'∧Ch d w' p n Y (X%Y):=by
 obtain⟨u,F,g,G,uv,vv,mi,C,R⟩:=hC;obtain⟨i0,tb,xb,ic,jc⟩:=info_parts zcs;have HC:Hid (ChC w p (.slice (some ⟨u,0,none⟩) n F) (.slice (some ⟨g,0,none⟩) n G) false uv vv mi):=C;have HR:Hid (XY d w p n X Y u F g G):=R;have ha:Hid (Y≠0):=(by show Y≠0;omega);have qb:Hid (Y≤X):=R.le;have V:Hid (n≤maxLen):=(by have:=R.nm;show n≤maxLen;unfold maxLen;omega);have hn:=R.nm;have gc:=R.cx1;have hc:=R.cy1;have ra:Hid (d≤w.heap.size):=O;have AX:∀m,Below w.heap.size w m→Arr .u64 B m u 0 n∧num B m u 0 n=X:=fun m h=>⟨zaf R.ax h,(zal R.ax h).trans R.ex⟩;have AY:∀m,Below w.heap.size w m→Arr .u64 B m g 0 n∧num B m g 0 n=Y:=fun m h=>⟨zaf R.ay h,(zal R.ay h).trans R.ey⟩;obtain⟨lp,k0,k1,k2,k3,k4,-,-,-,-,-,-⟩:=id C;clear C R O rb;go_enter Tryz.func125,Tryz.ntmps125;go_wp2;refine zab (fun x=>x=w) rfl ?_;rintro x rfl;refine zaq za6 [⟨6,[],[],[0]⟩,⟨7,[0],[0],[]⟩,⟨8,[1],[0,1],[]⟩,⟨9,[2],[0,1,2],[]⟩,⟨10,[],[],[0]⟩,⟨11,[4],[4],[]⟩,⟨12,[5],[4,5],[]⟩,⟨13,[6],[4,5,6],[]⟩,⟨14,[7],[4,5,6,7],[]⟩,⟨15,[3,8],[0,1,2,3,4,5,6,7,8],[]⟩,⟨16,[],[],[0]⟩,⟨17,[10],[10],[]⟩,⟨18,[11],[10,11],[]⟩,⟨19,[12],[10,11,12],[]⟩,⟨20,[],[],[0]⟩,⟨21,[14],[14],[]⟩,⟨22,[15],[14,15],[]⟩,⟨23,[16],[14,15,16],[]⟩,⟨24,[17],[14,15,16,17],[]⟩,⟨25,[9,13,18],[0,1,2,3,4,5,6,7,8,9,10,11,12,13,14,15,16,17,18],[]⟩,⟨26,[9,19],[0,1,2,3,4,5,6,7,8,9,10,11,12,13,14,15,16,17,18,19],[]⟩,⟨5,[20],[0,1,2,3,4,5,6,7,8,9,10,11,12,13,14,15,16,17,18,19,20],[]⟩,⟨27,[21],[0,1,2,3,4,5,6,7,8,9,10,11,12,13,14,15,16,17,18,19,20,21],[]⟩,⟨28,[21],[0,1,2,3,4,5,6,7,8,9,10,11,12,13,14,15,16,17,18,19,20,21],[]⟩,⟨2,[0,1,2,3,4,5,6,7,8,9,10,11,12,13,14,15,16,17,18,19,20,21,22],[0,1,2,3,4,5,6,7,8,9,10,11,12,13,14,15,16,17,18,19,20,21,22],[]⟩,⟨3,[0,1,2,3,4,5,6,7,8,9,10,11,12,13,14,15,16,17,18,19,20,21,22,23,24],[0,1,2,3,4,5,6,7,8,9,10,11,12,13,14,15,16,17,18,19,20,21,22,23,24],[]⟩] [] kfl 120 rfl kfl (fun (i:Nat) (v:Value) (I:World)=>match i with|0=>v=.pointer (some ⟨p,0,none⟩)|1=>v=.pointer (some ⟨p,0,none⟩)|2=>v=.pointer (some ⟨p,0,none⟩)|3=>v=.slice (some ⟨u,0,none⟩) n (F)|4=>v=.pointer (some ⟨p,0,none⟩)|5=>v=.pointer (some ⟨p,0,none⟩)|6=>v=.pointer (some ⟨p,0,none⟩)|7=>v=.slice (some ⟨u,0,none⟩) n (F)|8=>v=.int .i64 (((n:Nat):Int))|9=>∃k,k≤n∧Mag I v X k|10=>v=.pointer (some ⟨p,0,none⟩)|11=>v=.pointer (some ⟨p,0,none⟩)|12=>v=.pointer (some ⟨p,1,none⟩)|13=>v=.slice (some ⟨g,0,none⟩) n (G)|14=>v=.pointer (some ⟨p,0,none⟩)|15=>v=.pointer (some ⟨p,0,none⟩)|16=>v=.pointer (some ⟨p,1,none⟩)|17=>v=.slice (some ⟨g,0,none⟩) n (G)|18=>v=.int .i64 (((n:Nat):Int))|19=>∃k,k≤n∧Mag I v Y k|20=>∃t l nq s,v=.tuple #[t,l]∧Mag I t (X / Y) nq∧Mag I l (X%Y) s∧Fr x.heap.size l|21=>∃t l nq s,v=.tuple #[t,l]∧Mag I t (X / Y) nq∧Mag I l (X%Y) s∧Fr x.heap.size l|22=>∃n,Mag I v (X / Y) n|23=>∃n,Mag I v (X%Y) n∧Fr x.heap.size v|24=>∃n,Mag I v (X / Y) n|25=>∃n,Mag I v (X%Y) n∧Fr x.heap.size v|_=>True) (fun _ I=>Below x.heap.size x I) (fun m wy=>Below m.heap.size m wy) (zz).drew (fun i v m wy h U=>match i,h with|0,h=>h|1,h=>h|2,h=>h|3,h=>h|4,h=>h|5,h=>h|6,h=>h|7,h=>h|8,h=>h|10,h=>h|11,h=>h|12,h=>h|13,h=>h|14,h=>h|15,h=>h|16,h=>h|17,h=>h|18,h=>h|9,h=>by obtain⟨k,z,Z⟩:=h;exact⟨k,z,Z.below U⟩|19,h=>by obtain⟨k,z,Z⟩:=h;exact⟨k,z,Z.below U⟩|20,h=>by obtain⟨t,l,nq,s,h0,z,Z,h3⟩:=h;exact⟨t,l,nq,s,h0,z.below U,Z.below U,h3⟩|21,h=>by obtain⟨t,l,nq,s,h0,z,Z,h3⟩:=h;exact⟨t,l,nq,s,h0,z.below U,Z.below U,h3⟩|22,h=>by obtain⟨n,h⟩:=h;exact⟨n,h.below U⟩|23,h=>by obtain⟨n,h,z⟩:=h;exact⟨n,h.below U,z⟩|24,h=>by obtain⟨n,h⟩:=h;exact⟨n,h.below U⟩|25,h=>by obtain⟨n,h,z⟩:=h;exact⟨n,h.below U,z⟩|n+26,_=>trivial) ?_ ?_
 ·intro i o r j f L fr m D hL vb sb mb b q;clear hL vb sb mb
  match i,j,f with
  |0,j,f=>?_
  |1,j,f=>?_
  |2,j,f=>?_
  |3,j,f=>?_
  |4,j,f=>?_
  |5,j,f=>?_
  |6,j,f=>?_
  |7,j,f=>?_
  |8,j,f=>?_
  |9,j,f=>obtain rfl:=oi j;obtain rfl:=oi f;have e3:=evs 9 (b 3 dd _ rfl);have e8:=evs 14 (b 8 dd _ rfl);clear b q;refine zap rfl rfl fun K J=>?_;go_simp;refine(zbs m (some ⟨u,0,none⟩) u 0 n _ n (Sl.mk _ _ _) om V.out V.out (AX m D).1).mono ?_;rintro e wy ⟨v4,k4,rfl,wb,ub,ma,S⟩;subst wy;exact J _ _ ⟨⟨k4,ma,by rw[Nat.min_self,(AX m D).2]at S;exact S⟩,D,zz,nn⟩
  |10,j,f=>?_
  |11,j,f=>?_
  |12,j,f=>?_
  |13,j,f=>?_
  |14,j,f=>?_
  |15,j,f=>?_
  |16,j,f=>?_
  |17,j,f=>?_
  |18,j,f=>?_
  |19,j,f=>obtain rfl:=oi j;obtain rfl:=oi f;have ia:=evs 19 (b 13 dd _ rfl);have ja:=evs 24 (b 18 dd _ rfl);clear b q;refine zap rfl rfl fun K J=>?_;go_simp;refine(zbs m (some ⟨g,0,none⟩) g 0 n _ n (Sl.mk _ _ _) om V.out V.out (AY m D).1).mono ?_;rintro e wy ⟨v4,k4,rfl,wb,ub,ma,S⟩;subst wy;exact J _ _ ⟨⟨k4,ma,by rw[Nat.min_self,(AY m D).2]at S;exact S⟩,D,zz,nn⟩
  |20,j,f=>obtain rfl:=oi j;obtain rfl:=oi f;obtain⟨u9,e9,p9⟩:=evr 15 (P:=fun u9=>∃k,k≤n∧Mag m u9 X k) (b 9 dd _ rfl);obtain⟨u19,ka,H⟩:=evr 25 (P:=fun u19=>∃k,k≤n∧Mag m u19 Y k) (b 19 dd _ rfl);clear b q;refine zap rfl rfl fun K J=>?_;obtain⟨k9,h9,p9⟩:=p9;obtain⟨yb,fc,H⟩:=H;go_simp;refine(zfx m _ _ _ _ k9 yb p9 H (Nat.pos_of_ne_zero (fun h=>ha.out (H.zero_iff.2 h))) om om).mono ?_;rintro e wy ⟨t,l,nq,s,rfl,hb,ca,da,ba⟩;exact J _ _ ⟨⟨t,l,nq,s,rfl,ca,da,Fr_mono D.size (ba qb.out)⟩,D.trans (hb.mono D.size),hb,nn⟩
  |21,j,f=>?_
  |22,j,f=>obtain rfl:=oi j;obtain rfl:=oi f;obtain⟨u21,W,T⟩:=evr 5 (P:=fun u21=>∃t l nq s,u21=.tuple #[t,l]∧Mag m t (X / Y) nq∧Mag m l (X%Y) s∧Fr x.heap.size l) (b 21 dd _ rfl);clear b q;refine zap rfl rfl fun K J=>?_;obtain⟨t,l,nq,s,rfl,ca,da,ba⟩:=T;go_simp;exact J _ _ ⟨⟨nq,ca⟩,D,zz,nn⟩
  |23,j,f=>obtain rfl:=oi j;obtain rfl:=oi f;obtain⟨u21,W,T⟩:=evr 5 (P:=fun u21=>∃t l nq s,u21=.tuple #[t,l]∧Mag m t (X / Y) nq∧Mag m l (X%Y) s∧Fr x.heap.size l) (b 21 dd _ rfl);clear b q;refine zap rfl rfl fun K J=>?_;obtain⟨t,l,nq,s,rfl,ca,da,ba⟩:=T;go_simp;exact J _ _ ⟨⟨s,da,ba⟩,D,zz,nn⟩
  |24,j,f=>?_
  |25,j,f=>?_
  |n+26,j,f=>exact absurd f (by simp)
  all_goals
   obtain rfl:=oi j;obtain rfl:=oi f;simp only[uxw,uw,evt]at b q;have c0:=(D.cell (p:=⟨p,0,none⟩) lp).trans k0;have c1:=(D.cell (p:=⟨p,1,none⟩) lp).trans k1;refine zap rfl rfl fun K J=>?_ <;> (go_simp;exact J _ _ ⟨(by first|rfl|exact b|exact b.1|exact b.2|(simp only[b];done)),D,zz,nn⟩)
 ·intro vs y c aa jb;clear jb;have e0:vs 0=_:=c 0 dd;have e1:vs 1=_:=c 1 dd;have e2:vs 2=_:=c 2 dd;have e3:vs 3=_:=c 3 dd;have e4:vs 4=_:=c 4 dd;have e5:vs 5=_:=c 5 dd;have e6:vs 6=_:=c 6 dd;have e7:vs 7=_:=c 7 dd;have e8:vs 8=_:=c 8 dd;obtain⟨u9,e9,p9⟩:∃u9,vs 9=u9∧(∃k,k≤n∧Mag y u9 X k):=⟨_,rfl,c 9 dd⟩;have wa:vs 10=_:=c 10 dd;have xa:vs 11=_:=c 11 dd;have ya:vs 12=_:=c 12 dd;have ia:vs 13=_:=c 13 dd;have za:vs 14=_:=c 14 dd;have ab:vs 15=_:=c 15 dd;have bb:vs 16=_:=c 16 dd;have cb:vs 17=_:=c 17 dd;have ja:vs 18=_:=c 18 dd;obtain⟨u19,ka,H⟩:∃u19,vs 19=u19∧(∃k,k≤n∧Mag y u19 Y k):=⟨_,rfl,c 19 dd⟩;obtain⟨u20,db,zb⟩:∃u20,vs 20=u20∧(∃t l nq s,u20=.tuple #[t,l]∧Mag y t (X / Y) nq∧Mag y l (X%Y) s∧Fr x.heap.size l):=⟨_,rfl,c 20 dd⟩;obtain⟨u21,W,T⟩:∃u21,vs 21=u21∧(∃t l nq s,u21=.tuple #[t,l]∧Mag y t (X / Y) nq∧Mag y l (X%Y) s∧Fr x.heap.size l):=⟨_,rfl,c 21 dd⟩;obtain⟨u22,eb,ac⟩:∃u22,vs 22=u22∧(∃n,Mag y u22 (X / Y) n):=⟨_,rfl,c 22 dd⟩;obtain⟨u23,fb,bc⟩:∃u23,vs 23=u23∧(∃n,Mag y u23 (X%Y) n∧Fr x.heap.size u23):=⟨_,rfl,c 23 dd⟩;obtain⟨u24,gb,pb⟩:∃u24,vs 24=u24∧(∃n,Mag y u24 (X / Y) n):=⟨_,rfl,c 24 dd⟩;obtain⟨u25,ib,cc⟩:∃u25,vs 25=u25∧(∃n,Mag y u25 (X%Y) n∧Fr x.heap.size u25):=⟨_,rfl,c 25 dd⟩;simp only[zbp,Nat.reduceAdd,e0,e1,e2,e3,e4,e5,e6,e7,e8,e9,wa,xa,ya,ia,za,ab,bb,cb,ja,ka,db,W,eb,fb,gb,ib,Act.put,ll];clear c e0 e1 e2 e3 e4 e5 e6 e7 e8 e9 wa xa ya ia za ab bb cb ja ka db W eb fb gb ib;have HQ:Hid _:=pb;obtain⟨s,f,nb⟩:=cc;obtain⟨ar,br,pa,cr,rfl,ea,lb,N,oa,ob⟩:=f;have C1:=HC.out.below aa;have R1:=HR.out.below aa;have kb:Below d x y:=aa.mono ra.out;have ec:u<x.heap.size:=HR.out.ax.lt HR.out.n0;have na:s≤n:=(by have hm:Mag y (.slice ar s cr) (X%Y) s:=⟨ar,br,pa,cr,rfl,ea,lb,N,oa,ob⟩;refine hm.len_le ?_;have z:Y<B^n:=(by rw[←R1.ey];exact zbb R1.ay);exact Nat.lt_trans (Nat.mod_lt _ (Nat.pos_of_ne_zero ha.out)) z);have M:0<s→br≠u:=fun h=>by obtain rfl:=ea h;have:=nb _ _ _ _ rfl;omega
  have A1:=R1.ax;have F1:=R1.fx;have va:Hid (num B y br pa s=X%Y):=oa;have sa:Hid (ChC y p (.slice (some ⟨u,0,none⟩) n F) (.slice (some ⟨g,0,none⟩) n G) false uv vv mi):=C1;have E:Hid (XY d y p n X Y u F g G):=R1;have ga:Hid (Below d x y):=kb;obtain⟨lq,q0,q1,q2,-,-,-,-,-,-,-,-⟩:=id C1;have hq:∀m,Chg y m u 0 (0+n)→∀i,m.cell? ⟨p,i,none⟩=y.cell? ⟨p,i,none⟩:=fun m h i=>World.cell?_of_block (h.block p lq E.out.xp.symm);clear p9 H zb T ac bc pb nb oa ob C1 R1 kb k0 k1 k2 k3 k4 lp AX AY HC HR aa;go_wp2_with (first
   |(refine zcw .u64 B zbg rfl _ 22 rfl 98 i0 Tryz.underlying22 tb xb _ _ _ rfl u 0 (Sl.mk _ _ _) A1 F1 ?_;intro w2 A;have dc:=(hq w2 A.chg 0).trans q0;have fa:=A.chg.arr N N.lt (fun h=> .inl (M h));have F2:=A.chg.free F1 (fun _=>A1.lt E.out.n0))
   |(refine za4 .u64 B rfl _ _ 22 22 rfl 98 Tryz.underlying22 zdg _ _ _ _ _ _ rfl rfl u 0 br pa (Sl.mk _ _ _) ea A.arr F2 fa ?_;intro w3 la))
  rw[Nat.min_eq_left na]at la;obtain⟨A3,N3,H3⟩:=zgp A la na;rw[A.chg.num N.lt (fun h=> .inl (M h)),va.out]at N3;have C3:=sa.out.chg H3 E.out.xp.symm;have R3:XY d w3 p n Y (X%Y) g G u F:=(by obtain⟨z,Z,h3,h4,h5,h6,ax,ay,fx,fy,ex,ey,n0,nm,g1,g2,g3,g4,le⟩:=E.out;exact⟨z,h3,Z,h4.symm,h6,h5,H3.arr ay ay.lt (fun _=> .inl h4.symm),A3,H3.free fy (fun _=>ay.lt n0),H3.free fx (fun _=>ax.lt n0),(H3.num (fun _=>ay.lt n0) (fun _=> .inl h4.symm)).trans ey,N3,n0,nm,g2,g1,g4,g3,Nat.le_of_lt (Nat.mod_lt _ (Nat.pos_of_ne_zero ha.out))⟩);have B3:Below d x w3:=ga.out.trans (H3.below E.out.hx (Nat.le_trans ra.out ga.out.size));obtain⟨lp,k0,k1,k2,-,-,-,z0,z1,-,-,-,-⟩:=id C3;have ta:Hid (ChC w3 p (.slice (some ⟨u,0,none⟩) n F) (.slice (some ⟨g,0,none⟩) n G) false uv vv mi):=C3;have ua:Hid (XY d w3 p n Y (X%Y) g G u F):=R3;have qa:Hid (Below d x w3):=B3;clear sa E ga C3 R3 B3 A3 N3 H3 A la N fa M hq q0 q1 q2 dc lq A1 F1 F2 va ea lb na;go_wp2;have CF:=(ta.out.set0 (.slice (some ⟨g,0,none⟩) n G)).set1 (.slice (some ⟨u,0,none⟩) n F);have RF:=(ua.out.other 0 (.slice (some ⟨g,0,none⟩) n G)).other 1 (.slice (some ⟨u,0,none⟩) n F);have HF:Hid (Below d x (((w3.setCell ⟨p,0,none⟩ (.slice (some ⟨g,0,none⟩) n G)).setCell ⟨p,1,none⟩ (.slice (some ⟨u,0,none⟩) n F)).drew)∧Ch d (((w3.setCell ⟨p,0,none⟩ (.slice (some ⟨g,0,none⟩) n G)).setCell ⟨p,1,none⟩ (.slice (some ⟨u,0,none⟩) n F)).drew) p n Y (X%Y)):=⟨((qa.out.setCell (p:=⟨p,0,none⟩) RF.hp _).setCell (p:=⟨p,1,none⟩) RF.hp _).drew,.mk _ _ _ _ _ _ _ (CF.below (zae _)) (RF.below (zae _))⟩;clear CF RF qa ta ua HQ;go_region
  all_goals
   go_wp2;refine bodyPost_ret (results_none rfl _ _ _) rfl ?_;exact⟨rfl,HF.out⟩
theorem TB.chgS {w w':World} {b p q r s c d:Nat} {f:Bool} (h:TB w b p q r s f) (g:ChgS w w' (S2 c d)) (z:b≠c) (A:b≠d):TB w' b p q r s f:=by
 obtain⟨lt,j,k,l,m,n,o,t,u,x,y⟩:=h;have e:=g.block b lt (fun i hi=>by rcases hi with h|h <;> omega);exact⟨Nat.lt_of_lt_of_le lt g.size,(World.cell?_of_block e).trans j,(World.cell?_of_block e).trans k,(World.cell?_of_block e).trans l,(World.cell?_of_block e).trans m,(World.cell?_of_block e).trans n,
  (World.frozen?_of_block e).trans o,(World.frozen?_of_block e).trans t,(World.frozen?_of_block e).trans u,(World.frozen?_of_block e).trans x,(World.frozen?_of_block e).trans y⟩
theorem XY.oth {b:Nat} {w:World} {p n X Y f k d l c:Nat} (h:XY b w p n X Y f k d l) (m:c≠f) (o:c≠d) (i:Nat) (v:Value):XY b (w.setCell ⟨c,i,none⟩ v) p n X Y f k d l:=by
 obtain⟨C,D,E,F,G,H,q,r,u,x,s,t,J,L,y,z,A,B,I⟩:=h;refine⟨C,D,E,F,G,H,q.set' (.inl m),r.set' (.inl o),fun j g=>(World.frozen?_setCell _ _ _ _).trans (u j g),fun j g=>(World.frozen?_setCell _ _ _ _).trans (x j g),?_,?_,J,L,y,z,A,B,I⟩
 ·rw[zar (.inl m)];exact s
 ·rw[zar (.inl o)];exact t
inductive TurnDone (base:Nat) (w:World) (pc n X Y:Nat) (e:Ending) (w':World):Prop
 |mk (x y:Nat) (he:e=.returned (.tuple #[])) (hb:Below base w w') (hc:Ch base w' pc n x y) (hg:Nat.gcd x y=Nat.gcd X Y) (h0:0<y) (h1:y<x) (h2:x≤Y)
theorem turn_any (c:Nat) (w:World) (F n X Y p q r s:Nat) (N:Bool) (hC:Ch c w F n X Y) (ht:TurnOk X Y p q r s N) (hq:0<q) (J:c≤w.heap.size):
 Calls Tryz.prog 151 #[.pointer (some ⟨F,0,none⟩),.agg #[.int .u64 p,.int .u64 q,.int .u64 r,.int .u64 s,.bool N]] w fun e w'=>TurnDone c w F n X Y e w':=by
 obtain⟨f,D,b,E,uv,vv,mi,C,R⟩:=hC;rcases ht with h|⟨_,ba,x,y,he,ho,h0,h1,h2⟩
 ·omega
 obtain⟨p1,q1,r1,s1⟩:p<B∧q<B∧r<B∧s<B:=(by unfold B;omega);have HG:Hid (Nat.gcd x y=Nat.gcd X Y):=_root_.Rad.turn_gcd he ho;have O:Hid (0<y∧y<x∧x≤Y):=⟨h0,h1,h2⟩;have HE:Hid _:=he;have HO:Hid _:=ho;have t:Hid (c≤w.heap.size):=J;clear he ho h0 h1 h2 hq ba J;go_enter Tryz.func151,Tryz.ntmps151;go_upto_region 1 with fail;refine zab (fun m=>Below w.heap.size w m∧TB m w.heap.size p q r s N) ⟨zao _ _,TB.mk0 _ _ _ _ _ _ _⟩ ?_;rintro m ⟨P,T⟩;have C1:=C.below P;have R1:=R.below P;have hl:=C.lt;have lx:=R.ax.lt R.n0;have ly:=R.ay.lt R.n0;have H:Hid (Below c w m):=P.mono t.out;obtain⟨A,V⟩:∃A,w.heap.size=A:=⟨_,rfl⟩;have W:c≤A:=(by rw[←V];exact t.out);rw[V]at T hl lx ly;have u:Hid (c≤A):=W;have HT:Hid (TB m A p q r s N):=T;have HC:Hid (ChC m F (.slice (some ⟨f,0,none⟩) n D) (.slice (some ⟨b,0,none⟩) n E) false uv vv mi):=C1;have HR:Hid (XY c m F n X Y f D b E):=R1;obtain⟨lp,k0,k1,k2,-,-,-,z0,z1,-,-,-,-⟩:=id C1;obtain⟨lt,t0,t1,t2,t3,t4,y0,y1,y2,y3,y4⟩:=id T;rw[V];have l:Hid (F≠A∧f≠A∧b≠A):=(by show _∧_∧_;omega);clear C R C1 R1 T P V W hl lx ly;cases N
 ·have R:=HR.out;have CM:=mix_any m.drew f 0 D b 0 E n p q r s false (zaf R.ax (zae _)) (zaf R.ay (zae _)) R.fx R.fy R.xy R.cx1 R.cy1 (by have:=R.cy2;unfold maxLen;omega) p1 q1 r1 s1 R.n0;have G:∀g,ChgS m.drew g (S2 f b)→Arr .u64 B g f 0 n→Arr .u64 B g b 0 n→
   (∀z,p*num B m.drew f 0 n=q*num B m.drew b 0 n+z→z<B^n→num B g f 0 n=z)→
   (∀z,s*num B m.drew b 0 n=r*num B m.drew f 0 n+z→z<B^n→num B g b 0 n=z)→TurnDone c w F n X Y (.returned (.tuple #[])) g:=by
   intro g j S U L M;have d:ChgS m g (S2 f b):=(ChgS.refl m _).drew.trans j;have hX:num B m.drew f 0 n=X:=R.ex;have hY:num B m.drew b 0 n=Y:=R.ey;rw[hX,hY]at L M;obtain⟨g0,g1,g2⟩:=O.out;obtain⟨e1,e2,_⟩:=HE.out rfl;have aa:Y<B^n:=(by rw[←R.ey];exact zbb R.ay);have fx:=L x e1 om;have fy:=M y e2 om;refine .mk x y rfl (H.out.trans (d.below (fun k i hk hs=>?_) (Nat.le_trans t.out H.out.size))) (.mk f D b E uv vv mi (HC.out.chgS d R.xp.symm R.yp.symm) ?_) HG.out g0 g1 g2
   ·have:=R.hx;have:=R.hy;rcases hs with h|h <;> omega
   ·exact⟨R.hp,R.hx,R.hy,R.xy,R.xp,R.yp,S,U,d.free R.fx (fun _=>R.ax.lt R.n0),d.free R.fy (fun _=>R.ay.lt R.n0),fx,fy,R.n0,R.nm,R.cx1,R.cy1,R.cx2,R.cy2,Nat.le_of_lt g1⟩
  have I:Hid _:=G;clear G R HO HE O HG HT HC HR l u t H;go_wp2;go_region_with (go_at_call 173;refine CM.mono ?_;rintro e g ⟨rfl,j,S,U,L,M⟩)
  all_goals
   have Z:Hid _:=I.out g j S U L M;clear j S U L M;go_wp2;go_end0;exact Z.out
 ·have CF:=(((((((HC.out.set0 (.slice (some ⟨b,0,none⟩) n E)).set1 (.slice (some ⟨f,0,none⟩) n D)).other l.out.1 (.int .u64 (q:Int):Value) (i:=0)).other l.out.1 (.int .u64 (p:Int):Value) (i:=1)).other l.out.1 (.int .u64 (s:Int):Value) (i:=2)).other l.out.1 (.int .u64 (r:Int):Value) (i:=3)).below (zae _));have RF:=(((((((HR.out.other 0 (.slice (some ⟨b,0,none⟩) n E)).other 1 (.slice (some ⟨f,0,none⟩) n D)).oth l.out.2.1.symm l.out.2.2.symm 0 (.int .u64 (q:Int):Value)).oth l.out.2.1.symm l.out.2.2.symm 1 (.int .u64 (p:Int):Value)).oth l.out.2.1.symm l.out.2.2.symm 2 (.int .u64 (s:Int):Value)).oth l.out.2.1.symm l.out.2.2.symm 3 (.int .u64 (r:Int):Value)).below (zae _));have TF:=(((((((HT.out.other l.out.1.symm (.slice (some ⟨b,0,none⟩) n E) (i:=0)).other l.out.1.symm (.slice (some ⟨f,0,none⟩) n D) (i:=1)).set0 q).set1 p).set2 s).set3 r).below (zae _) (by simp;exact HT.out.lt));have BF:=(((((((H.out.setCell (p:=⟨F,0,none⟩) HR.out.hp (.slice (some ⟨b,0,none⟩) n E)).setCell (p:=⟨F,1,none⟩) HR.out.hp (.slice (some ⟨f,0,none⟩) n D)).setCell (p:=⟨A,0,none⟩) u.out (.int .u64 (q:Int):Value)).setCell (p:=⟨A,1,none⟩) u.out (.int .u64 (p:Int):Value)).setCell (p:=⟨A,2,none⟩) u.out (.int .u64 (s:Int):Value)).setCell (p:=⟨A,3,none⟩) u.out (.int .u64 (r:Int):Value)).drew);have Z:Hid _:=(⟨BF,CF,RF,TF⟩:_∧_∧_∧_);have ca:=l.out.1;have da:=l.out.1.symm;clear CF RF TF BF HC HR H;go_wp2;go_region
  all_goals
   go_upto_region 9 with fail
   refine zab (fun o=>Below c w o∧ChC o F (.slice (some ⟨b,0,none⟩) n E) (.slice (some ⟨f,0,none⟩) n D) false uv vv mi∧XY c o F n X Y f D b E∧TB o A q p s r true) Z.out ?_;clear Z HT k0 k1 k2 z0 z1 t0 t1 t2 t3 t4 y0 y1 y2 y3 y4 lp lt m;rintro o ⟨B5,C5,R,T5⟩;obtain⟨lp,k0,k1,k2,-,-,-,z0,z1,-,-,-,-⟩:=id C5;obtain⟨lt,t0,t1,t2,t3,t4,y0,y1,y2,y3,y4⟩:=id T5;have CM:=mix_any o.drew b 0 E f 0 D n q p s r true (zaf R.ay (zae _)) (zaf R.ax (zae _)) R.fy R.fx R.xy.symm R.cy1 R.cx1 (by have:=R.cx2;unfold maxLen;omega) q1 p1 s1 r1 R.n0;have G:∀g,ChgS o.drew g (S2 b f)→Arr .u64 B g b 0 n→Arr .u64 B g f 0 n→
    (∀z,q*num B o.drew b 0 n=p*num B o.drew f 0 n+z→z<B^n→num B g b 0 n=z)→
    (∀z,r*num B o.drew f 0 n=s*num B o.drew b 0 n+z→z<B^n→num B g f 0 n=z)→TurnDone c w F n X Y (.returned (.tuple #[])) g:=by
    intro g j S U L M;have d:ChgS o g (S2 b f):=(ChgS.refl o _).drew.trans j;have hX:num B o.drew f 0 n=X:=R.ex;have hY:num B o.drew b 0 n=Y:=R.ey;rw[hX,hY]at L M;obtain⟨g0,g1,g2⟩:=O.out;obtain⟨e1,e2,_⟩:=HO.out trivial;have aa:Y<B^n:=(by rw[←R.ey];exact zbb R.ay);have fx:=L x e1 om;have fy:=M y e2 om;refine .mk x y rfl (B5.trans (d.below (fun k i hk hs=>?_) (Nat.le_trans t.out B5.size))) (.mk b E f D uv vv mi (C5.chgS d R.yp.symm R.xp.symm) ?_) HG.out g0 g1 g2
    ·have:=R.hx;have:=R.hy;rcases hs with h|h <;> omega
    ·exact⟨R.hp,R.hy,R.hx,R.xy.symm,R.yp,R.xp,S,U,d.free R.fy (fun _=>R.ay.lt R.n0),d.free R.fx (fun _=>R.ax.lt R.n0),fx,fy,R.n0,R.nm,R.cy1,R.cx1,R.cy2,R.cx2,Nat.le_of_lt g1⟩
   have I:Hid _:=G;clear G R HO HE O HG l u t B5 C5 T5;go_region_with (go_at_call 173;refine CM.mono ?_;rintro e g ⟨rfl,j,S,U,L,M⟩)
   all_goals
    have Z:Hid _:=I.out g j S U L M;clear j S U L M;go_wp2;go_end0;exact Z.out
end Go.Proofs.YtjlkplidpdhgbaaGreatDoor
