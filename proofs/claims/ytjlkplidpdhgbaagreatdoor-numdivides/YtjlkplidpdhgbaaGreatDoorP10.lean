/- A part of the proof: G5, Pm18, Row, H4, H1, Pm19. -/
import Derived.Test.YtjlkplidpdhgbaaGreatDoorP00
import Derived.Test.YtjlkplidpdhgbaaGreatDoorP09
import Derived.Test.YtjlkplidpdhgbaaGreatDoorP04
import Derived.Deep.AppendLies
import Derived.Test.YtjlkplidpdhgbaaGreatDoorP05
set_option linter.all false
set_option maxRecDepth 10000
set_option maxHeartbeats 4000000
namespace Go.Proofs.YtjlkplidpdhgbaaGreatDoor
open Go Go.Proofs Go.RowKit Go.Rad
open _root_.Rad TurnOk
theorem TB.chgS {w w':World} {b p q r s c d:Nat} {odd:Bool} (h:TB w b p q r s odd) (f:ChgS w w' (S2 c d)) (y:b≠c) (z:b≠d):TB w' b p q r s odd:=by
 obtain⟨lt,g,j,k,l,m,n,o,t,u,x⟩:=h;have e:=f.block b lt (fun i hi=>by rcases hi with h|h <;> omega);exact⟨Nat.lt_of_lt_of_le lt f.size,(World.cell?_of_block e).trans g,(World.cell?_of_block e).trans j,(World.cell?_of_block e).trans k,(World.cell?_of_block e).trans l,(World.cell?_of_block e).trans m,
  (World.frozen?_of_block e).trans n,(World.frozen?_of_block e).trans o,(World.frozen?_of_block e).trans t,(World.frozen?_of_block e).trans u,(World.frozen?_of_block e).trans x⟩
theorem XY.oth {base:Nat} {w:World} {p n X Y d g b k c:Nat} (h:XY base w p n X Y d g b k) (l:c≠d) (m:c≠b) (i:Nat) (v:Value):XY base (w.setCell ⟨c,i,none⟩ v) p n X Y d g b k:=by
 obtain⟨B,C,D,E,F,G,o,q,t,u,r,s,I,J,x,y,z,A,H⟩:=h;refine⟨B,C,D,E,F,G,o.set' (.inl l),q.set' (.inl m),fun j f=>(World.frozen?_setCell _ _ _ _).trans (t j f),fun j f=>(World.frozen?_setCell _ _ _ _).trans (u j f),?_,?_,I,J,x,y,z,A,H⟩
 ·rw[zan (.inl l)];exact r
 ·rw[zan (.inl m)];exact s
inductive TurnDone (base:Nat) (w:World) (pc n X Y:Nat) (e:Ending) (w':World):Prop
 |mk (x y:Nat) (he:e=.returned (.tuple #[])) (hb:Below base w w') (hc:Ch base w' pc n x y) (hg:Nat.gcd x y=Nat.gcd X Y) (h0:0<y) (h1:y<x) (h2:x≤Y)
theorem turn_any (base:Nat) (w:World) (E n X Y p q r s:Nat) (odd:Bool) (hC:Ch base w E n X Y) (ht:TurnOk X Y p q r s odd) (hq:0<q) (I:base≤w.heap.size):
 Calls Tryz.prog 151 #[.pointer (some ⟨E,0,none⟩),.agg #[.int .u64 p,.int .u64 q,.int .u64 r,.int .u64 s,.bool odd]] w fun e w'=>TurnDone base w E n X Y e w':=by
 obtain⟨d,A,b,D,uv,vv,mi,C,R⟩:=hC;rcases ht with h|⟨_,ba,x,y,he,ho,h0,h1,h2,-,-⟩
 ·omega
 obtain⟨p1,q1,r1,s1⟩:p<B∧q<B∧r<B∧s<B:=(by unfold B;omega);have HG:Hid (Nat.gcd x y=Nat.gcd X Y):=_root_.Rad.turn_gcd he ho;have M:Hid (0<y∧y<x∧x≤Y):=⟨h0,h1,h2⟩;have HE:Hid _:=he;have HO:Hid _:=ho;have o:Hid (base≤w.heap.size):=I;clear he ho h0 h1 h2 hq ba I;go_enter Tryz.func151,Tryz.ntmps151;go_upto_region 1 with fail;refine zac (fun l=>Below w.heap.size w l∧TB l w.heap.size p q r s odd) ⟨zau _ _,TB.mk0 _ _ _ _ _ _ _⟩ ?_;rintro l ⟨N,T⟩;have C1:=C.below N;have R1:=R.below N;have hl:=C.lt;have lx:=R.ax.lt R.n0;have ly:=R.ay.lt R.n0;have G:Hid (Below base w l):=N.mono o.out;obtain⟨u,S⟩:∃u,w.heap.size=u:=⟨_,rfl⟩;have U:base≤u:=(by rw[←S];exact o.out);rw[S]at T hl lx ly;have t:Hid (base≤u):=U;have HT:Hid (TB l u p q r s odd):=T;have HC:Hid (ChC l E (.slice (some ⟨d,0,none⟩) n A) (.slice (some ⟨b,0,none⟩) n D) false uv vv mi):=C1;have W:Hid (XY base l E n X Y d A b D):=R1;obtain⟨lp,k0,k1,k2,-,-,-,z0,z1,-,-,-,-⟩:=id C1;obtain⟨lt,t0,t1,t2,t3,t4,y0,y1,y2,y3,y4⟩:=id T;rw[S];have j:Hid (E≠u∧d≠u∧b≠u):=(by show _∧_∧_;omega);clear C R C1 R1 T N S U hl lx ly;cases odd
 ·have R:=W.out;have CM:=mix_any l.drew d 0 A b 0 D n p q r s false (zae R.ax (zad _)) (zae R.ay (zad _)) R.fx R.fy R.xy R.cx1 R.cy1 (by have:=R.cy2;unfold maxLen;omega) p1 q1 r1 s1 R.n0;have F:∀f,ChgS l.drew f (S2 d b)→Arr .u64 B f d 0 n→Arr .u64 B f b 0 n→
   (∀z,p*num B l.drew d 0 n=q*num B l.drew b 0 n+z→z<B^n→num B f d 0 n=z)→
   (∀z,s*num B l.drew b 0 n=r*num B l.drew d 0 n+z→z<B^n→num B f b 0 n=z)→TurnDone base w E n X Y (.returned (.tuple #[])) f:=by
   intro f g O P J L;have c:ChgS l f (S2 d b):=(ChgS.refl l _).drew.trans g;have hX:num B l.drew d 0 n=X:=R.ex;have hY:num B l.drew b 0 n=Y:=R.ey;rw[hX,hY]at J L;obtain⟨g0,Z,g2⟩:=M.out;obtain⟨e1,e2,_⟩:=HE.out rfl;have aa:Y<B^n:=(by rw[←R.ey];exact za1 R.ay);have fx:=J x e1 om;have fy:=L y e2 om;refine .mk x y rfl (G.out.trans (c.below (fun k i hk hs=>?_) (Nat.le_trans o.out G.out.size))) (.mk d A b D uv vv mi (HC.out.chgS c R.xp.symm R.yp.symm) ?_) HG.out g0 Z g2
   ·have:=R.hx;have:=R.hy;rcases hs with h|h <;> omega
   ·exact⟨R.hp,R.hx,R.hy,R.xy,R.xp,R.yp,O,P,c.free R.fx (fun _=>R.ax.lt R.n0),c.free R.fy (fun _=>R.ay.lt R.n0),fx,fy,R.n0,R.nm,R.cx1,R.cy1,R.cx2,R.cy2,Nat.le_of_lt Z⟩
  have H:Hid _:=F;clear F R HO HE M HG HT HC W j t o G;go_wp2;go_region_with (go_at_call 173;refine CM.mono ?_;rintro e f ⟨rfl,g,O,P,J,L⟩)
  all_goals
   have V:Hid _:=H.out f g O P J L;clear g O P J L;go_wp2;go_end0;exact V.out
 ·have CF:=(((((((HC.out.set0 (.slice (some ⟨b,0,none⟩) n D)).set1 (.slice (some ⟨d,0,none⟩) n A)).other j.out.1 (.int .u64 (q:Int):Value) (i:=0)).other j.out.1 (.int .u64 (p:Int):Value) (i:=1)).other j.out.1 (.int .u64 (s:Int):Value) (i:=2)).other j.out.1 (.int .u64 (r:Int):Value) (i:=3)).below (zad _));have RF:=(((((((W.out.other 0 (.slice (some ⟨b,0,none⟩) n D)).other 1 (.slice (some ⟨d,0,none⟩) n A)).oth j.out.2.1.symm j.out.2.2.symm 0 (.int .u64 (q:Int):Value)).oth j.out.2.1.symm j.out.2.2.symm 1 (.int .u64 (p:Int):Value)).oth j.out.2.1.symm j.out.2.2.symm 2 (.int .u64 (s:Int):Value)).oth j.out.2.1.symm j.out.2.2.symm 3 (.int .u64 (r:Int):Value)).below (zad _));have TF:=(((((((HT.out.other j.out.1.symm (.slice (some ⟨b,0,none⟩) n D) (i:=0)).other j.out.1.symm (.slice (some ⟨d,0,none⟩) n A) (i:=1)).set0 q).set1 p).set2 s).set3 r).below (zad _) (by simp;exact HT.out.lt));have BF:=(((((((G.out.setCell (p:=⟨E,0,none⟩) W.out.hp (.slice (some ⟨b,0,none⟩) n D)).setCell (p:=⟨E,1,none⟩) W.out.hp (.slice (some ⟨d,0,none⟩) n A)).setCell (p:=⟨u,0,none⟩) t.out (.int .u64 (q:Int):Value)).setCell (p:=⟨u,1,none⟩) t.out (.int .u64 (p:Int):Value)).setCell (p:=⟨u,2,none⟩) t.out (.int .u64 (s:Int):Value)).setCell (p:=⟨u,3,none⟩) t.out (.int .u64 (r:Int):Value)).drew);have V:Hid _:=(⟨BF,CF,RF,TF⟩:_∧_∧_∧_);have ca:=j.out.1;have da:=j.out.1.symm;clear CF RF TF BF HC W G;go_wp2;go_region
  all_goals
   go_upto_region 9 with fail
   refine zac (fun m=>Below base w m∧ChC m E (.slice (some ⟨b,0,none⟩) n D) (.slice (some ⟨d,0,none⟩) n A) false uv vv mi∧XY base m E n X Y d A b D∧TB m u q p s r true) V.out ?_;clear V HT k0 k1 k2 z0 z1 t0 t1 t2 t3 t4 y0 y1 y2 y3 y4 lp lt l;rintro m ⟨B5,C5,R,T5⟩;obtain⟨lp,k0,k1,k2,-,-,-,z0,z1,-,-,-,-⟩:=id C5;obtain⟨lt,t0,t1,t2,t3,t4,y0,y1,y2,y3,y4⟩:=id T5;have CM:=mix_any m.drew b 0 D d 0 A n q p s r true (zae R.ay (zad _)) (zae R.ax (zad _)) R.fy R.fx R.xy.symm R.cy1 R.cx1 (by have:=R.cx2;unfold maxLen;omega) q1 p1 s1 r1 R.n0;have F:∀f,ChgS m.drew f (S2 b d)→Arr .u64 B f b 0 n→Arr .u64 B f d 0 n→
    (∀z,q*num B m.drew b 0 n=p*num B m.drew d 0 n+z→z<B^n→num B f b 0 n=z)→
    (∀z,r*num B m.drew d 0 n=s*num B m.drew b 0 n+z→z<B^n→num B f d 0 n=z)→TurnDone base w E n X Y (.returned (.tuple #[])) f:=by
    intro f g O P J L;have c:ChgS m f (S2 b d):=(ChgS.refl m _).drew.trans g;have hX:num B m.drew d 0 n=X:=R.ex;have hY:num B m.drew b 0 n=Y:=R.ey;rw[hX,hY]at J L;obtain⟨g0,Z,g2⟩:=M.out;obtain⟨e1,e2,_⟩:=HO.out trivial;have aa:Y<B^n:=(by rw[←R.ey];exact za1 R.ay);have fx:=J x e1 om;have fy:=L y e2 om;refine .mk x y rfl (B5.trans (c.below (fun k i hk hs=>?_) (Nat.le_trans o.out B5.size))) (.mk b D d A uv vv mi (C5.chgS c R.yp.symm R.xp.symm) ?_) HG.out g0 Z g2
    ·have:=R.hx;have:=R.hy;rcases hs with h|h <;> omega
    ·exact⟨R.hp,R.hy,R.hx,R.xy.symm,R.yp,R.xp,O,P,c.free R.fy (fun _=>R.ay.lt R.n0),c.free R.fx (fun _=>R.ax.lt R.n0),fx,fy,R.n0,R.nm,R.cy1,R.cx1,R.cy2,R.cx2,Nat.le_of_lt Z⟩
   have H:Hid _:=F;clear F R HO HE M HG j t o B5 C5 T5;go_region_with (go_at_call 173;refine CM.mono ?_;rintro e f ⟨rfl,g,O,P,J,L⟩)
   all_goals
    have V:Hid _:=H.out f g O P J L;clear g O P J L;go_wp2;go_end0;exact V.out
end Go.Proofs.YtjlkplidpdhgbaaGreatDoor
namespace Rad
theorem spread_word {L X Y W β p q P Q c a b l1 l2 P' Q' z c':Nat} (h:L+W*(P+Q+c)=p*X+q*Y)
 (l:l1+β*P'=p*a+P) (m:l2+β*Q'=q*b+Q) (n:z+β*c'=l1+l2+c):
 L+W*z+W*β*(P'+Q'+c')=p*(X+W*a)+q*(Y+W*b):=by
 have d:z+β*(P'+Q'+c')=p*a+P+(q*b+Q)+c:=(by rw[Nat.mul_add,Nat.mul_add];omega);have j:W*z+W*β*(P'+Q'+c')=W*(p*a+P+(q*b+Q)+c):=(by rw[←d,Nat.mul_add W z,←Nat.mul_assoc]);have k:W*(p*a+P+(q*b+Q)+c)=W*(P+Q+c)+(W*(p*a)+W*(q*b)):=(by rw[←Nat.mul_add,←Nat.mul_add];congr 1;omega);have f:p*(W*a)=W*(p*a):=Nat.mul_left_comm ..;have g:q*(W*b)=W*(q*b):=Nat.mul_left_comm ..;rw[Nat.mul_add p,Nat.mul_add q,f,g];omega
end Rad
namespace Go.Rad
open Go Go.RowKit
def lv (β:Nat):List Nat→Nat
 |[]=>0
 |x::r=>x+β*lv β r
theorem lv_append (β:Nat) (xs b:List Nat):lv β (xs++b)=lv β xs+β^xs.length*lv β b:=by
 induction xs with
 |nil=>simp[lv]
 |cons x r ih=>simp only[List.cons_append,lv,ih,List.length_cons,Nat.pow_succ,Nat.mul_add];rw[Nat.mul_comm (β^r.length) β,Nat.mul_assoc];omega
theorem zbi (β:Nat) (xs:List Nat) (x:Nat):lv β (xs++[x])=lv β xs+β^xs.length*x:=by rw[lv_append];simp[lv]
theorem lv_lt {β:Nat} (f:0<β):∀ {xs:List Nat},(∀x∈xs,x<β)→lv β xs<β^xs.length
 |[],_=>by simp[lv]
 |x::r,h=>by have b:=lv_lt f (xs:=r) (fun y d=>h y (List.mem_cons_of_mem _ d));have g:=h x List.mem_cons_self;have c:=Nat.mul_le_mul_left β b;simp only[lv,List.length_cons,Nat.pow_succ];rw[Nat.mul_comm (β^r.length) β];rw[Nat.mul_succ]at c;omega
def RowN (k:IntKind) (e:TypeId) (w:World) (base:Nat) (v:Value) (xs:List Nat):Prop:=w.ownsRow base e 1 v xs.length (xs.map fun (x:Nat)=>Value.int k (x:Int))
theorem RowN.hid {k:IntKind} {e:TypeId} {w:World} {base:Nat} {v:Value} {xs:List Nat} (h:RowN k e w base v xs):Hid (RowN k e w base v xs):=h
theorem RowN.nil (k:IntKind) (e:TypeId) (w:World) (base:Nat):RowN k e w base (.slice none 0 0) []:=World.ownsRow_nil _ _ _ _
theorem RowN.form {k:IntKind} {e:TypeId} {w:World} {base:Nat} {v:Value} {xs:List Nat} (h:RowN k e w base v xs):
 ∃d c,v=.slice d xs.length c∧xs.length≤c∧c≤maxLen∧((d=none∧xs.length=0∧c=0)∨∃b,d=some ⟨b,0,none⟩∧base≤b∧b<w.heap.size):=by
 rcases h.2 with⟨hv,h0⟩|⟨g,cap,cur,hv,hb,hg,hc,hm,_⟩
 ·exact⟨none,0,by rw[hv,h0],by omega,by unfold maxLen;omega,.inl ⟨rfl,h0,rfl⟩⟩
 ·exact⟨_,cap,hv,hc,hm,.inr ⟨g,rfl,hb,(Array.getElem?_eq_some_iff.1 hg).1⟩⟩
theorem RowN.cell {k:IntKind} {e:TypeId} {w:World} {base b n c:Nat} {xs:List Nat} (h:RowN k e w base (.slice (some ⟨b,0,none⟩) n c) xs) {i:Nat} (hi:i<xs.length):
 w.cell? ⟨b,i,none⟩=some (.int k ((xs[i]:Nat):Int)):=by
 obtain⟨_,_,d,_⟩:=h.form;obtain⟨_,rfl,_⟩:=Value.slice.inj d;rw[World.ownsRow.cellAt h i om];simp[hi]
theorem RowN.free {k:IntKind} {e:TypeId} {w:World} {base b n c:Nat} {xs:List Nat} (h:RowN k e w base (.slice (some ⟨b,0,none⟩) n c) xs) (i:Nat):w.frozen? ⟨b,i,none⟩=false:=by obtain⟨_,_,d,_⟩:=h.form;obtain⟨_,rfl,_⟩:=Value.slice.inj d;exact World.ownsRow.frozenAt h i
theorem RowN.keep {k:IntKind} {e:TypeId} {w w':World} {base B:Nat} {v:Value} {xs:List Nat} (h:RowN k e w base v xs) (n:Below B w w') (m:∀b,v.ownBlock=some b→b<B):RowN k e w' base v xs:=by
 refine⟨h.1,?_⟩;rcases h.2 with l|⟨g,c,d,j,f,o,rest⟩
 ·exact .inl l
 ·exact .inr ⟨g,c,d,j,f,(n.block g (m g (by rw[j];rfl))).trans o,rest⟩
theorem RowN.own_lt {k:IntKind} {e:TypeId} {w:World} {base:Nat} {v:Value} {xs:List Nat} (h:RowN k e w base v xs):∀b,v.ownBlock=some b→base≤b∧b<w.heap.size:=World.ownsRow.lt h
theorem RowN.below {k:IntKind} {e:TypeId} {w w':World} {base:Nat} {v:Value} {xs:List Nat} (h:RowN k e w base v xs) (c:Below w.heap.size w w'):RowN k e w' base v xs:=h.keep c fun b d=>(h.own_lt b d).2
theorem RowN.mono {k:IntKind} {e:TypeId} {w:World} {base b:Nat} {v:Value} {xs:List Nat} (h:RowN k e w base v xs) (n:b≤base):RowN k e w b v xs:=by
 refine⟨h.1,?_⟩;rcases h.2 with f|⟨g,c,d,m,l,j,rest⟩
 ·exact .inl f
 ·exact .inr ⟨g,c,d,m,by omega,j,rest⟩
theorem RowN.set {k:IntKind} {e:TypeId} {w:World} {base b n c:Nat} {xs:List Nat} (h:RowN k e w base (.slice (some ⟨b,0,none⟩) n c) xs) (i x:Nat):
 RowN k e (w.setCell ⟨b,i,none⟩ (.int k (x:Int))) base (.slice (some ⟨b,0,none⟩) n c) (xs.set i x):=by
 obtain⟨_,_,f,_⟩:=h.form;obtain⟨_,rfl,_⟩:=Value.slice.inj f;have d:=(World.ownsRow.stored h i (.int k (x:Int))).1;unfold RowN;rw[List.length_set,List.map_set];exact d
theorem RowN.arr {k:IntKind} {e:TypeId} {w:World} {base β:Nat} {v:Value} {xs:List Nat} (h:RowN k e w base v xs) (q:∀x∈xs,x<β):
 ∃d b c,v=.slice d xs.length c∧Sl d b 0 xs.length∧xs.length≤c∧c≤maxLen∧Arr k β w b 0 xs.length∧num β w b 0 xs.length=lv β xs∧Free w b 0 xs.length∧(0<xs.length→base≤b)∧(∀i (hi:i<xs.length),word w b i=xs[i]):=by
 obtain⟨d,c,l,p,j,o⟩:=h.form;rcases o with⟨rfl,h0,rfl⟩|⟨b,rfl,hb,hlt⟩
 ·have:xs=[]:=List.eq_nil_of_length_eq_zero h0;subst this;exact⟨none,0,0,l,fun h=>by simp at h,Nat.le_refl _,j,fun i hi=>by simp at hi,rfl,fun i hi=>by simp at hi,fun h=>by simp at h,fun i hi=>by simp at hi⟩
 ·subst l;have f:∀i (hi:i<xs.length),word w b i=xs[i]:=fun i hi=>zbv (h.cell hi);have m:Arr k β w b 0 xs.length:=fun i hi=>by rw[Nat.zero_add,f i hi];exact⟨h.cell hi,q _ (List.getElem_mem hi)⟩
  refine⟨_,b,c,rfl,Sl.mk _ _ _,p,j,m,?_,fun i _=>h.free _,fun _=>hb,f⟩;have g:∀n,n≤xs.length→num β w b 0 n=lv β (xs.take n):=by
   intro n
   induction n with
   |zero=>intro _;rfl
   |succ n ih=>intro r;rw[zaj,ih om,List.take_succ_eq_append_getElem om,zbi,List.length_take,Nat.min_eq_left om,Nat.zero_add,f n om]
  rw[g _ (Nat.le_refl _),List.take_length]
theorem zax {P:Program} {w:World} {p:Array Oper} {rest:List Oper} {o:Oper} {a:Act} {Q:Exit→Act→World→Prop} (k:IntKind) (e:TypeId) (A:o.guard=none) (s x:Operand) (t:TypeId)
 (M:o.op=.call {callee:= .builtin .append,args:=#[s,x],argTypes:=#[t,t]})
 (O:P.underlying t=some (.slice e)) (bytes:Nat) (hi:(P.info? e).map (fun i=>(i.zero,i.size,i.bytes))=some (some (.int k 0),1,bytes)) (z:bytes≤8)
 (base:Nat) (v:Value) (xs:List Nat) (N:a.eval s=v) (d:RowN k e w base v xs) (q H y:Nat) (R:a.eval x=.slice (some ⟨q,0,none⟩) 1 H) (J:w.cell? ⟨q,0,none⟩=some (.int k (y:Int)))
 (F:xs.length≤1099511627776) (c:base≤w.heap.size)
 (h:∀v' w',RowN k e w' base v' (xs++[y])→Below base w w'→(∀b,v'.ownBlock=some b→v.ownBlock=some b∨b=w.heap.size)→w.grownBy w' v.ownBlock→wpList P p Q rest (a.put o.dst v') w'):wpList P p Q (o::rest) a w:=by
 obtain⟨i,B,m⟩:=Option.map_eq_some_iff.1 hi;simp only[Prod.mk.injEq]at m;obtain⟨S,T,U⟩:=m;have f:w.ownsRow base e 1 v xs.length (xs.map fun (x:Nat)=>Value.int k (x:Int)):=d;refine wpList_append_lies w A s x t M base e i (.int k 0) 1 bytes O B S T U rfl om v xs.length _ N f ⟨q,0,none⟩ 1 H [.int k (y:Int)] R rfl ?_ ?_ om (by unfold maxLen;omega) ?_ c w.heap.size rfl ?_
 ·intro j u C
  match j,C with
  |0,C=>have D:Value.int k (y:Int)=u:=Option.some.inj C;rw[←D];exact J
 ·intro u G;simp at G;subst G;rfl
 ·calc (xs.length+1)*bytes≤(xs.length+1)*8:=Nat.mul_le_mul_left _ z
   _≤140737488355328:=by omega
 ·intro g I w' n l E L;refine h _ w' (by unfold RowN;rw[List.length_append,List.map_append];exact n) ?_ (fun b r=>?_) l
  ·exact(zz).grown l c fun b r=>(d.own_lt b r).1
  ·have:g=b:=Option.some.inj r;subst this;exact E
theorem zfv {P:Program} {w:World} {g:Array Oper} {rest:List Oper} {o:Oper} {a:Act} {Q:Exit→Act→World→Prop} (k:IntKind) (e:TypeId)
 (A:o.guard=none) (l c:Operand) (t:TypeId) (p:o.op=Op.makeSlice t l c) (D:P.underlying t=some (.slice e)) (bytes:Nat)
 (hi:(P.info? e).map (fun i=>(i.zero,i.size,i.bytes))=some (some (.int k 0),1,bytes)) (x:bytes≤8) (r q:IntKind) (C:Int) (n:Nat) (B:a.eval l=.int r 0) (z:a.eval c=.int q C) (s:C=(n:Int)) (G:n≤1099511627776) (base:Nat) (b:base≤w.heap.size)
 (u:∀w',RowN k e w' base (.slice (some ⟨w.heap.size,0,none⟩) 0 n) []→Below w.heap.size w w'→wpList P g Q rest (a.put o.dst (.slice (some ⟨w.heap.size,0,none⟩) 0 n)) w'):
 wpList P g Q (o::rest) a w:=by
 obtain⟨i,m,d⟩:=Option.map_eq_some_iff.1 hi;simp only[Prod.mk.injEq]at d;obtain⟨E,F,H⟩:=d;subst s;refine wpList_plain A fun K j=>?_;have y:i.bytes*n≤8*n:=Nat.mul_le_mul_right _ om;have f:=run_make (P:=P) w t e i (.int k 0) D m E r q 0 n om om (by rw[←Int.natCast_mul];exact(show((i.bytes*n:Nat):Int)≤281474976710656 by omega)) om;unfold Oper.wp;simp[execOp,p,B,z,f,Result.andThen];refine j _ _ (u _ ?_ ((zz).alloc (Nat.le_refl _) _));exact World.ownsRow_made w _ n b (by unfold maxLen;omega) (by simp[madeCells,F])
end Go.Rad
namespace Go.Proofs.YtjlkplidpdhgbaaGreatDoor
open Go Go.Proofs Go.RowKit Go.Rad
structure Wr (w:World) (base b n c:Nat) (xs:List Nat):Prop where
 hb:base≤b
 hn:xs.length=n
 hc:n≤c
 hm:c≤maxLen
 hx:∀x∈xs,x<B
 lt:b<w.heap.size
 cell:∀i (hi:i<xs.length),w.cell? ⟨b,i,none⟩=some (.int .u64 ((xs[i]:Nat):Int))
 free:∀i,i<n→w.frozen? ⟨b,i,none⟩=false
 ho:n<c→∃cur:Array Value,w.heap[b]? =some (.cells cur 98 (0,0))∧c≤cur.size
theorem Wr.block {w w':World} {base b n c:Nat} {xs:List Nat} (h:Wr w base b n c xs) (e:w'.heap[b]? =w.heap[b]?):Wr w' base b n c xs:=by
 obtain⟨j,k,l,m,o,p,q,r,s⟩:=h;refine⟨j,k,l,m,o,?_,fun i hi=>(World.cell?_of_block e).trans (q i hi),fun i hi=>(World.frozen?_of_block e).trans (r i hi),fun h=>?_⟩
 ·have:w.heap[b]? =some w.heap[b]:=Array.getElem?_eq_getElem p;exact(Array.getElem?_eq_some_iff.1 (e.trans this)).1
 ·obtain⟨d,f,g⟩:=s h;exact⟨d,e.trans f,g⟩
theorem Wr.below {w w':World} {base b n c:Nat} {xs:List Nat} (h:Wr w base b n c xs) (d:Below w.heap.size w w'):Wr w' base b n c xs:=h.block (d.block b h.lt)
theorem Wr.arr {w:World} {base b n c:Nat} {xs:List Nat} (h:Wr w base b n c xs):Arr .u64 B w b 0 n∧num B w b 0 n=lv B xs∧Free w b 0 n:=by
 obtain rfl:=h.hn;have f:∀i (hi:i<xs.length),word w b i=xs[i]:=fun i hi=>zbv (h.cell i hi);refine⟨fun i hi=>?_,?_,fun i hi=>by rw[Nat.zero_add];exact h.free _ hi⟩
 ·rw[Nat.zero_add,f i hi];exact⟨h.cell i hi,h.hx _ (List.getElem_mem hi)⟩
 ·have d:∀n,n≤xs.length→num B w b 0 n=lv B (xs.take n):=by
   intro n
   induction n with
   |zero=>intro _;rfl
   |succ n ih=>intro g;rw[zaj,ih om,List.take_succ_eq_append_getElem om,zbi,List.length_take,Nat.min_eq_left om,Nat.zero_add,f n om]
  rw[d _ (Nat.le_refl _),List.take_length]
theorem Wr.set {w:World} {base b n c:Nat} {xs:List Nat} (h:Wr w base b n c xs) (i x:Nat) (hi:i<n) (A:x<B):Wr (w.setCell ⟨b,i,none⟩ (.int .u64 (x:Int))) base b n c (xs.set i x):=by
 obtain⟨o,p,q,r,s,t,j,u,z⟩:=h;refine⟨o,by simpa using p,q,r,fun y C=>?_,by simpa using t,fun k f=>?_,fun k f=>(World.frozen?_setCell _ _ _ _).trans (u k f),fun h=>?_⟩
 ·rcases List.mem_or_eq_of_mem_set C with h|h
  ·exact s y h
  ·rw[h];exact A
 ·have g:k<xs.length:=(by simpa using f);rw[List.getElem_set]
  split
  ·next e=>subst e;exact zar (j _ om)
  ·next e=>rw[zaa (.inr om)];exact j k g
 ·obtain⟨d,l,m⟩:=z h;exact⟨_,heap_setCell_same w b i d 98 _ l,by simpa using m⟩
theorem Wr.ofShape {w:World} {base b n c:Nat} {xs:List Nat} (k:base≤b) (o:xs.length=n) (l:n≤c) (m:c≤maxLen) (p:∀x∈xs,x<B) {d:Array Value} (f:w.heap[b]? =some (.cells d 98 (0,0))) (g:c≤d.size)
 (j:d.toList.take n=xs.map fun (x:Nat)=>Value.int .u64 (x:Int)):Wr w base b n c xs:=by
 refine⟨k,o,l,m,p,(Array.getElem?_eq_some_iff.1 f).1,fun i hi=>?_,fun i hi=>by simp[World.frozen?,f],fun _=>⟨d,f,g⟩⟩;have e:(d.toList.take n)[i]? =some (.int .u64 ((xs[i]:Nat):Int)):=(by rw[j];simp[hi]);rw[List.getElem?_take_of_lt om]at e;simp only[Array.getElem?_toList]at e;simp[World.cell?,f,e]
theorem Wr.take {w:World} {base b n c:Nat} {xs:List Nat} (h:Wr w base b n c xs) {d:Array Value} (f:w.heap[b]? =some (.cells d 98 (0,0))) (g:c≤d.size):d.toList.take n=xs.map fun (x:Nat)=>Value.int .u64 (x:Int):=by
 have k:=h.hn;have j:=h.hc;refine List.ext_getElem? fun i=>?_;by_cases hi:i<n
 ·rw[List.getElem?_take_of_lt hi,List.getElem?_map,List.getElem?_eq_getElem (show i<xs.length by omega)];have e:=h.cell i om;simp only[World.cell?,f]at e;simpa using e
 ·rw[List.getElem?_eq_none (by simp;omega),List.getElem?_eq_none (by simp;omega)]
theorem Wr.ofArr {w:World} {base b n:Nat} (c:Arr .u64 B w b 0 n) (f:Free w b 0 n) (d:base≤b) (g:b<w.heap.size) (j:n≤maxLen):∃xs,Wr w base b n n xs∧lv B xs=num B w b 0 n:=by
 have H:Wr w base b n n ((List.range n).map fun i=>word w b (0+i)):=by
  refine⟨d,by simp,Nat.le_refl _,j,fun x k=>?_,g,fun i hi=>?_,fun i hi=>by have:=f i hi;rwa [Nat.zero_add]at this,fun h=>absurd h (Nat.lt_irrefl _)⟩
  ·obtain⟨i,hi,rfl⟩:=List.mem_map.1 k;exact zat c (List.mem_range.1 hi)
  ·have hi':i<n:=(by simpa using hi);have:=zag c hi';simpa using this
 exact⟨_,H,H.arr.2.1.symm⟩
theorem run_appendW {w:World} (M:TypeId) {base b n c:Nat} {xs:List Nat} (d:Wr w base b n c xs) (s L y:Nat) (W:w.cell? ⟨s,0,none⟩=some (.int .u64 (y:Int)))
 (hy:y<B) (O:n≤1099511627776) (o:base≤w.heap.size):
 ∃C N w',(Builtin.append_ #[22,22] M #[.slice (some ⟨b,0,none⟩) n c,.slice (some ⟨s,0,none⟩) 1 L]).run Tryz.prog w=.ok (.slice (some ⟨C,0,none⟩) (n+1:Nat) N) w'∧
  Wr w' base C (n+1) N (xs++[y])∧Below base w w'∧(C=b∨C=w.heap.size)∧(∀k,k<w.heap.size→k≠b→w'.heap[k]? =w.heap[k]?):=by
 obtain⟨T,t,I,l,J⟩:=info_parts zb0;have g:∀j u,[Value.int .u64 (y:Int)][j]? =some u→w.cell? ((⟨s,0,none⟩:Addr).add j)=some u:=fun j u p=>by
  match j,p with
  |0,p=>have G:Value.int .u64 (y:Int)=u:=oi p;rw[←G];exact W
 have X:=d.hc;have q:=d.hn;have Y:=d.hm;have m:∀z∈xs++[y],z<B:=fun z H=>by
  rcases List.mem_append.1 H with h|h
  ·exact d.hx z h
  ·rw[List.mem_singleton.1 h];exact hy
 by_cases R:n+1≤c
 ·obtain⟨r,D,U⟩:=d.ho om;have V:=d.take D U;have f:=run_append_room (P:=Tryz.prog) w 22 M 98 T Tryz.underlying22 t b n c r D ⟨s,0,none⟩ 1 L [.int .u64 (y:Int)] (by rw[l];rfl) g (fun u S=>by simp at S;subst S;rfl) R (by rw[l];simp;omega);rw[l,Nat.mul_one]at f;refine⟨b,c,_,f,Wr.ofShape d.hb (by simp[q]) R Y m (setRow_heap w b r _ 98 _ D) ?_ ?_,?_,.inl rfl,fun k _ A=>setRow_other w b k _ A⟩
  ·simp only[List.size_toArray,List.length_append,List.length_take,List.length_drop,Array.length_toList,List.length_cons,List.length_nil];omega
  ·rw[V,List.map_append];have:(xs.map (fun (x:Nat)=>Value.int .u64 (x:Int))++[Value.int .u64 (y:Int)]).length=n+1:=(by simp[q]);rw[←this];exact List.take_left
  ·exact⟨rfl,rfl,rfl,by simp,fun k A=>setRow_other w b k _ (by have:=d.hb;omega)⟩
 ·have Z:n=c:=om;have f:=run_append_grow (P:=Tryz.prog) w 22 M 98 T (.int .u64 0) Tryz.underlying22 t I ⟨b,0,none⟩ n c (xs.map fun (x:Nat)=>Value.int .u64 (x:Int)) (by rw[l];simp[q]) (fun j v p=>by rw[List.getElem?_map]at p;obtain⟨z,H,rfl⟩:=Option.map_eq_some_iff.1 p;obtain⟨E,F⟩:=List.getElem?_eq_some_iff.1 H;have:=d.cell _ E;rw[F]at this;simpa [Addr.add_lit]using this) ⟨s,0,none⟩ 1 L [.int .u64 (y:Int)] (by rw[l];rfl) g om om (by rw[J];exact growslice_fits om om);refine⟨w.heap.size,_,_,f,Wr.ofShape o (by simp[q]) (grownCap_ge w (n+1) c 98) (grownCap_le_maxLen w (n+1) c 98 (by unfold maxLen;omega)) m (heap_alloc_new w.drew _) ?_ ?_,?_,.inr rfl,fun k A _=>heap_alloc_old w.drew _ A⟩
  ·have:=grownCap_ge w (n+1) c 98;simp only[Array.size_append,List.size_toArray,size_zeroCells,List.length_map,List.length_cons,List.length_nil,q];simp[Value.cells];omega
  ·have:(xs.map (fun (x:Nat)=>Value.int .u64 (x:Int))++[Value.int .u64 (y:Int)]).length=n+1:=(by simp[q]);simp only[Array.toList_append,List.map_append];rw[←this];exact List.take_left
  ·exact⟨rfl,rfl,rfl,by simp,fun k A=>heap_alloc_old w.drew _ (by simp;omega)⟩
theorem zgh {o:Oper} {a:Act} {w:World} {K:Act→World→Prop} {Q:Exit→Act→World→Prop} (s x:Operand)
 (A:o.op=.call {callee:= .builtin .append,args:=#[s,x],argTypes:=#[22,22]})
 {base b n c:Nat} {xs:List Nat} (D:a.eval s=.slice (some ⟨b,0,none⟩) n c) (j:Wr w base b n c xs) (m p y:Nat) (E:a.eval x=.slice (some ⟨m,0,none⟩) 1 p) (z:w.cell? ⟨m,0,none⟩=some (.int .u64 (y:Int)))
 (F:y<B) (g:n≤1099511627776) (d:base≤w.heap.size)
 (h:∀f l w',Wr w' base f (n+1) l (xs++[y])→Below base w w'→(f=b∨f=w.heap.size)→(∀k,k<w.heap.size→k≠b→w'.heap[k]? =w.heap[k]?)→K (a.put o.dst (.slice (some ⟨f,0,none⟩) (n+1:Nat) l)) w'):
 o.wp Tryz.prog a w K Q:=by
 obtain⟨f,l,w',C,q,r,t,u⟩:=run_appendW o.type j m p y z F g d;unfold Oper.wp execOp;simp only[A,resolve,invoke,builtin,Sem.run_bind,Sem.run_pure,Result.andThen_ok,List.map_toArray,List.map_cons,List.map_nil,D,E,C];exact h f l w' q r t u
theorem zf7 {l:Array Oper} {rest:List Oper} {o:Oper} {a:Act} {w:World} {Q:Exit→Act→World→Prop} (q:o.guard=none) (s x:Operand)
 (E:o.op=.call {callee:= .builtin .append,args:=#[s,x],argTypes:=#[22,22]})
 {base b n c:Nat} {xs:List Nat} (F:a.eval s=.slice (some ⟨b,0,none⟩) n c) (j:Wr w base b n c xs) (p r y:Nat) (G:a.eval x=.slice (some ⟨p,0,none⟩) 1 r) (D:w.cell? ⟨p,0,none⟩=some (.int .u64 (y:Int)))
 (H:y<B) (g:n≤1099511627776) (d:base≤w.heap.size)
 (h:∀f m w',Wr w' base f (n+1) m (xs++[y])→Below base w w'→(f=b∨f=w.heap.size)→(∀k,k<w.heap.size→k≠b→w'.heap[k]? =w.heap[k]?)→wpList Tryz.prog l Q rest (a.put o.dst (.slice (some ⟨f,0,none⟩) (n+1:Nat) m)) w'):
 wpList Tryz.prog l Q (o::rest) a w:=
 wpList_plain q fun _ C=>zgh s x E F j p r y G D H g d fun f m w' t u z A=>C _ _ (h f m w' t u z A)
theorem zet {j:Array Oper} {o:Oper} {a:Act} {w:World} {K:Act→World→Prop} {Q:Exit→Act→World→Prop} {E:Prop} (p:o.guard=none) (s x:Operand)
 (u:o.op=.call {callee:= .builtin .append,args:=#[s,x],argTypes:=#[22,22]})
 {base b n c:Nat} {xs:List Nat} (z:a.eval s=.slice (some ⟨b,0,none⟩) n c) (g:Wr w base b n c xs) (m r y:Nat) (C:a.eval x=.slice (some ⟨m,0,none⟩) 1 r) (t:w.cell? ⟨m,0,none⟩=some (.int .u64 (y:Int)))
 (D:y<B) (f:n≤1099511627776) (d:base≤w.heap.size)
 (h:∀l q w',Wr w' base l (n+1) q (xs++[y])→Below base w w'→(l=b∨l=w.heap.size)→(∀k,k<w.heap.size→k≠b→w'.heap[k]? =w.heap[k]?)→K (a.put o.dst (.slice (some ⟨l,0,none⟩) (n+1:Nat) q)) w'):
 if Region.wanted o (yielded j a.tmps)=true then Oper.wp Tryz.prog o a w K Q else E:=by
 have A:Region.wanted o (yielded j a.tmps)=true:=(by simp[Region.wanted,p]);rw[if_pos A];exact zgh s x u z g m r y C t D f d h
structure SpI (base cx cy:Nat) (w wr:World) (bx ox by' oy n p q r s:Nat) (k px qy rx sy xc yc:Nat):Prop where
 kn:k≤n
 lt:px≤p∧qy≤q∧rx≤r∧sy≤s
 c1:xc≤1
 c2:yc≤1
 chg:ChgS w wr (S2 bx by')
 ax:Arr .u64 B wr bx ox n
 ay:Arr .u64 B wr by' oy n
 ux:∀i,k≤i→word wr bx (ox+i)=word w bx (ox+i)
 uy:∀i,k≤i→word wr by' (oy+i)=word w by' (oy+i)
 ex:num B wr bx ox k+B^k*(px+qy+xc)=p*num B w bx ox k+q*num B w by' oy k
 ey:num B wr by' oy k+B^k*(rx+sy+yc)=r*num B w bx ox k+s*num B w by' oy k
 wu:∃us,Wr wr base bx n cx us
 wv:∃vs,Wr wr base by' n cy vs
theorem Wr.other {w:World} {base b n c d i:Nat} {xs:List Nat} {v:Value} (h:Wr w base b n c xs) (f:b≠d):Wr (w.setCell ⟨d,i,none⟩ v) base b n c xs:=h.block (heap_setCell_other w ⟨d,i,none⟩ b v (by simpa using f))
theorem hi_le {p a c:Nat} (g:a<B) (j:c≤p):hi (p*a+c)≤p:=by have d:p*a≤p*(B-1):=Nat.mul_le_mul_left p om;have f:p*(B-1)+p=p*B:=(by rw[←Nat.mul_succ];congr 1);have b:p*a+c<(p+1)*B:=(by rw[Nat.succ_mul];have:=za2;omega);have:=Nat.div_lt_of_lt_mul (show p*a+c<B*(p+1)by rw[Nat.mul_comm B];exact b);unfold hi;unfold B at this;omega
theorem SpI.step {base G H:Nat} {w wr:World} {m f c g n p q r s k j l o t y z:Nat} (ho:f=0) (S:g=0) (h:SpI base G H w wr m f c g n p q r s k j l o t y z) (d:m≠c) (C:k<n)
 {a b:Nat} (I:a=word w m (f+k)) (x:b=word w c (g+k)) (D:a<B) (F:b<B):
 SpI base G H w ((wr.setCell ⟨m,f+k,none⟩ (.int .u64 (lo (lo (p*a+j)+lo (q*b+l)+y):Nat))).setCell ⟨c,g+k,none⟩ (.int .u64 (lo (lo (r*a+o)+lo (s*b+t)+z):Nat)))
  m f c g n p q r s (k+1) (hi (p*a+j)) (hi (q*b+l)) (hi (r*a+o)) (hi (s*b+t)) (hi (lo (p*a+j)+lo (q*b+l)+y)) (hi (lo (r*a+o)+lo (s*b+t)+z)):=by
 obtain⟨kn,⟨T,U,V,W⟩,N,O,chg,E,M,X,Y,P,R,⟨us,Z⟩,⟨vs,wv⟩⟩:=h;have J:=zch (lo (p*a+j)+lo (q*b+l)+y);have L:=zch (lo (r*a+o)+lo (s*b+t)+z);have A:=E.set (i:=k) J;have u:Arr .u64 B (wr.setCell ⟨m,f+k,none⟩ (.int .u64 (lo (lo (p*a+j)+lo (q*b+l)+y):Nat))) c g n:=M.set' (.inl d);refine⟨C,⟨hi_le D T,hi_le F U,hi_le D V,hi_le F W⟩,zd4 (zch _) (zch _) N,zd4 (zch _) (zch _) O,(chg.setB (.inl rfl) _).setB (.inr rfl) _,A.set' (.inl d.symm),u.set L,?_,?_,?_,?_,⟨_,(Z.set (f+k) _ om J).other d⟩,⟨_,(wv.other d.symm).set (g+k) _ om L⟩⟩
 ·intro i hi;rw[za0 (.inl d),za0 (.inr om),X i om]
 ·intro i hi;rw[za0 (.inr om),za0 (.inl d.symm),Y i om]
 ·rw[zan (.inl d.symm),zba E C,zaj,zaj,←I,←x,Nat.pow_succ];exact _root_.Rad.spread_word P (ma_eq p a j) (ma_eq q b l) (zf1 _)
 ·rw[zba u C,zan (.inl d),zaj,zaj,←I,←x,Nat.pow_succ];exact _root_.Rad.spread_word R (ma_eq r a o) (ma_eq s b t) (zf1 _)
inductive SpPost (base cx cy:Nat) (w:World) (bx by' n p q r s:Nat) (e:Ending) (w':World):Prop
 |mk (h l:Nat) (he:e=.returned (.tuple #[.int .u64 h,.int .u64 l])) (ch:ChgS w w' (S2 bx by')) (ax:Arr .u64 B w' bx 0 n) (ay:Arr .u64 B w' by' 0 n)
  (ex:num B w' bx 0 n+B^n*h=p*num B w bx 0 n+q*num B w by' 0 n) (ey:num B w' by' 0 n+B^n*l=r*num B w bx 0 n+s*num B w by' 0 n)
  (hh:h≤p+q+1) (hl:l≤r+s+1) (wu:∃us,Wr w' base bx n cx us) (wv:∃vs,Wr w' base by' n cy vs)
theorem wadd3 {a b c:Nat} (h:a+b+c<B):IntKind.u64.wrap (IntKind.u64.wrap ((a:Int)+(b:Int))+(c:Int))=((a+b+c:Nat):Int):=by
 have e:∀n,n<B→IntKind.u64.wrap ((n:Nat):Int)=(n:Int):=fun n d=>by rw[zai];unfold lo;unfold B at d;rw[Nat.mod_eq_of_lt d]
 rw[show(a:Int)+(b:Int)=((a+b:Nat):Int)by omega,e _ om,show((a+b:Nat):Int)+(c:Int)=((a+b+c:Nat):Int)by omega,e _ h]
theorem spread_any (base:Nat) (w:World) (l cx d cy n p q r s:Nat) (odd:Bool) (us vs:List Nat) (hu:Wr w base l n cx us) (Y:Wr w base d n cy vs) (hb:l≠d)
 (pB:p+q+1<B) (rB:r+s+1<B) (hn:0<n):
 Calls Tryz.prog 172 #[.agg #[.int .u64 p,.int .u64 q,.int .u64 r,.int .u64 s,.bool odd],.slice (some ⟨l,0,none⟩) n cx,.slice (some ⟨d,0,none⟩) n cy] w fun e w'=>SpPost base cx cy w l d n p q r s e w':=by
 obtain⟨hx,-,fx⟩:=hu.arr;obtain⟨hy,-,fy⟩:=Y.arr;have na:=hu.hc;have oa:=Y.hc;have ga:=Y.hm;unfold maxLen at ga;have lx:=hx.lt hn;have ly:=hy.lt hn;go_enter Tryz.func172,Tryz.ntmps172;go_upto_region 1 with fail;refine zac (fun j=>Below w.heap.size w j∧TB j w.heap.size p q r s odd) ⟨zau _ _,TB.mk0 _ _ _ _ _ _ _⟩ ?_;rintro j ⟨f,T⟩;have C:=zae hx f;have E:=zae hy f;have x:Free j l 0 n:=fun i hi=>(World.frozen?_of_block (f.block l lx)).trans (fx i hi);have y:Free j d 0 n:=fun i hi=>(World.frozen?_of_block (f.block d ly)).trans (fy i hi);have aa:num B j l 0 n=num B w l 0 n:=zah hx f;have ba:num B j d 0 n=num B w d 0 n:=zah hy f;have ka:=f.size;have X:=hu.below f;have Z:=Y.below f;have HN:Hid (num B j l 0 n=num B w l 0 n∧num B j d 0 n=num B w d 0 n):=⟨aa,ba⟩;have ca:Hid (Below w.heap.size w j):=f;have M:w.heap.size≠l∧w.heap.size≠d:=om;obtain⟨o,A⟩:∃o,w.heap.size=o:=⟨_,rfl⟩;rw[A]at T M ka lx ly⊢;have S:Hid (TB j o p q r s odd):=T;have Hw:Hid (w.heap.size=o):=A;clear hx hy fx fy aa ba f A T hu Y;go_wp2;go_loopw [8,9,10,11,12,13,25] (fun a6 a7 a8 a9 da ea i wr=>∃G I J L P R k:Nat,a6=.int .u64 G∧a7=.int .u64 I∧a8=.int .u64 J∧a9=.int .u64 L∧da=.int .u64 P∧ea=.int .u64 R∧i=.int .i64 k∧
  SpI base cx cy j wr l 0 d 0 n p q r s k G I J L P R)
  (fun _ _ _ _ _ _ i _=>n-(intOf i).toNat)
 case atStart=>exact⟨0,0,0,0,0,0,0,rfl,rfl,rfl,rfl,rfl,rfl,rfl,by omega,⟨by omega,by omega,by omega,by omega⟩,by omega,by omega,ChgS.refl _ _,C,E,fun _ _=>rfl,fun _ _=>rfl,by simp[zao],by simp[zao],⟨_,X⟩,⟨_,Z⟩⟩
 case round=>
  clear X Z;obtain⟨G,I,J,L,P,R,k,rfl,rfl,rfl,rfl,rfl,rfl,rfl,g⟩:=hrel;have hk:=g.kn;by_cases m:k<n
  ·have D:=zag g.ax m;have F:=zag g.ay m;have U:=g.ux k (Nat.le_refl _);have V:=g.uy k (Nat.le_refl _);have N:=zat g.ax m;have O:=zat g.ay m;have ia:wr.frozen? ⟨l,0+k,none⟩=false:=(g.chg.free x (fun _=>by omega)) k m;have ja:wr.frozen? ⟨d,0+k,none⟩=false:=(g.chg.free y (fun _=>by omega)) k m;rw[U]at D N;rw[V]at F O;have W:∀i,wr.cell? ⟨o,i,none⟩=j.cell? ⟨o,i,none⟩:=fun i=>g.chg.cell o i S.out.lt om;have t0:=(W 0).trans S.out.c0;have t1:=(W 1).trans S.out.c1;have t2:=(W 2).trans S.out.c2;have t3:=(W 3).trans S.out.c3;obtain⟨a,ha⟩:∃a,word j l (0+k)=a:=⟨_,rfl⟩;obtain⟨b,z⟩:∃b,word j d (0+k)=b:=⟨_,rfl⟩;rw[ha]at D N;rw[z]at F O;obtain⟨l1,l2,l3,l4⟩:=g.lt;have t:=g.c1;have u:=g.c2;have HS:Hid _:=g.step rfl rfl hb m ha.symm z.symm N O;have M1:=zbk p a G om N om;have M2:=zbk q b I om O om;have M3:=zbk r a J om N om;have M4:=zbk s b L om O om;have U1:=fun w=>add64 (lo (p*a+G)) (lo (q*b+I)) P w t;have U2:=fun w=>add64 (lo (r*a+J)) (lo (s*b+L)) R w u;have la:o≠l:=M.1;have ma:o≠d:=M.2;rw[Nat.zero_add]at D F ia ja HS;clear g U V W ha z l1 l2 l3 l4 t u N O x y C E pB rB;go_wp2_with (first
    |(go_at_call 104;refine(M1 _).mono ?_;rintro e w' ⟨rfl,hw⟩;subst w';clear M1)
    |(go_at_call 104;refine(M2 _).mono ?_;rintro e w' ⟨rfl,hw⟩;subst w';clear M2)
    |(go_at_call 104;refine(M3 _).mono ?_;rintro e w' ⟨rfl,hw⟩;subst w';clear M3)
    |(go_at_call 104;refine(M4 _).mono ?_;rintro e w' ⟨rfl,hw⟩;subst w';clear M4))
   go_roundw
   case rel=>exact⟨_,_,_,_,_,_,k+1,rfl,rfl,rfl,rfl,rfl,rfl,by go_num,HS.out⟩
   case measure=>simp[intOf];omega
  ·obtain rfl:k=n:=om;have HF:Hid _:=g;obtain⟨l1,l2,l3,l4⟩:=g.lt;have t:=g.c1;have u:=g.c2;have W1:=wadd3 (a:=G) (b:=I) (c:=P) om;have W2:=wadd3 (a:=J) (b:=L) (c:=R) om;have HL:Hid (G+I+P≤p+q+1∧J+L+R≤r+s+1):=(by show _∧_;omega);clear g x y C E l1 l2 l3 l4 t u pB rB;go_wp2;refine bodyPost_ret rsw rfl ?_;have H:=HF.out;obtain⟨e1,e2⟩:=HN.out;have fa:Below w.heap.size w j:=ca.out;have h1:=H.ex;have h2:=H.ey;rw[e1,e2]at h1 h2;exact .mk _ _ rfl ((ChgS.of_below fa _).trans H.chg) H.ax H.ay h1 h2 HL.out.1 HL.out.2 H.wu H.wv
end Go.Proofs.YtjlkplidpdhgbaaGreatDoor
namespace Rad
structure Rl (a b X Y U V:Nat) (mi:Bool):Prop where
 g:Nat.gcd X Y=Nat.gcd a b
 s:V*X+U*Y=b
 o:(U≤V∧0<V)∨(U=1∧V=0)
 c:∃σ j k:Int,(σ=if mi then -1 else 1)∧(X:Int)=σ*(U*a)+j*b∧(Y:Int)= -(σ*(V*a))+k*b
theorem Rl.start {a b:Nat}: Rl a b a b 1 0 false:=⟨rfl,by omega,.inr ⟨rfl,rfl⟩,1,0,1,rfl,by simp,by simp⟩
theorem Rl.start' {a b:Nat}: Rl a b b a 0 1 true:=⟨Nat.gcd_comm _ _,by omega,.inl ⟨by omega,by omega⟩,-1,1,0,rfl,by simp,by simp⟩
theorem Rl.vle {a b X Y U V:Nat} {d:Bool} (h:Rl a b X Y U V d) (c:0<X):V≤b:=by have:=h.s;have:=Nat.le_mul_of_pos_right V c;omega
theorem Rl.ule {a b X Y U V:Nat} {d:Bool} (h:Rl a b X Y U V d) (c:0<X) (f:0<b):U≤b:=by have:=h.vle c;rcases h.o with h|h <;> omega
theorem Rl.step {a b X Y U V q z:Nat} {f:Bool} (h:Rl a b X Y U V f) (c:q*Y+z=X) (n:0<q):Rl a b Y z V (U+q*V) (!f):=by
 obtain⟨g,s,o,σ,j,k,p,m,l⟩:=h;refine⟨?_,?_,?_,-σ,k,j-q*k,?_,?_,?_⟩
 ·have d:X%Y=z%Y:=(by rw[←c,Nat.add_comm,Nat.add_mul_mod_self_right]);rw[←g,Nat.gcd_comm X Y,Nat.gcd_rec Y X,d,←Nat.gcd_rec,Nat.gcd_comm]
 ·rw[←s,←c,Nat.mul_add,Nat.add_mul,Nat.mul_assoc,Nat.mul_left_comm V q Y];omega
 ·left;rcases o with⟨o1,o2⟩|⟨rfl,rfl⟩
  ·have:=Nat.le_mul_of_pos_left V n;omega
  ·omega
 ·rw[p];cases f <;> rfl
 ·rw[l];grind
 ·have d:(z:Int)=X-q*Y:=(by have:((q*Y+z:Nat):Int)=X:=(by rw[c]);rw[Int.natCast_add,Int.natCast_mul]at this;omega);rw[d,m,l,Int.natCast_add,Int.natCast_mul];grind
theorem Rl.turn {a b X Y U V p q r s x y:Nat} {m odd:Bool} (h:Rl a b X Y U V m)
 (e:odd=false→p*X=q*Y+x∧s*Y=r*X+y∧p*s=q*r+1)
 (o:odd=true→q*Y=p*X+x∧r*X=s*Y+y∧q*r=p*s+1)
 (A:Nat.gcd x y=Nat.gcd X Y) (J:p≤r) (L:q≤s) (H:0<s):Rl a b x y (p*U+q*V) (r*U+s*V) (m !=odd):=by
 obtain⟨g,C,I,σ,j,k,B,f,l⟩:=h;have O:0<r:=by
  rcases Nat.eq_zero_or_pos r with h|h
  ·subst h;obtain rfl:p=0:=om;cases odd
   ·have:=(e rfl).2.2;omega
   ·have:=(o rfl).2.2;omega
  ·exact h
 have z:(p*U+q*V≤r*U+s*V∧0<r*U+s*V):=by
  have M:=Nat.mul_le_mul_right U J;have N:=Nat.mul_le_mul_right V L;refine⟨by omega,?_⟩;rcases I with⟨_,o2⟩|⟨rfl,rfl⟩
  ·have:=Nat.mul_pos H o2;omega
  ·omega
 cases odd
 ·obtain⟨n,t,u⟩:=e rfl;have D:(p:Int)*X=q*Y+x:=(by exact_mod_cast n);have E:(s:Int)*Y=r*X+y:=(by exact_mod_cast t);have F:(p:Int)*s=q*r+1:=(by exact_mod_cast u);have G:(V:Int)*X+U*Y=b:=(by exact_mod_cast C);refine⟨A.trans g,?_,.inl z,σ,p*j-q*k,s*k-r*j,?_,?_,?_⟩
  ·have:(((r*U+s*V)*x+(p*U+q*V)*y:Nat):Int)=b:=by
    push_cast
    have c:(x:Int)=p*X-q*Y:=om;have d:(y:Int)=s*Y-r*X:=om;rw[c,d];grind
   exact_mod_cast this
  ·rw[B];cases m <;> rfl
  ·push_cast
   have c:(x:Int)=p*X-q*Y:=om;rw[c,f,l];grind
  ·push_cast
   have d:(y:Int)=s*Y-r*X:=om;rw[d,f,l];grind
 ·obtain⟨n,t,u⟩:=o rfl;have D:(q:Int)*Y=p*X+x:=(by exact_mod_cast n);have E:(r:Int)*X=s*Y+y:=(by exact_mod_cast t);have F:(q:Int)*r=p*s+1:=(by exact_mod_cast u);have G:(V:Int)*X+U*Y=b:=(by exact_mod_cast C);refine⟨A.trans g,?_,.inl z,-σ,q*k-p*j,r*j-s*k,?_,?_,?_⟩
  ·have:(((r*U+s*V)*x+(p*U+q*V)*y:Nat):Int)=b:=by
    push_cast
    have c:(x:Int)=q*Y-p*X:=om;have d:(y:Int)=r*X-s*Y:=om;rw[c,d];grind
   exact_mod_cast this
  ·rw[B];cases m <;> rfl
  ·push_cast
   have c:(x:Int)=q*Y-p*X:=om;rw[c,f,l];grind
  ·push_cast
   have d:(y:Int)=r*X-s*Y:=om;rw[d,f,l];grind
end Rad
