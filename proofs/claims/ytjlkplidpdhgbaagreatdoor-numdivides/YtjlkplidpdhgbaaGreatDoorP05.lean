/- A part of the proof: G2, W13, W14, W9, Pm4. -/
import Derived.Test.YtjlkplidpdhgbaaGreatDoorP00
import Derived.Test.YtjlkplidpdhgbaaGreatDoorP04
import Derived.Deep.Cut
import Derived.Deep.CutRange
import Derived.Test.YtjlkplidpdhgbaaGreatDoorP02
import Derived.Test.YtjlkplidpdhgbaaGreatDoorP01
import Derived.Laws.Bits64b
set_option linter.all false
set_option maxRecDepth 10000
set_option maxHeartbeats 2000000
namespace Go.Proofs.YtjlkplidpdhgbaaGreatDoor
open Go Go.Proofs Go.RowKit Go.Rad
structure TB (w:World) (b p q r s:Nat) (odd:Bool):Prop where
 lt:b<w.heap.size
 c0:w.cell? ⟨b,0,none⟩=some (.int .u64 (p:Int))
 c1:w.cell? ⟨b,1,none⟩=some (.int .u64 (q:Int))
 c2:w.cell? ⟨b,2,none⟩=some (.int .u64 (r:Int))
 c3:w.cell? ⟨b,3,none⟩=some (.int .u64 (s:Int))
 c4:w.cell? ⟨b,4,none⟩=some (.bool odd)
 f0:w.frozen? ⟨b,0,none⟩=false
 f1:w.frozen? ⟨b,1,none⟩=false
 f2:w.frozen? ⟨b,2,none⟩=false
 f3:w.frozen? ⟨b,3,none⟩=false
 f4:w.frozen? ⟨b,4,none⟩=false
theorem TB.mk0 (w:World) (p q r s:Nat) (odd:Bool) (T:TypeId):TB (w.alloc (Obj.cells #[.int .u64 (p:Int),.int .u64 (q:Int),.int .u64 (r:Int),.int .u64 (s:Int),.bool odd] T)) w.heap.size p q r s odd:=⟨by simp,qq,qq,qq,qq,qq,qq,qq,qq,qq,qq⟩
theorem TB.below {w w':World} {b C p q r s:Nat} {odd:Bool} (h:TB w b p q r s odd) (c:Below C w w') (u:b<C):TB w' b p q r s odd:=by
 obtain⟨lt,d,f,g,j,k,l,m,n,o,t⟩:=h;have e:=c.block b u;exact⟨Nat.lt_of_lt_of_le lt c.size,(World.cell?_of_block e).trans d,(World.cell?_of_block e).trans f,(World.cell?_of_block e).trans g,(World.cell?_of_block e).trans j,(World.cell?_of_block e).trans k,
  (World.frozen?_of_block e).trans l,(World.frozen?_of_block e).trans m,(World.frozen?_of_block e).trans n,(World.frozen?_of_block e).trans o,(World.frozen?_of_block e).trans t⟩
abbrev S2 (b c:Nat):Nat→Nat→Prop:=fun k _=>k=b∨k=c
theorem _root_.Go.Rad.ChgS.setB {a w:World} {b c:Nat} (h:ChgS a w (S2 b c)) {p i:Nat} (f:p=b∨p=c) (v:Value):ChgS a (w.setCell ⟨p,i,none⟩ v) (S2 b c):=h.trans ⟨rfl,rfl,rfl,by simp,fun k _ d=>Below.heap_setCell _ _ _ _ (fun e=>d 0 (by subst e;exact f)),fun k j _ d=>zaa (.inl (fun e=>d (by subst e;exact f))),fun _ _ _=>World.frozen?_setCell _ _ _ _⟩
theorem _root_.Go.Rad.ChgS.of_below {w w':World} (h:Below w.heap.size w w') (S:Nat→Nat→Prop):ChgS w w' S:=⟨h.os,h.tape,h.output,h.size,fun k b _=>h.block k b,fun k i b _=>World.cell?_of_block (h.block k b),fun k i b=>World.frozen?_of_block (h.block k b)⟩
structure MixI (w wr:World) (bx ox by' oy n p q r s:Nat) (k px qy rx sy xc yc:Nat):Prop where
 kn:k≤n
 lt:px<B∧qy<B∧rx<B∧sy<B
 c1:xc≤1
 c2:yc≤1
 chg:ChgS w wr (S2 bx by')
 ax:Arr .u64 B wr bx ox n
 ay:Arr .u64 B wr by' oy n
 ux:∀i,k≤i→word wr bx (ox+i)=word w bx (ox+i)
 uy:∀i,k≤i→word wr by' (oy+i)=word w by' (oy+i)
 ex:num B wr bx ox k+q*num B w by' oy k+B^k*px=p*num B w bx ox k+B^k*(qy+xc)
 ey:num B wr by' oy k+r*num B w bx ox k+B^k*sy=s*num B w by' oy k+B^k*(rx+yc)
theorem ma_eq (a b c:Nat):lo (a*b+c)+B*hi (a*b+c)=a*b+c:=zf1 _
theorem zd7 {a b c:Nat} (d:a<B) (f:b<B) (g:c<B):hi (a*b+c)<B:=(zei d f g).2.2.2
theorem MixI.step {w wr:World} {l u c x n p q r s k d f g j y z:Nat} (h:MixI w wr l u c x n p q r s k d f g j y z) (m:l≠c) (C:k<n) (W:p<B) (X:q<B) (Y:r<B) (Z:s<B)
 {a b:Nat} (G:a=word w l (u+k)) (t:b=word w c (x+k)) (D:a<B) (F:b<B):
 MixI w ((wr.setCell ⟨l,u+k,none⟩ (.int .u64 (sb (lo (p*a+d)) (lo (q*b+f)) y:Nat))).setCell ⟨c,x+k,none⟩ (.int .u64 (sb (lo (s*b+j)) (lo (r*a+g)) z:Nat)))
  l u c x n p q r s (k+1) (hi (p*a+d)) (hi (q*b+f)) (hi (r*a+g)) (hi (s*b+j)) (bw (lo (p*a+d)) (lo (q*b+f)) y) (bw (lo (s*b+j)) (lo (r*a+g)) z):=by
 obtain⟨kn,⟨S,T,U,V⟩,I,J,chg,E,H,ux,uy,L,M⟩:=h;have P:=sb_lt (lo (p*a+d)) (lo (q*b+f)) y;have R:=sb_lt (lo (s*b+j)) (lo (r*a+g)) z;have N:=sb_bw (zch (p*a+d)) (zch (q*b+f)) I;have O:=sb_bw (zch (s*b+j)) (zch (r*a+g)) J;have A:=E.set (i:=k) P;have o:Arr .u64 B (wr.setCell ⟨l,u+k,none⟩ (.int .u64 (sb (lo (p*a+d)) (lo (q*b+f)) y:Nat))) c x n:=H.set' (.inl m);refine⟨C,⟨zd7 W D S,zd7 X F T,zd7 Y D U,zd7 Z F V⟩,bw_le _ _ _,bw_le _ _ _,(chg.setB (.inl rfl) _).setB (.inr rfl) _,A.set' (.inl m.symm),o.set R,?_,?_,?_,?_⟩
 ·intro i hi;rw[za0 (.inl m),za0 (.inr om),ux i om]
 ·intro i hi;rw[za0 (.inr om),za0 (.inl m.symm),uy i om]
 ·rw[zan (.inl m.symm),zba E C,zaj,zaj,←G,←t,Nat.pow_succ];exact _root_.Rad.mix_word L (ma_eq p a d) (ma_eq q b f) N
 ·rw[zba o C,zan (.inl m),zaj,zaj,←G,←t,Nat.pow_succ];exact _root_.Rad.mix_word M (ma_eq s b j) (ma_eq r a g) O
theorem mix_any (w:World) (d m cx c o cy n p q r s:Nat) (odd:Bool) (hx:Arr .u64 B w d m n) (hy:Arr .u64 B w c o n) (fx:Free w d m n) (fy:Free w c o n) (hb:d≠c)
 (ja:n≤cx) (ka:n≤cy) (ea:cy≤maxLen) (pB:p<B) (qB:q<B) (rB:r<B) (sB:s<B) (hn:0<n):
 Calls Tryz.prog 173 #[.agg #[.int .u64 p,.int .u64 q,.int .u64 r,.int .u64 s,.bool odd],.slice (some ⟨d,m,none⟩) n cx,.slice (some ⟨c,o,none⟩) n cy] w fun e w'=>e=.returned (.tuple #[])∧
  ChgS w w' (S2 d c)∧Arr .u64 B w' d m n∧Arr .u64 B w' c o n∧
  (∀z,p*num B w d m n=q*num B w c o n+z→z<B^n→num B w' d m n=z)∧
  (∀z,s*num B w c o n=r*num B w d m n+z→z<B^n→num B w' c o n=z):=by
 unfold maxLen at ea;have lx:=hx.lt hn;have ly:=hy.lt hn;go_enter Tryz.func173,Tryz.ntmps173;go_upto_region 1 with fail;refine zac (fun j=>Below w.heap.size w j∧TB j w.heap.size p q r s odd) ⟨zau _ _,TB.mk0 _ _ _ _ _ _ _⟩ ?_;rintro j ⟨f,T⟩;have C:=zae hx f;have D:=zae hy f;have u:Free j d m n:=fun i hi=>(World.frozen?_of_block (f.block d lx)).trans (fx i hi);have x:Free j c o n:=fun i hi=>(World.frozen?_of_block (f.block c ly)).trans (fy i hi);have U:num B j d m n=num B w d m n:=zah hx f;have V:num B j c o n=num B w c o n:=zah hy f;have fa:=f.size;have HN:Hid (num B j d m n=num B w d m n∧num B j c o n=num B w c o n):=⟨U,V⟩;have aa:Hid (Below w.heap.size w j):=f;have F:w.heap.size≠d∧w.heap.size≠c:=om;obtain⟨t,A⟩:∃t,w.heap.size=t:=⟨_,rfl⟩;rw[A]at T F fa lx ly⊢;have J:Hid (TB j t p q r s odd):=T;have Hw:Hid (w.heap.size=t):=A;clear hx hy fx fy U V f A T;go_wp2;go_loopw [6,7,8,9,10,11,23] (fun a6 a7 a8 a9 ba ca i wr=>∃W X Y Z xc yc k:Nat,a6=.int .u64 W∧a7=.int .u64 X∧a8=.int .u64 Y∧a9=.int .u64 Z∧ba=.int .u64 xc∧ca=.int .u64 yc∧i=.int .i64 k∧
  MixI j wr d m c o n p q r s k W X Y Z xc yc)
  (fun _ _ _ _ _ _ i _=>n-(intOf i).toNat)
 case atStart=>exact⟨0,0,0,0,0,0,0,rfl,rfl,rfl,rfl,rfl,rfl,rfl,by omega,⟨za2,za2,za2,za2⟩,by omega,by omega,ChgS.refl _ _,C,D,fun _ _=>rfl,fun _ _=>rfl,by simp[zao],by simp[zao]⟩
 case round=>
  obtain⟨W,X,Y,Z,xc,yc,k,rfl,rfl,rfl,rfl,rfl,rfl,rfl,g⟩:=hrel;have hk:=g.kn;by_cases l:k<n
  ·have R:=zag g.ax l;have S:=zag g.ay l;have L:=g.ux k (Nat.le_refl _);have M:=g.uy k (Nat.le_refl _);have G:=zat g.ax l;have I:=zat g.ay l;have la:wr.frozen? ⟨d,m+k,none⟩=false:=(g.chg.free u (fun _=>by omega)) k l;have ma:wr.frozen? ⟨c,o+k,none⟩=false:=(g.chg.free x (fun _=>by omega)) k l;rw[L]at R G;rw[M]at S I;have N:∀i,wr.cell? ⟨t,i,none⟩=j.cell? ⟨t,i,none⟩:=fun i=>g.chg.cell t i J.out.lt om;have t0:=(N 0).trans J.out.c0;have t1:=(N 1).trans J.out.c1;have t2:=(N 2).trans J.out.c2;have t3:=(N 3).trans J.out.c3;obtain⟨a,ha⟩:∃a,word j d (m+k)=a:=⟨_,rfl⟩;obtain⟨b,y⟩:∃b,word j c (o+k)=b:=⟨_,rfl⟩;rw[ha]at R G;rw[y]at S I;obtain⟨l1,l2,l3,l4⟩:=g.lt;have O:=g.c1;have P:=g.c2;have HS:Hid _:=g.step hb l pB qB rB sB ha.symm y.symm G I;have M1:=zbk p a W pB G l1;have M2:=zbk q b X qB I l2;have M3:=zbk s b Z sB I l4;have M4:=zbk r a Y rB G l3;have U1:=fun w=>sub64 (lo (p*a+W)) (lo (q*b+X)) xc w O;have U2:=fun w=>sub64 (lo (s*b+Z)) (lo (r*a+Y)) yc w P;have ga:t≠d:=F.1;have ia:t≠c:=F.2;clear g L M N ha y l1 l2 l3 l4 O P G I u x C D;go_wp2_with (first
    |(go_at_call 104;refine(M1 _).mono ?_;rintro e w' ⟨rfl,hw⟩;subst w';clear M1)
    |(go_at_call 104;refine(M2 _).mono ?_;rintro e w' ⟨rfl,hw⟩;subst w';clear M2)
    |(go_at_call 104;refine(M3 _).mono ?_;rintro e w' ⟨rfl,hw⟩;subst w';clear M3)
    |(go_at_call 104;refine(M4 _).mono ?_;rintro e w' ⟨rfl,hw⟩;subst w';clear M4))
   go_roundw
   case rel=>exact⟨_,_,_,_,_,_,k+1,rfl,rfl,rfl,rfl,rfl,rfl,by go_num,HS.out⟩
   case measure=>simp[intOf];omega
  ·obtain rfl:k=n:=om;have HF:Hid _:=g;clear g u x C D;go_wp2;go_end0;have H:=HF.out;obtain⟨e1,e2⟩:=HN.out;have da:Below w.heap.size w j:=aa.out;refine⟨rfl,(ChgS.of_below da _).trans H.chg,H.ax,H.ay,fun z hz E=>?_,fun z hz E=>?_⟩
   ·have h:=H.ex;rw[e1,e2]at h;exact _root_.Rad.mix_end h hz (za1 H.ax) E
   ·have h:=H.ey;rw[e1,e2]at h;exact _root_.Rad.mix_end h hz (za1 H.ay) E
def zcd (x L:Nat):Prop:=(x=0∧L=0)∨(0<L∧2^(L-1)≤x∧x<2^L)
def zfz (j:Nat):Nat:=if j<1 then 0 else if j<2 then 1 else if j<4 then 2 else if j<8 then 3 else if j<16 then 4 else if j<32 then 5 else if j<64 then 6 else if j<128 then 7 else 8
theorem zbm {j:Nat} (h:j<256):zcd j (zfz j)∧zfz j≤8:=by
 unfold zfz zcd
 repeat' split
 all_goals simp
 all_goals omega
theorem zbu {x k L:Nat} (c:0<x / 2^k) (h:zcd (x / 2^k) L):zcd x (L+k):=by
 rcases h with⟨h,_⟩|⟨h1,h2,h3⟩
 ·omega
 ·right;have b:0<2^k:=Nat.pow_pos dd;refine⟨by omega,?_,?_⟩
  ·rw[show L+k-1=(L-1)+k by omega,Nat.pow_add];exact Nat.le_trans (Nat.mul_le_mul_right _ h2) (Nat.div_mul_le_self x _)
  ·rw[Nat.pow_add];exact Nat.lt_mul_of_div_lt h3 b
def lastOf (f:Func):Code:=match f.body with|some (.seq _ (.seq _ (.seq _ (.seq _ (.seq r _)))))=>r|_=> .skip
def restOf (f:Func):Code:=match f.body with|some (.seq _ (.seq _ (.seq _ (.seq _ c))))=>c|_=> .skip
def opsIn (c:Code):List Oper:=match c with| .region _ ops _=>ops.toList|_=>[]
def strIn (o:Oper):ByteArray:=match o.op with| .index _ (.const (.string s)) _=>s|_=>ByteArray.empty
def zds (f:Func) (i:Nat):Oper:=(opsIn (lastOf f)).getD i default
theorem tab_ok:(List.range 256).all (fun j=>(strIn (zds Tryz.f148 3))[j]? ==some (UInt8.ofNat (zfz j)))=true:=by kernel_rfl
theorem ops_eq:opsIn (lastOf Tryz.f148)=[zds Tryz.f148 0,zds Tryz.f148 1,zds Tryz.f148 2,zds Tryz.f148 3,zds Tryz.f148 4,zds Tryz.f148 5,zds Tryz.f148 6]:=by kernel_rfl
theorem last_eq:lastOf Tryz.f148=.region 10 (opsIn (lastOf Tryz.f148)).toArray false:=by kernel_rfl
theorem rest_eq:restOf Tryz.f148=.seq (lastOf Tryz.f148) .ret:=by kernel_rfl
theorem op_0:(zds Tryz.f148 0).op=.move (.tmp 2)∧(zds Tryz.f148 0).dst=some 19∧(zds Tryz.f148 0).guard=none:=⟨by kernel_rfl,by kernel_rfl,by kernel_rfl⟩
theorem op_1:(zds Tryz.f148 1).op=.move (.tmp 0)∧(zds Tryz.f148 1).dst=some 20∧(zds Tryz.f148 1).guard=none:=⟨by kernel_rfl,by kernel_rfl,by kernel_rfl⟩
theorem op_2:(zds Tryz.f148 2).op=.convert 98 5 (.tmp 20)∧(zds Tryz.f148 2).dst=some 21∧(zds Tryz.f148 2).guard=none:=⟨by kernel_rfl,by kernel_rfl,by kernel_rfl⟩
theorem op_3:(zds Tryz.f148 3).op=.index 9 (.const (.string (strIn (zds Tryz.f148 3)))) (.tmp 21)∧(zds Tryz.f148 3).dst=some 22∧(zds Tryz.f148 3).guard=none:=⟨by kernel_rfl,by kernel_rfl,by kernel_rfl⟩
theorem op_4:(zds Tryz.f148 4).op=.convert 5 3 (.tmp 22)∧(zds Tryz.f148 4).dst=some 23∧(zds Tryz.f148 4).guard=none:=⟨by kernel_rfl,by kernel_rfl,by kernel_rfl⟩
theorem op_5:(zds Tryz.f148 5).op=.binOp .add 3 (.tmp 19) (.tmp 23) 3∧(zds Tryz.f148 5).dst=some 24∧(zds Tryz.f148 5).guard=none:=⟨by kernel_rfl,by kernel_rfl,by kernel_rfl⟩
theorem op_6:(zds Tryz.f148 6).op=.assign (.tmp 24)∧(zds Tryz.f148 6).dst=some 2∧(zds Tryz.f148 6).guard=none:=⟨by kernel_rfl,by kernel_rfl,by kernel_rfl⟩
theorem zdw {P:Program} {w:World} {c:Array Oper} {rest:List Oper} {o:Oper} {a:Act} {Q:Exit→Act→World→Prop} {d:Nat} (v:Value) (j:o.guard=none) (g:o.dst=some d)
 (b:(execOp a.eval o).run P w=.ok (.value v) w) (h:wpList P c Q rest (a.put (some d) v) w):wpList P c Q (o::rest) a w:=by
 refine wpList_plain j fun K f=>?_;unfold Oper.wp;rw[b,Oper.upon_value,g];exact f _ _ h
theorem val_run {P:Program} {w:World} {s:Sem Value} {v:Value} (h:s.run P w=.ok v w):Sem.run P (do pure (.value (←s)):Sem Next) w=.ok (Next.value v) w:=by simp[h,Result.andThen]
theorem index_runs {P:Program} {w:World} {a:Act} {o:Oper} {t:TypeId} {c v u:Value} {i:Operand} (d:o.op=.index t (.const c) i) (hi:a.eval i=u)
 (b:(Instr.index t c u).run P w=.ok v w):(execOp a.eval o).run P w=.ok (.value v) w:=by
 unfold execOp;rw[d];have:Instr.index t (a.eval (.const c)) (a.eval i)=Instr.index t c u:=(by rw[hi];rfl)
 dsimp only
 rw[this];exact val_run b
theorem conv_runs {P:Program} {w:World} {a:Act} {o:Oper} {s t:TypeId} {v u:Value} {i:Operand} (c:o.op=.convert s t i) (hi:a.eval i=u)
 (b:(convert s t u).run P w=.ok v w):(execOp a.eval o).run P w=.ok (.value v) w:=by
 unfold execOp;rw[c]
 dsimp only
 rw[hi];exact val_run b
theorem zfi {P:Program} {w:World} {a:Act} {o:Oper} {u:Value} {i:Operand} (b:o.op=.move i∨o.op=.assign i) (hi:a.eval i=u):(execOp a.eval o).run P w=.ok (.value u) w:=by unfold execOp;rcases b with b|b <;> rw[b] <;> dsimp only <;> rw[hi] <;> rfl
theorem tail_abs {D:Array Oper} {r s t u x z A:Oper} {T:ByteArray} (V:∀y,y<256→T[y]? =some (UInt8.ofNat (zfz y)))
 (E:r.op=.move (.tmp 2)∧r.dst=some 19∧r.guard=none) (F:s.op=.move (.tmp 0)∧s.dst=some 20∧s.guard=none)
 (G:t.op=.convert 98 5 (.tmp 20)∧t.dst=some 21∧t.guard=none) (H:u.op=.index 9 (.const (.string T)) (.tmp 21)∧u.dst=some 22∧u.guard=none)
 (I:x.op=.convert 5 3 (.tmp 22)∧x.dst=some 23∧x.guard=none) (J:z.op=.binOp .add 3 (.tmp 19) (.tmp 23) 3∧z.dst=some 24∧z.guard=none)
 (L:A.op=.assign (.tmp 24)∧A.dst=some 2∧A.guard=none)
 (a:Act) (w:World) (n y:Nat) (X:a.tmps.size=25) (S:a.eval (.tmp 2)=.int .i64 (n:Int)) (R:a.eval (.tmp 0)=.int .u64 (y:Int)) (M:y<256) (hn:n≤56)
 {Q:Exit→Act→World→Prop} (U:∀B:Act,B.eval (.tmp 2)=.int .i64 ((n+zfz y:Nat):Int)→B.defers=a.defers→Q .normal B w):
 wpList Tryz.prog D Q [r,s,t,u,x,z,A] a w:=by
 have l8:=(zbm M).2;have C:=V y M;have W:(UInt8.ofNat (zfz y)).toNat=zfz y:=(by simp;omega);refine zdw (.int .i64 (n:Int)) E.2.2 E.2.1 (zfi (.inl E.1) S) ?_;obtain⟨k,b⟩:∃k,k=a.put (some 19) (.int .i64 (n:Int)):=⟨_,rfl⟩;have Y:k.tmps.size=25:=(by rw[b];simp[Act.put,X]);have d1:k.defers=a.defers:=(by rw[b];rfl);have x1:k.eval (.tmp 19)=.int .i64 (n:Int):=(by rw[b];exact zay om);have y1:k.eval (.tmp 0)=.int .u64 (y:Int):=(by rw[b,zak dd];exact R);rw[←b];clear b;refine zdw (.int .u64 (y:Int)) F.2.2 F.2.1 (zfi (.inl F.1) y1) ?_;obtain⟨l,c⟩:∃l,l=k.put (some 20) (.int .u64 (y:Int)):=⟨_,rfl⟩;have Z:l.tmps.size=25:=(by rw[c];simp[Act.put,Y]);have d2:l.defers=a.defers:=(by rw[c];exact d1);have x2:l.eval (.tmp 19)=.int .i64 (n:Int):=(by rw[c,zak dd];exact x1);have y2:l.eval (.tmp 20)=.int .u64 (y:Int):=(by rw[c];exact zay om);rw[←c];clear c;refine zdw (.int .u8 (y:Int)) G.2.2 G.2.1 (conv_runs G.1 y2 (by simp[go_sem];rw[IntKind.wrap_u8];omega)) ?_;obtain⟨m,d⟩:∃m,m=l.put (some 21) (.int .u8 (y:Int)):=⟨_,rfl⟩;have s3:m.tmps.size=25:=(by rw[d];simp[Act.put,Z]);have d3:m.defers=a.defers:=(by rw[d];exact d2);have x3:m.eval (.tmp 19)=.int .i64 (n:Int):=(by rw[d,zak dd];exact x2);have y3:m.eval (.tmp 21)=.int .u8 (y:Int):=(by rw[d];exact zay om);rw[←d];clear d;refine zdw (.int .u8 ((zfz y:Nat):Int)) H.2.2 H.2.1 (index_runs H.1 y3 (by simp[Instr.index,run_underlying Tryz.underlying9,asIntOf,C,W])) ?_;obtain⟨o,f⟩:∃o,o=m.put (some 22) (.int .u8 ((zfz y:Nat):Int)):=⟨_,rfl⟩;have s4:o.tmps.size=25:=(by rw[f];simp[Act.put,s3]);have N:o.defers=a.defers:=(by rw[f];exact d3);have x4:o.eval (.tmp 19)=.int .i64 (n:Int):=(by rw[f,zak dd];exact x3);have y4:o.eval (.tmp 22)=.int .u8 ((zfz y:Nat):Int):=(by rw[f];exact zay om);rw[←f];clear f;refine zdw (.int .i64 ((zfz y:Nat):Int)) I.2.2 I.2.1 (conv_runs I.1 y4 (by simp[go_sem];rw[IntKind.wrap_i64];omega)) ?_;obtain⟨p,g⟩:∃p,p=o.put (some 23) (.int .i64 ((zfz y:Nat):Int)):=⟨_,rfl⟩;have s5:p.tmps.size=25:=(by rw[g];simp[Act.put,s4]);have O:p.defers=a.defers:=(by rw[g];exact N);have x5:p.eval (.tmp 19)=.int .i64 (n:Int):=(by rw[g,zak dd];exact x4);have y5:p.eval (.tmp 23)=.int .i64 ((zfz y:Nat):Int):=(by rw[g];exact zay om);rw[←g];clear g;refine zdw (.int .i64 ((n+zfz y:Nat):Int)) J.2.2 J.2.1 (by
  unfold execOp;rw[J.1]
  dsimp only
  rw[x5,y5];simp[go_sem];rw[IntKind.wrap_i64];omega) ?_
 obtain⟨q,j⟩:∃q,q=p.put (some 24) (.int .i64 ((n+zfz y:Nat):Int)):=⟨_,rfl⟩;have s6:q.tmps.size=25:=(by rw[j];simp[Act.put,s5]);have P:q.defers=a.defers:=(by rw[j];exact O);have y6:q.eval (.tmp 24)=.int .i64 ((n+zfz y:Nat):Int):=(by rw[j];exact zay om);rw[←j];clear j;refine zdw (.int .i64 ((n+zfz y:Nat):Int)) L.2.2 L.2.1 (zfi (.inr L.1) y6) ?_;exact wpList_nil (U _ (zay om) P)
theorem len_tail (a:Act) (w:World) (n y:Nat) (m:a.tmps.size=25) (f:a.eval (.tmp 2)=.int .i64 (n:Int)) (d:a.eval (.tmp 0)=.int .u64 (y:Int)) (c:y<256) (l:n≤56)
 {Q:Exit→Act→World→Prop} (k:∀b:Act,b.eval (.tmp 2)=.int .i64 ((n+zfz y:Nat):Int)→b.defers=a.defers→Q .ret b w):(restOf Tryz.f148).wp Tryz.prog Q a w:=by
 rw[rest_eq];refine wp_seq ?_;rw[last_eq,ops_eq];refine wp_region_lit (tail_abs (T:=strIn (zds Tryz.f148 3)) (fun y c=>?_) op_0 op_1 op_2 op_3 op_4 op_5 op_6 a w n y m f d c l fun b g j=>?_)
 ·have:=List.all_eq_true.1 tab_ok y (List.mem_range.2 c);exact eq_of_beq this
 ·exact wp_ret (k _ g j)
def q1 (f:Func):Code:=match f.body with|some (.seq a (.seq _ (.seq _ (.seq _ _))))=>a|_=> .skip
def q2 (f:Func):Code:=match f.body with|some (.seq _ (.seq a (.seq _ (.seq _ _))))=>a|_=> .skip
def q3 (f:Func):Code:=match f.body with|some (.seq _ (.seq _ (.seq a (.seq _ _))))=>a|_=> .skip
def q4 (f:Func):Code:=match f.body with|some (.seq _ (.seq _ (.seq _ (.seq a _))))=>a|_=> .skip
theorem body148:Tryz.f148.body=some (.seq (q1 Tryz.f148) (.seq (q2 Tryz.f148) (.seq (q3 Tryz.f148) (.seq (q4 Tryz.f148) (restOf Tryz.f148))))):=by kernel_rfl
theorem len64_any (x:Nat) (O:x<B) (w:World):Calls Tryz.prog 148 #[.int .u64 x] w fun e w'=>∃L:Nat,e=.returned (.int .i64 L)∧w'=w∧zcd x L∧L≤64:=by
 unfold B at O;refine calls_of_wp Tryz.func148 body148 ?_;obtain⟨Q,H⟩:∃Q:Exit→Act→World→Prop,Q=(bodyPost Tryz.prog Tryz.f148 fun e w'=>∃L:Nat,e=.returned (.int .i64 L)∧w'=w∧zcd x L∧L≤64):=⟨_,rfl⟩;have I:∀(n y:Nat),y<256→n≤56→zcd x (n+zfz y)→n+zfz y≤64→∀l:Act,l.tmps.size=25→l.eval (.tmp 2)=.int .i64 (n:Int)→l.eval (.tmp 0)=.int .u64 (y:Int)→l.defers=[]→
  (restOf Tryz.f148).wp Tryz.prog Q l w:=by
  rw[H];intro n y c Z g G l hs V U Y;refine len_tail l w n y hs V U c Z fun a2 W X=>?_;exact bodyPost_ret (v:= .int .i64 ((n+zfz y:Nat):Int)) (by rw[results_tmp (t:=2) kfl];exact congrArg (fun v=>Result.ok v w) W) (X.trans Y) ⟨_,rfl,rfl,g,G⟩
 rw[←H];clear H;obtain⟨R,N⟩:∃R,R=restOf Tryz.f148:=⟨_,rfl⟩;rw[←N]at I⊢;clear N;simp only[Tryz.ntmps148,List.size_toArray,List.length_cons,List.length_nil,Nat.reduceAdd,Nat.reduceSub,Array.replicate_succ,
  Array.replicate_zero,List.push_toArray,List.append_toArray,List.nil_append,List.cons_append]
 obtain⟨C,k⟩:∃C,Hid (C=Code.seq (q4 Tryz.f148) R):=⟨_,rfl⟩;rw[←k.out];obtain⟨A,q⟩:∃A,Hid (A=Code.seq (q3 Tryz.f148) C):=⟨_,rfl⟩;rw[←q.out];obtain⟨R2,u⟩:∃R2,Hid (R2=Code.seq (q2 Tryz.f148) A):=⟨_,rfl⟩;rw[←u.out];refine wp_seq ?_
 conv=>arg 2;whnf
 go_wp2;rw[u.out];refine wp_seq ?_
 conv=>arg 2;whnf
 have f:Hid _:=I;clear I;have aa:(x:Int)<18446744073709551616:=om;clear O;by_cases c1:(4294967296:Int)≤x
 ·obtain⟨y1,M⟩:∃y1:Nat,y1=x / 2^32:=⟨_,rfl⟩;have T:(x:Int) / 4294967296=(y1:Int):=om;have t1:IntKind.u64.wrap (y1:Int)=(y1:Int):=(by rw[IntKind.wrap_u64];omega);have b1:(y1:Int)<4294967296:=om;have z:∀L,zcd y1 L→zcd x (L+32):=fun L h=>zbu om (M▸h);clear M;go_wp2
  try rw[T]
  rw[q.out];refine wp_seq ?_
  conv=>arg 2;whnf
  by_cases S:(65536:Int)≤y1
  ·obtain⟨d,r⟩:∃d:Nat,d=y1 / 2^16:=⟨_,rfl⟩;have F:(y1:Int) / 65536=(d:Int):=om;have t2:IntKind.u64.wrap (d:Int)=(d:Int):=(by rw[IntKind.wrap_u64];omega);have P:(d:Int)<65536:=om;have s:∀L,zcd d L→zcd y1 (L+16):=fun L h=>zbu om (r▸h);clear r;go_wp2
   try rw[F]
   rw[k.out];refine wp_seq ?_
   conv=>arg 2;whnf
   by_cases E:(256:Int)≤d
   ·obtain⟨b,j⟩:∃b:Nat,b=d / 2^8:=⟨_,rfl⟩;have m:(d:Int) / 256=(b:Int):=om;have J:IntKind.u64.wrap (b:Int)=(b:Int):=(by rw[IntKind.wrap_u64];omega);have D:(b:Int)<256:=om;have o:∀L,zcd b L→zcd d (L+8):=fun L h=>zbu om (j▸h);clear j;go_wp2
    try rw[m]
    have c:b<256:=om;have g:=(z _ (s _ (o _ (zbm c).1)));have p:=(zbm c).2;refine f.out 56 b c dd (by rw[Nat.add_comm];exact g) om _ rfl rfl rfl rfl
   ·go_wp2;have c:d<256:=om;have g:=(z _ (s _ (zbm c).1));have p:=(zbm c).2;refine f.out 48 d c dd (by rw[Nat.add_comm];exact g) om _ rfl rfl rfl rfl
  ·go_wp2;rw[k.out];refine wp_seq ?_
   conv=>arg 2;whnf
   by_cases E:(256:Int)≤y1
   ·obtain⟨b,j⟩:∃b:Nat,b=y1 / 2^8:=⟨_,rfl⟩;have m:(y1:Int) / 256=(b:Int):=om;have J:IntKind.u64.wrap (b:Int)=(b:Int):=(by rw[IntKind.wrap_u64];omega);have D:(b:Int)<256:=om;have o:∀L,zcd b L→zcd y1 (L+8):=fun L h=>zbu om (j▸h);clear j;go_wp2
    try rw[m]
    have c:b<256:=om;have g:=(z _ (o _ (zbm c).1));have p:=(zbm c).2;refine f.out 40 b c dd (by rw[Nat.add_comm];exact g) om _ rfl rfl rfl rfl
   ·go_wp2;have c:y1<256:=om;have g:=(z _ (zbm c).1);have p:=(zbm c).2;refine f.out 32 y1 c dd (by rw[Nat.add_comm];exact g) om _ rfl rfl rfl rfl
 ·go_wp2;rw[q.out];refine wp_seq ?_
  conv=>arg 2;whnf
  by_cases S:(65536:Int)≤x
  ·obtain⟨d,r⟩:∃d:Nat,d=x / 2^16:=⟨_,rfl⟩;have F:(x:Int) / 65536=(d:Int):=om;have t2:IntKind.u64.wrap (d:Int)=(d:Int):=(by rw[IntKind.wrap_u64];omega);have P:(d:Int)<65536:=om;have s:∀L,zcd d L→zcd x (L+16):=fun L h=>zbu om (r▸h);clear r;go_wp2
   try rw[F]
   rw[k.out];refine wp_seq ?_
   conv=>arg 2;whnf
   by_cases E:(256:Int)≤d
   ·obtain⟨b,j⟩:∃b:Nat,b=d / 2^8:=⟨_,rfl⟩;have m:(d:Int) / 256=(b:Int):=om;have J:IntKind.u64.wrap (b:Int)=(b:Int):=(by rw[IntKind.wrap_u64];omega);have D:(b:Int)<256:=om;have o:∀L,zcd b L→zcd d (L+8):=fun L h=>zbu om (j▸h);clear j;go_wp2
    try rw[m]
    have c:b<256:=om;have g:=(s _ (o _ (zbm c).1));have p:=(zbm c).2;refine f.out 24 b c dd (by rw[Nat.add_comm];exact g) om _ rfl rfl rfl rfl
   ·go_wp2;have c:d<256:=om;have g:=(s _ (zbm c).1);have p:=(zbm c).2;refine f.out 16 d c dd (by rw[Nat.add_comm];exact g) om _ rfl rfl rfl rfl
  ·go_wp2;rw[k.out];refine wp_seq ?_
   conv=>arg 2;whnf
   by_cases E:(256:Int)≤x
   ·obtain⟨b,j⟩:∃b:Nat,b=x / 2^8:=⟨_,rfl⟩;have m:(x:Int) / 256=(b:Int):=om;have J:IntKind.u64.wrap (b:Int)=(b:Int):=(by rw[IntKind.wrap_u64];omega);have D:(b:Int)<256:=om;have o:∀L,zcd b L→zcd x (L+8):=fun L h=>zbu om (j▸h);clear j;go_wp2
    try rw[m]
    have c:b<256:=om;have g:=(o _ (zbm c).1);have p:=(zbm c).2;refine f.out 8 b c dd (by rw[Nat.add_comm];exact g) om _ rfl rfl rfl rfl
   ·go_wp2;have c:x<256:=om;have g:=(zbm c).1;have p:=(zbm c).2;refine f.out 0 x c dd (by rw[Nat.add_comm];exact g) om _ rfl rfl rfl rfl
theorem zce (x:Nat) (d:x<B) (w:World):Calls Tryz.prog 135 #[.int .u64 x] w fun e w'=>∃L:Nat,e=.returned (.int .i64 ((64-L:Nat):Int))∧w'=w∧zcd x L∧L≤64:=by go_enter Tryz.func135,Tryz.ntmps135;go_wp2_with (go_at_call 148;refine(len64_any x d _).mono ?_;rintro e w' ⟨L,rfl,rfl,c,b⟩);have f:IntKind.i64.wrap (64-(L:Int))=((64-L:Nat):Int):=(by rw[IntKind.wrap_i64];omega);go_wp2;go_ret;exact⟨L,zb8 om,rfl,c,b⟩
theorem len_any (x:Nat) (d:x<B) (w:World):Calls Tryz.prog 117 #[.int .u64 x] w fun e w'=>∃L:Nat,e=.returned (.int .i64 L)∧w'=w∧zcd x L∧L≤64:=by go_enter Tryz.func117,Tryz.ntmps117;go_wp2_with (go_at_call 148;refine(len64_any x d _).mono ?_;rintro e w' ⟨L,rfl,rfl,c,b⟩);go_ret;exact⟨L,rfl,rfl,c,b⟩
theorem zbh {s:Nat} (b:s≤64):2^(64-s)*2^s=18446744073709551616:=by rw[←Nat.pow_add,show 64-s+s=64 by omega]
theorem zai (n:Nat):IntKind.u64.wrap ((n:Nat):Int)=((lo n:Nat):Int):=by rw[IntKind.wrap_u64];unfold lo;omega
theorem zfs (d s:Nat):IntKind.u64.wrap ((d:Int)*2^s)=((lo (d*2^s):Nat):Int):=by rw[←zai,Int.natCast_mul,Int.natCast_pow] <;> rfl
theorem zbn (d s:Nat):(d:Int) / 2^s=((d / 2^s:Nat):Int):=by rw[Int.natCast_ediv,Int.natCast_pow];rfl
theorem lo_shl {d s:Nat} (b:s≤64):lo (d*2^s)=2^s*(d%2^(64-s)):=by unfold lo;rw[←zbh b,Nat.mul_mod_mul_right,Nat.mul_comm]
theorem hi_shl {d s:Nat} (b:s≤64):hi (d*2^s)=d / 2^(64-s):=by unfold hi;rw[←zbh b,Nat.mul_div_mul_right _ _ (Nat.pow_pos dd)]
theorem shl_or {d s c:Nat} (b:s≤64) (f:c<2^s):
 bits .or .u64 (IntKind.u64.wrap ((d:Int)*2^s)) (c:Int)=((lo (d*2^s)+c:Nat):Int):=by
 have g:2^s≤2^64:=Nat.pow_le_pow_right dd b;rw[zfs,bits_or_u64_nat _ _ (zch _) om,lo_shl b,←Nat.two_pow_add_eq_or_of_lt f]
theorem shl_or_lt {d s c:Nat} (b:s≤64) (k:c<2^s):lo (d*2^s)+c<B:=by rw[lo_shl b];have f:d%2^(64-s)<2^(64-s):=Nat.mod_lt _ (Nat.pow_pos dd);have g:=zbh b;have j:=Nat.mul_le_mul_left (2^s) (show d%2^(64-s)+1≤2^(64-s)from f);rw[Nat.mul_add,Nat.mul_comm (2^s) (2^(64-s)),g]at j;unfold B;omega
theorem zd5 {d s:Nat} (c:s≤64) (b:d<B):d / 2^(64-s)<2^s:=by refine Nat.div_lt_of_lt_mul ?_;rw[zbh c];exact b
theorem up_step {k x d c r p e f:Nat} (h:r+B^k*c=x*p) (l:e+B*f=d*p+c):r+B^k*e+B^(k+1)*f=(x+B^k*d)*p:=by have b:B^(k+1)*f=B^k*(B*f):=(by rw[Nat.pow_succ,Nat.mul_assoc]);have g:B^k*(e+B*f)=B^k*(d*p+c):=(by rw[l]);rw[Nat.mul_add,Nat.mul_add]at g;have j:(x+B^k*d)*p=x*p+B^k*(d*p):=(by rw[Nat.add_mul,Nat.mul_assoc]);rw[b,j];omega
theorem zgb (w:World) (R P:Option Addr) (m j u cz g b o cx s:Nat) (J:Sl R m j u) (I:Sl P g b o) (M:Arr .u64 B w m j u) (U:Free w m j u)
 (L:Arr .u64 B w g b o) (hn:u=o+1) (E:0<o→m≠g∨b+o≤j∨j+u≤b) (D:u≤maxLen) (hs:s<64):
 Calls Tryz.prog 137 #[.slice R u cz,.slice P o cx,.int .u64 s] w fun e w'=>e=.returned (.tuple #[])∧Chg w w' m j (j+u)∧Arr .u64 B w' m j u∧
  num B w' m j u=num B w g b o*2^s:=by
 subst hn;have V:o+1≤9223372036854775807:=D;clear D;go_enter Tryz.func137,Tryz.ntmps137;go_wp2;go_loopw [6,11] (fun c i wr=>∃k x:Nat,k≤o∧x<2^s∧i=.int .i64 k∧c=.int .u64 x∧Chg w wr m j (j+k)∧Arr .u64 B wr m j (o+1)∧
  num B wr m j k+B^k*x=num B w g b k*2^s)
  (fun _ i _=>o-(intOf i).toNat)
 case atStart=>exact⟨0,0,by omega,Nat.pow_pos dd,rfl,rfl,Chg.refl _ _ _ _,M,by simp[zao]⟩
 case round=>
  obtain⟨k,x,hk,q,rfl,rfl,r,n,l⟩:=hrel;obtain rfl:=J om;by_cases z:k<o
  ·obtain rfl:=I om;have N:=zag n (i:=k) om;have y:wr.cell? ⟨g,b+k,none⟩=w.cell? ⟨g,b+k,none⟩:=r.cellAt (L.lt om) (by have:=E om;omega);have ca:wr.cell? ⟨g,b+k,none⟩=some (.int .u64 ((word w g (b+k):Nat):Int)):=y.trans (zag L z);have G:wr.frozen? ⟨m,j+k,none⟩=false:=(r.free U M.lt) k om;have aa:(0:Int)≤64-(s:Int):=om;have ba:(64-(s:Int)).toNat=64-s:=om;have A:=zat L z;have S:=shl_or (d:=word w g (b+k)) (s:=s) (c:=x) om q;have T:=zbn (word w g (b+k)) (64-s);have W:=shl_or_lt (d:=word w g (b+k)) (s:=s) (c:=x) om q;have X:=zd5 (s:=s) om A;have t:=up_step (p:=2^s) (e:=lo (word w g (b+k)*2^s)+x) (f:=word w g (b+k) / 2^(64-s)) l
    (by rw[←hi_shl om,Nat.add_right_comm,zf1])
   have O:num B wr m j k+B^k*(lo (word w g (b+k)*2^s)+x)+B^(k+1)*(word w g (b+k) / 2^(64-s))=num B w g b (k+1)*2^s:=(by rw[zaj];exact t);have H:Hid _:=O;have E1:Hid _:=S;have Y:Hid _:=T;have Z:Hid _:=W;have L2:Hid _:=X;clear l y t O S T W X q;go_wp2;rw[E1.out,Y.out];go_roundw
   case rel=>exact⟨k+1,_,by omega,L2.out,by go_num,rfl,(r.mono (Nat.le_refl _) om).set om om _,n.set Z.out,by rw[zba n om];exact H.out⟩
   case measure=>simp[intOf];omega
  ·obtain rfl:k=o:=om;have N:=zag n (i:=k) om;have G:wr.frozen? ⟨m,j+k,none⟩=false:=(r.free U M.lt) k om;have H:Hid _:=l;have C:Hid _:=q;clear l q;have F:x<B:=(by have h1:=C.out;have h2:2^s≤2^64:=Nat.pow_le_pow_right dd om;unfold B;omega);go_wp2;go_end0;exact⟨rfl,(r.mono (Nat.le_refl _) om).set om om _,n.set F,by rw[zba n om];exact H.out⟩
theorem down_step {d x s:Nat} (g:s≤64):(d+B*x) / 2^s=(d / 2^s+2^(64-s)*(x%2^s))+B*(x / 2^s):=by
 have f:0<2^s:=Nat.pow_pos dd;have b:B=2^s*2^(64-s):=(by rw[Nat.mul_comm,zbh g];rfl);have j:=Nat.mod_add_div x (2^s);have e:d+B*x=d+2^s*(2^(64-s)*x):=(by rw[b,Nat.mul_assoc]);rw[e,Nat.add_mul_div_left _ _ f];have c:2^(64-s)*x=2^(64-s)*(x%2^s)+B*(x / 2^s):=by
  conv=>lhs;rw[←j,Nat.mul_add,←Nat.mul_assoc]
  rw[b,Nat.mul_comm (2^(64-s)) (2^s)]
 rw[c];generalize B*(x / 2^s)=u;omega
theorem down_lt {d x s:Nat} (k:s≤64) (j:d<B):d / 2^s+2^(64-s)*(x%2^s)<B:=by have b:=zbh k;have f:d / 2^s<2^(64-s):=Nat.div_lt_of_lt_mul (by rw[Nat.mul_comm,b];exact j);have g:x%2^s<2^s:=Nat.mod_lt _ (Nat.pow_pos dd);have c:=Nat.mul_le_mul_left (2^(64-s)) (show x%2^s+1≤2^s from g);rw[Nat.mul_add,b,Nat.mul_one]at c;exact Nat.lt_of_lt_of_le (by rw[Nat.add_comm];exact Nat.add_lt_add_left f _) c
theorem shr_or {d x s:Nat} (f:s≤64) (c:d<B):
 bits .or .u64 ((d / 2^s:Nat):Int) ((2^(64-s)*(x%2^s):Nat):Int)=((d / 2^s+2^(64-s)*(x%2^s):Nat):Int):=by
 have j:=zbh f;have g:d / 2^s<2^(64-s):=Nat.div_lt_of_lt_mul (by rw[Nat.mul_comm,j];exact c);have b:=down_lt (x:=x) f c;unfold B at b;rw[bits_or_u64_nat _ _ (Nat.lt_of_le_of_lt (Nat.le_add_right _ _) b) (Nat.lt_of_le_of_lt (Nat.le_add_left _ _) b),Nat.or_comm,←Nat.two_pow_add_eq_or_of_lt g,Nat.add_comm]
theorem shl_out {x s:Nat} (b:s≤64):lo (x*2^(64-s))=2^(64-s)*(x%2^s):=by
 have:=lo_shl (d:=x) (s:=64-s) om
 rwa [show 64-(64-s)=s by omega]at this
theorem zdc (w:World) (b o n:Nat):num B w b o (n+1)=word w b o+B*num B w b (o+1) n:=by unfold num;rw[_root_.Rad.vs_head];simp only[Nat.add_zero];congr 2;exact _root_.Rad.vs_congr fun i _=>by rw[show o+1+i=o+(i+1)by omega]
theorem moveDown_any (w:World) (I H:Option Addr) (l g n X f b W s:Nat) (D:Sl I l g n) (C:Sl H f b n) (P:Arr .u64 B w l g n) (Z:Free w l g n)
 (F:Arr .u64 B w f b n) (z:0<n→l≠f∨b+n≤g∨g+n≤b∨b=g) (y:n≤maxLen) (hs:s<64):
 Calls Tryz.prog 140 #[.slice I n X,.slice H n W,.int .u64 s] w fun e w'=>e=.returned (.tuple #[])∧Chg w w' l g (g+n)∧Arr .u64 B w' l g n∧
  num B w' l g n=num B w f b n / 2^s:=by
 have O:n≤9223372036854775807:=y;clear y;go_enter Tryz.func140,Tryz.ntmps140;go_wp2;go_loopw [6,7] (fun c i wr=>∃k d x:Nat,k+d=n∧x<B∧i=.int .i64 ((k:Int)-1)∧c=.int .u64 (lo (x*2^(64-s)):Nat)∧Chg w wr l (g+k) (g+n)∧Arr .u64 B wr l g n∧
  x%2^s=num B w f (b+k) d%2^s∧num B wr l (g+k) d=num B w f (b+k) d / 2^s)
  (fun _ i _=>(intOf i+1).toNat)
 case atStart=>exact⟨n,0,0,by omega,za2,by go_num,by simp[lo],Chg.refl _ _ _ _,P,by simp[zao],by simp[zao]⟩
 case round=>
  obtain⟨k,d,x,hk,da,rfl,rfl,p,r,q,o⟩:=hrel;by_cases Y:k=0
  ·subst Y;obtain rfl:d=n:=om;go_wp2;go_end0;exact⟨rfl,by simpa using p,r,by simpa using o⟩
  ·obtain⟨j,rfl⟩:∃j,k=j+1:=⟨k-1,by omega⟩;obtain rfl:=D om;obtain rfl:=C om;have N:((j+1:Nat):Int)-1=(j:Int):=om;rw[N];have G:=zag r (i:=j) om;have t:wr.cell? ⟨f,b+j,none⟩=w.cell? ⟨f,b+j,none⟩:=p.cellAt (F.lt om) (by have:=z om;omega);have ea:wr.cell? ⟨f,b+j,none⟩=some (.int .u64 ((word w f (b+j):Nat):Int)):=t.trans (zag F om);have aa:wr.frozen? ⟨l,g+j,none⟩=false:=(p.free Z P.lt) j om;have m:=zat F (i:=j) om;have ba:(0:Int)≤64-(s:Int):=om;have ca:(64-(s:Int)).toNat=64-s:=om;have J:=zbn (word w f (b+j)) s;have L:=zfs (word w f (b+j)) (64-s);have M:bits .or .u64 ((word w f (b+j) / 2^s:Nat):Int) ((lo (x*2^(64-s)):Nat):Int)=((word w f (b+j) / 2^s+2^(64-s)*(num B w f (b+(j+1)) d%2^s):Nat):Int):=(by rw[shl_out om,q];exact shr_or om m);have R:=down_lt (x:=num B w f (b+(j+1)) d) (s:=s) om m;have E:=down_step (d:=word w f (b+j)) (x:=num B w f (b+(j+1)) d) (s:=s) om;have A:num B w f (b+j) (d+1)=word w f (b+j)+B*num B w f (b+(j+1)) d:=zdc _ _ _ _;rw[←A,←o]at E;have u:word w f (b+j)%2^s=num B w f (b+j) (d+1)%2^s:=(by rw[A,show B=2^s*2^(64-s)by rw[Nat.mul_comm,zbh om];rfl,Nat.mul_assoc,Nat.add_mul_mod_self_left]);have HV:Hid _:=E;have U:Hid _:=u;have E1:Hid _:=J;have S:Hid _:=L;have T:Hid _:=M;have V:Hid _:=R;clear E u J L M R A q o t N;go_wp2;rw[E1.out,S.out,T.out];go_roundw
   case rel=>refine⟨j,d+1,_,by omega,m,by go_num,rfl,(p.mono om (Nat.le_refl _)).set om om _,r.set V.out,U.out,?_⟩;rw[HV.out,zdc,zbq (by rw[G];rfl),zan om];rfl
   case measure=>simp[intOf]
end Go.Proofs.YtjlkplidpdhgbaaGreatDoor
namespace Rad
structure Guess (h y1 y0 u d q r:Nat):Prop where
 sum:q*y1+r=u
 ge:(u*h+d) / (y1*h+y0)≤q
 le:q≤h+1
theorem guess_start {h y1 y0 u d:Nat} (o:h≤2*y1) (f:y0<h) (l:d<h) (n:u<y1*h+y0):Guess h y1 y0 u d (u / y1) (u%y1):=by
 have b:0<y1:=om;have e:u / y1*y1+u%y1=u:=(by rw[Nat.mul_comm];exact Nat.div_add_mod u y1);have m:=Nat.mod_lt u b;refine⟨e,?_,?_⟩
 ·refine Nat.le_of_lt_succ ((Nat.div_lt_iff_lt_mul (by have:=Nat.mul_pos b (show 0<h by omega);omega)).2 ?_);have c:u+1≤(u / y1+1)*y1:=(by rw[Nat.add_mul];omega);have g:=Nat.mul_le_mul_right h c;have j:(u / y1+1)*y1*h≤(u / y1+1)*(y1*h+y0):=(by rw[Nat.mul_assoc,Nat.mul_add];omega);have k:(u+1)*h=u*h+h:=(by rw[Nat.add_mul];omega);show u*h+d<(u / y1).succ*(y1*h+y0);have:(u / y1).succ=u / y1+1:=rfl;rw[this];omega
 ·refine Nat.le_of_lt_succ ((Nat.div_lt_iff_lt_mul b).2 ?_);show u<(h+1).succ*y1;have c:(h+1).succ*y1=y1*h+2*y1:=(by rw[show(h+1).succ=h+2 from rfl,Nat.add_mul,Nat.mul_comm h y1]);omega
theorem guess_lt {h y1 y0 u d:Nat} (f:d<h) (c:u<y1*h+y0):(u*h+d) / (y1*h+y0)<h:=by refine(Nat.div_lt_iff_lt_mul om).2 ?_;have b:=Nat.mul_le_mul_right h (show u+1≤y1*h+y0 from c);rw[Nat.add_mul,Nat.mul_comm (y1*h+y0) h]at b;omega
theorem Guess.step {h y1 y0 u d q r:Nat} (g:Guess h y1 y0 u d q r) (f:d<h) (k:u<y1*h+y0) (b:h≤q∨h*r+d<q*y0):
 0<q∧Guess h y1 y0 u d (q-1) (r+y1):=by
 have c:(u*h+d) / (y1*h+y0)<q:=by
  rcases b with b|b
  ·exact Nat.lt_of_lt_of_le (guess_lt f k) b
  ·refine(Nat.div_lt_iff_lt_mul om).2 ?_;have e:u*h=q*y1*h+h*r:=(by rw[←g.sum,Nat.add_mul,Nat.mul_comm r h]);rw[e,Nat.mul_add,←Nat.mul_assoc];omega
 have m:0<q:=Nat.lt_of_le_of_lt (Nat.zero_le _) c;obtain⟨p,rfl⟩:∃p,q=p+1:=⟨q-1,by omega⟩;have j:=g.sum;have l:=g.le;rw[Nat.add_mul,Nat.one_mul]at j;refine⟨by omega,?_,by omega,by omega⟩;rw[Nat.add_sub_cancel];omega
theorem Guess.done {h y1 y0 u d q r:Nat} (g:Guess h y1 y0 u d q r) (b:0<y1*h+y0) (c:q*y0≤h*r+d):q=(u*h+d) / (y1*h+y0):=by refine Nat.le_antisymm ?_ g.ge;refine(Nat.le_div_iff_mul_le b).2 ?_;have e:u*h=q*y1*h+h*r:=(by rw[←g.sum,Nat.add_mul,Nat.mul_comm r h]);rw[e,Nat.mul_add,←Nat.mul_assoc];omega
theorem Guess.over {h y1 y0 u d q r:Nat} (g:Guess h y1 y0 u d q r) (c:0<y1*h+y0) (b:y0<h) (f:q≤h) (j:h≤r):q=(u*h+d) / (y1*h+y0):=by refine g.done c ?_;have k:=Nat.mul_le_mul f (Nat.le_of_lt b);have l:=Nat.mul_le_mul_left h j;omega
theorem two_digits {h u d1 d0 y:Nat}:
 (u*(h*h)+d1*h+d0) / y=(u*h+d1) / y*h+((u*h+d1)%y*h+d0) / y∧(u*(h*h)+d1*h+d0)%y=((u*h+d1)%y*h+d0)%y:=by
 have e:u*(h*h)+d1*h+d0=((u*h+d1)%y*h+d0)+y*((u*h+d1) / y*h):=(by have c:(u*h+d1)*h=((u*h+d1)%y+y*((u*h+d1) / y))*h:=(by rw[Nat.mod_add_div]);rw[Nat.add_mul,Nat.add_mul,Nat.mul_assoc,Nat.mul_assoc]at c;omega);rcases Nat.eq_zero_or_pos y with b|b
 ·subst b;simp only[Nat.div_zero,Nat.mod_zero,Nat.zero_mul,Nat.zero_add,Nat.add_zero,true_and];rw[Nat.add_mul,Nat.mul_assoc]
 ·refine⟨?_,?_⟩
  ·rw[e,Nat.add_mul_div_left _ _ b,Nat.add_comm]
  ·rw[e,Nat.add_mul_mod_self_left]
end Rad
