/- A part of the proof: R1b, R3, R4, R5, R6, R7. -/
import Derived.Test.YtjlkplidpdhgbaaGreatDoorP00
import Derived.Test.YtjlkplidpdhgbaaGreatDoorP15
import Derived.Test.YtjlkplidpdhgbaaGreatDoorP21
set_option linter.all false
set_option maxRecDepth 10000
set_option maxHeartbeats 4000000
namespace Go.Proofs.YtjlkplidpdhgbaaGreatDoor
open Go Go.Proofs Go.RowKit Go.Rad
inductive ZIn (ao:Option Addr):Value→Prop
 |mk (s:Bool) (a:Option Addr) (k c:Nat) (h:a=none∨a=ao):ZIn ao (.agg #[.bool s,.slice a k c])
theorem zb4 (w:World) (neg:Bool) (E:Option Addr) (b o n c x:Nat) (hs:Sl E b o n) (hc:n≤c) (t:c≤maxLen) (F:Arr .i64 10000 w b o n) (U:num 10000 w b o n=x):
 Calls Tryz.prog 73 #[.bool neg,.slice E n c] w fun e w'=>∃v,e=.returned v∧Below w.heap.size w w'∧IsZ w' v (sgn neg x)∧ZIn E v:=by
 have M:Hid (Rez w (w.alloc (Obj.cells #[Value.bool false,Value.slice none 0 0] 31)) w.heap.size∧Arr .i64 10000 (w.alloc (Obj.cells #[Value.bool false,Value.slice none 0 0] 31)) b o n∧num 10000 (w.alloc (Obj.cells #[Value.bool false,Value.slice none 0 0] 31)) b o n=x):=⟨Rez.mk0 w,zae F (zau w _),(zah F (zau w _)).trans U⟩;have u:=t;unfold maxLen at t;clear F U;go_enter Tryz.func73,Tryz.ntmps73;go_wp2;refine zac (fun d=>Rez w d w.heap.size∧Arr .i64 10000 d b o n∧num 10000 d b o n=x) M.out ?_;clear M;rintro d ⟨R,O,P⟩;have B:Hid _:=R;have L:Hid _:=O;have s:Hid _:=P;clear R O P;go_loop [5] (fun J=>∃k:Nat,k≤n∧J=.int .i64 (k:Int)∧∀i,k≤i→i<n→word d b (o+i)=0) (fun J=>(intOf J).toNat)
 case atStart=>exact⟨n,Nat.le_refl _,rfl,fun i h1 N=>by omega⟩
 case round=>
  obtain⟨k,T,rfl,V⟩:=hrel;have m:Hid _:=V;clear V;by_cases H:k=0
  ·subst H;have z:x=0:=(by rw[←s.out,←zcu (Nat.zero_le n) m.out];rfl);have p:=zcl d;obtain⟨q,r⟩:=B.out.done p;have f:Hid _:=q;have g:Hid _:=r;obtain⟨-,-,lt,k0,k1,Z,f1⟩:=B.out;have D:Hid _:=z;clear q r p z s m;go_wp2;refine bodyPost_ret (v:= .agg #[.bool false,.slice none 0 0]) rt rfl ?_;exact⟨_,rfl,f.out,by rw[show sgn neg x=0 by rw[D.out];cases neg <;> rfl];exact g.out,.mk _ _ _ _ (.inl rfl)⟩
  ·have c1:(0:Int)<(k:Int):=om;obtain rfl:=hs om;obtain⟨j,rfl⟩:∃j,k=j+1:=⟨k-1,by omega⟩;have l:=zag L.out (i:=j) om;have e1:((j+1:Nat):Int)-1=(j:Int):=om;obtain⟨y,I⟩:∃y,word d b (o+j)=y:=⟨_,rfl⟩;rw[I]at l;have C:Hid _:=I;clear I;by_cases A:y=0
   ·have W:(y:Int)=0:=om;have X:j<n:=om;go_wp2;refine⟨⟨j,by omega,by go_num,fun i h1 N=>?_⟩,by simp[intOf]⟩;by_cases G:i=j
    ·rw[G,C.out];exact A
    ·exact m.out i om N
   ·have W:¬(y:Int)=0:=om;have X:j<n:=om;have p:IsZ d (.agg #[.bool (decide (sgn neg x<0)),.slice (some ⟨b,o,none⟩) (j+1) c]) (sgn neg x):=by
     have Y:(sgn neg x).natAbs=x:=(by unfold sgn;cases neg <;> simp);refine⟨_,j+1,rfl,_,b,o,c,rfl,Sl.mk _ _ _,by omega,u,fun i hi=>L.out i om,?_,.inr ?_⟩
     ·rw[zcu T m.out,s.out,Y]
     ·rw[Nat.add_sub_cancel,C.out];exact A
    have S:decide (sgn neg x<0)=neg:=(by have aa:0<x:=(by rw[←s.out,←zcu T m.out,zaj,C.out];have:0<10000^j*y:=Nat.mul_pos (Nat.pow_pos dd) om;omega);unfold sgn;cases neg <;> simp <;> omega);rw[S]at p;obtain⟨q,r⟩:=B.out.done p;have f:Hid _:=q;have g:Hid _:=r;obtain⟨-,-,lt,k0,k1,Z,f1⟩:=B.out;have c4:(j:Int)+1≤(c:Int):=om;clear q r p S s m C;go_wp2;refine bodyPost_ret (v:= .agg #[.bool neg,.slice (some ⟨b,o,none⟩) (j+1) c]) rt rfl ?_;exact⟨_,rfl,f.out,g.out,.mk _ _ _ _ (.inr rfl)⟩
def ZNew (B:Nat) (v:Value):Prop:=∀(s:Bool) (a:Option Addr) (n c:Nat),v=.agg #[.bool s,.slice a n c]→∀x,a=some x→B≤x.block
theorem ZIn.new {b:Option Addr} {v:Value} {B:Nat} (h:ZIn b v) (g:∀x,b=some x→B≤x.block):ZNew B v:=by
 intro s a n c d x f;cases h with
 |mk s' a' k c' h=>
  simp only[Value.agg.injEq,Array.mk.injEq,List.cons.injEq,Value.slice.injEq,and_true]at d;rw[d.2.1]at h;rcases h with h|h
  ·rw[f]at h;cases h
  ·exact g x (by rw[←h];exact f)
theorem ZNew.mono {B C:Nat} {v:Value} (h:ZNew B v) (b:C≤B):ZNew C v:=fun s a n c d x f=>Nat.le_trans b (h s a n c d x f)
theorem ZNew.at {B:Nat} {s:Bool} {a:Option Addr} {n c:Nat} (h:ZNew B (.agg #[.bool s,.slice a n c])):∀x,a=some x→B≤x.block:=h s a n c rfl
theorem ZNew.mk {B:Nat} {s:Bool} {a:Option Addr} {n c:Nat} (h:∀x,a=some x→B≤x.block):ZNew B (.agg #[.bool s,.slice a n c]):=by intro k f j g b x d;simp only[Value.agg.injEq,Array.mk.injEq,List.cons.injEq,Value.slice.injEq,and_true]at b;exact h x (by rw[b.2.1];exact d)
theorem ZNew.nil (B:Nat) (s:Bool):ZNew B (.agg #[.bool s,.slice none 0 0]):=ZNew.mk fun x b=>by cases b
def IsZN (w:World) (v:Value) (z:Int) (p:Prop) (B:Nat):Prop:=IsZ w v z∧(p→ZNew B v)
theorem IsZN.form {w:World} {v:Value} {z:Int} {p:Prop} {B:Nat} (h:IsZN w v z p B):∃b a n c,v=.agg #[.bool b,.slice a n c]:=h.1.form
theorem zdq:(Tryz.prog.info? 3).map (fun i=>(i.zero,i.size,i.bytes))=some (some (.int .i64 0),1,8):=by kernel_rfl
theorem zread_neg (w:World) (s t:ByteArray) (hp:0<s.size) (h1:s[0]'hp=45) (ht:s.extract 1 s.size=t) (V:∀c∈t.data.toList,_root_.Rad.IsDg c) (hs:s.size≤1001) (z:Int) (hz:z=sgn true (_root_.Rad.dval t.data.toList)):
 Calls Tryz.prog 68 #[.string s] w fun e w'=>∃v,e=.returned v∧Below w.heap.size w w'∧IsZ w' v z∧ZNew w.heap.size v:=by
 have HR:Hid (Rez w (w.alloc (Obj.cells #[Value.bool false,Value.slice none 0 0] 31)) w.heap.size):=Rez.mk0 w;have c0:(0:Int)<(s.size:Int):=om;obtain⟨L,hL⟩:∃L,t.size=L:=⟨_,rfl⟩;have ta:L≤1001:=(by rw[←hL,←ht];simp;omega);have ua:(t.size:Int)=(L:Int):=om;have HL:Hid _:=hL;have HZ:Hid _:=hz;have B:Hid _:=V;clear hL hz V;have e3:(s[0].toNat:Int)=45:=(by rw[h1];rfl);go_enter Tryz.func68,Tryz.ntmps68;go_wp2;refine zac (fun w1=>Rez w w1 w.heap.size) HR.out ?_;clear HR;rintro w1 R1;have o:Hid _:=R1;clear R1;go_loopw [4,5] (fun s4 s5 wr=>∃(j:Nat) (xs:List Nat),s5=.int .i64 ((L:Int)-4*(j:Int))∧xs.length=j∧j≤L∧RowN .i64 3 wr (w.heap.size+1) s4 xs∧(∀x∈xs,x<10000)∧lv 10000 xs=_root_.Rad.dval (t.data.toList.drop (L-4*j))∧Rez w wr w.heap.size)
  (fun _ s5 _=>(intOf s5).toNat)
 case atStart=>exact⟨0,[],by simp,rfl,by omega,RowN.nil _ _ _ _,by simp,by rw[List.drop_of_length_le (by rw[zas,HL.out];omega)];rfl,o.out⟩
 case round=>
  obtain⟨j,xs,rfl,H,ya,b,p,l,T⟩:=hrel;clear o;have la:=T.lt;by_cases hj:L≤4*j
  ·have c1:¬(0:Int)<(L:Int)-4*(j:Int):=om;rw[show L-4*j=0 by omega,List.drop_zero]at l;subst H;have y:=b.own_lt;obtain⟨ao,bb,cc,rfl,Y,M,na,q,u,G,_,_⟩:=b.arr p;have O:Hid (∀x,ao=some x→w.heap.size≤x.block):=fun x N=>by have:=(y x.block (by rw[N];rfl)).1;omega
   clear y;have CZ:=zb4 wr true ao bb 0 xs.length cc _ Y M na q (u.trans l);have D:Hid _:=T;clear b u Y q G l p T M;go_wp2_with (go_at_call 73;fail);refine CZ.mono ?_;rintro e w4 ⟨v4,rfl,U,J,W⟩;have R5:=D.out.step U D.out.lt;clear CZ D;obtain⟨s5,a5,n5,c5,rfl⟩:=J.form;have ha:Hid (ZNew w.heap.size _):=W.new O.out;clear W;obtain⟨HE,HI⟩:=R5.done J;have ea:Hid _:=HE;have ga:Hid _:=HI;obtain⟨-,-,lt,k0,k1,f0,f1⟩:=R5;clear HE HI J U;go_wp2;refine bodyPost_ret (v:= .agg #[.bool s5,.slice a5 n5 c5]) rt rfl ?_;exact⟨_,rfl,ea.out,by rw[HZ.out];exact ga.out,ha.out⟩
  ·obtain⟨I,J⟩:∃I:Nat,I=L-4*j:=⟨_,rfl⟩;have eI:(L:Int)-4*(j:Int)=(I:Int):=om;have sa:0<I:=om;have ka:I≤L:=om;have eJ:L-4*(j+1)=I-4:=om;rw[eI];rw[←J]at l;have R:(I:Int)-4=(L:Int)-4*((j+1:Nat):Int):=om;have aa:Hid _:=R;have hm:10^(t.data.toList.length-I)=10000^j:=(by rw[zas,HL.out,show L-I=4*j by omega,Nat.pow_mul]);have g:=_root_.Rad.four_step t.data.toList (I:=I) (by rw[zas,HL.out];exact ka);rw[hm,←l]at g;have f:Hid _:=g;have EJ:Hid _:=eJ;have P:=b.hid;have ja:Hid _:=p;have o:Hid _:=T;have E:Hid _:=H;clear eI J l hm g eJ R b p T H;go_wp2;go_loop [6,7] (fun s6 s7=>∃k:Nat,k≤4∧s7=.int .i64 ((I:Int)-4+(k:Int))∧s6=.int .i64 (_root_.Rad.dval ((t.data.toList.drop (I-4)).take (I+k-4-(I-4))):Nat)) (fun _ s7=>(4+(I:Int)-4-intOf s7).toNat)
   case atStart=>exact⟨0,by omega,by simp,by rw[show I+0-4-(I-4)=0 by omega];rfl⟩
   case round=>
    obtain⟨k,hk,rfl,rfl⟩:=hrel;by_cases oa:k=4
    ·subst oa;have e4:(I:Int)-4+((4:Nat):Int)=(I:Int):=om;rw[e4];have e5:I+4-4-(I-4)=I-(I-4):=om;rw[e5];obtain⟨n,r⟩:∃n,_root_.Rad.dval ((t.data.toList.drop (I-4)).take (I-(I-4)))=n:=⟨_,rfl⟩;have X:n<10000:=(by have h1:n<10^((t.data.toList.drop (I-4)).take (I-(I-4))).length:=(by rw[←r];exact _root_.Rad.dval_lt fun c M=>B.out c (List.mem_of_mem_drop (List.mem_of_mem_take M)));have h2:10^((t.data.toList.drop (I-4)).take (I-(I-4))).length≤10^4:=Nat.pow_le_pow_right dd (by rw[List.length_take];omega);omega);have hF:=f.out;rw[r]at hF⊢;have fa:Hid _:=hF;have C:=(P.out.below (zau wr (Obj.cells #[Value.int IntKind.i64 (n:Int)] 3))).hid;have da:Hid ((wr.alloc (Obj.cells #[Value.int IntKind.i64 (n:Int)] 3)).cell? ⟨wr.heap.size,0,none⟩=some (.int .i64 (n:Int))):=(by show _=_;simp[go_sem]);have ca:=zau wr (Obj.cells #[Value.int IntKind.i64 (n:Int)] 3);have ia:Hid (w.heap.size+1≤(wr.alloc (Obj.cells #[Value.int IntKind.i64 (n:Int)] 3)).heap.size):=(by show _≤_;simp;omega);clear r hF f;go_wp2_with (at_builtin;refine zax .i64 3 rfl _ _ 29 rfl Tryz.underlying29 8 zdq dd (w.heap.size+1) _ xs rfl C.out wr.heap.size 1 n rfl da.out (by rw[E.out];omega) ia.out ?_;intro v6 w6 Z ma ra xa);have R6:=(o.out.step ca la).step ma om;refine⟨⟨j+1,xs++[n],?_,by simp[E.out],by omega,Z,?_,?_,R6⟩,?_⟩
     ·rw[aa.out]
     ·intro x N;rcases List.mem_append.1 N with h|h
      ·exact ja.out x h
      ·rw[List.mem_singleton.1 h];exact X
     ·rw[zbi,EJ.out,fa.out,E.out,Nat.add_comm,Nat.mul_comm]
     ·simp[intOf];omega
    ·have c1:(I:Int)-4+(k:Int)<(I:Int):=om;by_cases qa:I+k<4
     ·have c2:¬(0:Int)≤(I:Int)-4+(k:Int):=om;have e6:I+(k+1)-4-(I-4)=I+k-4-(I-4):=om;go_wp2;refine⟨⟨k+1,by omega,by go_num,by rw[e6]⟩,by simp[intOf];omega⟩
     ·obtain⟨x,N⟩:∃x:Nat,x=I+k-4:=⟨_,rfl⟩;have ex:(I:Int)-4+(k:Int)=(x:Int):=om;have S:(x:Int)+1=(I:Int)-4+((k+1:Nat):Int):=om;rw[ex]at c1⊢;have pa:x<t.size:=(by rw[HL.out];omega);have A:x<t.data.toList.length:=(by rw[zas];exact pa);have m:=_root_.Rad.take_step (t:=t.data.toList) (a:=I-4) (x:=x) om A;have F:=B.out t[x] (by show t.data.toList[x]∈_;exact List.getElem_mem A);obtain⟨d,hd⟩:∃d:Nat,t[x].toNat=48+d:=⟨t[x].toNat-48,by unfold _root_.Rad.IsDg at F;omega⟩;have va:d≤9:=(by unfold _root_.Rad.IsDg at F;omega);have wa:(t[x].toNat:Int)=48+(d:Int):=om;rw[←N];obtain⟨n,r⟩:∃n,_root_.Rad.dval ((t.data.toList.drop (I-4)).take (x-(I-4)))=n:=⟨_,rfl⟩;have X:n<10000:=(by have h1:n<10^((t.data.toList.drop (I-4)).take (x-(I-4))).length:=(by rw[←r];exact _root_.Rad.dval_lt fun c M=>B.out c (List.mem_of_mem_drop (List.mem_of_mem_take M)));have h2:10^((t.data.toList.drop (I-4)).take (x-(I-4))).length≤10^4:=Nat.pow_le_pow_right dd (by rw[List.length_take];omega);omega);have hN:_root_.Rad.dval ((t.data.toList.drop (I-4)).take (I+(k+1)-4-(I-4)))=n*10+d:=(by rw[show I+(k+1)-4-(I-4)=x+1-(I-4)by omega,m,_root_.Rad.dval_snoc,r];have e:(t.data.toList[x]).toNat=48+d:=hd;rw[e];omega);rw[r];have HN:Hid _:=hN;have ba:Hid _:=S;have c3:(0:Int)≤(x:Int):=om;clear r hN m F hd N ex S f;go_wp2;refine⟨⟨k+1,by omega,by rw[ba.out],by rw[HN.out];go_num⟩,by simp[intOf];omega⟩
theorem zread_pos (w:World) (s t:ByteArray) (hp:0<s.size) (h1:¬s[0]'hp=45) (ht:s=t) (V:∀c∈t.data.toList,_root_.Rad.IsDg c) (hs:s.size≤1001) (z:Int) (hz:z=sgn false (_root_.Rad.dval t.data.toList)):
 Calls Tryz.prog 68 #[.string s] w fun e w'=>∃v,e=.returned v∧Below w.heap.size w w'∧IsZ w' v z∧ZNew w.heap.size v:=by
 have HR:Hid (Rez w (w.alloc (Obj.cells #[Value.bool false,Value.slice none 0 0] 31)) w.heap.size):=Rez.mk0 w;have c0:(0:Int)<(s.size:Int):=om;obtain⟨L,hL⟩:∃L,t.size=L:=⟨_,rfl⟩;have ta:L≤1001:=(by rw[←hL,←ht];exact hs);have ua:(t.size:Int)=(L:Int):=om;have HL:Hid _:=hL;have HZ:Hid _:=hz;have B:Hid _:=V;clear hL hz V;have e3:¬(s[0].toNat:Int)=45:=u8_ne (n:=45) dd h1;have f3:(((s[0].toNat:Nat):Int)==45)=false:=(by simpa using e3);subst ht;go_enter Tryz.func68,Tryz.ntmps68;go_wp2;refine zac (fun w1=>Rez w w1 w.heap.size) HR.out ?_;clear HR;rintro w1 R1;have o:Hid _:=R1;clear R1;go_loopw [4,5] (fun s4 s5 wr=>∃(j:Nat) (xs:List Nat),s5=.int .i64 ((L:Int)-4*(j:Int))∧xs.length=j∧j≤L∧RowN .i64 3 wr (w.heap.size+1) s4 xs∧(∀x∈xs,x<10000)∧lv 10000 xs=_root_.Rad.dval (s.data.toList.drop (L-4*j))∧Rez w wr w.heap.size)
  (fun _ s5 _=>(intOf s5).toNat)
 case atStart=>exact⟨0,[],by simp,rfl,by omega,RowN.nil _ _ _ _,by simp,by rw[List.drop_of_length_le (by rw[zas,HL.out];omega)];rfl,o.out⟩
 case round=>
  obtain⟨j,xs,rfl,H,ya,b,p,l,T⟩:=hrel;clear o;have la:=T.lt;by_cases hj:L≤4*j
  ·have c1:¬(0:Int)<(L:Int)-4*(j:Int):=om;rw[show L-4*j=0 by omega,List.drop_zero]at l;subst H;have y:=b.own_lt;obtain⟨ao,bb,cc,rfl,Y,M,na,q,u,G,_,_⟩:=b.arr p;have O:Hid (∀x,ao=some x→w.heap.size≤x.block):=fun x N=>by have:=(y x.block (by rw[N];rfl)).1;omega
   clear y;have CZ:=zb4 wr false ao bb 0 xs.length cc _ Y M na q (u.trans l);have D:Hid _:=T;clear b u Y q G l p T M;go_wp2_with (go_at_call 73;fail);refine CZ.mono ?_;rintro e w4 ⟨v4,rfl,U,J,W⟩;have R5:=D.out.step U D.out.lt;clear CZ D;obtain⟨s5,a5,n5,c5,rfl⟩:=J.form;have ha:Hid (ZNew w.heap.size _):=W.new O.out;clear W;obtain⟨HE,HI⟩:=R5.done J;have ea:Hid _:=HE;have ga:Hid _:=HI;obtain⟨-,-,lt,k0,k1,f0,f1⟩:=R5;clear HE HI J U;go_wp2;refine bodyPost_ret (v:= .agg #[.bool s5,.slice a5 n5 c5]) rt rfl ?_;exact⟨_,rfl,ea.out,by rw[HZ.out];exact ga.out,ha.out⟩
  ·obtain⟨I,J⟩:∃I:Nat,I=L-4*j:=⟨_,rfl⟩;have eI:(L:Int)-4*(j:Int)=(I:Int):=om;have sa:0<I:=om;have ka:I≤L:=om;have eJ:L-4*(j+1)=I-4:=om;rw[eI];rw[←J]at l;have R:(I:Int)-4=(L:Int)-4*((j+1:Nat):Int):=om;have aa:Hid _:=R;have hm:10^(s.data.toList.length-I)=10000^j:=(by rw[zas,HL.out,show L-I=4*j by omega,Nat.pow_mul]);have g:=_root_.Rad.four_step s.data.toList (I:=I) (by rw[zas,HL.out];exact ka);rw[hm,←l]at g;have f:Hid _:=g;have EJ:Hid _:=eJ;have P:=b.hid;have ja:Hid _:=p;have o:Hid _:=T;have E:Hid _:=H;clear eI J l hm g eJ R b p T H;go_wp2;go_loop [6,7] (fun s6 s7=>∃k:Nat,k≤4∧s7=.int .i64 ((I:Int)-4+(k:Int))∧s6=.int .i64 (_root_.Rad.dval ((s.data.toList.drop (I-4)).take (I+k-4-(I-4))):Nat)) (fun _ s7=>(4+(I:Int)-4-intOf s7).toNat)
   case atStart=>exact⟨0,by omega,by simp,by rw[show I+0-4-(I-4)=0 by omega];rfl⟩
   case round=>
    obtain⟨k,hk,rfl,rfl⟩:=hrel;by_cases oa:k=4
    ·subst oa;have e4:(I:Int)-4+((4:Nat):Int)=(I:Int):=om;rw[e4];have e5:I+4-4-(I-4)=I-(I-4):=om;rw[e5];obtain⟨n,r⟩:∃n,_root_.Rad.dval ((s.data.toList.drop (I-4)).take (I-(I-4)))=n:=⟨_,rfl⟩;have X:n<10000:=(by have h1:n<10^((s.data.toList.drop (I-4)).take (I-(I-4))).length:=(by rw[←r];exact _root_.Rad.dval_lt fun c M=>B.out c (List.mem_of_mem_drop (List.mem_of_mem_take M)));have h2:10^((s.data.toList.drop (I-4)).take (I-(I-4))).length≤10^4:=Nat.pow_le_pow_right dd (by rw[List.length_take];omega);omega);have hF:=f.out;rw[r]at hF⊢;have fa:Hid _:=hF;have C:=(P.out.below (zau wr (Obj.cells #[Value.int IntKind.i64 (n:Int)] 3))).hid;have da:Hid ((wr.alloc (Obj.cells #[Value.int IntKind.i64 (n:Int)] 3)).cell? ⟨wr.heap.size,0,none⟩=some (.int .i64 (n:Int))):=(by show _=_;simp[go_sem]);have ca:=zau wr (Obj.cells #[Value.int IntKind.i64 (n:Int)] 3);have ia:Hid (w.heap.size+1≤(wr.alloc (Obj.cells #[Value.int IntKind.i64 (n:Int)] 3)).heap.size):=(by show _≤_;simp;omega);clear r hF f;go_wp2_with (at_builtin;refine zax .i64 3 rfl _ _ 29 rfl Tryz.underlying29 8 zdq dd (w.heap.size+1) _ xs rfl C.out wr.heap.size 1 n rfl da.out (by rw[E.out];omega) ia.out ?_;intro v6 w6 Z ma ra xa);have R6:=(o.out.step ca la).step ma om;refine⟨⟨j+1,xs++[n],?_,by simp[E.out],by omega,Z,?_,?_,R6⟩,?_⟩
     ·rw[aa.out]
     ·intro x N;rcases List.mem_append.1 N with h|h
      ·exact ja.out x h
      ·rw[List.mem_singleton.1 h];exact X
     ·rw[zbi,EJ.out,fa.out,E.out,Nat.add_comm,Nat.mul_comm]
     ·simp[intOf];omega
    ·have c1:(I:Int)-4+(k:Int)<(I:Int):=om;by_cases qa:I+k<4
     ·have c2:¬(0:Int)≤(I:Int)-4+(k:Int):=om;have e6:I+(k+1)-4-(I-4)=I+k-4-(I-4):=om;go_wp2;refine⟨⟨k+1,by omega,by go_num,by rw[e6]⟩,by simp[intOf];omega⟩
     ·obtain⟨x,N⟩:∃x:Nat,x=I+k-4:=⟨_,rfl⟩;have ex:(I:Int)-4+(k:Int)=(x:Int):=om;have S:(x:Int)+1=(I:Int)-4+((k+1:Nat):Int):=om;rw[ex]at c1⊢;have pa:x<s.size:=(by rw[HL.out];omega);have A:x<s.data.toList.length:=(by rw[zas];exact pa);have m:=_root_.Rad.take_step (t:=s.data.toList) (a:=I-4) (x:=x) om A;have F:=B.out s[x] (by show s.data.toList[x]∈_;exact List.getElem_mem A);obtain⟨d,hd⟩:∃d:Nat,s[x].toNat=48+d:=⟨s[x].toNat-48,by unfold _root_.Rad.IsDg at F;omega⟩;have va:d≤9:=(by unfold _root_.Rad.IsDg at F;omega);have wa:(s[x].toNat:Int)=48+(d:Int):=om;rw[←N];obtain⟨n,r⟩:∃n,_root_.Rad.dval ((s.data.toList.drop (I-4)).take (x-(I-4)))=n:=⟨_,rfl⟩;have X:n<10000:=(by have h1:n<10^((s.data.toList.drop (I-4)).take (x-(I-4))).length:=(by rw[←r];exact _root_.Rad.dval_lt fun c M=>B.out c (List.mem_of_mem_drop (List.mem_of_mem_take M)));have h2:10^((s.data.toList.drop (I-4)).take (x-(I-4))).length≤10^4:=Nat.pow_le_pow_right dd (by rw[List.length_take];omega);omega);have hN:_root_.Rad.dval ((s.data.toList.drop (I-4)).take (I+(k+1)-4-(I-4)))=n*10+d:=(by rw[show I+(k+1)-4-(I-4)=x+1-(I-4)by omega,m,_root_.Rad.dval_snoc,r];have e:(s.data.toList[x]).toNat=48+d:=hd;rw[e];omega);rw[r];have HN:Hid _:=hN;have ba:Hid _:=S;have c3:(0:Int)≤(x:Int):=om;clear r hN m F hd N ex S f;go_wp2;refine⟨⟨k+1,by omega,by rw[ba.out],by rw[HN.out];go_num⟩,by simp[intOf];omega⟩
theorem zread_new (w:World) (s:ByteArray) (g:_root_.Rad.Valid s.data.toList) (k:s.size≤1001) (z:Int) (l:z=_root_.Rad.val s.data.toList):
 Calls Tryz.prog 68 #[.string s] w fun e w'=>∃v,e=.returned v∧Below w.heap.size w w'∧IsZ w' v z∧ZNew w.heap.size v:=by
 have f:0<s.size:=by
  rcases Nat.eq_zero_or_pos s.size with h|h
  ·have c:=g.2;rw[List.eq_nil_of_length_eq_zero (by rw[zas];exact h:s.data.toList.length=0)]at c;exact absurd rfl c
  ·exact h
 have d:=ze3 f;have j:=g.digits;by_cases c:s[0]=45
 ·have b:(s.extract 1 s.size).data.toList=_root_.Rad.digs s.data.toList:=(by rw[ze4,d,c,_root_.Rad.digs_neg];rfl);refine zread_neg w s _ f c rfl (by rw[b];exact j) k z ?_;rw[l,b];unfold _root_.Rad.val sgn;rw[if_pos (by rw[d,c];rfl),if_pos rfl]
 ·have b:s.data.toList=_root_.Rad.digs s.data.toList:=by
   conv=>rhs;rw[d]
   rw[_root_.Rad.digs_pos c];exact d
  refine zread_pos w s s f c rfl (by rw[b];exact j) k z ?_;rw[l];unfold _root_.Rad.val sgn;rw[if_neg (by rw[d];intro h;exact c (oi h)),if_neg (by simp),←b]
theorem zen {w:World} {b i:Nat} {u:Value} (h:w.cell? ⟨b,i,none⟩=some u) (c j:Nat):(w.setCell ⟨b,i,none⟩ u).cell? ⟨c,j,none⟩=w.cell? ⟨c,j,none⟩:=by
 by_cases d:c=b∧j=i
 ·obtain⟨rfl,rfl⟩:=d;rw[zar h,h]
 ·exact zaa om
theorem Dg.congr {w w':World} {v:Value} {x n:Nat} (h:Dg w v x n) (d:∀b i,w'.cell? ⟨b,i,none⟩=w.cell? ⟨b,i,none⟩):Dg w' v x n:=by
 obtain⟨k,b,o,c,q,p,g,j,l,r,m⟩:=h;refine⟨k,b,o,c,q,p,g,j,fun i hi=>?_,?_,?_⟩
 ·rw[d,zab (d b (o+i))];exact l i hi
 ·rw[←r];exact zaz fun i _=>zab (d b (o+i))
 ·rcases m with f|f
  ·exact .inl f
  ·right;rw[zab (d b _)];exact f
theorem IsZ.congr {w w':World} {v:Value} {z:Int} (h:IsZ w v z) (d:∀b i,w'.cell? ⟨b,i,none⟩=w.cell? ⟨b,i,none⟩):IsZ w' v z:=by obtain⟨c,n,g,f⟩:=h;exact⟨c,n,g,f.congr d⟩
theorem Rez.done2 {w d:World} {b f:Nat} (h:Rez w d b) (g:Fbx d f) (q:b<f) {s:Bool} {a:Option Addr} {n c:Nat} {z:Int} (o:IsZ d (.agg #[.bool s,.slice a n c]) z):
 Below w.heap.size w ((((d.setCell ⟨b,0,none⟩ (.bool s)).setCell ⟨b,1,none⟩ (.slice a n c)).setCell ⟨f,0,none⟩ (.int .i64 0)).setCell ⟨f,1,none⟩ (.int .i64 0))∧
  IsZ ((((d.setCell ⟨b,0,none⟩ (.bool s)).setCell ⟨b,1,none⟩ (.slice a n c)).setCell ⟨f,0,none⟩ (.int .i64 0)).setCell ⟨f,1,none⟩ (.int .i64 0)) (.agg #[.bool s,.slice a n c]) z:=by
 obtain⟨l,m⟩:=h.done o;have r:=h.ge;have j:((d.setCell ⟨b,0,none⟩ (.bool s)).setCell ⟨b,1,none⟩ (.slice a n c)).cell? ⟨f,0,none⟩=some (.int .i64 0):=(by rw[zaa om,zaa om];exact g.c0);have k:(((d.setCell ⟨b,0,none⟩ (.bool s)).setCell ⟨b,1,none⟩ (.slice a n c)).setCell ⟨f,0,none⟩ (.int .i64 0)).cell? ⟨f,1,none⟩=some (.int .i64 0):=(by rw[zaa om,zaa om,zaa om];exact g.c1);exact⟨(l.setCell (p:=⟨f,0,none⟩) (by show w.heap.size≤f;omega) _).setCell (p:=⟨f,1,none⟩) (by show w.heap.size≤f;omega) _,(m.congr (zen j)).congr (zen k)⟩
theorem Rez.mk1 (w:World) (X:Obj):Rez w ((w.alloc (Obj.cells #[Value.bool false,Value.slice none 0 0] 31)).alloc X) w.heap.size:=(Rez.mk0 w).step (zau _ _) (by simp)
theorem zel (w:World) (s:ByteArray) (u:s.size≤9223372036854775806):
 Calls Tryz.prog 10 #[.string s] w fun e w'=>∃v,e=.returned (.tuple #[v,flt (zci s.data.toList) (pat s.data.toList)])∧Below w.heap.size w w'∧IsZ w' v (zex s.data.toList)∧ZNew w.heap.size v:=by
 obtain⟨n,d⟩:∃n,n=_root_.Rad.wlen s.data.toList:=⟨_,rfl⟩;have X:n≤s.size:=(by rw[d,←zas];exact wlen_le _);have R:Hid _:=Rez.mk1 w (Obj.cells #[Value.int IntKind.i64 0,Value.int IntKind.i64 0] 26);have O:Hid (Fbx ((w.alloc (Obj.cells #[Value.bool false,Value.slice none 0 0] 31)).alloc (Obj.cells #[Value.int IntKind.i64 0,Value.int IntKind.i64 0] 26)) (w.heap.size+1)):=⟨by simp,qq,qq,qq,qq⟩;have c:s.data.toList.length=s.size:=zas s;by_cases b:_root_.Rad.Valid s.data.toList
 ·have p:n=s.size:=(by rw[d,b.1,zas]);have F:¬(n:Int)<(s.size:Int):=om;have g:=word_tt ((w.alloc (Obj.cells #[Value.bool false,Value.slice none 0 0] 31)).alloc (Obj.cells #[Value.int IntKind.i64 0,Value.int IntKind.i64 0] 26)) s u n true d (by rw[b.1,List.take_length];exact⟨fun _=>b,fun _=>rfl⟩);have I:0<s.size:=by
   rcases Nat.eq_zero_or_pos s.size with h|h
   ·have T:=b.2;rw[List.eq_nil_of_length_eq_zero (by rw[zas];exact h:s.data.toList.length=0)]at T;exact absurd rfl T
   ·exact h
  have l:pat s.data.toList=0:=(by unfold pat;rw[if_pos b]);obtain⟨r,H⟩:∃r,(_root_.Rad.digs s.data.toList).length=r:=⟨_,rfl⟩;have y:=fun w=>digitsOf_any w s I u r H;by_cases t:1000<(_root_.Rad.digs s.data.toList).length
  ·have j:zci s.data.toList=2:=(by unfold zci;rw[if_pos b,if_pos t]);have k:zex s.data.toList=0:=(by unfold zex;rw[if_neg (fun h=>by have:=h.2;omega)]);have V:(1000:Int)<(r:Int):=om;rw[j,l,k];clear j l k b d t H c;go_enter Tryz.func10,Tryz.ntmps10;go_wp2_with (go_at_call 66;fail);refine g.mono ?_;rintro e w' ⟨rfl,f⟩;subst f;clear g;go_wp2_with (go_at_call 67;refine(y _).mono ?_;rintro e w' ⟨rfl,f⟩;subst f);refine bodyPost_ret (v:= .tuple #[.agg #[.bool false,.slice none 0 0],flt 2 0]) (by simp[results,go_sem,loadVar,World.cell?_setCell_same, *];rfl) rfl ?_;exact⟨_,rfl,bel2 _ _ _,zcl _,ZNew.nil _ _⟩
  ·have j:zci s.data.toList=0:=(by unfold zci;rw[if_pos b,if_neg t]);have k:zex s.data.toList=_root_.Rad.val s.data.toList:=(by unfold zex;rw[if_pos ⟨b,by omega⟩]);obtain⟨z,J⟩:∃z,z=_root_.Rad.val s.data.toList:=⟨_,rfl⟩;have L:=fun w=>zread_new w s b (by have:=digs_len s.data.toList;rw[zas]at this;omega) z J;have V:¬(1000:Int)<(r:Int):=om;rw[j,l,k,←J];clear j l k b d t J H c;go_enter Tryz.func10,Tryz.ntmps10;go_wp2_with (go_at_call 66;fail);refine g.mono ?_;rintro e w' ⟨rfl,f⟩;subst f;clear g;go_wp2_with (go_at_call 67;refine(y _).mono ?_;rintro e w' ⟨rfl,f⟩;subst f);have E:=R.out;have A:=O.out;clear R O y;refine(L _).mono ?_;rintro e w6 ⟨v6,rfl,m,G,o⟩;have D:Hid (ZNew w.heap.size v6):=o.mono (by simp;try omega);clear o;have S:=E.step m E.lt;have M:=A.step m A.lt;clear L E A m;obtain⟨s5,U,Z,W,rfl⟩:=G.form;obtain⟨N,P⟩:=S.done2 M om G;have B:Hid _:=N;have C:Hid _:=P;obtain⟨-,-,lt,k0,k1,f0,f1⟩:=S;obtain⟨Y,j0,j1,g0,g1⟩:=M;clear N P G;go_wp2;refine bodyPost_ret (v:= .tuple #[.agg #[.bool s5,.slice U Z W],flt 0 0]) (by simp[results,go_sem,loadVar,World.cell?_setCell_same, *];rfl) rfl ?_;exact⟨_,rfl,B.out,C.out,D.out⟩
 ·have j:zci s.data.toList=1:=(by unfold zci;rw[if_neg b]);have l:pat s.data.toList=(n:Int):=(by unfold pat;rw[if_neg b,d]);have k:zex s.data.toList=0:=(by unfold zex;rw[if_neg (fun h=>b h.1)]);by_cases h1:n<s.size
  ·have F:(n:Int)<(s.size:Int):=om;obtain⟨x,q⟩:∃x:Bool,x=true↔_root_.Rad.Valid (s.data.toList.take (_root_.Rad.wlen s.data.toList)):=⟨decide (_root_.Rad.Valid (s.data.toList.take (_root_.Rad.wlen s.data.toList))),decide_eq_true_iff⟩;have g:=word_tt ((w.alloc (Obj.cells #[Value.bool false,Value.slice none 0 0] 31)).alloc (Obj.cells #[Value.int IntKind.i64 0,Value.int IntKind.i64 0] 26)) s u n x d q;rw[j,l,k];clear j l k b d q c;cases x
   all_goals
    go_enter Tryz.func10,Tryz.ntmps10;go_wp2_with (go_at_call 66;fail);refine g.mono ?_;rintro e w' ⟨rfl,f⟩;subst f;clear g;go_wp2;refine bodyPost_ret (v:= .tuple #[.agg #[.bool false,.slice none 0 0],flt 1 n]) (by simp[results,go_sem,loadVar,World.cell?_setCell_same, *];rfl) rfl ?_;exact⟨_,rfl,bel2 _ _ _,zcl _,ZNew.nil _ _⟩
  ·have p:n=s.size:=om;have g:=word_tt ((w.alloc (Obj.cells #[Value.bool false,Value.slice none 0 0] 31)).alloc (Obj.cells #[Value.int IntKind.i64 0,Value.int IntKind.i64 0] 26)) s u n false d (by rw[←d,p,←c,List.take_length];exact⟨fun h=>(by cases h),fun h=>absurd h b⟩);rw[j,l,k];clear j l k b d c;go_enter Tryz.func10,Tryz.ntmps10;go_wp2_with (go_at_call 66;fail);refine g.mono ?_;rintro e w' ⟨rfl,f⟩;subst f;clear g;go_wp2;refine bodyPost_ret (v:= .tuple #[.agg #[.bool false,.slice none 0 0],flt 1 n]) (by simp[results,go_sem,loadVar,World.cell?_setCell_same, *];rfl) rfl ?_;exact⟨_,rfl,bel2 _ _ _,zcl _,ZNew.nil _ _⟩
theorem zgj (w:World) (s:ByteArray) (c:s.size≤9223372036854775806):
 Calls Tryz.prog 10 #[.string s] w fun e w'=>∃v,e=.returned (.tuple #[v,flt (zci s.data.toList) (pat s.data.toList)])∧Below w.heap.size w w'∧IsZ w' v (zex s.data.toList):=
 (zel w s c).mono fun e w' ⟨v,h,b,hi,_⟩=>⟨v,h,b,hi⟩
theorem IsZ.parts {w:World} {v:Value} {z:Int} (h:IsZ w v z):∃d b o n c,v=.agg #[.bool (decide (z<0)),.slice d n c]∧Sl d b o n∧n≤c∧c≤maxLen∧Arr .i64 10000 w b o n∧num 10000 w b o n=z.natAbs∧(n=0↔z=0):=by obtain⟨r,n,m,g⟩:=h;have q:=g.zero_iff;obtain⟨d,b,o,c,rfl,l,k,f,j,p,s⟩:=g;exact⟨d,b,o,n,c,m,l,k,f,j,p,by rw[←q];omega⟩
theorem zsign_any (w:World) (v:Value) (z:Int) (m:IsZ w v z):
 Calls Tryz.prog 75 #[v] w fun e w'=>e=.returned (.int .i64 (zbb z 0))∧Below w.heap.size w w':=by
 obtain⟨t,b,o,n,c,rfl,r,q,k,p,s,g⟩:=m.parts;clear m r p s q k;by_cases j:n=0
 ·have l:z=0:=g.1 j;subst j l;clear g;go_enter Tryz.func75,Tryz.ntmps75;go_wp2;go_ret;exact⟨rfl,zau _ _⟩
 ·have l:¬z=0:=fun h=>j (g.2 h);have u:¬(n:Int)=0:=om;by_cases f:z<0
  ·have e:zbb z 0= -1:=(by unfold zbb;rw[if_pos f]);have d:decide (z<0)=true:=(by simpa using f);rw[e,d];clear e g;go_enter Tryz.func75,Tryz.ntmps75;go_wp2;go_ret;exact⟨rfl,zau _ _⟩
  ·have e:zbb z 0=1:=(by unfold zbb;rw[if_neg f,if_neg l]);have d:decide (z<0)=false:=(by simpa using f);rw[e,d];clear e g;go_enter Tryz.func75,Tryz.ntmps75;go_wp2;go_ret;exact⟨rfl,zau _ _⟩
theorem zfx (w:World) (v:Value) (z:Int) (d:IsZ w v z):
 Calls Tryz.prog 19 #[v] w fun e w'=>e=.returned (.int .i64 (zbb z 0))∧Below w.heap.size w w':=by
 obtain⟨b,a,n,c,rfl⟩:=d.form;have C:=zsign_any _ _ _ (d.below (zau w (Obj.cells #[Value.bool b,Value.slice a n c] 31)));clear d;go_enter Tryz.func19,Tryz.ntmps19;go_wp2_with (go_at_call 75;fail);refine C.mono ?_;rintro e j ⟨rfl,f⟩;have g:=(zau w (Obj.cells #[Value.bool b,Value.slice a n c] 31)).trans (f.mono (by simp));clear C f;go_wp2;go_ret;exact⟨rfl,g⟩
theorem sgn_not_neg (z:Int):sgn (!decide (z<0)) z.natAbs= -z:=by
 unfold sgn;by_cases h:z<0
 ·rw[decide_eq_true h];simp;omega
 ·rw[decide_eq_false h];simp;omega
theorem sgn_self (z:Int):sgn (decide (z<0)) z.natAbs=z:=by
 unfold sgn;by_cases h:z<0
 ·rw[decide_eq_true h];simp;omega
 ·rw[decide_eq_false h];simp;omega
theorem zNeg_new (w:World) (v:Value) (z:Int) (J:IsZ w v z):
 Calls Tryz.prog 21 #[v] w fun e w'=>∃u,e=.returned u∧Below w.heap.size w w'∧IsZ w' u (-z)∧(∀B,ZNew B v→ZNew B u):=by
 obtain⟨l,b,o,n,c,rfl,I,H,g,y,L,O⟩:=J.parts;obtain⟨d,k⟩:∃d,decide (z<0)=d:=⟨_,rfl⟩;have t:=sgn_not_neg z;rw[k]at t⊢;have R:Rez w ((w.alloc (Obj.cells #[Value.bool d,Value.slice l n c] 31)).alloc (Obj.cells #[Value.bool false,Value.slice none 0 0] 31)) (w.heap.size+1):=⟨bel2 _ _ _,by omega,by simp,qq,qq,qq,qq⟩;have s:=bel2 w (Obj.cells #[Value.bool d,Value.slice l n c] 31) (Obj.cells #[Value.bool false,Value.slice none 0 0] 31);have C:=zb4 _ (!d) l b o n c _ I H g (zae y s) ((zah y s).trans L);rw[t]at C;have r:Hid _:=R;clear J k t I y L O H g s R;go_enter Tryz.func21,Tryz.ntmps21;go_wp2_with (go_at_call 73;fail);refine C.mono ?_;rintro e w4 ⟨V,rfl,f,x,j⟩;have E:=r.out.step f r.out.lt;clear C r;obtain⟨N,F,M,G,rfl⟩:=x.form;have q:Hid (∀B,ZNew B (.agg #[.bool d,.slice l n c])→ZNew B (.agg #[.bool N,.slice F M G])):=fun B h=>j.new h.at;clear j;obtain⟨A,D⟩:=E.done x;have m:Hid _:=A;have p:Hid _:=D;obtain⟨-,-,lt,T,U,P,S⟩:=E;clear A D x f;go_wp2;refine bodyPost_ret (v:= .agg #[.bool N,.slice F M G]) rt rfl ?_;exact⟨_,rfl,m.out,p.out,q.out⟩
theorem zNeg_any (w:World) (v:Value) (z:Int) (c:IsZ w v z):
 Calls Tryz.prog 21 #[v] w fun e w'=>∃v,e=.returned v∧Below w.heap.size w w'∧IsZ w' v (-z):=
 (zNeg_new w v z c).mono fun e w' ⟨v,h,b,hi,_⟩=>⟨v,h,b,hi⟩
theorem zOf_neg (w:World) (z:Int) (h1: -9223372036854775808≤z) (h2:z≤9223372036854775807) (hn:z<0):
 Calls Tryz.prog 17 #[.int .i64 z] w fun e w'=>∃v,e=.returned v∧Below w.heap.size w w'∧IsZ w' v z∧ZNew w.heap.size v:=by
 have W:Hid (Rez w (w.alloc (Obj.cells #[Value.bool false,Value.slice none 0 0] 31)) w.heap.size):=Rez.mk0 w;go_enter Tryz.func17,Tryz.ntmps17;go_wp2;refine zac (fun w1=>Rez w w1 w.heap.size) W.out ?_;clear W;rintro w1 X;have r:Hid _:=X;clear X;go_loopw [3,4] (fun T s4 wr=>∃(u:Nat) (xs:List Nat),T=.int .u64 (u:Int)∧RowN .i64 3 wr (w.heap.size+1) s4 xs∧(∀x∈xs,x<10000)∧lv 10000 xs+10000^xs.length*u=z.natAbs∧Rez w wr w.heap.size)
  (fun T _ _=>(intOf T).toNat)
 case atStart=>exact⟨z.natAbs,[],by rw[IntKind.wrap_u64,IntKind.wrap_u64];congr 1;omega,RowN.nil _ _ _ _,by simp,by simp[lv],r.out⟩
 case round=>
  obtain⟨u,xs,rfl,b,j,f,s⟩:=hrel;clear r;have M:=s.lt;have R:u≤z.natAbs:=(by have h1:=Nat.mul_le_mul_right u (show 1≤10000^xs.length from Nat.pow_pos dd);omega);by_cases hu:u=0
  ·have c1:¬(0:Int)<(u:Int):=om;rw[hu,Nat.mul_zero,Nat.add_zero]at f;have m:=b.own_lt;obtain⟨Z,bb,cc,rfl,A,hc,O,k,l,o,_,_⟩:=b.arr j;have p:Hid (∀x,Z=some x→w.heap.size≤x.block):=fun x S=>by have:=(m x.block (by rw[S];rfl)).1;omega
   clear m;have C:=zb4 wr (decide (z<0)) Z bb 0 xs.length cc _ A hc O k (l.trans f);rw[sgn_self,decide_eq_true (show z<0 by omega)]at C;have c:Hid _:=s;clear b l A k o f j s hc R hu;go_wp2_with (go_at_call 73;fail);refine C.mono ?_;rintro e w4 ⟨v4,rfl,t,L,y⟩;have Y:=c.out.step t c.out.lt;clear C c;obtain⟨s5,a5,n5,c5,rfl⟩:=L.form;have H:Hid (ZNew w.heap.size _):=y.new p.out;clear y;obtain⟨U,V⟩:=Y.done L;have F:Hid _:=U;have G:Hid _:=V;obtain⟨-,-,lt,k0,k1,f0,f1⟩:=Y;clear U V L t;go_wp2;refine bodyPost_ret (v:= .agg #[.bool s5,.slice a5 n5 c5]) rt rfl ?_;exact⟨_,rfl,F.out,G.out,H.out⟩
  ·have c1:(0:Int)<(u:Int):=om;have aa:xs.length<8:=(by refine(Nat.pow_lt_pow_iff_right (a:=10000) dd).1 ?_;have h1:=Nat.mul_le_mul_left (10000^xs.length) (show 1≤u by omega);have h2:z.natAbs<10000^8:=(by have:(10000:Nat)^8=100000000000000000000000000000000:=dd;omega);omega);obtain⟨d,hd⟩:∃d,d=u%10000:=⟨_,rfl⟩;obtain⟨q,hq⟩:∃q,q=u / 10000:=⟨_,rfl⟩;have da:(u:Int)%10000=(d:Int):=om;have fa:(u:Int) / 10000=(q:Int):=om;have ga:IntKind.i64.wrap (d:Int)=(d:Int):=(by rw[IntKind.wrap_i64];omega);have P:d<10000:=om;have ca:q<u:=om;have g:lv 10000 (xs++[d])+10000^(xs++[d]).length*q=z.natAbs:=(by rw[zbi,List.length_append,List.length_singleton,Nat.pow_succ,Nat.mul_assoc,Nat.add_assoc,←Nat.mul_add,hd,hq,Nat.mod_add_div];exact f);have HN:Hid _:=g;have n:=(b.below (zau wr (Obj.cells #[Value.int IntKind.i64 (d:Int)] 3))).hid;have E:Hid ((wr.alloc (Obj.cells #[Value.int IntKind.i64 (d:Int)] 3)).cell? ⟨wr.heap.size,0,none⟩=some (.int .i64 (d:Int))):=(by show _=_;simp[go_sem]);have D:=zau wr (Obj.cells #[Value.int IntKind.i64 (d:Int)] 3);have I:Hid (w.heap.size+1≤(wr.alloc (Obj.cells #[Value.int IntKind.i64 (d:Int)] 3)).heap.size):=(by show _≤_;simp;omega);have J:Hid _:=j;have c:Hid _:=s;clear hd hq g b j s f;go_wp2_with (at_builtin;refine zax .i64 3 rfl _ _ 29 rfl Tryz.underlying29 8 zdq dd (w.heap.size+1) _ xs rfl n.out wr.heap.size 1 d rfl E.out om I.out ?_;intro v6 w6 B N ba ea);have R6:=(c.out.step D M).step N om;refine⟨⟨q,xs++[d],rfl,B,?_,HN.out,R6⟩,?_⟩
   ·intro x S;rcases List.mem_append.1 S with h|h
    ·exact J.out x h
    ·rw[List.mem_singleton.1 h];exact P
   ·simp[intOf];omega
theorem zOf_pos (w:World) (z:Int) (h1: -9223372036854775808≤z) (h2:z≤9223372036854775807) (hn:¬z<0):
 Calls Tryz.prog 17 #[.int .i64 z] w fun e w'=>∃v,e=.returned v∧Below w.heap.size w w'∧IsZ w' v z∧ZNew w.heap.size v:=by
 have W:Hid (Rez w (w.alloc (Obj.cells #[Value.bool false,Value.slice none 0 0] 31)) w.heap.size):=Rez.mk0 w;go_enter Tryz.func17,Tryz.ntmps17;go_wp2;refine zac (fun w1=>Rez w w1 w.heap.size) W.out ?_;clear W;rintro w1 X;have r:Hid _:=X;clear X;go_loopw [3,4] (fun T s4 wr=>∃(u:Nat) (xs:List Nat),T=.int .u64 (u:Int)∧RowN .i64 3 wr (w.heap.size+1) s4 xs∧(∀x∈xs,x<10000)∧lv 10000 xs+10000^xs.length*u=z.natAbs∧Rez w wr w.heap.size)
  (fun T _ _=>(intOf T).toNat)
 case atStart=>exact⟨z.natAbs,[],by congr 1;omega,RowN.nil _ _ _ _,by simp,by simp[lv],r.out⟩
 case round=>
  obtain⟨u,xs,rfl,b,j,f,s⟩:=hrel;clear r;have M:=s.lt;have R:u≤z.natAbs:=(by have h1:=Nat.mul_le_mul_right u (show 1≤10000^xs.length from Nat.pow_pos dd);omega);by_cases hu:u=0
  ·have c1:¬(0:Int)<(u:Int):=om;rw[hu,Nat.mul_zero,Nat.add_zero]at f;have m:=b.own_lt;obtain⟨Z,bb,cc,rfl,A,hc,O,k,l,o,_,_⟩:=b.arr j;have p:Hid (∀x,Z=some x→w.heap.size≤x.block):=fun x S=>by have:=(m x.block (by rw[S];rfl)).1;omega
   clear m;have C:=zb4 wr (decide (z<0)) Z bb 0 xs.length cc _ A hc O k (l.trans f);rw[sgn_self]at C;have c:Hid _:=s;clear b l A k o f j s hc R hu;go_wp2_with (go_at_call 73;fail);refine C.mono ?_;rintro e w4 ⟨v4,rfl,t,L,y⟩;have Y:=c.out.step t c.out.lt;clear C c;obtain⟨s5,a5,n5,c5,rfl⟩:=L.form;have H:Hid (ZNew w.heap.size _):=y.new p.out;clear y;obtain⟨U,V⟩:=Y.done L;have F:Hid _:=U;have G:Hid _:=V;obtain⟨-,-,lt,k0,k1,f0,f1⟩:=Y;clear U V L t;go_wp2;refine bodyPost_ret (v:= .agg #[.bool s5,.slice a5 n5 c5]) rt rfl ?_;exact⟨_,rfl,F.out,G.out,H.out⟩
  ·have c1:(0:Int)<(u:Int):=om;have aa:xs.length<8:=(by refine(Nat.pow_lt_pow_iff_right (a:=10000) dd).1 ?_;have h1:=Nat.mul_le_mul_left (10000^xs.length) (show 1≤u by omega);have h2:z.natAbs<10000^8:=(by have:(10000:Nat)^8=100000000000000000000000000000000:=dd;omega);omega);obtain⟨d,hd⟩:∃d,d=u%10000:=⟨_,rfl⟩;obtain⟨q,hq⟩:∃q,q=u / 10000:=⟨_,rfl⟩;have da:(u:Int)%10000=(d:Int):=om;have fa:(u:Int) / 10000=(q:Int):=om;have ga:IntKind.i64.wrap (d:Int)=(d:Int):=(by rw[IntKind.wrap_i64];omega);have P:d<10000:=om;have ca:q<u:=om;have g:lv 10000 (xs++[d])+10000^(xs++[d]).length*q=z.natAbs:=(by rw[zbi,List.length_append,List.length_singleton,Nat.pow_succ,Nat.mul_assoc,Nat.add_assoc,←Nat.mul_add,hd,hq,Nat.mod_add_div];exact f);have HN:Hid _:=g;have n:=(b.below (zau wr (Obj.cells #[Value.int IntKind.i64 (d:Int)] 3))).hid;have E:Hid ((wr.alloc (Obj.cells #[Value.int IntKind.i64 (d:Int)] 3)).cell? ⟨wr.heap.size,0,none⟩=some (.int .i64 (d:Int))):=(by show _=_;simp[go_sem]);have D:=zau wr (Obj.cells #[Value.int IntKind.i64 (d:Int)] 3);have I:Hid (w.heap.size+1≤(wr.alloc (Obj.cells #[Value.int IntKind.i64 (d:Int)] 3)).heap.size):=(by show _≤_;simp;omega);have J:Hid _:=j;have c:Hid _:=s;clear hd hq g b j s f;go_wp2_with (at_builtin;refine zax .i64 3 rfl _ _ 29 rfl Tryz.underlying29 8 zdq dd (w.heap.size+1) _ xs rfl n.out wr.heap.size 1 d rfl E.out om I.out ?_;intro v6 w6 B N ba ea);have R6:=(c.out.step D M).step N om;refine⟨⟨q,xs++[d],rfl,B,?_,HN.out,R6⟩,?_⟩
   ·intro x S;rcases List.mem_append.1 S with h|h
    ·exact J.out x h
    ·rw[List.mem_singleton.1 h];exact P
   ·simp[intOf];omega
theorem zOf_new (w:World) (z:Int) (b: -9223372036854775808≤z) (c:z≤9223372036854775807):
 Calls Tryz.prog 17 #[.int .i64 z] w fun e w'=>∃v,e=.returned v∧Below w.heap.size w w'∧IsZ w' v z∧ZNew w.heap.size v:=by
 by_cases d:z<0
 ·exact zOf_neg w z b c d
 ·exact zOf_pos w z b c d
theorem zOf_any (w:World) (z:Int) (b: -9223372036854775808≤z) (c:z≤9223372036854775807):
 Calls Tryz.prog 17 #[.int .i64 z] w fun e w'=>∃v,e=.returned v∧Below w.heap.size w w'∧IsZ w' v z:=
 (zOf_new w z b c).mono fun e w' ⟨v,h,d,hi,_⟩=>⟨v,h,d,hi⟩
theorem Dg.lt_len {w w':World} {u v:Value} {x y n m:Nat} (b:Dg w u x n) (c:Dg w' v y m) (h:n<m):x<y:=by have d:=b.lt;have f:=c.ge om;have g:10000^n≤10000^(m-1):=Nat.pow_le_pow_right dd om;omega
theorem dcmp_any (w:World) (V W:Value) (x y n m:Nat) (I:Dg w V x n) (J:Dg w W y m):
 Calls Tryz.prog 80 #[V,W] w fun e w'=>e=.returned (.int .i64 (zbb (x:Int) (y:Int)))∧∃n,w'=w.drewN n:=by
 by_cases hn:n=m
 ·subst hn;obtain⟨R,u,D,T,rfl,f,B,o,z,q,-⟩:=I;obtain⟨S,c,t,U,rfl,g,C,p,A,r,-⟩:=J;unfold maxLen at o p;go_enter Tryz.func80,Tryz.ntmps80;go_wp2;go_loopw [5] (fun s wr=>∃k d:Nat,k≤n∧s=.int .i64 ((k:Int)-1)∧wr=w.drewN d∧∀i,k≤i→i<n→word w u (D+i)=word w c (t+i)) (fun s _=>(intOf s+1).toNat)
  case atStart=>exact⟨n,0,by omega,by go_num,rfl,fun i H E=>by omega⟩
  case round=>
   obtain⟨k,d,hk,rfl,rfl,G⟩:=hrel;by_cases Z:k=0
   ·subst Z;have e:zbb (x:Int) (y:Int)=0:=zfa (by rw[←q,←r];exact(zaz fun i hi=>(G i om hi).symm).symm);go_wp2;go_ret;exact⟨zb8 e.symm,_,rfl⟩
   ·obtain⟨j,rfl⟩:∃j,k=j+1:=⟨k-1,by omega⟩;obtain rfl:=f om;obtain rfl:=g om;have F:=zag z (i:=j) om;have O:=zag A (i:=j) om;have N:((j+1:Nat):Int)-1=(j:Int):=om;rw[N];have hb:(j:Int)<(n:Int):=om;have aa:(0:Int)≤(j:Int):=om;rcases Nat.lt_trichotomy (word w u (D+j)) (word w c (t+j))with h|h|h
    ·have b:zbb (x:Int) (y:Int)= -1:=(by rw[←q,←r];exact zbc (_root_.Rad.vs_lt_of_place (i:=j) (fun i hi=>zat z hi) om h (fun i H E=>G i om E)));have M:((word w u (D+j):Nat):Int)<((word w c (t+j):Nat):Int):=om;have l:Hid _:=b;clear G b h N z A q r f g;go_wp2;go_quiet (fail);go_wp2;go_ret;exact⟨zb8 l.out.symm,by simp only[World.drewN_drewN];exact⟨_,rfl⟩⟩
    ·have M:((word w u (D+j):Nat):Int)=((word w c (t+j):Nat):Int):=om;have L:∀i,j≤i→i<n→word w u (D+i)=word w c (t+i):=fun i H E=>by
      by_cases P:i=j
      ·subst P;exact h
      ·exact G i om E
     have X:Hid _:=L;rw[M]at F;have H:¬((word w c (t+j):Nat):Int)<((word w c (t+j):Nat):Int):=om;clear G h N L M;go_wp2;go_quiet (fail);go_wp2;go_quiet (fail);go_wp2;refine⟨⟨j,_,by omega,by go_num,rfl,X.out⟩,by simp[intOf]⟩
    ·have b:zbb (x:Int) (y:Int)=1:=(by rw[←q,←r];exact zb5 (_root_.Rad.vs_lt_of_place (i:=j) (fun i hi=>zat A hi) om h (fun i H E=>(G i om E).symm)));have M:((word w c (t+j):Nat):Int)<((word w u (D+j):Nat):Int):=om;have Y:¬((word w u (D+j):Nat):Int)<((word w c (t+j):Nat):Int):=om;have l:Hid _:=b;clear G b h N z A q r f g;go_wp2;go_quiet (fail);go_wp2;go_quiet (fail);go_wp2;go_ret;exact⟨zb8 l.out.symm,by simp only[World.drewN_drewN];exact⟨_,rfl⟩⟩
 ·have H:¬(n:Int)=(m:Int):=om;rcases Nat.lt_or_ge n m with h|h
  ·have b:zbb (x:Int) (y:Int)= -1:=zbc (I.lt_len J h);have E:(n:Int)<(m:Int):=om;obtain⟨R,u,D,T,rfl,f,B,o,-⟩:=I;obtain⟨S,c,t,U,rfl,g,C,p,-⟩:=J;rw[b];clear b f g B C o p;go_enter Tryz.func80,Tryz.ntmps80;go_wp2;go_ret;exact⟨rfl,0,rfl⟩
  ·have b:zbb (x:Int) (y:Int)=1:=zb5 (J.lt_len I om);have E:¬(n:Int)<(m:Int):=om;obtain⟨R,u,D,T,rfl,f,B,o,-⟩:=I;obtain⟨S,c,t,U,rfl,g,C,p,-⟩:=J;rw[b];clear b f g B C o p;go_enter Tryz.func80,Tryz.ntmps80;go_wp2;go_ret;exact⟨rfl,0,rfl⟩
end Go.Proofs.YtjlkplidpdhgbaaGreatDoor
