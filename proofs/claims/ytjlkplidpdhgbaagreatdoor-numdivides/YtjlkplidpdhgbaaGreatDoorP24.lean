/- A part of the proof: G13, G10, R14, R15a, R15. -/
import Derived.Test.YtjlkplidpdhgbaaGreatDoorP00
import Derived.Test.YtjlkplidpdhgbaaGreatDoorP23
import Derived.Test.YtjlkplidpdhgbaaGreatDoorP22
import Derived.Deep.AppendLies
import Derived.Deep.Upon
import Derived.Test.YtjlkplidpdhgbaaGreatDoorP21
import Derived.Test.YtjlkplidpdhgbaaGreatDoorP15
import Derived.Test.YtjlkplidpdhgbaaGreatDoorP20
set_option linter.all false
set_option maxRecDepth 10000
set_option maxHeartbeats 4000000
namespace Go.Proofs.YtjlkplidpdhgbaaGreatDoor
open Go Go.Proofs Go.RowKit Go.Rad
theorem lv_words (β:Nat) (w:World) (b o:Nat):∀n,lv β ((List.range n).map fun i=>word w b (o+i))=num β w b o n
 |0=>rfl
 |n+1=>by rw[List.range_succ,List.map_append,List.map_cons,List.map_nil,zbi,lv_words β w b o n,zaj,List.length_map,List.length_range]
theorem append_dg (w:World) (d:Nat) (hd:d<10000) (v:Value) (x n:Nat) (hr:Dg w v x n) (hn:n≤1073741824):
 ∃g f w',(Builtin.append_ #[29,29] 29 #[.slice (some ⟨w.heap.size,0,none⟩) 1 1,v]).run Tryz.prog (w.alloc (Obj.cells #[.int .i64 (d:Int)] 3)).drew=.ok (.slice (some ⟨g,0,none⟩) (1+n) f) w'∧
  Arr .i64 10000 w' g 0 (1+n)∧num 10000 w' g 0 (1+n)=d+10000*x∧w.heap.size≤g∧g<w'.heap.size∧Below w.heap.size w w'∧1+n≤f∧f≤maxLen:=by
 obtain⟨i,B,C⟩:=Option.map_eq_some_iff.1 zdq;simp only[Prod.mk.injEq]at C;obtain⟨z0,z1,z2⟩:=C;have own:(w.alloc (Obj.cells #[.int .i64 (d:Int)] 3)).drew.ownsRow w.heap.size 3 1 (.slice (some ⟨w.heap.size,0,none⟩) 1 1) 1 [.int .i64 (d:Int)]:=World.ownsRow_lit (size:=1) w #[.int .i64 (d:Int)] 1 (Nat.le_refl _) (by unfold maxLen;omega) rfl;have l:Below w.heap.size w (w.alloc (Obj.cells #[.int .i64 (d:Int)] 3)).drew:=(zau w _).drew;obtain⟨L,b,o,c,rfl,hs,hc,ca,Y,hx,_⟩:=hr;have J:∀g f w' (s:List Nat),w'.ownsRow w.heap.size 3 1 (.slice (some ⟨g,0,none⟩) (1+n) f) (1+n) ([.int .i64 (d:Int)]++s.map fun y:Nat=>Value.int .i64 (y:Int))→s.length=n→(∀y∈s,y<10000)→lv 10000 s=x→
  Arr .i64 10000 w' g 0 (1+n)∧num 10000 w' g 0 (1+n)=d+10000*x∧w.heap.size≤g∧g<w'.heap.size∧1+n≤f∧f≤maxLen:=by
  intro g f w' s h Z I hv;have hR:RowN .i64 3 w' w.heap.size (.slice (some ⟨g,0,none⟩) (1+n) f) (d::s):=(by unfold RowN;rw[List.length_cons,Z,Nat.add_comm n 1];exact h);obtain⟨aa,b',c',M,G,A,O,p,E,da,z,fa⟩:=hR.arr (β:=10000) (fun y r=>by
   rcases List.mem_cons.1 r with rfl|r
   ·exact hd
   ·exact I y r)
  rw[List.length_cons,Z,Nat.add_comm n 1]at M G A p E z;have e:=G om;simp only[Value.slice.injEq]at M;obtain⟨h1,-,rfl⟩:=M;rw[←h1]at e;simp only[Option.some.injEq,Addr.mk.injEq,and_true]at e;subst e;exact⟨p,by rw[E];simp[lv,hv],z om,p.lt om,A,O⟩
 by_cases h0:n=0
 ·subst h0;have R:x=0:=(by rw[←hx];rfl);have H:Src Tryz.prog i.size 29 (.slice L 0 c) 0 [] (w.alloc (Obj.cells #[.int .i64 (d:Int)] 3)).drew:=by
   cases L with
   |none=>exact Src.ofNil _ Tryz.underlying29 c
   |some a=>exact Src.ofSlice _ Tryz.underlying29 a 0 c [] (by simp) (by intro j u h;simp at h) (by intro u h;cases h)
  have m:=run_append_nothing (P:=Tryz.prog) (w.alloc (Obj.cells #[.int .i64 (d:Int)] 3)).drew 29 29 29 3 i Tryz.underlying29 B (some ⟨w.heap.size,0,none⟩) 1 1 (Nat.le_refl _) (.slice L 0 c) H;obtain⟨S,T,U,V,W,X⟩:=J w.heap.size 1 _ [] own rfl (fun y I=>by cases I) (by rw[R];rfl);exact⟨w.heap.size,1,_,m,S,T,U,V,l,W,X⟩
 ·obtain rfl:=hs om;have t:Arr .i64 10000 (w.alloc (Obj.cells #[.int .i64 (d:Int)] 3)).drew b o n:=zae Y l;have D:((List.range n).map fun i=>Value.int .i64 ((word (w.alloc (Obj.cells #[.int .i64 (d:Int)] 3)).drew b (o+i):Nat):Int)).length=n*1:=(by simp);obtain⟨g,f,w',m,F,N,ba,ea⟩:=run_append_lies (P:=Tryz.prog) (w.alloc (Obj.cells #[.int .i64 (d:Int)] 3)).drew 29 29 w.heap.size 3 i (.int .i64 0) 1 8 Tryz.underlying29 B z0 z1 z2 rfl om _ 1 _ own ⟨b,o,none⟩ n c
   ((List.range n).map fun i=>Value.int .i64 ((word (w.alloc (Obj.cells #[.int .i64 (d:Int)] 3)).drew b (o+i):Nat):Int)) D (zeg t (Nat.le_refl _)) (fun u hu=>by obtain⟨_,_,rfl⟩:=List.mem_map.1 hu;rfl) om (by unfold maxLen;omega) om l.size _ rfl
  have q:w'.ownsRow w.heap.size 3 1 (.slice (some ⟨g,0,none⟩) (1+n) f) (1+n) ([.int .i64 (d:Int)]++((List.range n).map fun i=>word (w.alloc (Obj.cells #[.int .i64 (d:Int)] 3)).drew b (o+i)).map fun y:Nat=>Value.int .i64 (y:Int)):=(by rw[List.map_map];exact F);obtain⟨S,T,U,V,W,X⟩:=J g f w' _ q (by simp) (fun y I=>by obtain⟨j,hj,rfl⟩:=List.mem_map.1 I;exact zat t (List.mem_range.1 hj)) (by rw[lv_words,zah Y l,hx]);refine⟨g,f,w',m,S,T,U,V,l.grown N l.size (fun k hk=>?_),W,X⟩;simp only[Value.ownBlock,Option.some.injEq]at hk;omega
theorem fb5 (w:World) (c d f g j k d0 d1 p q:Value) (l m n o r:TypeId) {b:World}
 (h:b=((((w.alloc (Obj.cells #[c,d] l)).alloc (Obj.cells #[f,g] m)).alloc (Obj.cells #[j,k] n)).alloc (Obj.cells #[d0,d1] o)).alloc (Obj.cells #[p,q] r)):
 Below w.heap.size w b∧FB b w.heap.size c d∧FB b (w.heap.size+1) f g∧FB b (w.heap.size+1+1) j k∧FB b (w.heap.size+1+1+1) d0 d1∧FB b (w.heap.size+1+1+1+1) p q:=by
 subst h;obtain⟨s,t,u,x,y⟩:=fb4 w c d f g j k d0 d1 l m n o rfl;refine⟨s.alloc s.size _,t.alloc _,u.alloc _,x.alloc _,y.alloc _,?_⟩;have:=FB.mk0 ((((w.alloc (Obj.cells #[c,d] l)).alloc (Obj.cells #[f,g] m)).alloc (Obj.cells #[j,k] n)).alloc (Obj.cells #[d0,d1] o)) p q r;simpa using this
theorem div_any (w:World) (va vb:Value) (x y:Int) (LL:Nat) (hx:IsInt w va x) (hy:IsInt w vb y) (h0:y≠0) (hA:x.natAbs<B^159) (hB:y.natAbs<B^LL) (hL:LL≤100000):
 Calls Tryz.prog 34 #[va,vb] w fun e w'=>∃vq vr,e=.returned (.tuple #[vq,vr,.agg #[.int .i64 0,.int .i64 0]])∧Below w.heap.size w w'∧IsInt w' vq (x / y)∧IsInt w' vr (x%y):=by
 obtain⟨s,ao,n,c,rfl⟩:=hx.form;obtain⟨t,d,m,f,rfl⟩:=hy.form;have la:¬t=0:=(by have:=hy.sgn;omega);go_enter Tryz.func34,Tryz.ntmps34;go_upto_region 1 with fail;refine zac (fun j=>Below w.heap.size w j∧FB j w.heap.size (.int .i64 s) (.slice ao n c)∧FB j (w.heap.size+1) (.int .i64 t) (.slice d m f)∧FB j (w.heap.size+1+1) (.int .i64 0) (.slice none 0 0)∧FB j (w.heap.size+1+1+1) (.int .i64 0) (.slice none 0 0)∧FB j (w.heap.size+1+1+1+1) (.int .i64 0) (.int .i64 0)) (fb5 w _ _ _ _ _ _ _ _ _ _ _ _ _ _ _ rfl) ?_;rintro j ⟨o,F2,F3,z,L,M⟩;obtain⟨b2,U⟩:∃b,b=w.heap.size:=⟨_,rfl⟩;obtain⟨b3,g⟩:∃b,b=w.heap.size+1:=⟨_,rfl⟩;obtain⟨N,V⟩:∃b,b=w.heap.size+1+1:=⟨_,rfl⟩;obtain⟨O,W⟩:∃b,b=w.heap.size+1+1+1:=⟨_,rfl⟩;obtain⟨P,X⟩:∃b,b=w.heap.size+1+1+1+1:=⟨_,rfl⟩;have aa:N≠O∧N≠P∧O≠P∧w.heap.size≤N∧w.heap.size≤O∧w.heap.size≤P:=om;rw[←X]at M⊢;rw[←W]at L⊢;rw[←V]at z⊢;rw[←g]at F3⊢;rw[←U]at F2⊢;have CC:=cut_any j _ _ x y LL (hx.below o) (hy.below o) h0 hA hB hL;obtain⟨l2,ha,ia,-,-⟩:=F2;obtain⟨l3,ja,ka,-,-⟩:=F3;have D:Hid (FB j N (.int .i64 0) (.slice none 0 0)):=z;have E:Hid (FB j O (.int .i64 0) (.slice none 0 0)):=L;have F:Hid (FB j P (.int .i64 0) (.int .i64 0)):=M;have l:Hid (Below w.heap.size w j):=o;have HN:Hid _:=aa;clear U g V W X z L M o hx hy h0 hA hB aa;go_wp2_with (go_at_call 90;fail);refine CC.mono ?_;rintro e k ⟨vq,vr,rfl,hb,hq,hr⟩;obtain⟨u,p,r,q,rfl⟩:=hq.form;obtain⟨J,G,I,H,rfl⟩:=hr.form;have HQ:Hid (IsInt k (.agg #[.int .i64 u,.slice p r q]) (x / y)):=hq;have HR:Hid (IsInt k (.agg #[.int .i64 J,.slice G I H]) (x%y)):=hr;have HB:Hid (Below j.heap.size j k):=hb;clear CC hq hr hb ha ia ja ka l2 l3;go_upto_region 4 with fail;refine zac (fun w3=>Below k.heap.size k w3∧FB w3 k.heap.size (.int .i64 u) (.slice p r q)∧FB w3 (k.heap.size+1) (.int .i64 J) (.slice G I H)) (fb2 k _ _ _ _ _ _ rfl) ?_;rintro w3 ⟨g,F7,F8⟩;obtain⟨b7,Y⟩:∃b,b=k.heap.size:=⟨_,rfl⟩;obtain⟨b8,Z⟩:∃b,b=k.heap.size+1:=⟨_,rfl⟩;have z:=(D.out.below HB.out).below g;have L:=(E.out.below HB.out).below g;have M:=(F.out.below HB.out).below g;obtain⟨ca,da,ea,w4,w5,w6⟩:=HN.out;have l4:=(D.out.below HB.out).lt;have l5:=(E.out.below HB.out).lt;have l6:=(F.out.below HB.out).lt;have ba:b7≠N∧b7≠O∧b7≠P∧b8≠N∧b8≠O∧b8≠P:=om;rw[←Z]at F8⊢;rw[←Y]at F7⊢;have IQ:=IsInt.below HQ.out g;have IR:=IsInt.below HR.out g;have BW:Below w.heap.size w w3:=l.out.trans ((HB.out.mono l.out.size).trans (g.mono (Nat.le_trans l.out.size HB.out.size)));have A:=L.other (.int .i64 u) (.slice p r q) ca.symm;have C:=(M.other (.int .i64 u) (.slice p r q) da.symm).other (.int .i64 J) (.slice G I H) ea.symm;have S:=((IQ.keep (z.keep (.int .i64 u) (.slice p r q))).keep (A.keep (.int .i64 J) (.slice G I H))).keep (C.keepF (.int .i64 0) (.int .i64 0));have T:=((IR.keep (z.keep (.int .i64 u) (.slice p r q))).keep (A.keep (.int .i64 J) (.slice G I H))).keep (C.keepF (.int .i64 0) (.int .i64 0));have R:=zaf (zaf (zaf BW w4 (.int .i64 u) (.slice p r q)) w5 (.int .i64 J) (.slice G I H)) w6 (.int .i64 0) (.int .i64 0);have fa:Hid (IsInt _ _ _):=S.below (zad _);have ga:Hid (IsInt _ _ _):=T.below (zad _);have HW:Hid (Below _ _ _):=R.drew;obtain⟨l4,ma,na,gb,ib⟩:=z;obtain⟨l5,oa,pa,jb,kb⟩:=L;obtain⟨l6,qa,ra,lb,mb⟩:=M;obtain⟨l7,sa,ta,nb,ob⟩:=F7;obtain⟨l8,ua,wa,pb,qb⟩:=F8;obtain⟨xa,ya,za,ab,bb,cb⟩:=ba;have db:=ca.symm;have eb:=da.symm;have fb:=ea.symm;clear IQ IR S T BW R A C g Y Z HQ HR HB HN D E F l;go_region
 all_goals
  go_wp2;refine bodyPost_ret (v:= .tuple #[.agg #[.int .i64 u,.slice p r q],.agg #[.int .i64 J,.slice G I H],.agg #[.int .i64 0,.int .i64 0]]) rs rfl ?_;exact⟨_,_,rfl,HW.out,fa.out,ga.out⟩
theorem wi {x K:Nat} (h:x≤K) (b:K≤9999:=by decide):IntKind.i64.wrap (x:Int)=(x:Int):=by rw[IntKind.wrap_i64];omega
theorem tm {x y:Nat} (h:(x:Int)%10=(y:Int)):(x:Int).tmod 10=(y:Int):=by rw[Int.tmod_eq_emod_of_nonneg om];exact h
theorem wi48 {x:Nat} (h:x≤9):IntKind.i64.wrap (48+(x:Int))=48+(x:Int):=by rw[IntKind.wrap_i64];omega
theorem wu48 {x:Nat} (h:x≤9):IntKind.u8.wrap (48+(x:Int))=48+(x:Int):=by rw[IntKind.wrap_u8];omega
theorem ba_app (s t:ByteArray):(s++t).data.toList=s.data.toList++t.data.toList:=by rw[ByteArray.data_append,Array.toList_append]
theorem ba_mk (l:List UInt8):(⟨l.toArray⟩:ByteArray).data.toList=l:=rfl
theorem ba_eq {s:ByteArray} {l:List UInt8} (h:s.data.toList=l):s=⟨l.toArray⟩:=by apply ByteArray.ext;apply Array.toList_inj.1;rw[h]
def zf6 (neg:Bool) (H:Nat) (k n:Nat):List UInt8:=(if neg then[45] else[])++(if k=n then[] else Lib.decDigits H)
theorem zgf {neg:Bool} {n j H G y d0 d1 d2 d3 F:Nat} (q:j<n) (o:G=y+10000*H) (p:y=1000*d0+100*d1+10*d2+d3) (f:d0≤9) (g:d1≤9) (k:d2≤9) (l:d3≤9)
 (m:(j+1=n→H=0∧F=_root_.Rad.lead d0 d1 d2)∧(j+1≠n→0<H∧F=0)):
 zf6 neg H (j+1) n++(_root_.Rad.four d0 d1 d2 d3).drop F=zf6 neg G j n:=by
 unfold zf6;rw[if_neg (show ¬j=n by omega),List.append_assoc];congr 1;by_cases b:j+1=n
 ·obtain⟨c,d⟩:=m.1 b;rw[if_pos b,List.nil_append,d,←_root_.Rad.dec_lead f g k l,o,c,p];rfl
 ·obtain⟨c,d⟩:=m.2 b;rw[if_neg b,d,List.drop_zero,o,p,_root_.Rad.dec_four c f g k l]
theorem zText_pos (w:World) (v:Value) (z:Int) (LX:Nat) (hx:IsZ w v z) (kd:z.natAbs<10000^LX) (hL:LX≤1073741824) (rd:z≠0):
 Calls Tryz.prog 15 #[v] w fun e w'=>e=.returned (.string ⟨(txt z).toArray⟩)∧Below w.heap.size w w':=by
 obtain⟨sx,a,n,c,rfl⟩:=hx.form;obtain⟨ed,hd⟩:=hx.dg;have qd:n≤1073741824:=Nat.le_trans (hd.len_le kd) hL;have od:=hd.zero_iff;obtain⟨ao,b,o,c',he,hs,hc,pd,ha,ec,fc⟩:=hd;simp only[Value.slice.injEq]at he;obtain⟨rfl,-,rfl⟩:=he;have bd:0<n:=om;obtain rfl:=hs bd;have ma:b<w.heap.size:=ha.lt bd;have gc:txt z=zf6 sx z.natAbs 0 n:=by
  unfold zf6;rw[if_neg (show ¬0=n by omega),ed];unfold txt;by_cases h:z<0
  ·have e:z= -((z.natAbs:Nat):Int):=om;rw[decide_eq_true h]
   conv=>lhs;rw[e]
   rw[Lib.itoa_neg _ om];rfl
  ·have e:z=((z.natAbs:Nat):Int):=om;rw[decide_eq_false h]
   conv=>lhs;rw[e]
   rw[Lib.itoa_nonneg];rfl
 have la:Hid _:=gc;have HA:Hid (Arr .i64 10000 w b o n):=ha;have HN:Hid (num 10000 w b o n=z.natAbs):=ec;have bc:word w b (o+(n-1))≠0:=(by rcases fc with h|h;omega;exact h);have dc:Hid _:=bc;have c0:¬(n:Int)=0:=om;clear hx ed ha ec fc bc od hs gc;have ad:Hid (zf6 sx 0 n n=if sx then[45] else[]):=(by show zf6 sx 0 n n=_;unfold zf6;rw[if_pos rfl,List.append_nil]);cases sx
 ·go_enter Tryz.func15,Tryz.ntmps15;go_wp2;refine zac (fun Z=>Below w.heap.size w Z∧w.heap.size<Z.heap.size∧Z.cell? ⟨w.heap.size,1,none⟩=some (.slice (some ⟨b,o,none⟩) n c)) ⟨zau _ _,by simp,qq⟩ ?_;rintro Z ⟨A,yb,xb⟩;have na:Hid _:=A;have pa:Hid _:=xb;have qa:Hid _:=yb;clear A xb yb;go_loopw [3,4] (fun s3 s4 wr=>∃(k:Nat) (s:ByteArray),k≤n∧s4=.int .i64 ((k:Int)-1)∧s3=.string s∧s.data.toList=zf6 false (num 10000 w b (o+k) (n-k)) k n∧s.size≤4*(n-k)+1∧
   Below w.heap.size w wr∧w.heap.size<wr.heap.size∧wr.cell? ⟨w.heap.size,1,none⟩=some (.slice (some ⟨b,o,none⟩) n c)) (fun _ s4 _=>(intOf s4+1).toNat)
  case atStart=>
   refine⟨n,_,Nat.le_refl _,by go_num,rfl,?_,?_,na.out,qa.out,pa.out⟩
   ·rw[Nat.sub_self,zao,ad.out];rfl
   ·first|exact Nat.zero_le _|(show(1:Nat)≤_;omega)
  case round=>
   obtain⟨k,s,hk,rfl,rfl,R,nd,A,hl,ja⟩:=hrel;clear na pa qa;by_cases tc:k=0
   ·subst tc;rw[Nat.add_zero,Nat.sub_zero,HN.out,←la.out]at R;obtain rfl:=ba_eq R;have HB:Hid _:=A;clear R A la;go_wp2;go_ret;exact⟨rfl,HB.out⟩
   ·obtain⟨j,rfl⟩:∃j,k=j+1:=⟨k-1,by omega⟩;have he:((j+1:Nat):Int)-1=(j:Int):=om;rw[he];have M:=zag HA.out (i:=j) om;have uc:=zat HA.out (i:=j) om;have ub:b<wr.heap.size:=Nat.lt_trans ma hl;have I:=(A.cell (p:=⟨b,o+j,none⟩) ma).trans M;have ia:=high_step (w:=w) (b:=b) (o:=o) (n:=n) (j:=j) om;obtain⟨y,hy⟩:∃y,word w b (o+j)=y:=⟨_,rfl⟩;obtain⟨H,hH⟩:∃H,num 10000 w b (o+(j+1)) (n-(j+1))=H:=⟨_,rfl⟩;obtain⟨G,hG⟩:∃G,num 10000 w b (o+j) (n-j)=G:=⟨_,rfl⟩;rw[hy]at I uc;rw[hG,hy,hH]at ia;rw[hH]at R;obtain⟨d0,lc⟩:∃d,d=y / 1000:=⟨_,rfl⟩;obtain⟨p1,xc⟩:∃d,d=y / 100:=⟨_,rfl⟩;obtain⟨d1,mc⟩:∃d,d=p1%10:=⟨_,rfl⟩;obtain⟨p2,yc⟩:∃d,d=y / 10:=⟨_,rfl⟩;obtain⟨d2,nc⟩:∃d,d=p2%10:=⟨_,rfl⟩;obtain⟨d3,oc⟩:∃d,d=y%10:=⟨_,rfl⟩;have e0:(y:Int) / 1000=(d0:Int):=om;have e1:(y:Int) / 100=(p1:Int):=om;have e2:(p1:Int)%10=(d1:Int):=om;have e3:(y:Int) / 10=(p2:Int):=om;have e4:(p2:Int)%10=(d2:Int):=om;have e5:(y:Int)%10=(d3:Int):=om;have b0:d0≤9:=om;have b1:d1≤9:=om;have b2:d2≤9:=om;have b3:d3≤9:=om;have ic:p1≤9999:=om;have jc:p2≤9999:=om;have cc:y=1000*d0+100*d1+10*d2+d3:=om;have sb:j+1=n→H=0:=fun h=>by rw[←hH,h,Nat.sub_self];rfl
    have rb:j+1≠n→0<H:=fun h=>by rw[←hH];have h1:10000^(n-(j+1)-1)≤num 10000 w b (o+(j+1)) (n-(j+1)):=_root_.Rad.vs_ge om (by rw[show o+(j+1)+(n-(j+1)-1)=o+(n-1)by omega];exact dc.out);exact Nat.lt_of_lt_of_le (Nat.pow_pos dd) h1
    obtain⟨F,hF⟩:∃F,F=(if j+1=n then _root_.Rad.lead d0 d1 d2 else 0):=⟨_,rfl⟩;have ea:(j+1=n→H=0∧F=_root_.Rad.lead d0 d1 d2)∧(j+1≠n→0<H∧F=0):=⟨fun h=>⟨sb h,by rw[hF,if_pos h]⟩,fun h=>⟨rb h,by rw[hF,if_neg h]⟩⟩;have jd:F≤3:=(by rw[hF];split;exact _root_.Rad.lead_le _ _ _;omega);have J:=zgf (neg:=false) (show j<n by omega) ia cc b0 b1 b2 b3 ea;rw[←R]at J;have D:Hid _:=J;have da:Hid _:=hG;have oa:Hid _:=ea;have md:j<n:=om;have ld:j<c:=om;clear M ia hy hH hG R lc xc mc yc nc oc sb rb hF J ea cc he;go_wp2;refine zac (fun Z=>Z=wr) rfl ?_;rintro Z rfl;refine zaq zbf [⟨21,[],[],[1]⟩,⟨22,[0],[0],[]⟩,⟨23,[],[],[4]⟩,⟨24,[1,2],[0,1,2],[]⟩,⟨25,[3],[0,1,2,3],[]⟩,⟨26,[4],[0,1,2,3,4],[]⟩,⟨27,[5],[0,1,2,3,4,5],[]⟩,⟨28,[6],[0,1,2,3,4,5,6],[]⟩,⟨29,[],[],[1]⟩,⟨30,[8],[8],[]⟩,⟨31,[],[],[4]⟩,⟨32,[9,10],[8,9,10],[]⟩,⟨33,[11],[8,9,10,11],[]⟩,⟨34,[12],[8,9,10,11,12],[]⟩,⟨35,[13],[8,9,10,11,12,13],[]⟩,⟨36,[14],[8,9,10,11,12,13,14],[]⟩,⟨37,[15],[8,9,10,11,12,13,14,15],[]⟩,⟨38,[],[],[1]⟩,⟨39,[17],[17],[]⟩,⟨40,[],[],[4]⟩,⟨41,[18,19],[17,18,19],[]⟩,⟨42,[20],[17,18,19,20],[]⟩,⟨43,[21],[17,18,19,20,21],[]⟩,⟨44,[22],[17,18,19,20,21,22],[]⟩,⟨45,[23],[17,18,19,20,21,22,23],[]⟩,⟨46,[24],[17,18,19,20,21,22,23,24],[]⟩,⟨47,[],[],[1]⟩,⟨48,[26],[26],[]⟩,⟨49,[],[],[4]⟩,⟨50,[27,28],[26,27,28],[]⟩,⟨51,[29],[26,27,28,29],[]⟩,⟨52,[30],[26,27,28,29,30],[]⟩,⟨53,[31],[26,27,28,29,30,31],[]⟩,⟨54,[32],[26,27,28,29,30,31,32],[]⟩] [] kfl 82 rfl kfl (fun (i:Nat) (v:Value) (wq:World)=>match i with|0=>v=.pointer (some ⟨w.heap.size,1,none⟩)|1=>v=.slice (some ⟨b,o,none⟩) n (c)|2=>v=.int .i64 (j)|3=>v=.pointer (some ⟨b,o+j,none⟩)|4=>v=.int .i64 (y)|5=>v=.int .i64 (d0)|6=>v=.int .i64 (48+(d0:Int))|7=>v=.int .u8 (48+(d0:Int))|8=>v=.pointer (some ⟨w.heap.size,1,none⟩)|9=>v=.slice (some ⟨b,o,none⟩) n (c)|10=>v=.int .i64 (j)|11=>v=.pointer (some ⟨b,o+j,none⟩)|12=>v=.int .i64 (y)|13=>v=.int .i64 (p1)|14=>v=.int .i64 (d1)|15=>v=.int .i64 (48+(d1:Int))|16=>v=.int .u8 (48+(d1:Int))|17=>v=.pointer (some ⟨w.heap.size,1,none⟩)|18=>v=.slice (some ⟨b,o,none⟩) n (c)|19=>v=.int .i64 (j)|20=>v=.pointer (some ⟨b,o+j,none⟩)|21=>v=.int .i64 (y)|22=>v=.int .i64 (p2)|23=>v=.int .i64 (d2)|24=>v=.int .i64 (48+(d2:Int))|25=>v=.int .u8 (48+(d2:Int))|26=>v=.pointer (some ⟨w.heap.size,1,none⟩)|27=>v=.slice (some ⟨b,o,none⟩) n (c)|28=>v=.int .i64 (j)|29=>v=.pointer (some ⟨b,o+j,none⟩)|30=>v=.int .i64 (y)|31=>v=.int .i64 (d3)|32=>v=.int .i64 (48+(d3:Int))|33=>v=.int .u8 (48+(d3:Int))|_=>True) (fun _ wq=>Below Z.heap.size Z wq) (fun wx wy=>Below wx.heap.size wx wy) (zz).drew (fun i v wx wy h hx=>match i,h with|0,h=>h|1,h=>h|2,h=>h|3,h=>h|4,h=>h|5,h=>h|6,h=>h|7,h=>h|8,h=>h|9,h=>h|10,h=>h|11,h=>h|12,h=>h|13,h=>h|14,h=>h|15,h=>h|16,h=>h|17,h=>h|18,h=>h|19,h=>h|20,h=>h|21,h=>h|22,h=>h|23,h=>h|24,h=>h|25,h=>h|26,h=>h|27,h=>h|28,h=>h|29,h=>h|30,h=>h|31,h=>h|32,h=>h|33,h=>h|n+34,_=>trivial) ?_ ?_
    ·intro i o r t m L fr wx hW hL zc pc vb ac ga;clear hL zc pc vb
     match i,t,m with
     |0,t,m=>?_
     |1,t,m=>?_
     |2,t,m=>?_
     |3,t,m=>?_
     |4,t,m=>?_
     |5,t,m=>?_
     |6,t,m=>?_
     |7,t,m=>?_
     |8,t,m=>?_
     |9,t,m=>?_
     |10,t,m=>?_
     |11,t,m=>?_
     |12,t,m=>?_
     |13,t,m=>?_
     |14,t,m=>?_
     |15,t,m=>?_
     |16,t,m=>?_
     |17,t,m=>?_
     |18,t,m=>?_
     |19,t,m=>?_
     |20,t,m=>?_
     |21,t,m=>?_
     |22,t,m=>?_
     |23,t,m=>?_
     |24,t,m=>?_
     |25,t,m=>?_
     |26,t,m=>?_
     |27,t,m=>?_
     |28,t,m=>?_
     |29,t,m=>?_
     |30,t,m=>?_
     |31,t,m=>?_
     |32,t,m=>?_
     |33,t,m=>?_
     |n+34,t,m=>exact absurd m (by simp)
     all_goals obtain rfl:=oi t;obtain rfl:=oi m;simp only[uxw,uw,evt]at ac ga;have fd:=(hW.cell (p:=⟨w.heap.size,1,none⟩) hl).trans ja;have gd:=(hW.cell (p:=⟨b,o+j,none⟩) ub).trans I;refine zam rfl rfl fun K hK=>?_;go_simp;exact hK _ _ ⟨(by first|rfl|exact congrArg (Value.int .i64) (wi b0)|exact congrArg (Value.int .i64) (wi48 b0)|exact congrArg (Value.int .u8) (wu48 b0)|exact congrArg (Value.int .i64) (wi ic)|exact congrArg (Value.int .i64) (tm e2)|exact congrArg (Value.int .i64) (wi48 b1)|exact congrArg (Value.int .u8) (wu48 b1)|exact congrArg (Value.int .i64) (wi jc)|exact congrArg (Value.int .i64) (tm e4)|exact congrArg (Value.int .i64) (wi48 b2)|exact congrArg (Value.int .u8) (wu48 b2)|exact congrArg (Value.int .i64) (tm e5)|exact congrArg (Value.int .i64) (wi48 b3)|exact congrArg (Value.int .u8) (wu48 b3)),hW,zz,nn⟩
    ·intro vs S l X tb;clear tb;have e0:vs 0=_:=l 0 dd;have e1:vs 1=_:=l 1 dd;have e2:vs 2=_:=l 2 dd;have e3:vs 3=_:=l 3 dd;have e4:vs 4=_:=l 4 dd;have e5:vs 5=_:=l 5 dd;have e6:vs 6=_:=l 6 dd;have e7:vs 7=_:=l 7 dd;have e8:vs 8=_:=l 8 dd;have e9:vs 9=_:=l 9 dd;have ra:vs 10=_:=l 10 dd;have sa:vs 11=_:=l 11 dd;have ta:vs 12=_:=l 12 dd;have ua:vs 13=_:=l 13 dd;have va:vs 14=_:=l 14 dd;have wa:vs 15=_:=l 15 dd;have xa:vs 16=_:=l 16 dd;have ya:vs 17=_:=l 17 dd;have za:vs 18=_:=l 18 dd;have ab:vs 19=_:=l 19 dd;have bb:vs 20=_:=l 20 dd;have cb:vs 21=_:=l 21 dd;have db:vs 22=_:=l 22 dd;have eb:vs 23=_:=l 23 dd;have fb:vs 24=_:=l 24 dd;have gb:vs 25=_:=l 25 dd;have hb:vs 26=_:=l 26 dd;have ib:vs 27=_:=l 27 dd;have jb:vs 28=_:=l 28 dd;have kb:vs 29=_:=l 29 dd;have lb:vs 30=_:=l 30 dd;have mb:vs 31=_:=l 31 dd;have nb:vs 32=_:=l 32 dd;have ob:vs 33=_:=l 33 dd;simp only[zbx,Nat.reduceAdd,e0,e1,e2,e3,e4,e5,e6,e7,e8,e9,ra,sa,ta,ua,va,wa,xa,ya,za,ab,bb,cb,db,eb,fb,gb,hb,ib,jb,kb,lb,mb,nb,ob,Act.put,ll];clear l e0 e1 e2 e3 e4 e5 e6 e7 e8 e9 ra sa ta ua va wa xa ya za ab bb cb db eb fb gb hb ib jb kb lb mb nb ob;have pb:=A.trans (X.mono A.size);have Y:=Nat.lt_of_lt_of_le hl X.size;have ka:=(X.cell (p:=⟨w.heap.size,1,none⟩) hl).trans ja;clear X A ja I hl ub;have W:Hid (Below w.heap.size w (S.alloc (Obj.cells #[Value.int .u8 (48+(d0:Int)),Value.int .u8 (48+(d1:Int)),Value.int .u8 (48+(d2:Int)),Value.int .u8 (48+(d3:Int))] 5))∧
      w.heap.size<(S.alloc (Obj.cells #[Value.int .u8 (48+(d0:Int)),Value.int .u8 (48+(d1:Int)),Value.int .u8 (48+(d2:Int)),Value.int .u8 (48+(d3:Int))] 5)).heap.size∧
      (S.alloc (Obj.cells #[Value.int .u8 (48+(d0:Int)),Value.int .u8 (48+(d1:Int)),Value.int .u8 (48+(d2:Int)),Value.int .u8 (48+(d3:Int))] 5)).cell? ⟨w.heap.size,1,none⟩=some (.slice (some ⟨b,o,none⟩) n c)∧
      ∀i,i<4→(S.alloc (Obj.cells #[Value.int .u8 (48+(d0:Int)),Value.int .u8 (48+(d1:Int)),Value.int .u8 (48+(d2:Int)),Value.int .u8 (48+(d3:Int))] 5)).cell? ⟨S.heap.size,i,none⟩=some (.int .u8 ((48+_root_.Rad.pick4 d0 d1 d2 d3 i:Nat):Int))):=by
      refine⟨pb.alloc (Nat.le_of_lt Y) _,by simp;omega,?_,fun i hi=>?_⟩
      ·exact((zau S _).cell (p:=⟨w.heap.size,1,none⟩) Y).trans ka
      ·rw[World.cell?_alloc_at (w:=S) _ _ S.heap.size i rfl];unfold _root_.Rad.pick4
       match i,hi with
       |0,_=>rfl
       |1,_=>rfl
       |2,_=>rfl
       |3,_=>rfl
     clear pb;by_cases ht:j+1=n
     ·have e7:(n:Int)-1=(j:Int):=om;have qb:=(oa.out.1 ht).2;have ca:Hid _:=qb;clear qb;go_wp2;refine zac (fun N=>Below w.heap.size w N∧w.heap.size<N.heap.size∧N.cell? ⟨w.heap.size,1,none⟩=some (.slice (some ⟨b,o,none⟩) n c)∧∀i,i<4→N.cell? ⟨S.heap.size,i,none⟩=some (.int .u8 ((48+_root_.Rad.pick4 d0 d1 d2 d3 i:Nat):Int))) W.out ?_;obtain⟨g,hg⟩:∃g,S.heap.size=g:=⟨_,rfl⟩;rw[hg];rintro N ⟨E,ba,k5,V⟩;have O:Hid _:=V;clear W ka Y hg V;go_loop [6] (fun s6=>∃f:Nat,f≤F∧s6=.int .i64 (f:Int)) (fun s6=>F-(intOf s6).toNat)
      case atStart=>exact⟨0,by omega,rfl⟩
      case round=>
       obtain⟨f,hf,rfl⟩:=hrel;by_cases sc:f=F
       ·subst sc;by_cases qc:f=3
        ·subst qc;have u:=run_convert_bytes_back (P:=Tryz.prog) N 91 9 5 ⟨g,3,none⟩ (4-3) ((_root_.Rad.four d0 d1 d2 d3).drop 3) za7 zbo underlying9 (fun q hq=>by rw[Lib.add_plain];have B:3+q<4:=(by rw[List.length_drop]at hq;simp[_root_.Rad.four]at hq;omega);rw[List.getElem_drop,_root_.Rad.four_at d0 d1 d2 d3 (by simpa [_root_.Rad.four]using B) b0 b1 b2 b3];exact O.out _ B);rw[show((_root_.Rad.four d0 d1 d2 d3).drop 3).length=4-3 by rw[List.length_drop];rfl]at u;obtain⟨C,x⟩:∃C,(_root_.Rad.four d0 d1 d2 d3).drop 3=C:=⟨_,rfl⟩;rw[x]at u;have U:Hid _:=x;have aa:C.length≤4:=(by rw[←x,List.length_drop];simp[_root_.Rad.four]);have T:Hid _:=E;clear x E;go_wp2;refine⟨⟨j,s++⟨C.toArray⟩,by omega,by go_num,rfl,?_,?_,T.out,ba,k5⟩,by simp[intOf]⟩
         ·rw[ba_app,ba_mk,←U.out,da.out];exact D.out
         ·rw[ByteArray.size_append];show s.size+C.length≤_;omega
        ·have fa:=O.out f om;have zb:=_root_.Rad.lead_stop (d0:=d0) (d1:=d1) (d2:=d2) (d3:=d3) (by rw[←ca.out];omega);rw[←ca.out]at zb;obtain⟨p,hp⟩:∃p,_root_.Rad.pick4 d0 d1 d2 d3 f=p:=⟨_,rfl⟩;rw[hp]at fa zb;have cd:¬((48+p:Nat):Int)=48:=om;have vc:¬(48:Int)+(p:Int)=48:=om;have wb:(f:Int)<3:=om;have rc:f<4:=om;clear hp;have u:=run_convert_bytes_back (P:=Tryz.prog) N 91 9 5 ⟨g,f,none⟩ (4-f) ((_root_.Rad.four d0 d1 d2 d3).drop f) za7 zbo underlying9 (fun q hq=>by rw[Lib.add_plain];have B:f+q<4:=(by rw[List.length_drop]at hq;simp[_root_.Rad.four]at hq;omega);rw[List.getElem_drop,_root_.Rad.four_at d0 d1 d2 d3 (by simpa [_root_.Rad.four]using B) b0 b1 b2 b3];exact O.out _ B);rw[show((_root_.Rad.four d0 d1 d2 d3).drop f).length=4-f by rw[List.length_drop];rfl]at u;obtain⟨C,x⟩:∃C,(_root_.Rad.four d0 d1 d2 d3).drop f=C:=⟨_,rfl⟩;rw[x]at u;have U:Hid _:=x;have aa:C.length≤4:=(by rw[←x,List.length_drop];simp[_root_.Rad.four]);have T:Hid _:=E;clear x E;go_wp2;refine⟨⟨j,s++⟨C.toArray⟩,by omega,by go_num,rfl,?_,?_,T.out,ba,k5⟩,by simp[intOf]⟩
         ·rw[ba_app,ba_mk,←U.out,da.out];exact D.out
         ·rw[ByteArray.size_append];show s.size+C.length≤_;omega
       ·have fa:=O.out f om;have hz:=_root_.Rad.lead_zero (d0:=d0) (d1:=d1) (d2:=d2) (d3:=d3) (i:=f) (by rw[←ca.out];omega);rw[hz]at fa;have wb:(f:Int)<3:=om;have rc:f<4:=om;clear hz;go_wp2;exact⟨⟨f+1,by omega,by go_num⟩,by simp[intOf];omega⟩
     ·have e7:¬(j:Int)=(n:Int)-1:=om;have kc:=(oa.out.2 ht).2;subst kc;go_wp2;refine zac (fun N=>Below w.heap.size w N∧w.heap.size<N.heap.size∧N.cell? ⟨w.heap.size,1,none⟩=some (.slice (some ⟨b,o,none⟩) n c)∧∀i,i<4→N.cell? ⟨S.heap.size,i,none⟩=some (.int .u8 ((48+_root_.Rad.pick4 d0 d1 d2 d3 i:Nat):Int))) W.out ?_;obtain⟨g,hg⟩:∃g,S.heap.size=g:=⟨_,rfl⟩;rw[hg];rintro N ⟨E,ba,k5,V⟩;have O:Hid _:=V;clear W ka Y hg V;go_loop [6] (fun s6=>s6=.int .i64 0) (fun s6=>0)
      case atStart=>rfl
      case round=>
       obtain rfl:=hrel;have u:=run_convert_bytes_back (P:=Tryz.prog) N 91 9 5 ⟨g,0,none⟩ (4-0) ((_root_.Rad.four d0 d1 d2 d3).drop 0) za7 zbo underlying9 (fun q hq=>by rw[Lib.add_plain];have B:0+q<4:=(by rw[List.length_drop]at hq;simp[_root_.Rad.four]at hq;omega);rw[List.getElem_drop,_root_.Rad.four_at d0 d1 d2 d3 (by simpa [_root_.Rad.four]using B) b0 b1 b2 b3];exact O.out _ B);rw[show((_root_.Rad.four d0 d1 d2 d3).drop 0).length=4-0 by rw[List.length_drop];rfl]at u;obtain⟨C,x⟩:∃C,(_root_.Rad.four d0 d1 d2 d3).drop 0=C:=⟨_,rfl⟩;rw[x]at u;have U:Hid _:=x;have aa:C.length≤4:=(by rw[←x,List.length_drop];simp[_root_.Rad.four]);have T:Hid _:=E;clear x E;go_wp2;refine⟨⟨j,by omega,rfl,?_,?_,T.out⟩,by simp[intOf];omega⟩
       ·rw[←U.out,da.out];exact D.out
       ·omega
 ·go_enter Tryz.func15,Tryz.ntmps15;go_wp2;refine zac (fun Z=>Below w.heap.size w Z∧w.heap.size<Z.heap.size∧Z.cell? ⟨w.heap.size,1,none⟩=some (.slice (some ⟨b,o,none⟩) n c)) ⟨zau _ _,by simp,qq⟩ ?_;rintro Z ⟨A,yb,xb⟩;have na:Hid _:=A;have pa:Hid _:=xb;have qa:Hid _:=yb;clear A xb yb;go_loopw [3,4] (fun s3 s4 wr=>∃(k:Nat) (s:ByteArray),k≤n∧s4=.int .i64 ((k:Int)-1)∧s3=.string s∧s.data.toList=zf6 true (num 10000 w b (o+k) (n-k)) k n∧s.size≤4*(n-k)+1∧
   Below w.heap.size w wr∧w.heap.size<wr.heap.size∧wr.cell? ⟨w.heap.size,1,none⟩=some (.slice (some ⟨b,o,none⟩) n c)) (fun _ s4 _=>(intOf s4+1).toNat)
  case atStart=>
   refine⟨n,_,Nat.le_refl _,by go_num,rfl,?_,?_,na.out,qa.out,pa.out⟩
   ·rw[Nat.sub_self,zao,ad.out];rfl
   ·first|exact Nat.zero_le _|(show(1:Nat)≤_;omega)
  case round=>
   obtain⟨k,s,hk,rfl,rfl,R,nd,A,hl,ja⟩:=hrel;clear na pa qa;by_cases tc:k=0
   ·subst tc;rw[Nat.add_zero,Nat.sub_zero,HN.out,←la.out]at R;obtain rfl:=ba_eq R;have HB:Hid _:=A;clear R A la;go_wp2;go_ret;exact⟨rfl,HB.out⟩
   ·obtain⟨j,rfl⟩:∃j,k=j+1:=⟨k-1,by omega⟩;have he:((j+1:Nat):Int)-1=(j:Int):=om;rw[he];have M:=zag HA.out (i:=j) om;have uc:=zat HA.out (i:=j) om;have ub:b<wr.heap.size:=Nat.lt_trans ma hl;have I:=(A.cell (p:=⟨b,o+j,none⟩) ma).trans M;have ia:=high_step (w:=w) (b:=b) (o:=o) (n:=n) (j:=j) om;obtain⟨y,hy⟩:∃y,word w b (o+j)=y:=⟨_,rfl⟩;obtain⟨H,hH⟩:∃H,num 10000 w b (o+(j+1)) (n-(j+1))=H:=⟨_,rfl⟩;obtain⟨G,hG⟩:∃G,num 10000 w b (o+j) (n-j)=G:=⟨_,rfl⟩;rw[hy]at I uc;rw[hG,hy,hH]at ia;rw[hH]at R;obtain⟨d0,lc⟩:∃d,d=y / 1000:=⟨_,rfl⟩;obtain⟨p1,xc⟩:∃d,d=y / 100:=⟨_,rfl⟩;obtain⟨d1,mc⟩:∃d,d=p1%10:=⟨_,rfl⟩;obtain⟨p2,yc⟩:∃d,d=y / 10:=⟨_,rfl⟩;obtain⟨d2,nc⟩:∃d,d=p2%10:=⟨_,rfl⟩;obtain⟨d3,oc⟩:∃d,d=y%10:=⟨_,rfl⟩;have e0:(y:Int) / 1000=(d0:Int):=om;have e1:(y:Int) / 100=(p1:Int):=om;have e2:(p1:Int)%10=(d1:Int):=om;have e3:(y:Int) / 10=(p2:Int):=om;have e4:(p2:Int)%10=(d2:Int):=om;have e5:(y:Int)%10=(d3:Int):=om;have b0:d0≤9:=om;have b1:d1≤9:=om;have b2:d2≤9:=om;have b3:d3≤9:=om;have ic:p1≤9999:=om;have jc:p2≤9999:=om;have cc:y=1000*d0+100*d1+10*d2+d3:=om;have sb:j+1=n→H=0:=fun h=>by rw[←hH,h,Nat.sub_self];rfl
    have rb:j+1≠n→0<H:=fun h=>by rw[←hH];have h1:10000^(n-(j+1)-1)≤num 10000 w b (o+(j+1)) (n-(j+1)):=_root_.Rad.vs_ge om (by rw[show o+(j+1)+(n-(j+1)-1)=o+(n-1)by omega];exact dc.out);exact Nat.lt_of_lt_of_le (Nat.pow_pos dd) h1
    obtain⟨F,hF⟩:∃F,F=(if j+1=n then _root_.Rad.lead d0 d1 d2 else 0):=⟨_,rfl⟩;have ea:(j+1=n→H=0∧F=_root_.Rad.lead d0 d1 d2)∧(j+1≠n→0<H∧F=0):=⟨fun h=>⟨sb h,by rw[hF,if_pos h]⟩,fun h=>⟨rb h,by rw[hF,if_neg h]⟩⟩;have jd:F≤3:=(by rw[hF];split;exact _root_.Rad.lead_le _ _ _;omega);have J:=zgf (neg:=true) (show j<n by omega) ia cc b0 b1 b2 b3 ea;rw[←R]at J;have D:Hid _:=J;have da:Hid _:=hG;have oa:Hid _:=ea;have md:j<n:=om;have ld:j<c:=om;clear M ia hy hH hG R lc xc mc yc nc oc sb rb hF J ea cc he;go_wp2;refine zac (fun Z=>Z=wr) rfl ?_;rintro Z rfl;refine zaq zbf [⟨21,[],[],[1]⟩,⟨22,[0],[0],[]⟩,⟨23,[],[],[4]⟩,⟨24,[1,2],[0,1,2],[]⟩,⟨25,[3],[0,1,2,3],[]⟩,⟨26,[4],[0,1,2,3,4],[]⟩,⟨27,[5],[0,1,2,3,4,5],[]⟩,⟨28,[6],[0,1,2,3,4,5,6],[]⟩,⟨29,[],[],[1]⟩,⟨30,[8],[8],[]⟩,⟨31,[],[],[4]⟩,⟨32,[9,10],[8,9,10],[]⟩,⟨33,[11],[8,9,10,11],[]⟩,⟨34,[12],[8,9,10,11,12],[]⟩,⟨35,[13],[8,9,10,11,12,13],[]⟩,⟨36,[14],[8,9,10,11,12,13,14],[]⟩,⟨37,[15],[8,9,10,11,12,13,14,15],[]⟩,⟨38,[],[],[1]⟩,⟨39,[17],[17],[]⟩,⟨40,[],[],[4]⟩,⟨41,[18,19],[17,18,19],[]⟩,⟨42,[20],[17,18,19,20],[]⟩,⟨43,[21],[17,18,19,20,21],[]⟩,⟨44,[22],[17,18,19,20,21,22],[]⟩,⟨45,[23],[17,18,19,20,21,22,23],[]⟩,⟨46,[24],[17,18,19,20,21,22,23,24],[]⟩,⟨47,[],[],[1]⟩,⟨48,[26],[26],[]⟩,⟨49,[],[],[4]⟩,⟨50,[27,28],[26,27,28],[]⟩,⟨51,[29],[26,27,28,29],[]⟩,⟨52,[30],[26,27,28,29,30],[]⟩,⟨53,[31],[26,27,28,29,30,31],[]⟩,⟨54,[32],[26,27,28,29,30,31,32],[]⟩] [] kfl 82 rfl kfl (fun (i:Nat) (v:Value) (wq:World)=>match i with|0=>v=.pointer (some ⟨w.heap.size,1,none⟩)|1=>v=.slice (some ⟨b,o,none⟩) n (c)|2=>v=.int .i64 (j)|3=>v=.pointer (some ⟨b,o+j,none⟩)|4=>v=.int .i64 (y)|5=>v=.int .i64 (d0)|6=>v=.int .i64 (48+(d0:Int))|7=>v=.int .u8 (48+(d0:Int))|8=>v=.pointer (some ⟨w.heap.size,1,none⟩)|9=>v=.slice (some ⟨b,o,none⟩) n (c)|10=>v=.int .i64 (j)|11=>v=.pointer (some ⟨b,o+j,none⟩)|12=>v=.int .i64 (y)|13=>v=.int .i64 (p1)|14=>v=.int .i64 (d1)|15=>v=.int .i64 (48+(d1:Int))|16=>v=.int .u8 (48+(d1:Int))|17=>v=.pointer (some ⟨w.heap.size,1,none⟩)|18=>v=.slice (some ⟨b,o,none⟩) n (c)|19=>v=.int .i64 (j)|20=>v=.pointer (some ⟨b,o+j,none⟩)|21=>v=.int .i64 (y)|22=>v=.int .i64 (p2)|23=>v=.int .i64 (d2)|24=>v=.int .i64 (48+(d2:Int))|25=>v=.int .u8 (48+(d2:Int))|26=>v=.pointer (some ⟨w.heap.size,1,none⟩)|27=>v=.slice (some ⟨b,o,none⟩) n (c)|28=>v=.int .i64 (j)|29=>v=.pointer (some ⟨b,o+j,none⟩)|30=>v=.int .i64 (y)|31=>v=.int .i64 (d3)|32=>v=.int .i64 (48+(d3:Int))|33=>v=.int .u8 (48+(d3:Int))|_=>True) (fun _ wq=>Below Z.heap.size Z wq) (fun wx wy=>Below wx.heap.size wx wy) (zz).drew (fun i v wx wy h hx=>match i,h with|0,h=>h|1,h=>h|2,h=>h|3,h=>h|4,h=>h|5,h=>h|6,h=>h|7,h=>h|8,h=>h|9,h=>h|10,h=>h|11,h=>h|12,h=>h|13,h=>h|14,h=>h|15,h=>h|16,h=>h|17,h=>h|18,h=>h|19,h=>h|20,h=>h|21,h=>h|22,h=>h|23,h=>h|24,h=>h|25,h=>h|26,h=>h|27,h=>h|28,h=>h|29,h=>h|30,h=>h|31,h=>h|32,h=>h|33,h=>h|n+34,_=>trivial) ?_ ?_
    ·intro i o r t m L fr wx hW hL zc pc vb ac ga;clear hL zc pc vb
     match i,t,m with
     |0,t,m=>?_
     |1,t,m=>?_
     |2,t,m=>?_
     |3,t,m=>?_
     |4,t,m=>?_
     |5,t,m=>?_
     |6,t,m=>?_
     |7,t,m=>?_
     |8,t,m=>?_
     |9,t,m=>?_
     |10,t,m=>?_
     |11,t,m=>?_
     |12,t,m=>?_
     |13,t,m=>?_
     |14,t,m=>?_
     |15,t,m=>?_
     |16,t,m=>?_
     |17,t,m=>?_
     |18,t,m=>?_
     |19,t,m=>?_
     |20,t,m=>?_
     |21,t,m=>?_
     |22,t,m=>?_
     |23,t,m=>?_
     |24,t,m=>?_
     |25,t,m=>?_
     |26,t,m=>?_
     |27,t,m=>?_
     |28,t,m=>?_
     |29,t,m=>?_
     |30,t,m=>?_
     |31,t,m=>?_
     |32,t,m=>?_
     |33,t,m=>?_
     |n+34,t,m=>exact absurd m (by simp)
     all_goals obtain rfl:=oi t;obtain rfl:=oi m;simp only[uxw,uw,evt]at ac ga;have fd:=(hW.cell (p:=⟨w.heap.size,1,none⟩) hl).trans ja;have gd:=(hW.cell (p:=⟨b,o+j,none⟩) ub).trans I;refine zam rfl rfl fun K hK=>?_;go_simp;exact hK _ _ ⟨(by first|rfl|exact congrArg (Value.int .i64) (wi b0)|exact congrArg (Value.int .i64) (wi48 b0)|exact congrArg (Value.int .u8) (wu48 b0)|exact congrArg (Value.int .i64) (wi ic)|exact congrArg (Value.int .i64) (tm e2)|exact congrArg (Value.int .i64) (wi48 b1)|exact congrArg (Value.int .u8) (wu48 b1)|exact congrArg (Value.int .i64) (wi jc)|exact congrArg (Value.int .i64) (tm e4)|exact congrArg (Value.int .i64) (wi48 b2)|exact congrArg (Value.int .u8) (wu48 b2)|exact congrArg (Value.int .i64) (tm e5)|exact congrArg (Value.int .i64) (wi48 b3)|exact congrArg (Value.int .u8) (wu48 b3)),hW,zz,nn⟩
    ·intro vs S l X tb;clear tb;have e0:vs 0=_:=l 0 dd;have e1:vs 1=_:=l 1 dd;have e2:vs 2=_:=l 2 dd;have e3:vs 3=_:=l 3 dd;have e4:vs 4=_:=l 4 dd;have e5:vs 5=_:=l 5 dd;have e6:vs 6=_:=l 6 dd;have e7:vs 7=_:=l 7 dd;have e8:vs 8=_:=l 8 dd;have e9:vs 9=_:=l 9 dd;have ra:vs 10=_:=l 10 dd;have sa:vs 11=_:=l 11 dd;have ta:vs 12=_:=l 12 dd;have ua:vs 13=_:=l 13 dd;have va:vs 14=_:=l 14 dd;have wa:vs 15=_:=l 15 dd;have xa:vs 16=_:=l 16 dd;have ya:vs 17=_:=l 17 dd;have za:vs 18=_:=l 18 dd;have ab:vs 19=_:=l 19 dd;have bb:vs 20=_:=l 20 dd;have cb:vs 21=_:=l 21 dd;have db:vs 22=_:=l 22 dd;have eb:vs 23=_:=l 23 dd;have fb:vs 24=_:=l 24 dd;have gb:vs 25=_:=l 25 dd;have hb:vs 26=_:=l 26 dd;have ib:vs 27=_:=l 27 dd;have jb:vs 28=_:=l 28 dd;have kb:vs 29=_:=l 29 dd;have lb:vs 30=_:=l 30 dd;have mb:vs 31=_:=l 31 dd;have nb:vs 32=_:=l 32 dd;have ob:vs 33=_:=l 33 dd;simp only[zbx,Nat.reduceAdd,e0,e1,e2,e3,e4,e5,e6,e7,e8,e9,ra,sa,ta,ua,va,wa,xa,ya,za,ab,bb,cb,db,eb,fb,gb,hb,ib,jb,kb,lb,mb,nb,ob,Act.put,ll];clear l e0 e1 e2 e3 e4 e5 e6 e7 e8 e9 ra sa ta ua va wa xa ya za ab bb cb db eb fb gb hb ib jb kb lb mb nb ob;have pb:=A.trans (X.mono A.size);have Y:=Nat.lt_of_lt_of_le hl X.size;have ka:=(X.cell (p:=⟨w.heap.size,1,none⟩) hl).trans ja;clear X A ja I hl ub;have W:Hid (Below w.heap.size w (S.alloc (Obj.cells #[Value.int .u8 (48+(d0:Int)),Value.int .u8 (48+(d1:Int)),Value.int .u8 (48+(d2:Int)),Value.int .u8 (48+(d3:Int))] 5))∧
      w.heap.size<(S.alloc (Obj.cells #[Value.int .u8 (48+(d0:Int)),Value.int .u8 (48+(d1:Int)),Value.int .u8 (48+(d2:Int)),Value.int .u8 (48+(d3:Int))] 5)).heap.size∧
      (S.alloc (Obj.cells #[Value.int .u8 (48+(d0:Int)),Value.int .u8 (48+(d1:Int)),Value.int .u8 (48+(d2:Int)),Value.int .u8 (48+(d3:Int))] 5)).cell? ⟨w.heap.size,1,none⟩=some (.slice (some ⟨b,o,none⟩) n c)∧
      ∀i,i<4→(S.alloc (Obj.cells #[Value.int .u8 (48+(d0:Int)),Value.int .u8 (48+(d1:Int)),Value.int .u8 (48+(d2:Int)),Value.int .u8 (48+(d3:Int))] 5)).cell? ⟨S.heap.size,i,none⟩=some (.int .u8 ((48+_root_.Rad.pick4 d0 d1 d2 d3 i:Nat):Int))):=by
      refine⟨pb.alloc (Nat.le_of_lt Y) _,by simp;omega,?_,fun i hi=>?_⟩
      ·exact((zau S _).cell (p:=⟨w.heap.size,1,none⟩) Y).trans ka
      ·rw[World.cell?_alloc_at (w:=S) _ _ S.heap.size i rfl];unfold _root_.Rad.pick4
       match i,hi with
       |0,_=>rfl
       |1,_=>rfl
       |2,_=>rfl
       |3,_=>rfl
     clear pb;by_cases ht:j+1=n
     ·have e7:(n:Int)-1=(j:Int):=om;have qb:=(oa.out.1 ht).2;have ca:Hid _:=qb;clear qb;go_wp2;refine zac (fun N=>Below w.heap.size w N∧w.heap.size<N.heap.size∧N.cell? ⟨w.heap.size,1,none⟩=some (.slice (some ⟨b,o,none⟩) n c)∧∀i,i<4→N.cell? ⟨S.heap.size,i,none⟩=some (.int .u8 ((48+_root_.Rad.pick4 d0 d1 d2 d3 i:Nat):Int))) W.out ?_;obtain⟨g,hg⟩:∃g,S.heap.size=g:=⟨_,rfl⟩;rw[hg];rintro N ⟨E,ba,k5,V⟩;have O:Hid _:=V;clear W ka Y hg V;go_loop [6] (fun s6=>∃f:Nat,f≤F∧s6=.int .i64 (f:Int)) (fun s6=>F-(intOf s6).toNat)
      case atStart=>exact⟨0,by omega,rfl⟩
      case round=>
       obtain⟨f,hf,rfl⟩:=hrel;by_cases sc:f=F
       ·subst sc;by_cases qc:f=3
        ·subst qc;have u:=run_convert_bytes_back (P:=Tryz.prog) N 91 9 5 ⟨g,3,none⟩ (4-3) ((_root_.Rad.four d0 d1 d2 d3).drop 3) za7 zbo underlying9 (fun q hq=>by rw[Lib.add_plain];have B:3+q<4:=(by rw[List.length_drop]at hq;simp[_root_.Rad.four]at hq;omega);rw[List.getElem_drop,_root_.Rad.four_at d0 d1 d2 d3 (by simpa [_root_.Rad.four]using B) b0 b1 b2 b3];exact O.out _ B);rw[show((_root_.Rad.four d0 d1 d2 d3).drop 3).length=4-3 by rw[List.length_drop];rfl]at u;obtain⟨C,x⟩:∃C,(_root_.Rad.four d0 d1 d2 d3).drop 3=C:=⟨_,rfl⟩;rw[x]at u;have U:Hid _:=x;have aa:C.length≤4:=(by rw[←x,List.length_drop];simp[_root_.Rad.four]);have T:Hid _:=E;clear x E;go_wp2;refine⟨⟨j,s++⟨C.toArray⟩,by omega,by go_num,rfl,?_,?_,T.out,ba,k5⟩,by simp[intOf]⟩
         ·rw[ba_app,ba_mk,←U.out,da.out];exact D.out
         ·rw[ByteArray.size_append];show s.size+C.length≤_;omega
        ·have fa:=O.out f om;have zb:=_root_.Rad.lead_stop (d0:=d0) (d1:=d1) (d2:=d2) (d3:=d3) (by rw[←ca.out];omega);rw[←ca.out]at zb;obtain⟨p,hp⟩:∃p,_root_.Rad.pick4 d0 d1 d2 d3 f=p:=⟨_,rfl⟩;rw[hp]at fa zb;have cd:¬((48+p:Nat):Int)=48:=om;have vc:¬(48:Int)+(p:Int)=48:=om;have wb:(f:Int)<3:=om;have rc:f<4:=om;clear hp;have u:=run_convert_bytes_back (P:=Tryz.prog) N 91 9 5 ⟨g,f,none⟩ (4-f) ((_root_.Rad.four d0 d1 d2 d3).drop f) za7 zbo underlying9 (fun q hq=>by rw[Lib.add_plain];have B:f+q<4:=(by rw[List.length_drop]at hq;simp[_root_.Rad.four]at hq;omega);rw[List.getElem_drop,_root_.Rad.four_at d0 d1 d2 d3 (by simpa [_root_.Rad.four]using B) b0 b1 b2 b3];exact O.out _ B);rw[show((_root_.Rad.four d0 d1 d2 d3).drop f).length=4-f by rw[List.length_drop];rfl]at u;obtain⟨C,x⟩:∃C,(_root_.Rad.four d0 d1 d2 d3).drop f=C:=⟨_,rfl⟩;rw[x]at u;have U:Hid _:=x;have aa:C.length≤4:=(by rw[←x,List.length_drop];simp[_root_.Rad.four]);have T:Hid _:=E;clear x E;go_wp2;refine⟨⟨j,s++⟨C.toArray⟩,by omega,by go_num,rfl,?_,?_,T.out,ba,k5⟩,by simp[intOf]⟩
         ·rw[ba_app,ba_mk,←U.out,da.out];exact D.out
         ·rw[ByteArray.size_append];show s.size+C.length≤_;omega
       ·have fa:=O.out f om;have hz:=_root_.Rad.lead_zero (d0:=d0) (d1:=d1) (d2:=d2) (d3:=d3) (i:=f) (by rw[←ca.out];omega);rw[hz]at fa;have wb:(f:Int)<3:=om;have rc:f<4:=om;clear hz;go_wp2;exact⟨⟨f+1,by omega,by go_num⟩,by simp[intOf];omega⟩
     ·have e7:¬(j:Int)=(n:Int)-1:=om;have kc:=(oa.out.2 ht).2;subst kc;go_wp2;refine zac (fun N=>Below w.heap.size w N∧w.heap.size<N.heap.size∧N.cell? ⟨w.heap.size,1,none⟩=some (.slice (some ⟨b,o,none⟩) n c)∧∀i,i<4→N.cell? ⟨S.heap.size,i,none⟩=some (.int .u8 ((48+_root_.Rad.pick4 d0 d1 d2 d3 i:Nat):Int))) W.out ?_;obtain⟨g,hg⟩:∃g,S.heap.size=g:=⟨_,rfl⟩;rw[hg];rintro N ⟨E,ba,k5,V⟩;have O:Hid _:=V;clear W ka Y hg V;go_loop [6] (fun s6=>s6=.int .i64 0) (fun s6=>0)
      case atStart=>rfl
      case round=>
       obtain rfl:=hrel;have u:=run_convert_bytes_back (P:=Tryz.prog) N 91 9 5 ⟨g,0,none⟩ (4-0) ((_root_.Rad.four d0 d1 d2 d3).drop 0) za7 zbo underlying9 (fun q hq=>by rw[Lib.add_plain];have B:0+q<4:=(by rw[List.length_drop]at hq;simp[_root_.Rad.four]at hq;omega);rw[List.getElem_drop,_root_.Rad.four_at d0 d1 d2 d3 (by simpa [_root_.Rad.four]using B) b0 b1 b2 b3];exact O.out _ B);rw[show((_root_.Rad.four d0 d1 d2 d3).drop 0).length=4-0 by rw[List.length_drop];rfl]at u;obtain⟨C,x⟩:∃C,(_root_.Rad.four d0 d1 d2 d3).drop 0=C:=⟨_,rfl⟩;rw[x]at u;have U:Hid _:=x;have aa:C.length≤4:=(by rw[←x,List.length_drop];simp[_root_.Rad.four]);have T:Hid _:=E;clear x E;go_wp2;refine⟨⟨j,s++⟨C.toArray⟩,by omega,by go_num,rfl,?_,?_,T.out,ba,k5⟩,by simp[intOf]⟩
       ·rw[ba_app,ba_mk,←U.out,da.out];exact D.out
       ·rw[ByteArray.size_append];show s.size+C.length≤_;omega
theorem zee (w:World) (v:Value) (z:Int) (g:Nat) (f:IsZ w v z) (d:z.natAbs<10000^g) (l:g≤1073741824):
 Calls Tryz.prog 15 #[v] w fun e w'=>e=.returned (.string ⟨(txt z).toArray⟩)∧Below w.heap.size w w':=by
 by_cases b:z=0
 ·obtain⟨p,a,n,c,rfl⟩:=f.form;obtain⟨j,k⟩:=f.dg;have m:n=0:=k.zero_iff.1 (by rw[b];rfl);subst b m;have o:txt 0=[48]:=(by unfold txt;rw[show(0:Int)=((0:Nat):Int)from rfl,Lib.itoa_nonneg,Lib.decDigits_one dd];rfl);rw[o];clear f k d j;go_enter Tryz.func15,Tryz.ntmps15;go_wp2;go_ret;exact⟨rfl,zau _ _⟩
 ·exact zText_pos w v z g f d l b
theorem TabP.below {w w':World} (h:TabP w) (d:Below w.heap.size w w'):TabP w':=by
 unfold TabP Lib.TabIs World.var? at *;cases hg : Tryz.prog.globalNamed "internal/strconv.uint64pow10" with
 |none=>simp[hg]at h
 |some g=>
  simp only[hg,Option.bind_some]at h⊢;have c:g<w.heap.size:=by
   rcases Nat.lt_or_ge g w.heap.size with b|b
   ·exact b
   ·rw[Array.getElem?_eq_none b]at h;simp at h
  rw[d.block g c];exact h
theorem txt_70001:txt (-70001)=[45,55,48,48,48,49]:=by unfold txt;rw[show(-70001:Int)= -((70001:Nat):Int)from rfl,Lib.itoa_neg _ dd];rw[show(70001:Nat)=1000*0+100*0+10*0+1+10000*7 from rfl,_root_.Rad.dec_four dd dd dd dd dd,Lib.decDigits_one dd];rfl
theorem numBegun_any (w:World) (k:TabP w):Calls Tryz.prog 11 #[] w fun e w'=>e=.returned (.bool true)∧Below w.heap.size w w':=by have g:=zfm w (-70001) dd dd;go_enter Tryz.func11,Tryz.ntmps11;go_wp2_with (go_at_call 16;fail);refine g.mono ?_;rintro e n ⟨m,rfl,b,j⟩;have c:Int.natAbs (-70001)<B^159:=Nat.lt_of_lt_of_le (show 70001<B^1 by decide) (Nat.pow_le_pow_right dd dd);have f:=zde n m (-70001) j c (k.below b);rw[txt_70001]at f;clear g j k c;go_wp2_with (go_at_call 14;fail);refine f.mono ?_;rintro e o ⟨rfl,d⟩;have l:=b.trans (d.mono b.size);clear f b d;go_wp2;go_ret;exact⟨rfl,l⟩
theorem ten_pow {x l n:Nat} (h:x<10^l) (c:l≤4*n):x<10000^n:=by have b:10^l≤10^(4*n):=Nat.pow_le_pow_right dd c;rw[Nat.pow_mul]at b;exact Nat.lt_of_lt_of_le h b
theorem pval_lt (l:List UInt8):(zex l).natAbs<10000^250:=by
 unfold zex
 split
 ·rename_i h
  rw[_root_.Rad.Valid.val_abs];exact ten_pow (_root_.Rad.dval_lt h.1.digits) h.2
 ·exact Nat.pow_pos dd
structure Box2 (w:World) (b:Nat) (u0 u1:Value):Prop where
 lt:b<w.heap.size
 c0:w.cell? ⟨b,0,none⟩=some u0
 c1:w.cell? ⟨b,1,none⟩=some u1
theorem Box2.step {w w':World} {b B:Nat} {u0 u1:Value} (h:Box2 w b u0 u1) (c:Below B w w') (d:b<B):Box2 w' b u0 u1:=⟨Nat.lt_of_lt_of_le h.lt c.size,(World.cell?_of_block (c.block b d)).trans h.c0,(World.cell?_of_block (c.block b d)).trans h.c1⟩
theorem Box2.mk0 (w:World) (u0 u1:Value) (T:TypeId):Box2 (w.alloc (Obj.cells #[u0,u1] T)) w.heap.size u0 u1:=⟨by simp,qq,qq⟩
theorem Box2.mk1 (w:World) (X:Obj) (u0 u1:Value) (T:TypeId):Box2 ((w.alloc X).alloc (Obj.cells #[u0,u1] T)) (w.heap.size+1) u0 u1:=⟨by simp,qq,qq⟩
theorem Box2.below {w w':World} {b:Nat} {u0 u1:Value} (h:Box2 w b u0 u1) (c:Below w.heap.size w w'):Box2 w' b u0 u1:=h.step c h.lt
end Go.Proofs.YtjlkplidpdhgbaaGreatDoor
