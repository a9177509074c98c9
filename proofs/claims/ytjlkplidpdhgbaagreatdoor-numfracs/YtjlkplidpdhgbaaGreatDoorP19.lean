/- A part of the proof: D1, R2, R1b. -/
import Derived.Test.YtjlkplidpdhgbaaGreatDoorP00
import Derived.Test.YtjlkplidpdhgbaaGreatDoorP05
import Derived.Test.YtjlkplidpdhgbaaGreatDoorP18
import Derived.Test.YtjlkplidpdhgbaaGreatDoorP11
import Derived.Deep.Cut
import Derived.Deep.CutRange
import Derived.Test.YtjlkplidpdhgbaaGreatDoorP06
set_option linter.all false
set_option maxRecDepth 10000
set_option maxHeartbeats 2000000
namespace Go.Proofs.YtjlkplidpdhgbaaGreatDoor
open Go Go.Proofs Go.RowKit Go.Rad
theorem cut_any (w:World) (va vb:Value) (x y:Int) (LL:Nat) (V:IsInt w va x) (hy:IsInt w vb y) (h0:y≠0) (hA:x.natAbs<B^159) (hB:y.natAbs<B^LL) (hL:LL≤100000):
 Calls Tryz.prog 90 #[va,vb] w fun e w'=>∃M N,e=.returned (.tuple #[M,N])∧Below w.heap.size w w'∧IsInt w' M (x / y)∧IsInt w' N (x%y):=by
 have q:=qEq;obtain⟨s,a,n,c,rfl⟩:=V.form;obtain⟨t,b,m,d,rfl⟩:=hy.form;obtain⟨g1,g2,g3,g4,g5⟩:=V.sgn;obtain⟨i1,i2,i3,i4,i5⟩:=hy.sgn;have HA:Hid _:=hA;have HB:Hid _:=hB;have HS:Hid _:=_root_.Rad.cut_sign x y h0;have HX:Hid (IsInt w (.agg #[.int .i64 s,.slice a n c]) x):=V;have HY:Hid (IsInt w (.agg #[.int .i64 t,.slice b m d]) y):=hy;have mb:Hid _:=g5;have nb:Hid _:=i5;have jb:¬t=0:=om;have wa:Hid _:=i3;clear hA hB V hy g5 i5;go_enter Tryz.func90,Tryz.ntmps90;go_upto_region 1 with fail;refine zab (fun O=>Below w.heap.size w O∧FB O w.heap.size (.int .i64 s) (.slice a n c)∧FB O (w.heap.size+1) (.int .i64 t) (.slice b m d)∧FB O (w.heap.size+1+1) (.int .i64 0) (.slice none 0 0)∧FB O (w.heap.size+1+1+1) (.int .i64 0) (.slice none 0 0)) (fb4 w _ _ _ _ _ _ _ _ _ _ _ _ rfl) ?_;rintro O ⟨z,F2,F3,F4,F5⟩;have ha:Hid _:=z;have T:Hid _:=F2;have H:Hid _:=F3;have D:Hid _:=F4;have F:Hid _:=F5;obtain⟨l2,ga,ka,-,-⟩:=F2;obtain⟨l3,R,U,-,-⟩:=F3;clear F4 F5 z;go_cut [25] from 8 (fun v A=>v=.bool (decide (a=none∧b=none∧¬(s= -9223372036854775808∧t= -1)))∧A=O)
 case first=>
  rcases a with _|a
  ·rcases b with _|b
   ·by_cases hs:s= -9223372036854775808
    ·have ac:(s != -9223372036854775808)=false:=(by simpa using hs);by_cases ht:t= -1
     ·have zb:(t != -1)=false:=(by simpa using ht);have hg:decide ((none:Option Addr)=none∧(none:Option Addr)=none∧¬(s= -9223372036854775808∧t= -1))=false:=(by simp[hs,ht]);have HG:Hid _:=hg;clear hg hs ht;go_wp2_with fail;go_meet
      case rel=>exact⟨congrArg Value.bool HG.out.symm,rfl⟩
     ·have zb:(t != -1)=true:=(by simpa using ht);have hg:decide ((none:Option Addr)=none∧(none:Option Addr)=none∧¬(s= -9223372036854775808∧t= -1))=true:=(by simp[ht]);have HG:Hid _:=hg;clear hg hs;go_wp2_with fail;go_meet
      case rel=>exact⟨congrArg Value.bool HG.out.symm,rfl⟩
    ·have hg:decide ((none:Option Addr)=none∧(none:Option Addr)=none∧¬(s= -9223372036854775808∧t= -1))=true:=(by simp[hs]);have HG:Hid _:=hg;clear hg;go_wp2_with fail;go_meet
     case rel=>exact⟨congrArg Value.bool HG.out.symm,rfl⟩
   ·have hg:decide ((none:Option Addr)=none∧some b=none∧¬(s= -9223372036854775808∧t= -1))=false:=(by simp);have HG:Hid _:=hg;clear hg;go_wp2_with fail;go_meet
    case rel=>exact⟨congrArg Value.bool HG.out.symm,rfl⟩
  ·have hg:decide (some a=none∧b=none∧¬(s= -9223372036854775808∧t= -1))=false:=(by simp);have HG:Hid _:=hg;clear hg;go_wp2_with fail;go_meet
   case rel=>exact⟨congrArg Value.bool HG.out.symm,rfl⟩
 case rest=>
  obtain⟨rfl,rfl⟩:=hcut;clear l2 l3 ga ka R U;go_upto_if 25 with fail;go_cut [] from 6 (fun A=>Below w.heap.size w A∧FB A w.heap.size (.int .i64 s) (.slice a n c)∧FB A (w.heap.size+1) (.int .i64 t) (.slice b m d)∧IV A (w.heap.size+1+1) (x.tdiv y)∧IV A (w.heap.size+1+1+1) (x.tmod y))
  case first=>
   by_cases hn:a=none∧b=none∧¬(s= -9223372036854775808∧t= -1)
   ·have hd:decide (a=none∧b=none∧¬(s= -9223372036854775808∧t= -1))=true:=decide_eq_true hn;rw[hd];obtain⟨rfl,rfl,hn⟩:=hn;obtain⟨rfl,rfl,rfl⟩:=mb.out rfl;obtain⟨rfl,rfl,rfl⟩:=nb.out rfl;have hq: -9223372036854775808≤s.tdiv t∧s.tdiv t≤9223372036854775807:=_root_.Rad.tdiv_range g1 g2 hn;have k: -9223372036854775808≤s.tmod t∧s.tmod t≤9223372036854775807:=_root_.Rad.tmod_range g1 g2;have ew:IntKind.i64.wrap (s.tdiv t)=s.tdiv t:=(by rw[IntKind.wrap_i64];omega);have er:IntKind.i64.wrap (s.tmod t)=s.tmod t:=(by rw[IntKind.wrap_i64];omega);have HQ:Hid _:=hq;have HR:Hid _:=k;clear hq k hn hd g1 g2 g3 g4 i1 i2 i3 i4 q;obtain⟨l2,ga,ka,bc,cc⟩:=T.out;obtain⟨l3,R,U,dc,ec⟩:=H.out;obtain⟨l4,aa,ba,qa,ra⟩:=D.out;obtain⟨l5,ca,da,sa,ta⟩:=F.out;go_upto_region 2 with fail;go_region;go_wp2_with fail;go_meet
    case rel=>
     have hw:=zad (zad ha.out (show w.heap.size≤w.heap.size+1+1 by omega) (.int .i64 (s.tdiv t)) (.slice none 0 0)) (show w.heap.size≤w.heap.size+1+1+1 by omega) (.int .i64 (s.tmod t)) (.slice none 0 0);have e4:=D.out.set (.int .i64 (s.tdiv t)) (.slice none 0 0);have I:=(F.out.other (.int .i64 (s.tdiv t)) (.slice none 0 0) (show w.heap.size+1+1+1≠w.heap.size+1+1 by omega));refine⟨hw.drew,?_,?_,?_,?_⟩
     ·exact((T.out.other _ _ om).other _ _ om).drew
     ·exact((H.out.other _ _ om).other _ _ om).drew
     ·exact((IV.set D.out (za9 _ _ HQ.out.1 HQ.out.2)).other I om _ _).drew
     ·exact(IV.set I (za9 _ _ HR.out.1 HR.out.2)).drew
   ·have hd:decide (a=none∧b=none∧¬(s= -9223372036854775808∧t= -1))=false:=decide_eq_false hn;rw[hd];have HD:Hid (sgn (decide (s<0) !=decide (t<0)) (x.natAbs / y.natAbs)=x.tdiv y∧sgn (decide (s<0)) (x.natAbs%y.natAbs)=x.tmod y):=by
     have h:=_root_.Rad.tdiv_sgn x y (decide (s<0)) (decide (t<0)) (by rw[decide_eq_true_eq];exact g3) (by rw[decide_eq_true_eq];exact i3);show _∧_;refine⟨?_,?_⟩
     ·rw[←h.1];unfold sgn;rfl
     ·rw[←h.2];unfold sgn;rfl
    have sb:Hid (y.natAbs≠0):=(by show y.natAbs≠0;omega);have HX:∀w2,Below w.heap.size w w2→IsInt w2 (.agg #[.int .i64 s,.slice a n c]) x:=fun w2 h=>HX.out.below h;have HY:∀w2,Below w.heap.size w w2→IsInt w2 (.agg #[.int .i64 t,.slice b m d]) y:=fun w2 h=>HY.out.below h;clear hd hn g1 g2 g3 g4 i1 i2 i3 i4 q h0 jb wa;have z:=ha.out;obtain⟨l2,ga,ka,-,-⟩:=T.out;obtain⟨l3,R,U,-,-⟩:=H.out;refine zab (fun O=>O=wc) rfl ?_;rintro O rfl;go_upto_region 3 with fail;refine zaq za6 [⟨39,[],[],[2]⟩,⟨40,[0],[0],[]⟩,⟨41,[],[],[3]⟩,⟨42,[1,2],[0,1,2],[]⟩,⟨43,[1,3],[0,1,2,3],[]⟩,⟨38,[4],[0,1,2,3,4],[]⟩,⟨44,[5],[0,1,2,3,4,5],[]⟩,⟨45,[5],[0,1,2,3,4,5],[]⟩,⟨6,[0,1,2,3,4,5,6],[0,1,2,3,4,5,6],[]⟩,⟨7,[0,1,2,3,4,5,6,7,8],[0,1,2,3,4,5,6,7,8],[]⟩] [] kfl 80 rfl kfl (fun (i:Nat) (v:Value) (S:World)=>match i with|0=>v=.agg #[.int .i64 s,.slice a n c]|1=>∃n,Mag S v x.natAbs n|2=>v=.agg #[.int .i64 t,.slice b m d]|3=>∃n,Mag S v y.natAbs n|4=>∃M N nq nr,v=.tuple #[M,N]∧Mag S M (x.natAbs / y.natAbs) nq∧Mag S N (x.natAbs%y.natAbs) nr|5=>∃M N nq nr,v=.tuple #[M,N]∧Mag S M (x.natAbs / y.natAbs) nq∧Mag S N (x.natAbs%y.natAbs) nr|6=>∃n,Mag S v (x.natAbs / y.natAbs) n|7=>∃n,Mag S v (x.natAbs%y.natAbs) n|8=>∃n,Mag S v (x.natAbs / y.natAbs) n|9=>∃n,Mag S v (x.natAbs%y.natAbs) n|_=>True) (fun _ S=>Below O.heap.size O S) (fun A wy=>Below A.heap.size A wy) (zz).drew (fun i v A wy h V=>match i,h with|0,h=>h|2,h=>h|1,h=>by obtain⟨n,h⟩:=h;exact⟨n,h.below V⟩|3,h=>by obtain⟨n,h⟩:=h;exact⟨n,h.below V⟩|4,h=>by obtain⟨M,N,nq,nr,h0,h1,h2⟩:=h;exact⟨M,N,nq,nr,h0,h1.below V,h2.below V⟩|5,h=>by obtain⟨M,N,nq,nr,h0,h1,h2⟩:=h;exact⟨M,N,nq,nr,h0,h1.below V,h2.below V⟩|6,h=>by obtain⟨n,h⟩:=h;exact⟨n,h.below V⟩|7,h=>by obtain⟨n,h⟩:=h;exact⟨n,h.below V⟩|8,h=>by obtain⟨n,h⟩:=h;exact⟨n,h.below V⟩|9,h=>by obtain⟨n,h⟩:=h;exact⟨n,h.below V⟩|n+10,_=>trivial) ?_ ?_
    ·intro i o r l k L fr A u hL ja ia Z f g;clear hL ja ia Z
     match i,l,k with
     |0,l,k=>obtain rfl:=oi l;obtain rfl:=oi k;have t2:=evf 2 (.pointer (some ⟨w.heap.size,0,none⟩)) (g 2 dd);clear f g;have c0:=(u.cell (p:=⟨w.heap.size,0,none⟩) l2).trans ga;have c1:=(u.cell (p:=⟨w.heap.size,1,none⟩) l2).trans ka;refine zap rfl rfl fun K E=>?_;go_simp;exact E _ _ ⟨rfl,u,zz,nn⟩
     |1,l,k=>obtain rfl:=oi l;obtain rfl:=oi k;have e0:=evs 39 (f 0 dd _ rfl);clear f g;refine zap rfl rfl fun K E=>?_;go_simp;refine(za5 A _ x (HX A (z.trans (u.mono z.size)))).mono ?_;rintro e wy ⟨v4,n4,rfl,G,J⟩;exact E _ _ ⟨⟨n4,J⟩,u.trans (G.mono u.size),G,nn⟩
     |2,l,k=>obtain rfl:=oi l;obtain rfl:=oi k;have t3:=evf 3 (.pointer (some ⟨w.heap.size+1,0,none⟩)) (g 3 dd);clear f g;have c0:=(u.cell (p:=⟨w.heap.size+1,0,none⟩) l3).trans R;have c1:=(u.cell (p:=⟨w.heap.size+1,1,none⟩) l3).trans U;refine zap rfl rfl fun K E=>?_;go_simp;exact E _ _ ⟨rfl,u,zz,nn⟩
     |3,l,k=>obtain rfl:=oi l;obtain rfl:=oi k;have e2:=evs 41 (f 2 dd _ rfl);clear f g;refine zap rfl rfl fun K E=>?_;go_simp;refine(za5 A _ y (HY A (z.trans (u.mono z.size)))).mono ?_;rintro e wy ⟨v4,n4,rfl,G,J⟩;exact E _ _ ⟨⟨n4,J⟩,u.trans (G.mono u.size),G,nn⟩
     |4,l,k=>obtain rfl:=oi l;obtain rfl:=oi k;obtain⟨u1,e1,p1⟩:=evr 40 (P:=fun u1=>∃n,Mag A u1 x.natAbs n) (f 1 dd _ rfl);obtain⟨u3,e3,p3⟩:=evr 42 (P:=fun u3=>∃n,Mag A u3 y.natAbs n) (f 3 dd _ rfl);clear f g;refine zap rfl rfl fun K E=>?_;obtain⟨n1,p1⟩:=p1;obtain⟨n3,p3⟩:=p3;go_simp;refine(ze9 A _ _ _ _ n1 n3 p1 p3 (Nat.pos_of_ne_zero (fun h=>sb.out (p3.zero_iff.2 h))) (Nat.lt_of_le_of_lt (p1.len_le HA.out) dd) (Nat.le_trans (p3.len_le HB.out) om)).mono ?_;rintro e wy ⟨M,N,nq,nr,rfl,G,oa,pa⟩;exact E _ _ ⟨⟨M,N,nq,nr,rfl,oa,pa⟩,u.trans (G.mono u.size),G,nn⟩
     |5,l,k=>obtain rfl:=oi l;obtain rfl:=oi k;obtain⟨u4,e4,p4⟩:=evr 43 (P:=fun u4=>∃M N nq nr,u4=.tuple #[M,N]∧Mag A M (x.natAbs / y.natAbs) nq∧Mag A N (x.natAbs%y.natAbs) nr) (f 4 dd _ rfl);clear f g;refine zap rfl rfl fun K E=>?_;go_simp;exact E _ _ ⟨p4,u,zz,nn⟩
     |6,l,k=>obtain rfl:=oi l;obtain rfl:=oi k;obtain⟨u5,I,p5⟩:=evr 38 (P:=fun u5=>∃M N nq nr,u5=.tuple #[M,N]∧Mag A M (x.natAbs / y.natAbs) nq∧Mag A N (x.natAbs%y.natAbs) nr) (f 5 dd _ rfl);clear f g;refine zap rfl rfl fun K E=>?_;obtain⟨M,N,nq,nr,rfl,oa,pa⟩:=p5;go_simp;exact E _ _ ⟨⟨nq,oa⟩,u,zz,nn⟩
     |7,l,k=>obtain rfl:=oi l;obtain rfl:=oi k;obtain⟨u5,I,p5⟩:=evr 38 (P:=fun u5=>∃M N nq nr,u5=.tuple #[M,N]∧Mag A M (x.natAbs / y.natAbs) nq∧Mag A N (x.natAbs%y.natAbs) nr) (f 5 dd _ rfl);clear f g;refine zap rfl rfl fun K E=>?_;obtain⟨M,N,nq,nr,rfl,oa,pa⟩:=p5;go_simp;exact E _ _ ⟨⟨nr,pa⟩,u,zz,nn⟩
     |8,l,k=>obtain rfl:=oi l;obtain rfl:=oi k;obtain⟨u6,e6,p6⟩:=evr 44 (P:=fun u6=>∃n,Mag A u6 (x.natAbs / y.natAbs) n) (f 6 dd _ rfl);clear f g;refine zap rfl rfl fun K E=>?_;go_simp;exact E _ _ ⟨p6,u,zz,nn⟩
     |9,l,k=>obtain rfl:=oi l;obtain rfl:=oi k;obtain⟨u7,e7,p7⟩:=evr 45 (P:=fun u7=>∃n,Mag A u7 (x.natAbs%y.natAbs) n) (f 7 dd _ rfl);clear f g;refine zap rfl rfl fun K E=>?_;go_simp;exact E _ _ ⟨p7,u,zz,nn⟩
     |n+10,l,k=>exact absurd k (by simp)
    ·intro vs W j C Y;clear Y;have e0:vs 0=_:=j 0 dd;obtain⟨u1,e1,p1⟩:∃u1,vs 1=u1∧(∃n,Mag W u1 x.natAbs n):=⟨_,rfl,j 1 dd⟩;have e2:vs 2=_:=j 2 dd;obtain⟨u3,e3,p3⟩:∃u3,vs 3=u3∧(∃n,Mag W u3 y.natAbs n):=⟨_,rfl,j 3 dd⟩;obtain⟨u4,e4,p4⟩:∃u4,vs 4=u4∧(∃M N nq nr,u4=.tuple #[M,N]∧Mag W M (x.natAbs / y.natAbs) nq∧Mag W N (x.natAbs%y.natAbs) nr):=⟨_,rfl,j 4 dd⟩;obtain⟨u5,I,p5⟩:∃u5,vs 5=u5∧(∃M N nq nr,u5=.tuple #[M,N]∧Mag W M (x.natAbs / y.natAbs) nq∧Mag W N (x.natAbs%y.natAbs) nr):=⟨_,rfl,j 5 dd⟩;obtain⟨u6,e6,p6⟩:∃u6,vs 6=u6∧(∃n,Mag W u6 (x.natAbs / y.natAbs) n):=⟨_,rfl,j 6 dd⟩;obtain⟨u7,e7,p7⟩:∃u7,vs 7=u7∧(∃n,Mag W u7 (x.natAbs%y.natAbs) n):=⟨_,rfl,j 7 dd⟩;obtain⟨u8,e8,p8⟩:∃u8,vs 8=u8∧(∃n,Mag W u8 (x.natAbs / y.natAbs) n):=⟨_,rfl,j 8 dd⟩;obtain⟨u9,e9,p9⟩:∃u9,vs 9=u9∧(∃n,Mag W u9 (x.natAbs%y.natAbs) n):=⟨_,rfl,j 9 dd⟩;simp only[zbp,Nat.reduceAdd,e0,e1,e2,e3,e4,I,e6,e7,e8,e9,Act.put,ll];clear j e0 e1 e2 e3 e4 I e6 e7 e8 e9;clear p1 p3 p5 p6 p7 HX HY;obtain⟨n8,gb⟩:=p8;obtain⟨n9,ib⟩:=p9;have F2:=T.out.below C;have F3:=H.out.below C;have F4:=D.out.below C;have F5:=F.out.below C;have X:=z.trans (C.mono z.size);clear z l2 l3 ga ka R U T H D F ha C;obtain⟨l2,ga,ka,-,-⟩:=id F2;obtain⟨l3,R,U,-,-⟩:=id F3;have T:Hid _:=F2;have H:Hid _:=F3;have D:Hid _:=F4;have F:Hid _:=F5;have ha:Hid _:=X;clear F2 F3 F4 F5 X;go_upto_region 4 with fail;refine zab (fun O=>O=W) rfl ?_;rintro O rfl;refine zaq za6 [⟨46,[],[],[2]⟩,⟨47,[0],[0],[]⟩,⟨48,[1],[0,1],[]⟩,⟨49,[],[],[3]⟩,⟨50,[3],[3],[]⟩,⟨51,[4],[3,4],[]⟩,⟨52,[2,5],[0,1,2,3,4,5],[]⟩,⟨53,[],[],[6]⟩,⟨54,[6,7],[0,1,2,3,4,5,6,7],[]⟩,⟨55,[],[],[2]⟩,⟨56,[9],[9],[]⟩,⟨57,[10],[9,10],[]⟩,⟨58,[],[],[7]⟩,⟨59,[8,11,12],[0,1,2,3,4,5,6,7,8,9,10,11,12],[]⟩] [] kfl 80 rfl kfl (fun (i:Nat) (v:Value) (S:World)=>match i with|0=>v=.pointer (some ⟨w.heap.size,0,none⟩)|1=>v=.int .i64 (s)|2=>v=.bool (decide ((s)<(0)))|3=>v=.pointer (some ⟨w.heap.size+1,0,none⟩)|4=>v=.int .i64 (t)|5=>v=.bool (decide ((t)<(0)))|6=>v=.bool ((decide ((s)<(0))) !=(decide ((t)<(0))))|7=>v=u8|8=>IsInt S v (x.tdiv y)|9=>v=.pointer (some ⟨w.heap.size,0,none⟩)|10=>v=.int .i64 (s)|11=>v=.bool (decide ((s)<(0)))|12=>v=u9|13=>IsInt S v (x.tmod y)|_=>True) (fun _ S=>Below O.heap.size O S) (fun A wy=>Below A.heap.size A wy) (zz).drew (fun i v A wy h V=>match i,h with|0,h=>h|1,h=>h|2,h=>h|3,h=>h|4,h=>h|5,h=>h|6,h=>h|7,h=>h|9,h=>h|10,h=>h|11,h=>h|12,h=>h|8,h=>(h:IsInt _ _ _).below V|13,h=>(h:IsInt _ _ _).below V|n+14,_=>trivial) ?_ ?_
     ·intro i o r l k L fr A u hL ja ia Z f g;clear hL ja ia Z
      match i,l,k with
      |0,l,k=>?_
      |1,l,k=>?_
      |2,l,k=>?_
      |3,l,k=>?_
      |4,l,k=>?_
      |5,l,k=>?_
      |6,l,k=>?_
      |7,l,k=>?_
      |8,l,k=>obtain rfl:=oi l;obtain rfl:=oi k;have e6:=evs 52 (f 6 dd _ rfl);have e7:=evs 53 (f 7 dd _ rfl);clear f g;refine zap rfl rfl fun K E=>?_;go_simp;refine(za7 A _ _ _ n8 (gb.below u)).mono ?_;rintro e wy ⟨v5,rfl,G,na⟩;exact E _ _ ⟨by rw[HD.out.1]at na;exact na,u.trans (G.mono u.size),G,nn⟩
      |9,l,k=>?_
      |10,l,k=>?_
      |11,l,k=>?_
      |12,l,k=>?_
      |13,l,k=>obtain rfl:=oi l;obtain rfl:=oi k;have ya:=evs 57 (f 11 dd _ rfl);have za:=evs 58 (f 12 dd _ rfl);clear f g;refine zap rfl rfl fun K E=>?_;go_simp;refine(za7 A _ _ _ n9 (ib.below u)).mono ?_;rintro e wy ⟨v5,rfl,G,na⟩;exact E _ _ ⟨by rw[HD.out.2]at na;exact na,u.trans (G.mono u.size),G,nn⟩
      |n+14,l,k=>exact absurd k (by simp)
      all_goals obtain rfl:=oi l;obtain rfl:=oi k;simp only[uxw,uw,evt]at f g;have cb:=(u.cell (p:=⟨w.heap.size,0,none⟩) l2).trans ga;have db:=(u.cell (p:=⟨w.heap.size+1,0,none⟩) l3).trans R;refine zap rfl rfl fun K E=>?_;go_simp;exact E _ _ ⟨rfl,u,zz,nn⟩
     ·intro vs W j C Y;clear Y;have e0:vs 0=_:=j 0 dd;have e1:vs 1=_:=j 1 dd;have e2:vs 2=_:=j 2 dd;have e3:vs 3=_:=j 3 dd;have e4:vs 4=_:=j 4 dd;have I:vs 5=_:=j 5 dd;have e6:vs 6=_:=j 6 dd;have e7:vs 7=_:=j 7 dd;obtain⟨u8,e8,p8⟩:∃u8,vs 8=u8∧(IsInt W u8 (x.tdiv y)):=⟨_,rfl,j 8 dd⟩;have e9:vs 9=_:=j 9 dd;have eb:vs 10=_:=j 10 dd;have ya:vs 11=_:=j 11 dd;have za:vs 12=_:=j 12 dd;obtain⟨u13,fb,ab⟩:∃u13,vs 13=u13∧(IsInt W u13 (x.tmod y)):=⟨_,rfl,j 13 dd⟩;simp only[zbp,Nat.reduceAdd,e0,e1,e2,e3,e4,I,e6,e7,e8,e9,eb,ya,za,fb,Act.put,ll];clear j e0 e1 e2 e3 e4 I e6 e7 e8 e9 eb ya za fb;have F2:=T.out.below C;have F3:=H.out.below C;have F4:=D.out.below C;have F5:=F.out.below C;have X:=ha.out.trans (C.mono ha.out.size);clear l2 l3 ga ka R U T H D F ha C gb ib;obtain⟨s8,a8,n8,c8,rfl⟩:=p8.form;obtain⟨s9,a9,n9,c9,rfl⟩:=ab.form;have qb:Hid (IsInt W (.agg #[.int .i64 s8,.slice a8 n8 c8]) (x.tdiv y)):=p8;have rb:Hid (IsInt W (.agg #[.int .i64 s9,.slice a9 n9 c9]) (x.tmod y)):=ab;have lb:Hid _:=X;have T:Hid _:=F2;have H:Hid _:=F3;have D:Hid _:=F4;have F:Hid _:=F5;obtain⟨l4,aa,ba,qa,ra⟩:=id F4;obtain⟨l5,ca,da,sa,ta⟩:=id F5;clear p8 ab X F2 F3 F4 F5;go_wp2_with fail;go_meet
      case rel=>
       have e4:=D.out.set (.int .i64 s8) (.slice a8 n8 c8);have I:=(F.out.other (.int .i64 s8) (.slice a8 n8 c8) (show w.heap.size+1+1+1≠w.heap.size+1+1 by omega));refine⟨zad (zad lb.out om _ _) om _ _,?_,?_,?_,?_⟩
       ·exact(T.out.other _ _ om).other _ _ om
       ·exact(H.out.other _ _ om).other _ _ om
       ·exact(IV.set D.out qb.out).other I om _ _
       ·exact IV.set I (IsInt.keep rb.out (D.out.keep _ _))
  case rest=>
   obtain⟨z,F2,F3,⟨s4,a4,n4,c4,F4,i4⟩,⟨s5,a5,n5,c5,F5,i5⟩⟩:=hcut;obtain⟨-,-,kb,-,-⟩:=i5.sgn;have I4:∀w2,Below w.heap.size w w2→Below wc.heap.size wc w2→IsInt w2 (.agg #[.int .i64 s4,.slice a4 n4 c4]) (x.tdiv y):=fun w2 _ h=>i4.below h;have I5:∀w2,Below w.heap.size w w2→Below wc.heap.size wc w2→IsInt w2 (.agg #[.int .i64 s5,.slice a5 n5 c5]) (x.tmod y):=fun w2 _ h=>i5.below h;have pb:Hid (IsInt wc (.agg #[.int .i64 s4,.slice a4 n4 c4]) (x.tdiv y)):=i4;have ob:Hid (IsInt wc (.agg #[.int .i64 s5,.slice a5 n5 c5]) (x.tmod y)):=i5;have T:Hid _:=F2;have H:Hid _:=F3;have D:Hid _:=F4;have F:Hid _:=F5;clear F2 F3 F4 F5 i4 i5 g1 g2 g3 g4 i1 i2 i3 q jb;have HQ:Hid ((x.tdiv y).natAbs<B^159):=Nat.lt_of_le_of_lt (_root_.Rad.tdiv_abs_le x y) HA.out;have ua:Hid ((1:Int).natAbs<B^159):=(by show 1<B^159;exact Nat.one_lt_pow dd dd);have HR:Hid ((x.tmod y).natAbs<B^LL):=(by show(x.tmod y).natAbs<B^LL;rw[Int.natAbs_tmod];exact Nat.lt_trans (Nat.mod_lt _ om) HB.out);have HY:∀w2,Below w.heap.size w w2→IsInt w2 (.agg #[.int .i64 t,.slice b m d]) y:=fun w2 h=>IsInt.below HY.out h;have xa:Hid (s5<0↔x.tmod y<0):=kb;have bb:Hid (t<0↔y<0):=wa;clear kb wa h0;by_cases h5:0≤s5
   ·obtain⟨l4,aa,ba,qa,ra⟩:=D.out;obtain⟨l5,ca,da,sa,ta⟩:=F.out;clear HY I4 I5;go_upto_region 6 with fail;refine zab (fun O=>O=wc) rfl ?_;rintro O rfl;go_region;have yb:=HS.out.1 (by have:=xa.out;omega);have I:=(F.out.other (.int .i64 s4) (.slice a4 n4 c4) (show w.heap.size+1+1+1≠w.heap.size+1+1 by omega));have k8:=(IsInt.keep pb.out (D.out.keep (.int .i64 s4) (.slice a4 n4 c4))).keep (I.keep (.int .i64 s5) (.slice a5 n5 c5));have k9:=(IsInt.keep ob.out (D.out.keep (.int .i64 s4) (.slice a4 n4 c4))).keep (I.keep (.int .i64 s5) (.slice a5 n5 c5));have hw:=zad (zad z (show w.heap.size≤w.heap.size+1+1 by omega) (.int .i64 s4) (.slice a4 n4 c4)) (show w.heap.size≤w.heap.size+1+1+1 by omega) (.int .i64 s5) (.slice a5 n5 c5);obtain⟨ea,fa⟩:=yb;rw[ea]at k8;rw[fa]at k9;have la:Hid _:=k8;have ma:Hid _:=k9;have HW:Hid _:=hw;clear I k8 k9 hw z ea fa;go_wp2;refine bodyPost_ret (v:= .tuple #[.agg #[.int .i64 s4,.slice a4 n4 c4],.agg #[.int .i64 s5,.slice a5 n5 c5]]) rs rfl ?_;exact⟨_,_,rfl,HW.out.drew,IsInt.below la.out (zae _),IsInt.below ma.out (zae _)⟩
   ·by_cases h6:t<0
    ·obtain⟨l3,R,U,-,-⟩:=H.out;obtain⟨l4,aa,ba,-,-⟩:=D.out;obtain⟨l5,ca,da,-,-⟩:=F.out;go_upto_region 8 with fail;refine zab (fun O=>O=wc) rfl ?_;rintro O rfl;refine zaq za6 [⟨68,[],[],[4]⟩,⟨69,[],[],[]⟩,⟨70,[0,1],[0,1],[]⟩,⟨71,[],[],[5]⟩,⟨72,[],[],[3]⟩,⟨73,[2,3,4],[0,1,2,3,4],[]⟩] [] kfl 80 rfl kfl (fun (i:Nat) (v:Value) (S:World)=>match i with|0=>v=.agg #[.int .i64 s4,.slice a4 n4 c4]|1=>IsInt S v 1|2=>IsInt S v (x.tdiv y+1)|3=>v=.agg #[.int .i64 s5,.slice a5 n5 c5]|4=>v=.agg #[.int .i64 t,.slice b m d]|5=>IsInt S v (x.tmod y-y)|_=>True) (fun _ S=>Below O.heap.size O S) (fun A wy=>Below A.heap.size A wy) (zz).drew (fun i v A wy h V=>match i,h with|0,h=>h|3,h=>h|4,h=>h|1,h=>(h:IsInt _ _ _).below V|2,h=>(h:IsInt _ _ _).below V|5,h=>(h:IsInt _ _ _).below V|n+6,_=>trivial) ?_ ?_
     ·intro i o r l k L fr A u hL ja ia Z f g;clear hL ja ia Z
      match i,l,k with
      |0,l,k=>?_
      |1,l,k=>obtain rfl:=oi l;obtain rfl:=oi k;clear f g;refine zap rfl rfl fun K E=>?_;go_simp;refine(zga A 1 dd dd).mono ?_;rintro e wy ⟨v4,rfl,G,J⟩;exact E _ _ ⟨J,u.trans (G.mono u.size),G,nn⟩
      |2,l,k=>obtain rfl:=oi l;obtain rfl:=oi k;have e0:=evs 68 (f 0 dd _ rfl);obtain⟨u1,e1,p1⟩:=evr 69 (P:=fun u1=>IsInt A u1 1) (f 1 dd _ rfl);clear f g;refine zap rfl rfl fun K E=>?_;go_simp;refine(add_any A _ _ _ _ 159 (I4 A (z.trans (u.mono z.size)) u) p1 HQ.out ua.out om).mono ?_;rintro e wy ⟨v4,rfl,G,J⟩;exact E _ _ ⟨J,u.trans (G.mono u.size),G,nn⟩
      |3,l,k=>?_
      |4,l,k=>?_
      |5,l,k=>obtain rfl:=oi l;obtain rfl:=oi k;have e3:=evs 71 (f 3 dd _ rfl);have e4:=evs 72 (f 4 dd _ rfl);clear f g;refine zap rfl rfl fun K E=>?_;go_simp;refine(sub_any A _ _ _ _ LL (I5 A (z.trans (u.mono z.size)) u) (HY A (z.trans (u.mono z.size))) HR.out HB.out om).mono ?_;rintro e wy ⟨v4,rfl,G,J⟩;exact E _ _ ⟨J,u.trans (G.mono u.size),G,nn⟩
      |n+6,l,k=>exact absurd k (by simp)
      all_goals obtain rfl:=oi l;obtain rfl:=oi k;simp only[uxw,uw,evt]at f g;have cb:=(u.cell (p:=⟨w.heap.size+1+1,0,none⟩) l4).trans aa;have db:=(u.cell (p:=⟨w.heap.size+1+1,1,none⟩) l4).trans ba;have tb:=(u.cell (p:=⟨w.heap.size+1+1+1,0,none⟩) l5).trans ca;have ub:=(u.cell (p:=⟨w.heap.size+1+1+1,1,none⟩) l5).trans da;have wb:=(u.cell (p:=⟨w.heap.size+1,0,none⟩) l3).trans R;have xb:=(u.cell (p:=⟨w.heap.size+1,1,none⟩) l3).trans U;refine zap rfl rfl fun K E=>?_;go_simp;exact E _ _ ⟨rfl,u,zz,nn⟩
     ·intro vs W j C Y;clear Y;have e0:vs 0=_:=j 0 dd;obtain⟨u1,e1,p1⟩:∃u1,vs 1=u1∧(IsInt W u1 1):=⟨_,rfl,j 1 dd⟩;obtain⟨u2,e2,p2⟩:∃u2,vs 2=u2∧(IsInt W u2 (x.tdiv y+1)):=⟨_,rfl,j 2 dd⟩;have e3:vs 3=_:=j 3 dd;have e4:vs 4=_:=j 4 dd;obtain⟨u5,I,p5⟩:∃u5,vs 5=u5∧(IsInt W u5 (x.tmod y-y)):=⟨_,rfl,j 5 dd⟩;simp only[zbp,Nat.reduceAdd,e0,e1,e2,e3,e4,I,Act.put,ll];clear j e0 e1 e2 e3 e4 I;have F4:=D.out.below C;have F5:=F.out.below C;have X:=z.trans (C.mono z.size);clear l3 l4 l5 R U aa ba ca da p1 T H D F z C I4 I5 HY;obtain⟨s8,a8,n8,c8,rfl⟩:=p2.form;obtain⟨s9,a9,n9,c9,rfl⟩:=p5.form;have I:=(F5.other (.int .i64 s8) (.slice a8 n8 c8) (show w.heap.size+1+1+1≠w.heap.size+1+1 by omega));have k8:=(p2.keep (F4.keep (.int .i64 s8) (.slice a8 n8 c8))).keep (I.keep (.int .i64 s9) (.slice a9 n9 c9));have k9:=(p5.keep (F4.keep (.int .i64 s8) (.slice a8 n8 c8))).keep (I.keep (.int .i64 s9) (.slice a9 n9 c9));have hw:=zad (zad X (show w.heap.size≤w.heap.size+1+1 by omega) (.int .i64 s8) (.slice a8 n8 c8)) (show w.heap.size≤w.heap.size+1+1+1 by omega) (.int .i64 s9) (.slice a9 n9 c9);obtain⟨ea,fa⟩:=HS.out.2.1 (by have:=xa.out;omega) (bb.out.1 h6);rw[ea]at k8;rw[fa]at k9;have la:Hid _:=k8;have ma:Hid _:=k9;have HW:Hid _:=hw;obtain⟨l4,aa,ba,qa,ra⟩:=F4;obtain⟨l5,ca,da,sa,ta⟩:=F5;clear p2 p5 I k8 k9 hw X ea fa;go_wp2;refine bodyPost_ret (v:= .tuple #[.agg #[.int .i64 s8,.slice a8 n8 c8],.agg #[.int .i64 s9,.slice a9 n9 c9]]) rs rfl ?_;exact⟨_,_,rfl,HW.out,la.out,ma.out⟩
    ·obtain⟨l3,R,U,-,-⟩:=H.out;obtain⟨l4,aa,ba,-,-⟩:=D.out;obtain⟨l5,ca,da,-,-⟩:=F.out;go_upto_region 9 with fail;refine zab (fun O=>O=wc) rfl ?_;rintro O rfl;refine zaq za6 [⟨74,[],[],[4]⟩,⟨75,[],[],[]⟩,⟨76,[0,1],[0,1],[]⟩,⟨77,[],[],[5]⟩,⟨78,[],[],[3]⟩,⟨79,[2,3,4],[0,1,2,3,4],[]⟩] [] kfl 80 rfl kfl (fun (i:Nat) (v:Value) (S:World)=>match i with|0=>v=.agg #[.int .i64 s4,.slice a4 n4 c4]|1=>IsInt S v 1|2=>IsInt S v (x.tdiv y-1)|3=>v=.agg #[.int .i64 s5,.slice a5 n5 c5]|4=>v=.agg #[.int .i64 t,.slice b m d]|5=>IsInt S v (x.tmod y+y)|_=>True) (fun _ S=>Below O.heap.size O S) (fun A wy=>Below A.heap.size A wy) (zz).drew (fun i v A wy h V=>match i,h with|0,h=>h|3,h=>h|4,h=>h|1,h=>(h:IsInt _ _ _).below V|2,h=>(h:IsInt _ _ _).below V|5,h=>(h:IsInt _ _ _).below V|n+6,_=>trivial) ?_ ?_
     ·intro i o r l k L fr A u hL ja ia Z f g;clear hL ja ia Z
      match i,l,k with
      |0,l,k=>?_
      |1,l,k=>obtain rfl:=oi l;obtain rfl:=oi k;clear f g;refine zap rfl rfl fun K E=>?_;go_simp;refine(zga A 1 dd dd).mono ?_;rintro e wy ⟨v4,rfl,G,J⟩;exact E _ _ ⟨J,u.trans (G.mono u.size),G,nn⟩
      |2,l,k=>obtain rfl:=oi l;obtain rfl:=oi k;have e0:=evs 74 (f 0 dd _ rfl);obtain⟨u1,e1,p1⟩:=evr 75 (P:=fun u1=>IsInt A u1 1) (f 1 dd _ rfl);clear f g;refine zap rfl rfl fun K E=>?_;go_simp;refine(sub_any A _ _ _ _ 159 (I4 A (z.trans (u.mono z.size)) u) p1 HQ.out ua.out om).mono ?_;rintro e wy ⟨v4,rfl,G,J⟩;exact E _ _ ⟨J,u.trans (G.mono u.size),G,nn⟩
      |3,l,k=>?_
      |4,l,k=>?_
      |5,l,k=>obtain rfl:=oi l;obtain rfl:=oi k;have e3:=evs 77 (f 3 dd _ rfl);have e4:=evs 78 (f 4 dd _ rfl);clear f g;refine zap rfl rfl fun K E=>?_;go_simp;refine(add_any A _ _ _ _ LL (I5 A (z.trans (u.mono z.size)) u) (HY A (z.trans (u.mono z.size))) HR.out HB.out om).mono ?_;rintro e wy ⟨v4,rfl,G,J⟩;exact E _ _ ⟨J,u.trans (G.mono u.size),G,nn⟩
      |n+6,l,k=>exact absurd k (by simp)
      all_goals obtain rfl:=oi l;obtain rfl:=oi k;simp only[uxw,uw,evt]at f g;have cb:=(u.cell (p:=⟨w.heap.size+1+1,0,none⟩) l4).trans aa;have db:=(u.cell (p:=⟨w.heap.size+1+1,1,none⟩) l4).trans ba;have tb:=(u.cell (p:=⟨w.heap.size+1+1+1,0,none⟩) l5).trans ca;have ub:=(u.cell (p:=⟨w.heap.size+1+1+1,1,none⟩) l5).trans da;have wb:=(u.cell (p:=⟨w.heap.size+1,0,none⟩) l3).trans R;have xb:=(u.cell (p:=⟨w.heap.size+1,1,none⟩) l3).trans U;refine zap rfl rfl fun K E=>?_;go_simp;exact E _ _ ⟨rfl,u,zz,nn⟩
     ·intro vs W j C Y;clear Y;have e0:vs 0=_:=j 0 dd;obtain⟨u1,e1,p1⟩:∃u1,vs 1=u1∧(IsInt W u1 1):=⟨_,rfl,j 1 dd⟩;obtain⟨u2,e2,p2⟩:∃u2,vs 2=u2∧(IsInt W u2 (x.tdiv y-1)):=⟨_,rfl,j 2 dd⟩;have e3:vs 3=_:=j 3 dd;have e4:vs 4=_:=j 4 dd;obtain⟨u5,I,p5⟩:∃u5,vs 5=u5∧(IsInt W u5 (x.tmod y+y)):=⟨_,rfl,j 5 dd⟩;simp only[zbp,Nat.reduceAdd,e0,e1,e2,e3,e4,I,Act.put,ll];clear j e0 e1 e2 e3 e4 I;have F4:=D.out.below C;have F5:=F.out.below C;have X:=z.trans (C.mono z.size);clear l3 l4 l5 R U aa ba ca da p1 T H D F z C I4 I5 HY;obtain⟨s8,a8,n8,c8,rfl⟩:=p2.form;obtain⟨s9,a9,n9,c9,rfl⟩:=p5.form;have I:=(F5.other (.int .i64 s8) (.slice a8 n8 c8) (show w.heap.size+1+1+1≠w.heap.size+1+1 by omega));have k8:=(p2.keep (F4.keep (.int .i64 s8) (.slice a8 n8 c8))).keep (I.keep (.int .i64 s9) (.slice a9 n9 c9));have k9:=(p5.keep (F4.keep (.int .i64 s8) (.slice a8 n8 c8))).keep (I.keep (.int .i64 s9) (.slice a9 n9 c9));have hw:=zad (zad X (show w.heap.size≤w.heap.size+1+1 by omega) (.int .i64 s8) (.slice a8 n8 c8)) (show w.heap.size≤w.heap.size+1+1+1 by omega) (.int .i64 s9) (.slice a9 n9 c9);obtain⟨ea,fa⟩:=HS.out.2.2 (by have:=xa.out;omega) (by have:=bb.out;omega);rw[ea]at k8;rw[fa]at k9;have la:Hid _:=k8;have ma:Hid _:=k9;have HW:Hid _:=hw;obtain⟨l4,aa,ba,qa,ra⟩:=F4;obtain⟨l5,ca,da,sa,ta⟩:=F5;clear p2 p5 I k8 k9 hw X ea fa;go_wp2;refine bodyPost_ret (v:= .tuple #[.agg #[.int .i64 s8,.slice a8 n8 c8],.agg #[.int .i64 s9,.slice a9 n9 c9]]) rs rfl ?_;exact⟨_,_,rfl,HW.out,la.out,ma.out⟩
theorem ze7 (w:World) (s:ByteArray) (j:0<s.size) (o:s.size≤9223372036854775806) (r:Nat) (f:(_root_.Rad.digs s.data.toList).length=r):
 Calls Tryz.prog 67 #[.string s] w fun e w'=>e=.returned (.int .i64 (r:Int))∧w'=w:=by
 have c:=zfm j;have k:(0:Int)<(s.size:Int):=om;by_cases d:s[0]=45
 ·have g:(s[0].toNat:Int)=45:=(by rw[d];rfl);have b:(s.size:Int)-1=(r:Int):=(by have m:s.size=r+1:=(by rw[←f,←zak s,c,d,_root_.Rad.digs_neg];simp);omega);clear c f;go_enter Tryz.func67,Tryz.ntmps67;go_wp2;go_ret;exact⟨rfl,rfl⟩
 ·have g:¬(s[0].toNat:Int)=45:=zgj (n:=45) dd d;have b:s.size=r:=(by rw[←f,←zak s,c,_root_.Rad.digs_pos d]);have l:(((s[0].toNat:Nat):Int)==45)=false:=(by simpa using g);subst b;clear c f;go_enter Tryz.func67,Tryz.ntmps67;go_wp2;go_ret;exact⟨rfl,rfl⟩
theorem zcv {s:ByteArray} {k r:Nat} (n:r=k+_root_.Rad.runD (s.data.toList.drop k)) (j:k≤s.size):
 r≤s.size∧(∀i (h:i<s.size),k≤i→i<r→48≤(s[i].toNat:Int)∧(s[i].toNat:Int)≤57)∧(∀(h:r<s.size),((s[r].toNat:Int)<48∨57<(s[r].toNat:Int))):=by
 have m:(s.data.toList.drop k).length=s.size-k:=(by rw[List.length_drop,zak]);have d:=_root_.Rad.runD_le (s.data.toList.drop k);have b:∀i (h:i<s.size),s.data.toList[i]'(by rw[zak];exact h)=s[i]:=fun i h=>rfl;refine⟨by omega,fun i h f g=>?_,fun h=>?_⟩
 ·have c:=_root_.Rad.runD_at (l:=s.data.toList.drop k) (i:=i-k) om om;rw[List.getElem_drop]at c;have e:s.data.toList[k+(i-k)]'(by rw[zak];omega)=s[i]:=(by rw[←b i h];congr 1;omega);rw[e]at c;unfold _root_.Rad.IsDg at c;omega
 ·have c:=_root_.Rad.runD_stop (l:=s.data.toList.drop k) om;rw[List.getElem_drop]at c;have e:s.data.toList[k+_root_.Rad.runD (s.data.toList.drop k)]'(by rw[zak];omega)=s[r]:=(by rw[←b r h];congr 1;omega);rw[e]at c;unfold _root_.Rad.IsDg at c;omega
theorem tup2 {x y:Int} {a b:Bool} (h:x=y) (c:a=b):Ending.returned (.tuple #[.int .i64 x,.bool a])=Ending.returned (.tuple #[.int .i64 y,.bool b]):=by rw[h,c]
theorem word_tt (w:World) (s:ByteArray) (X:s.size≤9223372036854775806) (r:Nat) (u:Bool) (d:r=_root_.Rad.wlen s.data.toList) (b:u=true↔_root_.Rad.Valid (s.data.toList.take (_root_.Rad.wlen s.data.toList))):
 Calls Tryz.prog 66 #[.string s,.bool true,.bool true] w fun e w'=>e=.returned (.tuple #[.int .i64 (r:Int),.bool u])∧w'=w:=by
 by_cases P:s.size=0
 ·have c:s.data.toList=[]:=List.eq_nil_of_length_eq_zero (by rw[zak];exact P);rw[c]at d b;have t:r=0:=d;subst t;obtain rfl:u=false:=(by rw[←Bool.not_eq_true,b];exact _root_.Rad.valid_take_nil);have O:s=ByteArray.empty:=(by apply ByteArray.ext;apply Array.toList_inj.1;rw[c];rfl);clear b c;subst O;go_enter Tryz.func66,Tryz.ntmps66;go_wp2;go_loop [9] (fun j=>j=.int .i64 0) (fun j=>0)
  case atStart=>rfl
  case round=>obtain rfl:=hrel;go_wp2;go_ret2;exact⟨rfl,rfl⟩
 ·have T:0<s.size:=om;have m:=zfm T;have U:(0:Int)<(s.size:Int):=om;by_cases y:s[0]=45
  ·have N:(s[0].toNat:Int)=45:=(by rw[y];rfl);rw[m,y]at d b;rw[_root_.Rad.valid_take_neg]at b;rw[_root_.Rad.wlen_neg]at d;by_cases p:1<s.size
   ·have o:(1:Int)<(s.size:Int):=om;have q:(s.data.toList.drop 1).head? =some s[1]:=(by have S:1<s.data.toList.length:=(by rw[zak];exact p);rw[List.head?_drop,List.getElem?_eq_getElem S];rfl);by_cases F:s[1]=48
    ·rw[q,F]at d b;rw[if_pos rfl]at d;obtain rfl:r=1:=d;obtain rfl:u=false:=(by rw[←Bool.not_eq_true,b];simp);have E:(s[1].toNat:Int)=48:=(by rw[F];rfl);clear b q m;go_enter Tryz.func66,Tryz.ntmps66;go_wp2;go_ret2;exact⟨rfl,rfl⟩
    ·have E:¬(s[1].toNat:Int)=48:=zgj (n:=48) dd F;have I:¬(s.data.toList.drop 1).head? =some 48:=(by rw[q];intro h;exact F (oi h));rw[if_neg I]at d;obtain⟨M,f,g⟩:=zcv d om;have z:Hid _:=f;have C:Hid _:=g;have R:1≤r:=om;have l:u=decide ((1:Int)<(r:Int)):=by
      rw[Bool.eq_iff_iff,b,decide_eq_true_eq];constructor
      ·intro h;omega
      ·intro h;exact⟨I,by omega⟩
     have x:Hid _:=l;clear d b q m f g I l;go_enter Tryz.func66,Tryz.ntmps66;go_wp2;go_loop [9] (fun j=>∃i:Nat,1≤i∧i≤r∧j=.int .i64 (i:Int)) (fun j=>s.size-(intOf j).toNat)
     case atStart=>exact⟨1,Nat.le_refl _,by omega,rfl⟩
     case round=>
      obtain⟨i,B,J,rfl⟩:=hrel;by_cases A:i=r
      ·subst A;by_cases L:i=s.size
       ·have D:¬(i:Int)<(s.size:Int):=om;go_wp2
        (go_ret2;exact⟨tup2 rfl (by have k:=x.out;subst k;first|rfl|(apply Bool.eq_iff_iff.2;simp;done)|(apply Bool.eq_iff_iff.2;simp;omega)),rfl⟩)
       ·have D:(i:Int)<(s.size:Int):=om;have o:i<s.size:=om;rcases C.out o with h|h
        ·have G:¬48≤(s[i].toNat:Int):=om;go_wp2
         (go_ret2;exact⟨tup2 rfl (by have k:=x.out;subst k;first|rfl|(apply Bool.eq_iff_iff.2;simp;done)|(apply Bool.eq_iff_iff.2;simp;omega)),rfl⟩)
        ·have G:48≤(s[i].toNat:Int):=om;have H:¬(s[i].toNat:Int)≤57:=om;go_wp2
         (go_ret2;exact⟨tup2 rfl (by have k:=x.out;subst k;first|rfl|(apply Bool.eq_iff_iff.2;simp;done)|(apply Bool.eq_iff_iff.2;simp;omega)),rfl⟩)
      ·have D:(i:Int)<(s.size:Int):=om;have o:i<s.size:=om;obtain⟨y,p⟩:=z.out i o B om;go_wp2;exact⟨⟨i+1,by omega,by omega,by go_num⟩,by simp[intOf];omega⟩
   ·have c:s.data.toList.drop 1=[]:=List.eq_nil_of_length_eq_zero (by rw[List.length_drop,zak];omega);rw[c]at d b;obtain rfl:r=1:=d;obtain rfl:u=false:=(by rw[←Bool.not_eq_true,b];simp[_root_.Rad.runD]);have o:(s.size:Int)=1:=om;clear b c m;go_enter Tryz.func66,Tryz.ntmps66;go_wp2;go_loop [9] (fun j=>j=.int .i64 1) (fun j=>0)
    case atStart=>rfl
    case round=>obtain rfl:=hrel;go_wp2;go_ret2;exact⟨rfl,rfl⟩
  ·have N:¬(s[0].toNat:Int)=45:=zgj (n:=45) dd y;by_cases p:s[0]=48
   ·have E:(s[0].toNat:Int)=48:=(by rw[p];rfl);rw[m,p]at d b;rw[_root_.Rad.wlen_zero]at d;obtain rfl:r=1:=d;obtain rfl:u=true:=(by rw[b];exact _root_.Rad.valid_take_zero _);clear b m;go_enter Tryz.func66,Tryz.ntmps66;go_wp2;go_ret2;exact⟨rfl,rfl⟩
   ·have E:¬(s[0].toNat:Int)=48:=zgj (n:=48) dd p;rw[m]at d b;rw[_root_.Rad.valid_take_pos y p,←m]at b;rw[_root_.Rad.wlen_pos y p,←m]at d;have t:r=0+_root_.Rad.runD (s.data.toList.drop 0):=(by rw[Nat.zero_add];exact d);obtain⟨M,f,g⟩:=zcv t om;have z:Hid _:=f;have C:Hid _:=g;have l:u=decide ((0:Int)<(r:Int)):=(by rw[Bool.eq_iff_iff,b,decide_eq_true_eq];omega);have x:Hid _:=l;have V:(((s[0].toNat:Nat):Int)==45)=false:=(by simpa using N);have W:(((s[0].toNat:Nat):Int)==48)=false:=(by simpa using E);clear d t b m f g l;go_enter Tryz.func66,Tryz.ntmps66;go_wp2;go_loop [9] (fun j=>∃i:Nat,0≤i∧i≤r∧j=.int .i64 (i:Int)) (fun j=>s.size-(intOf j).toNat)
    case atStart=>exact⟨0,Nat.le_refl _,by omega,rfl⟩
    case round=>
     obtain⟨i,B,J,rfl⟩:=hrel;by_cases A:i=r
     ·subst A;by_cases L:i=s.size
      ·have D:¬(i:Int)<(s.size:Int):=om;go_wp2
       (go_ret2;exact⟨tup2 rfl (by have k:=x.out;subst k;first|rfl|(apply Bool.eq_iff_iff.2;simp;done)|(apply Bool.eq_iff_iff.2;simp;omega)),rfl⟩)
      ·have D:(i:Int)<(s.size:Int):=om;have o:i<s.size:=om;rcases C.out o with h|h
       ·have G:¬48≤(s[i].toNat:Int):=om;go_wp2
        (go_ret2;exact⟨tup2 rfl (by have k:=x.out;subst k;first|rfl|(apply Bool.eq_iff_iff.2;simp;done)|(apply Bool.eq_iff_iff.2;simp;omega)),rfl⟩)
       ·have G:48≤(s[i].toNat:Int):=om;have H:¬(s[i].toNat:Int)≤57:=om;go_wp2
        (go_ret2;exact⟨tup2 rfl (by have k:=x.out;subst k;first|rfl|(apply Bool.eq_iff_iff.2;simp;done)|(apply Bool.eq_iff_iff.2;simp;omega)),rfl⟩)
     ·have D:(i:Int)<(s.size:Int):=om;have o:i<s.size:=om;obtain⟨y,p⟩:=z.out i o B om;go_wp2;exact⟨⟨i+1,by omega,by omega,by go_num⟩,by simp[intOf];omega⟩
inductive ZIn (ao:Option Addr):Value→Prop
 |mk (s:Bool) (a:Option Addr) (k c:Nat) (h:a=none∨a=ao):ZIn ao (.agg #[.bool s,.slice a k c])
theorem zca (w:World) (neg:Bool) (E:Option Addr) (b o n c x:Nat) (hs:Sl E b o n) (hc:n≤c) (t:c≤maxLen) (F:Arr .i64 10000 w b o n) (U:num 10000 w b o n=x):
 Calls Tryz.prog 73 #[.bool neg,.slice E n c] w fun e w'=>∃v,e=.returned v∧Below w.heap.size w w'∧IsZ w' v (sgn neg x)∧ZIn E v:=by
 have M:Hid (Rez w (w.alloc (Obj.cells #[Value.bool false,Value.slice none 0 0] 31)) w.heap.size∧Arr .i64 10000 (w.alloc (Obj.cells #[Value.bool false,Value.slice none 0 0] 31)) b o n∧num 10000 (w.alloc (Obj.cells #[Value.bool false,Value.slice none 0 0] 31)) b o n=x):=⟨Rez.mk0 w,zaf F (zao w _),(zal F (zao w _)).trans U⟩;have u:=t;unfold maxLen at t;clear F U;go_enter Tryz.func73,Tryz.ntmps73;go_wp2;refine zab (fun d=>Rez w d w.heap.size∧Arr .i64 10000 d b o n∧num 10000 d b o n=x) M.out ?_;clear M;rintro d ⟨R,O,P⟩;have B:Hid _:=R;have L:Hid _:=O;have s:Hid _:=P;clear R O P;go_loop [5] (fun J=>∃k:Nat,k≤n∧J=.int .i64 (k:Int)∧∀i,k≤i→i<n→word d b (o+i)=0) (fun J=>(intOf J).toNat)
 case atStart=>exact⟨n,Nat.le_refl _,rfl,fun i h1 N=>by omega⟩
 case round=>
  obtain⟨k,T,rfl,V⟩:=hrel;have m:Hid _:=V;clear V;by_cases H:k=0
  ·subst H;have z:x=0:=(by rw[←s.out,←zc8 (Nat.zero_le n) m.out];rfl);have p:=zfi d;obtain⟨q,r⟩:=B.out.done p;have f:Hid _:=q;have g:Hid _:=r;obtain⟨-,-,lt,k0,k1,Z,f1⟩:=B.out;have D:Hid _:=z;clear q r p z s m;go_wp2;refine bodyPost_ret (v:= .agg #[.bool false,.slice none 0 0]) rt rfl ?_;exact⟨_,rfl,f.out,by rw[show sgn neg x=0 by rw[D.out];cases neg <;> rfl];exact g.out,.mk _ _ _ _ (.inl rfl)⟩
  ·have c1:(0:Int)<(k:Int):=om;obtain rfl:=hs om;obtain⟨j,rfl⟩:∃j,k=j+1:=⟨k-1,by omega⟩;have l:=zah L.out (i:=j) om;have e1:((j+1:Nat):Int)-1=(j:Int):=om;obtain⟨y,I⟩:∃y,word d b (o+j)=y:=⟨_,rfl⟩;rw[I]at l;have C:Hid _:=I;clear I;by_cases A:y=0
   ·have W:(y:Int)=0:=om;have X:j<n:=om;go_wp2;refine⟨⟨j,by omega,by go_num,fun i h1 N=>?_⟩,by simp[intOf]⟩;by_cases G:i=j
    ·rw[G,C.out];exact A
    ·exact m.out i om N
   ·have W:¬(y:Int)=0:=om;have X:j<n:=om;have p:IsZ d (.agg #[.bool (decide (sgn neg x<0)),.slice (some ⟨b,o,none⟩) (j+1) c]) (sgn neg x):=by
     have Y:(sgn neg x).natAbs=x:=(by unfold sgn;cases neg <;> simp);refine⟨_,j+1,rfl,_,b,o,c,rfl,Sl.mk _ _ _,by omega,u,fun i hi=>L.out i om,?_,.inr ?_⟩
     ·rw[zc8 T m.out,s.out,Y]
     ·rw[Nat.add_sub_cancel,C.out];exact A
    have S:decide (sgn neg x<0)=neg:=(by have aa:0<x:=(by rw[←s.out,←zc8 T m.out,zam,C.out];have:0<10000^j*y:=Nat.mul_pos (Nat.pow_pos dd) om;omega);unfold sgn;cases neg <;> simp <;> omega);rw[S]at p;obtain⟨q,r⟩:=B.out.done p;have f:Hid _:=q;have g:Hid _:=r;obtain⟨-,-,lt,k0,k1,Z,f1⟩:=B.out;have c4:(j:Int)+1≤(c:Int):=om;clear q r p S s m C;go_wp2;refine bodyPost_ret (v:= .agg #[.bool neg,.slice (some ⟨b,o,none⟩) (j+1) c]) rt rfl ?_;exact⟨_,rfl,f.out,g.out,.mk _ _ _ _ (.inr rfl)⟩
def ZNew (B:Nat) (v:Value):Prop:=∀(s:Bool) (a:Option Addr) (n c:Nat),v=.agg #[.bool s,.slice a n c]→∀x,a=some x→B≤x.block
theorem ZIn.new {b:Option Addr} {v:Value} {B:Nat} (h:ZIn b v) (g:∀x,b=some x→B≤x.block):ZNew B v:=by
 intro s a n c d x f;cases h with
 |mk s' a' k c' h=>
  simp only[Value.agg.injEq,Array.mk.injEq,List.cons.injEq,Value.slice.injEq,and_true]at d;rw[d.2.1]at h;rcases h with h|h
  ·rw[f]at h;cases h
  ·exact g x (by rw[←h];exact f)
theorem ZNew.mono {B C:Nat} {v:Value} (h:ZNew B v) (b:C≤B):ZNew C v:=fun s a n c d x f=>Nat.le_trans b (h s a n c d x f)
theorem ZNew.at {B:Nat} {s:Bool} {a:Option Addr} {n c:Nat} (h:ZNew B (.agg #[.bool s,.slice a n c])):∀x,a=some x→B≤x.block:=h s a n c rfl
theorem ZNew.mk {B:Nat} {s:Bool} {a:Option Addr} {n c:Nat} (h:∀x,a=some x→B≤x.block):ZNew B (.agg #[.bool s,.slice a n c]):=by intro k f j g b x d;simp only[Value.agg.injEq,Array.mk.injEq,List.cons.injEq,Value.slice.injEq,and_true]at b;exact h x (by rw[b.2.1];exact d)
theorem ZNew.nil (B:Nat) (s:Bool):ZNew B (.agg #[.bool s,.slice none 0 0]):=ZNew.mk fun x b=>by cases b
def IsZN (w:World) (v:Value) (z:Int) (p:Prop) (B:Nat):Prop:=IsZ w v z∧(p→ZNew B v)
theorem IsZN.form {w:World} {v:Value} {z:Int} {p:Prop} {B:Nat} (h:IsZN w v z p B):∃b a n c,v=.agg #[.bool b,.slice a n c]:=h.1.form
end Go.Proofs.YtjlkplidpdhgbaaGreatDoor
