/- A part of the proof: V3, V4, R1, Tx3, Tx4, Tx5, Tx6, Pm15, Pm16. -/
import Derived.Test.YtjlkplidpdhgbaaGreatDoorP00
import Derived.Test.YtjlkplidpdhgbaaGreatDoorP14
import Derived.Test.YtjlkplidpdhgbaaGreatDoorP04
set_option linter.all false
set_option maxRecDepth 10000
set_option maxHeartbeats 4000000
namespace Go.Proofs.YtjlkplidpdhgbaaGreatDoor
open Go Go.Proofs Go.RowKit Go.Rad
theorem chunk_word {β M p W d0 x d X:Nat} (h:W+p*d=X*M+d0):(W+p*((x*M+d)%β))+p*β*((x*M+d) / β)=(X+p*x)*M+d0:=by have b:=Nat.mod_add_div (x*M+d) β;have c:p*((x*M+d)%β)+p*β*((x*M+d) / β)=p*(x*M+d):=(by rw[Nat.mul_assoc,←Nat.mul_add,b]);have f:p*(x*M+d)=p*x*M+p*d:=(by rw[Nat.mul_add,Nat.mul_assoc]);rw[Nat.add_mul];omega
def strLen:Value→Nat
 | .string t=>t.size
 |_=>0
theorem value_long (w:World) (s:ByteArray) (hV:_root_.Rad.Valid s.data.toList) (hs:s.size≤1001) (hl:18<(_root_.Rad.digs s.data.toList).length) (h0:0<s.size) (z:Int) (hz:z=_root_.Rad.val s.data.toList):
 Calls Tryz.prog 65 #[.string s] w fun e w'=>∃v,e=.returned v∧Below w.heap.size w w'∧IsInt w' v z:=by
 have R:=Res.mk0 w;go_enter Tryz.func65,Tryz.ntmps65;go_wp2_with (go_at_call 101;fail);have CW:=zck (w.alloc (Obj.cells #[Value.int IntKind.i64 0,Value.slice none 0 0] 24)) s om h0;refine CW.mono ?_;rintro e w2 ⟨b,t,rfl,ht,hb,pc,n,hw⟩;have R2:Res w w2 w.heap.size:=R.step (B:=w.heap.size+1) (by subst hw;exact za8 _ _ _) om;have jc:18<t.size:=(by rw[←zas,ht];exact hl);clear hw R CW;have c1:¬(t.size:Int)≤18:=om;obtain⟨V,la⟩:∃V,V=_root_.Rad.dval t.data.toList:=⟨_,rfl⟩;have kb:z=sgn b V:=by
  rw[hz,la,ht];unfold _root_.Rad.val sgn;by_cases W:s.data.toList.head? =some 45
  ·rw[if_pos W,if_pos (hb.2 W)]
  ·rw[if_neg W,if_neg (fun h=>W (hb.1 h))]
 have ya:∀c∈t.data.toList,_root_.Rad.IsDg c:=(by rw[ht];exact hV.digits);obtain⟨C,hC⟩:∃C,C=t.size / 19+1:=⟨_,rfl⟩;have gc:((t.size:Int) / 19+1)=(C:Int):=om;have rb:C≤1099511627776:=om;obtain⟨L,hL⟩:∃L,t.size=L:=⟨_,rfl⟩;have HZ:Hid _:=kb;have ta:Hid _:=ya;have HV:Hid _:=la;have HL:Hid _:=hL;have HR:Hid _:=R2;have ub:w.heap.size<w2.heap.size:=R2.lt;clear hz kb ya la ht hb hV hl hL R2 hC;go_wp2_with (at_make;refine zfv .u64 98 rfl _ _ 22 rfl Tryz.underlying22 8 zb0 dd .i64 .i64 _ C rfl rfl rfl rb (w.heap.size+1) om ?_;intro w3 N wa);have R3:Res w w3 w.heap.size:=HR.out.step wa ub;clear HR wa;go_loopw [4,7] (fun s4 s7 wr=>∃(g:ByteArray) (xs:List Nat),s4=.string g∧RowN .u64 98 wr (w.heap.size+1) s7 xs∧(∀x∈xs,x<B)∧(∀c∈g.data.toList,_root_.Rad.IsDg c)∧lv B xs*10^g.data.toList.length+_root_.Rad.dval g.data.toList=V∧(xs=[]∨g.size%19=0)∧xs.length+g.size≤L∧L≤1001∧Res w wr w.heap.size)
  (fun s4 _ _=>strLen s4)
 case atStart=>exact⟨t,[],rfl,N,by simp,ta.out,by rw[HV.out];simp[lv],.inl rfl,by have:=HL.out;simp;omega,by have:=HL.out;omega,R3⟩
 case round=>
  obtain⟨g,xs,rfl,f,P,I,m,M,ab,hL,H⟩:=hrel;clear N R3 ta HV HL;have ka:=H.lt;by_cases pa:g.size=0
  ·have e1:=ba_empty pa;obtain⟨ao,bb,cc,rfl,fb,X,wb,da,fa,na,_,_⟩:=f.arr P;have ib:lv B xs=V:=(by have:g.data.toList=[]:=List.eq_nil_of_length_eq_zero (by rw[zas];exact pa);rw[this]at m;rw[←m];simp[_root_.Rad.dval,_root_.Rad.dvalF]);have CF:=za3 wr ao bb 0 xs.length cc xs.length fb X om om da;rw[Nat.min_self,fa,ib]at CF;have E:Hid _:=H;clear f fa fb X da na m ib M I P H ab pa;go_wp2_with (go_at_call 86;fail);refine CF.mono ?_;rintro e w4 ⟨v4,k4,rfl,rfl,-,-,hM⟩;clear CF;obtain⟨a4,b4,o4,c4,rfl,h4⟩:=id hM;clear h4;have CS:=zav w4 b _ _ _ hM;go_wp2_with (go_at_call 76;fail);refine CS.mono ?_;rintro e w5 ⟨v5,rfl,G,hI⟩;have R5:=E.out.step G E.out.lt;clear CS E hM;obtain⟨s5,a5,n5,c5,rfl⟩:=hI.form;obtain⟨HE,HI⟩:=R5.done hI;have ob:Hid _:=HE;have pb:Hid _:=HI;obtain⟨-,-,lt,k0,k1,f0,f1⟩:=R5;clear HE HI hI G;go_wp2;refine bodyPost_ret (v:= .agg #[.int .i64 s5,.slice a5 n5 c5]) rt rfl ?_;exact⟨_,rfl,ob.out,by rw[HZ.out];exact pb.out⟩
  ·have e1:=ba_full (show 0<g.size by omega);obtain⟨q,hq⟩:∃q,(g.size-1)%19+1=q:=⟨_,rfl⟩;have cb:1≤q∧q≤19∧q≤g.size∧(g.size-q)%19=0∧(g.size%19=0→q=19):=om;obtain⟨cb,bc,db,eb,dc⟩:=cb;have ec:((g.size:Int)-1)%19+1=(q:Int):=om;have oc:((g.size:Int)-1).tmod 19+1=(q:Int):=(by rw[Int.tmod_eq_emod_of_nonneg om];exact ec);clear hq;obtain⟨ao,cc,rfl,X,wb,ha⟩:=f.form;obtain⟨D,hD⟩:∃D,D=_root_.Rad.dval (g.data.toList.take q):=⟨_,rfl⟩;have sb:D<B:=(by have h1:D<10^(g.data.toList.take q).length:=(by rw[hD];exact _root_.Rad.dval_lt fun c X=>I c (List.mem_of_mem_take X));have h2:10^(g.data.toList.take q).length≤10^19:=Nat.pow_le_pow_right dd (by rw[List.length_take];omega);exact Nat.lt_of_lt_of_le h1 (Nat.le_trans h2 dd));have r:=_root_.Rad.chunk_step (n:=q) (by rw[zas];exact db) (by
    rcases M with h|h
    ·rw[h];exact .inl rfl
    ·exact .inr (dc h)) m hD
   have CP:=parseUint_any wr (g.extract 0 q) D (by rw[ba_take];intro h;have:=congrArg List.length h;rw[List.length_take,zas,Nat.min_eq_left db]at this;simp at this;omega)
    (by rw[ba_take];exact fun c X=>I c (List.mem_of_mem_take X)) (by rw[ByteArray.size_extract,Nat.min_eq_left om,Nat.sub_zero];exact bc) (by rw[ba_take];exact hD)
   have ea:∀c∈(g.extract q g.size).data.toList,_root_.Rad.IsDg c:=(by rw[ze4];exact fun c X=>I c (List.mem_of_mem_drop X));rw[←ze4]at r;have HN:Hid _:=r;have ua:Hid _:=ea;clear I m M hD r ea;go_wp2_with (go_at_call 103;fail);refine CP.mono ?_;rintro e w5 ⟨rfl,G⟩;have R5:=H.step G H.lt;have ga:=f.below G;clear CP f H G ka;go_wp2;have va:Hid _:=R5;go_loopw [9,51] (fun s9 sa wi=>∃(i d:Nat) (o:List Nat),sa=.int .i64 i∧i≤xs.length∧s9=.int .u64 d∧d<B∧o.length=xs.length∧(∀y∈o,y<B)∧RowN .u64 98 wi (w.heap.size+1) (.slice ao xs.length cc) o∧
    lv B (o.take i)+B^i*d=lv B (xs.take i)*10000000000000000000+D∧o.drop i=xs.drop i∧Res w wi w.heap.size)
    (fun _ sa _=>xs.length-(intOf sa).toNat)
   case atStart=>exact⟨0,D,xs,rfl,by omega,rfl,sb,rfl,P,ga,by simp[lv],rfl,va.out⟩
   case round=>
    obtain⟨i,d,o,rfl,mc,rfl,hd,ra,S,f,J,j,H⟩:=hrel;clear ga R5 va;by_cases zb:i=xs.length
    ·subst zb;rw[List.take_of_length_le om,List.take_length]at J;have ja:=HN.out;rw[←J]at ja;have ca:Hid ((lv B o+B^xs.length*d)*10^(g.extract q g.size).data.toList.length+_root_.Rad.dval (g.extract q g.size).data.toList=V):=ja;have gb:(g.extract q g.size).size=g.size-q:=(by rw[ByteArray.size_extract,Nat.min_self]);have F:Hid _:=gb;have ba:=f.hid;have U:Hid _:=S;have E:Hid _:=H;have T:Hid _:=ra;have ka:=H.lt;clear J ja HN f S H gb j ra P;by_cases xb:d=0
     ·have xa:(d:Int)=0:=om;go_wp2;go_roundw
      case rel=>exact⟨_,o,rfl,ba.out,U.out,ua.out,by have:=ca.out;rw[xb]at this;simpa using this,.inr (by rw[F.out];exact eb),by rw[F.out,T.out];omega,hL,E.out⟩
      case measure=>show(g.extract q g.size).size<g.size;rw[F.out];omega
     ·have xa:¬(d:Int)=0:=om;have ia:=(ba.out.below (zau wr (Obj.cells #[Value.int IntKind.u64 (d:Int)] 98))).hid;have nb:Hid ((wr.alloc (Obj.cells #[Value.int IntKind.u64 (d:Int)] 98)).cell? ⟨wr.heap.size,0,none⟩=some (.int .u64 (d:Int))):=(by show _=_;simp[go_sem]);have mb:=zau wr (Obj.cells #[Value.int IntKind.u64 (d:Int)] 98);have qb:Hid (w.heap.size+1≤(wr.alloc (Obj.cells #[Value.int IntKind.u64 (d:Int)] 98)).heap.size):=(by show _≤_;simp;omega);go_wp2_with (at_builtin;go_loud (refine zax .u64 98 rfl _ _ 22 rfl Tryz.underlying22 8 zb0 dd (w.heap.size+1) (.slice ao xs.length cc) o rfl ia.out wr.heap.size 1 d rfl nb.out (by rw[T.out];omega) qb.out ?_);intro v6 w6 lb vb ic lc);have R6:=(E.out.step mb ka).step vb om;refine⟨⟨_,o++[d],rfl,lb,?_,ua.out,?_,.inr (by rw[F.out];exact eb),?_,hL,R6⟩,?_⟩
      ·intro x hx;rcases List.mem_append.1 hx with h|h
       ·exact U.out x h
       ·rw[List.mem_singleton.1 h];exact hd
      ·rw[zbi,T.out];exact ca.out
      ·rw[List.length_append,F.out,T.out];simp;omega
      ·show(g.extract q g.size).size<g.size;rw[F.out];omega
    ·have nc:(i:Int)<(xs.length:Int):=om;rcases ha with⟨_,h0',_⟩|⟨bb,rfl,hbb,hbl⟩
     ·omega
     ·have Z:i<o.length:=om;have za:i<xs.length:=om;obtain⟨y,hy⟩:∃y,o[i]=y:=⟨_,rfl⟩;have ma:=f.cell Z;rw[hy]at ma;have kc:=f.free i;have qa:y<B:=(by rw[←hy];exact S _ (List.getElem_mem Z));have jb:xs[i]=y:=(by have h1:=congrArg (fun l=>l[0]?) j;simp only[List.getElem?_drop,Nat.add_zero,List.getElem?_eq_getElem Z,List.getElem?_eq_getElem za]at h1;rw[←hy];exact(oi h1).symm);have CM:=zbk y 10000000000000000000 d qa dd hd wr;have k:=chunk_word (β:=B) (x:=y) J;obtain⟨l1,aa⟩:∃l,lo (y*10000000000000000000+d)=l:=⟨_,rfl⟩;obtain⟨h1,Y⟩:∃l,hi (y*10000000000000000000+d)=l:=⟨_,rfl⟩;have ac:l1<B:=(by rw[←aa];exact zch _);have yb:h1<B:=(by rw[←Y];exact(zei qa (show 10000000000000000000<B by decide) hd).2.2.2);have hm:(y*10000000000000000000+d)%B=l1:=aa;have hq:(y*10000000000000000000+d) / B=h1:=Y;rw[hm,hq,←Nat.pow_succ]at k;rw[aa,Y]at CM;have u:(o.set i l1).drop (i+1)=xs.drop (i+1):=(by rw[List.drop_set_of_lt om,←List.drop_drop,j,List.drop_drop]);have O:lv B ((o.set i l1).take (i+1))=lv B (o.take i)+B^i*l1:=(by rw[List.take_succ_eq_append_getElem (by simpa using Z),zbi,List.getElem_set_self,List.take_set_of_le (Nat.le_refl _),List.length_take,Nat.min_eq_left om]);have A:lv B (xs.take (i+1))=lv B (xs.take i)+B^i*y:=(by rw[List.take_succ_eq_append_getElem za,zbi,jb,List.length_take,Nat.min_eq_left om]);rw[←O,←A]at k;have oa:=(f.set i l1).hid;have tb:Hid _:=H.step ((Below.refl (w.heap.size+1) wr).setCell (p:=⟨bb,i,none⟩) hbb (.int .u64 (l1:Int))) om;have HS:Hid _:=k;have HD:Hid _:=u;have U:Hid _:=S;clear k J j u S f H O A aa Y hm hq P jb qa hy;have c1:i<cc:=om;go_wp2_with (go_at_call 104;refine CM.mono ?_;rintro e w' ⟨rfl,hw⟩;subst hw);refine⟨⟨i+1,h1,o.set i l1,by go_num,by omega,rfl,yb,by rw[List.length_set];exact ra,fun y' fc=>?_,oa.out,HS.out,HD.out,tb.out⟩,by simp[intOf];omega⟩;rcases List.mem_or_eq_of_mem_set fc with h|h
      ·exact U.out y' h
      ·rw[h];exact ac
theorem value_any (w:World) (s:ByteArray) (b:_root_.Rad.Valid s.data.toList) (g:s.size≤1001) (z:Int) (d:z=_root_.Rad.val s.data.toList):
 Calls Tryz.prog 65 #[.string s] w fun e w'=>∃v,e=.returned v∧Below w.heap.size w w'∧IsInt w' v z:=by
 have f:0<s.size:=by
  rcases Nat.eq_zero_or_pos s.size with h|h
  ·have c:=b.2;rw[List.eq_nil_of_length_eq_zero (by rw[zas];exact h:s.data.toList.length=0)]at c;exact absurd rfl c
  ·exact h
 rcases Nat.lt_or_ge 18 (_root_.Rad.digs s.data.toList).length with h|h
 ·exact value_long w s b g h f z d
 ·refine value_short w s b g h z d ?_ f;have c:z.natAbs=_root_.Rad.dval (_root_.Rad.digs s.data.toList):=(by rw[d];exact _root_.Rad.Valid.val_abs);have j:=_root_.Rad.dval_lt b.digits;have k:10^(_root_.Rad.digs s.data.toList).length≤10^18:=Nat.pow_le_pow_right dd h;have l:=Nat.lt_of_lt_of_le j k;omega
def zci (l:List UInt8):Int:=if _root_.Rad.Valid l then (if 1000<(_root_.Rad.digs l).length then 2 else 0) else 1
def pat (l:List UInt8):Int:=if _root_.Rad.Valid l then 0 else (_root_.Rad.wlen l:Nat)
def zex (l:List UInt8):Int:=if _root_.Rad.Valid l∧(_root_.Rad.digs l).length≤1000 then _root_.Rad.val l else 0
def flt (c t:Int):Value:= .agg #[.int .i64 c,.int .i64 t]
theorem wlen_le (l:List UInt8):_root_.Rad.wlen l≤l.length:=by
 cases l with
 |nil=>exact Nat.le_refl _
 |cons b r=>
  by_cases d:b=45
  ·subst d;rw[_root_.Rad.wlen_neg];have:=_root_.Rad.runD_le r;simp only[List.length_cons];split <;> omega
  ·by_cases c:b=48
   ·subst c;rw[_root_.Rad.wlen_zero];simp
   ·rw[_root_.Rad.wlen_pos d c];exact _root_.Rad.runD_le _
theorem digs_len (l:List UInt8):(_root_.Rad.digs l).length≤l.length∧l.length≤(_root_.Rad.digs l).length+1:=by
 cases l with
 |nil=>simp[_root_.Rad.digs]
 |cons b r=>
  by_cases c:b=45
  ·subst c;rw[_root_.Rad.digs_neg];simp
  ·rw[_root_.Rad.digs_pos c];simp
theorem Res.mk1 (w:World) (X:Obj):Res w ((w.alloc (Obj.cells #[Value.int IntKind.i64 0,Value.slice none 0 0] 24)).alloc X) w.heap.size:=(Res.mk0 w).step (zau _ _) (by simp)
structure Fbx (w1:World) (b:Nat):Prop where
 lt:b<w1.heap.size
 c0:w1.cell? ⟨b,0,none⟩=some (.int .i64 0)
 c1:w1.cell? ⟨b,1,none⟩=some (.int .i64 0)
 f0:w1.frozen? ⟨b,0,none⟩=false
 f1:w1.frozen? ⟨b,1,none⟩=false
theorem Fbx.step {f g:World} {b B:Nat} (h:Fbx f b) (c:Below B f g) (d:b<B):Fbx g b:=
 ⟨Nat.lt_of_lt_of_le h.lt c.size,(World.cell?_of_block (c.block b d)).trans h.c0,(World.cell?_of_block (c.block b d)).trans h.c1,
  (World.frozen?_of_block (c.block b d)).trans h.f0,(World.frozen?_of_block (c.block b d)).trans h.f1⟩
theorem IsInt.flt {w:World} {v:Value} {z:Int} {b:Nat} (h:IsInt w v z) (c:Fbx w b) (u1 u2:Value):IsInt ((w.setCell ⟨b,0,none⟩ u1).setCell ⟨b,1,none⟩ u2) v z:=h.stored c.c0 c.c1 (by intro q;simp)
theorem Res.done2 {w d:World} {b f:Nat} (h:Res w d b) (g:Fbx d f) (m:b<f) {s:Int} {a:Option Addr} {n c:Nat} {z:Int} (l:IsInt d (.agg #[.int .i64 s,.slice a n c]) z) (x y:Int):
 Below w.heap.size w ((((d.setCell ⟨b,0,none⟩ (.int .i64 s)).setCell ⟨b,1,none⟩ (.slice a n c)).setCell ⟨f,0,none⟩ (.int .i64 x)).setCell ⟨f,1,none⟩ (.int .i64 y))∧
  IsInt ((((d.setCell ⟨b,0,none⟩ (.int .i64 s)).setCell ⟨b,1,none⟩ (.slice a n c)).setCell ⟨f,0,none⟩ (.int .i64 x)).setCell ⟨f,1,none⟩ (.int .i64 y)) (.agg #[.int .i64 s,.slice a n c]) z:=by
 obtain⟨j,k⟩:=h.done l;have o:=h.ge;refine⟨(j.setCell (p:=⟨f,0,none⟩) (by show w.heap.size≤f;omega) _).setCell (p:=⟨f,1,none⟩) (by show w.heap.size≤f;omega) _,k.stored (x:=0) (y:= .int .i64 0) ?_ ?_ (by intro q;simp)⟩
 ·rw[zaa om,zaa om];exact g.c0
 ·rw[zaa om,zaa om];exact g.c1
theorem parse_any (w:World) (s:ByteArray) (y:s.size≤9223372036854775806):
 Calls Tryz.prog 9 #[.string s] w fun e w'=>∃v,e=.returned (.tuple #[v,flt (zci s.data.toList) (pat s.data.toList)])∧Below w.heap.size w w'∧IsInt w' v (zex s.data.toList):=by
 obtain⟨n,d⟩:∃n,_root_.Rad.wlen s.data.toList=n:=⟨_,rfl⟩;have X:n≤s.size:=(by rw[←d,←zas];exact wlen_le _);have R:=Res.mk1 w (Obj.cells #[Value.int IntKind.i64 0,Value.int IntKind.i64 0] 26);have r:Fbx ((w.alloc (Obj.cells #[Value.int IntKind.i64 0,Value.slice none 0 0] 24)).alloc (Obj.cells #[Value.int IntKind.i64 0,Value.int IntKind.i64 0] 26)) (w.heap.size+1):=⟨by simp,qq,qq,qq,qq⟩;have O:Hid _:=r;clear r;have U:((w.alloc (Obj.cells #[Value.int IntKind.i64 0,Value.slice none 0 0] 24)).alloc (Obj.cells #[Value.int IntKind.i64 0,Value.int IntKind.i64 0] 26)).cell? ⟨w.heap.size+1,0,none⟩=some (.int .i64 0):=qq;have S:Hid _:=R;by_cases h1:n<s.size
 ·have F:(n:Int)<(s.size:Int):=om;have c:¬_root_.Rad.Valid s.data.toList:=fun h=>by have:=h.1;rw[d,zas]at this;omega
  have f:zci s.data.toList=1:=(by unfold zci;rw[if_neg c]);have j:pat s.data.toList=(n:Int):=(by unfold pat;rw[if_neg c,d]);have g:zex s.data.toList=0:=(by unfold zex;rw[if_neg (fun h=>c h.1)]);have k:=zea ((w.alloc (Obj.cells #[Value.int IntKind.i64 0,Value.slice none 0 0] 24)).alloc (Obj.cells #[Value.int IntKind.i64 0,Value.int IntKind.i64 0] 26)) s y n d;rw[f,j,g];clear f j g c d R;go_enter Tryz.func9,Tryz.ntmps9;go_wp2_with (go_at_call 62;fail);refine k.mono ?_;rintro e w' ⟨rfl,b⟩;subst b;clear k;go_wp2;refine bodyPost_ret (v:= .tuple #[.agg #[.int .i64 0,.slice none 0 0],flt 1 n]) (by simp[results,go_sem,loadVar,World.cell?_setCell_same, *];rfl) rfl ?_;refine⟨_,rfl,?_,za4 _ 0 dd dd⟩;exact bel2 _ _ _
 ·have t:n=s.size:=om;have F:¬(n:Int)<(s.size:Int):=om;have k:=zea ((w.alloc (Obj.cells #[Value.int IntKind.i64 0,Value.slice none 0 0] 24)).alloc (Obj.cells #[Value.int IntKind.i64 0,Value.int IntKind.i64 0] 26)) s y n d;by_cases l:_root_.Rad.digs s.data.toList=[]
  ·have c:¬_root_.Rad.Valid s.data.toList:=fun h=>h.2 l;have f:zci s.data.toList=1:=(by unfold zci;rw[if_neg c]);have j:pat s.data.toList=(n:Int):=(by unfold pat;rw[if_neg c,d]);have g:zex s.data.toList=0:=(by unfold zex;rw[if_neg (fun h=>c h.1)]);have q:=fun w=>zc4 w s false (by simp[l]);rw[f,j,g];clear f j g c d R l t;go_enter Tryz.func9,Tryz.ntmps9;go_wp2_with (go_at_call 62;fail);refine k.mono ?_;rintro e w' ⟨rfl,b⟩;subst b;clear k;go_wp2_with (go_at_call 63;refine(q _).mono ?_;rintro e w' ⟨rfl,b⟩;subst b);refine bodyPost_ret (v:= .tuple #[.agg #[.int .i64 0,.slice none 0 0],flt 1 n]) (by simp[results,go_sem,loadVar,World.cell?_setCell_same, *];rfl) rfl ?_;refine⟨_,rfl,?_,za4 _ 0 dd dd⟩;exact bel2 _ _ _
  ·have c:_root_.Rad.Valid s.data.toList:=⟨by rw[d,zas];exact t,l⟩;have u:0<s.size:=by
    rcases Nat.eq_zero_or_pos s.size with h|h
    ·rw[List.eq_nil_of_length_eq_zero (by rw[zas];exact h:s.data.toList.length=0)]at l;exact absurd rfl l
    ·exact h
   have j:pat s.data.toList=0:=(by unfold pat;rw[if_pos c]);have q:=fun w=>zc4 w s true (by simp[l]);by_cases o:1000<(_root_.Rad.digs s.data.toList).length
   ·have f:zci s.data.toList=2:=(by unfold zci;rw[if_pos c,if_pos o]);have g:zex s.data.toList=0:=(by unfold zex;rw[if_neg (fun h=>by have:=h.2;omega)]);have x:=fun w=>zfu w s y u true (by simpa using o);rw[f,j,g];clear f j g c d R l o;go_enter Tryz.func9,Tryz.ntmps9;go_wp2_with (go_at_call 62;fail);refine k.mono ?_;rintro e w' ⟨rfl,b⟩;subst b;clear k;go_wp2_with (go_at_call 63;refine(q _).mono ?_;rintro e w' ⟨rfl,b⟩;subst b);refine(x _).mono ?_;rintro e J ⟨rfl,I,b⟩;subst b;go_wp2;refine bodyPost_ret (v:= .tuple #[.agg #[.int .i64 0,.slice none 0 0],flt 2 0]) (by simp[results,go_sem,loadVar,World.cell?_setCell_same, *];rfl) rfl ?_;refine⟨_,rfl,?_,za4 _ 0 dd dd⟩;exact(((((bel2 w _ _).trans (za8 _ _ _)).setCell (p:=⟨w.heap.size,0,none⟩) (by simp) _).setCell (p:=⟨w.heap.size,1,none⟩) (by simp) _).setCell (p:=⟨w.heap.size+1,0,none⟩) (by simp) _).setCell (p:=⟨w.heap.size+1,1,none⟩) (by simp) _
   ·have f:zci s.data.toList=0:=(by unfold zci;rw[if_pos c,if_neg o]);have g:zex s.data.toList=_root_.Rad.val s.data.toList:=(by unfold zex;rw[if_pos ⟨c,by omega⟩]);have x:=fun w=>zfu w s y u false (by simpa using o);obtain⟨z,H⟩:∃z,z=_root_.Rad.val s.data.toList:=⟨_,rfl⟩;have L:=fun w=>value_any w s c (by have:=digs_len s.data.toList;rw[zas]at this;omega) z H;rw[f,j,g,←H];clear f j g c d R l o H;go_enter Tryz.func9,Tryz.ntmps9;go_wp2_with (go_at_call 62;fail);refine k.mono ?_;rintro e w' ⟨rfl,b⟩;subst b;clear k;go_wp2_with (go_at_call 63;refine(q _).mono ?_;rintro e w' ⟨rfl,b⟩;subst b);refine(x _).mono ?_;rintro e J ⟨rfl,I,b⟩;have E:Res w J w.heap.size:=S.out.step (B:=w.heap.size+1) (by rw[b];exact za8 _ _ _) om;have A:Fbx J (w.heap.size+1):=O.out.step (B:=w.heap.size+2) (by rw[b];exact za8 _ _ _) om;clear b S O x q U;go_wp2_with (go_at_call 65;fail);refine(L _).mono ?_;rintro e w6 ⟨v6,rfl,m,G⟩;have T:=E.step m E.lt;have M:=A.step m A.lt;clear L E A m;obtain⟨Z,V,I,W,rfl⟩:=G.form;obtain⟨N,P⟩:=T.done2 M om G 0 0;have C:Hid _:=N;have D:Hid _:=P;obtain⟨-,-,lt,k0,k1,f0,f1⟩:=T;obtain⟨Y,j0,j1,g0,g1⟩:=M;clear N P G;go_wp2;refine bodyPost_ret (v:= .tuple #[.agg #[.int .i64 Z,.slice V I W],flt 0 0]) (by simp[results,go_sem,loadVar,World.cell?_setCell_same, *];rfl) rfl ?_;exact⟨_,rfl,C.out,D.out⟩
def Dg (w:World) (v:Value) (x n:Nat):Prop:=∃(ao:Option Addr) (b o c:Nat),v=.slice ao n c∧Sl ao b o n∧n≤c∧c≤maxLen∧Arr .i64 10000 w b o n∧num 10000 w b o n=x∧(n=0∨word w b (o+(n-1))≠0)
theorem Dg.below {w w':World} {v:Value} {x n:Nat} (h:Dg w v x n) (g:Below w.heap.size w w'):Dg w' v x n:=by
 obtain⟨k,b,o,c,q,p,l,j,f,r,m⟩:=h;refine⟨k,b,o,c,q,p,l,j,zae f g,by rw[zah f g,r],?_⟩;rcases m with d|d
 ·exact .inl d
 ·by_cases s:n=0
  ·exact .inl s
  ·right;rw[zbp f g om];exact d
theorem Dg.lt {w:World} {v:Value} {x n:Nat} (h:Dg w v x n):x<10000^n:=by obtain⟨j,b,o,c,p,m,k,f,d,g,l⟩:=h;rw[←g];exact za1 d
theorem Dg.ge {w:World} {v:Value} {x n:Nat} (h:Dg w v x n) (d:0<n):10000^(n-1)≤x:=by
 obtain⟨l,b,o,c,r,q,p,g,m,k,j⟩:=h;rw[←k];rcases j with f|f
 ·omega
 ·exact _root_.Rad.vs_ge d (by simpa using f)
theorem Dg.len_le {w:World} {v:Value} {x n:Nat} (h:Dg w v x n) {L:Nat} (f:x<10000^L):n≤L:=by
 rcases Nat.lt_or_ge L n with b|b
 ·have c:=h.ge om;have d:10000^L≤10000^(n-1):=Nat.pow_le_pow_right dd om;omega
 ·exact b
theorem Dg.zero_iff {w:World} {v:Value} {x n:Nat} (h:Dg w v x n):x=0↔n=0:=by
 constructor
 ·intro g;rcases Nat.eq_zero_or_pos n with b|b
  ·exact b
  ·have d:=h.ge b;have f:0<10000^(n-1):=Nat.pow_pos dd;omega
 ·intro c;have:=h.lt;rw[c]at this;simpa using this
theorem dg_nil (w:World):Dg w (.slice none 0 0) 0 0:=⟨none,0,0,0,rfl,fun h=>by omega,by omega,by unfold maxLen;omega,fun i hi=>by omega,rfl,.inl rfl⟩
def IsZ (w:World) (v:Value) (z:Int):Prop:=∃dv n,v=.agg #[.bool (decide (z<0)),dv]∧Dg w dv z.natAbs n
theorem IsZ.below {w w':World} {v:Value} {z:Int} (h:IsZ w v z) (c:Below w.heap.size w w'):IsZ w' v z:=by obtain⟨b,n,f,d⟩:=h;exact⟨b,n,f,d.below c⟩
theorem IsZ.form {w:World} {v:Value} {z:Int} (h:IsZ w v z):∃b a n c,v=.agg #[.bool b,.slice a n c]:=by obtain⟨g,n,d,f,b,o,c,rfl,_⟩:=h;exact⟨_,_,_,_,d⟩
theorem zcu {w:World} {b o n k:Nat} (d:k≤n) (f:∀i,k≤i→i<n→word w b (o+i)=0):num 10000 w b o k=num 10000 w b o n:=by
 obtain⟨m,rfl⟩:=Nat.exists_eq_add_of_le d;have c:num 10000 w b (o+k) m=0:=by
  have:∀j,j≤m→num 10000 w b (o+k) j=0:=by
   intro j
   induction j with
   |zero=>intro _;rfl
   |succ j ih=>intro g;rw[zaj,ih om,Nat.add_assoc o k j,f (k+j) om om,Nat.mul_zero]
  exact this m (Nat.le_refl _)
 rw[za5,c];simp
structure Rez (w w1:World) (b:Nat):Prop where
 below:Below w.heap.size w w1
 ge:w.heap.size≤b
 lt:b<w1.heap.size
 c0:w1.cell? ⟨b,0,none⟩=some (.bool false)
 c1:w1.cell? ⟨b,1,none⟩=some (.slice none 0 0)
 f0:w1.frozen? ⟨b,0,none⟩=false
 f1:w1.frozen? ⟨b,1,none⟩=false
theorem Rez.step {w f g:World} {b B:Nat} (h:Rez w f b) (c:Below B f g) (d:b<B):Rez w g b:=by
 have j:=h.ge;refine⟨h.below.trans (c.mono om),h.ge,Nat.lt_of_lt_of_le h.lt c.size,?_,?_,?_,?_⟩
 ·exact(World.cell?_of_block (c.block b d)).trans h.c0
 ·exact(World.cell?_of_block (c.block b d)).trans h.c1
 ·exact(World.frozen?_of_block (c.block b d)).trans h.f0
 ·exact(World.frozen?_of_block (c.block b d)).trans h.f1
theorem Dg.set {w:World} {v u:Value} {x n:Nat} {p:Addr} (h:Dg w v x n) (d:∀y,w.cell? p≠some (.int .i64 y)) (A:p=⟨p.block,p.off,none⟩):Dg (w.setCell p u) v x n:=by
 obtain⟨s,b,o,c,B,j,t,g,l,C,z⟩:=h;rw[A]at d⊢;generalize p.block=pb at d⊢;generalize p.off=po at d⊢;have r:pb≠b∨po<o∨o+n≤po:=by
  by_cases m:pb=b
  ·subst m;right;refine Classical.byContradiction fun q=>?_;have k:=(l (po-o) om).1;rw[show o+(po-o)=po by omega]at k;exact d _ k
  ·exact .inl m
 refine⟨s,b,o,c,B,j,t,g,l.set' r,by rw[zan r,C],?_⟩;rcases z with f|f
 ·exact .inl f
 ·by_cases D:n=0
  ·exact .inl D
  ·right;rw[za0 om];exact f
theorem IsZ.stored {w:World} {v u1 u2 y0 y:Value} {z:Int} {b:Nat} (h:IsZ w v z) (g:w.cell? ⟨b,0,none⟩=some y0) (j:w.cell? ⟨b,1,none⟩=some y)
 (d:∀q,y0≠ .int .i64 q) (m:∀q,y≠ .int .i64 q):IsZ ((w.setCell ⟨b,0,none⟩ u1).setCell ⟨b,1,none⟩ u2) v z:=by
 obtain⟨f,n,l,k⟩:=h;refine⟨f,n,l,(k.set (by rw[g];intro q c;exact d q (oi c)) rfl).set ?_ rfl⟩;rw[zaa om,j];intro q c;exact m q (oi c)
theorem Rez.done {w d:World} {b:Nat} (h:Rez w d b) {s:Bool} {a:Option Addr} {n c:Nat} {z:Int} (f:IsZ d (.agg #[.bool s,.slice a n c]) z):
 Below w.heap.size w ((d.setCell ⟨b,0,none⟩ (.bool s)).setCell ⟨b,1,none⟩ (.slice a n c))∧IsZ ((d.setCell ⟨b,0,none⟩ (.bool s)).setCell ⟨b,1,none⟩ (.slice a n c)) (.agg #[.bool s,.slice a n c]) z:=
 ⟨(h.below.setCell (p:=⟨b,0,none⟩) h.ge _).setCell (p:=⟨b,1,none⟩) h.ge _,f.stored h.c0 h.c1 (by intro q;simp) (by intro q;simp)⟩
theorem Rez.mk0 (w:World):Rez w (w.alloc (Obj.cells #[Value.bool false,Value.slice none 0 0] 31)) w.heap.size:=⟨zau _ _,Nat.le_refl _,by simp,qq,qq,qq,qq⟩
theorem zcl (w:World):IsZ w (.agg #[.bool false,.slice none 0 0]) 0:=⟨_,0,rfl,dg_nil w⟩
theorem zfy (w:World) (neg:Bool) (M:Option Addr) (b o n c x:Nat) (hs:Sl M b o n) (hc:n≤c) (t:c≤maxLen) (E:Arr .i64 10000 w b o n) (U:num 10000 w b o n=x):
 Calls Tryz.prog 73 #[.bool neg,.slice M n c] w fun e w'=>∃v,e=.returned v∧Below w.heap.size w w'∧IsZ w' v (sgn neg x):=by
 have L:Hid (Rez w (w.alloc (Obj.cells #[Value.bool false,Value.slice none 0 0] 31)) w.heap.size∧Arr .i64 10000 (w.alloc (Obj.cells #[Value.bool false,Value.slice none 0 0] 31)) b o n∧num 10000 (w.alloc (Obj.cells #[Value.bool false,Value.slice none 0 0] 31)) b o n=x):=⟨Rez.mk0 w,zae E (zau w _),(zah E (zau w _)).trans U⟩;have u:=t;unfold maxLen at t;clear E U;go_enter Tryz.func73,Tryz.ntmps73;go_wp2;refine zac (fun d=>Rez w d w.heap.size∧Arr .i64 10000 d b o n∧num 10000 d b o n=x) L.out ?_;clear L;rintro d ⟨R,O,P⟩;have B:Hid _:=R;have J:Hid _:=O;have s:Hid _:=P;clear R O P;go_loop [5] (fun I=>∃k:Nat,k≤n∧I=.int .i64 (k:Int)∧∀i,k≤i→i<n→word d b (o+i)=0) (fun I=>(intOf I).toNat)
 case atStart=>exact⟨n,Nat.le_refl _,rfl,fun i h1 N=>by omega⟩
 case round=>
  obtain⟨k,T,rfl,V⟩:=hrel;have m:Hid _:=V;clear V;by_cases G:k=0
  ·subst G;have z:x=0:=(by rw[←s.out,←zcu (Nat.zero_le n) m.out];rfl);have p:=zcl d;obtain⟨q,r⟩:=B.out.done p;have f:Hid _:=q;have g:Hid _:=r;obtain⟨-,-,lt,k0,k1,Z,f1⟩:=B.out;have D:Hid _:=z;clear q r p z s m;go_wp2;refine bodyPost_ret (v:= .agg #[.bool false,.slice none 0 0]) rt rfl ?_;exact⟨_,rfl,f.out,by rw[show sgn neg x=0 by rw[D.out];cases neg <;> rfl];exact g.out⟩
  ·have c1:(0:Int)<(k:Int):=om;obtain rfl:=hs om;obtain⟨j,rfl⟩:∃j,k=j+1:=⟨k-1,by omega⟩;have l:=zag J.out (i:=j) om;have e1:((j+1:Nat):Int)-1=(j:Int):=om;obtain⟨y,H⟩:∃y,word d b (o+j)=y:=⟨_,rfl⟩;rw[H]at l;have C:Hid _:=H;clear H;by_cases A:y=0
   ·have W:(y:Int)=0:=om;have X:j<n:=om;go_wp2;refine⟨⟨j,by omega,by go_num,fun i h1 N=>?_⟩,by simp[intOf]⟩;by_cases F:i=j
    ·rw[F,C.out];exact A
    ·exact m.out i om N
   ·have W:¬(y:Int)=0:=om;have X:j<n:=om;have p:IsZ d (.agg #[.bool (decide (sgn neg x<0)),.slice (some ⟨b,o,none⟩) (j+1) c]) (sgn neg x):=by
     have Y:(sgn neg x).natAbs=x:=(by unfold sgn;cases neg <;> simp);refine⟨_,j+1,rfl,_,b,o,c,rfl,Sl.mk _ _ _,by omega,u,fun i hi=>J.out i om,?_,.inr ?_⟩
     ·rw[zcu T m.out,s.out,Y]
     ·rw[Nat.add_sub_cancel,C.out];exact A
    have S:decide (sgn neg x<0)=neg:=(by have aa:0<x:=(by rw[←s.out,←zcu T m.out,zaj,C.out];have:0<10000^j*y:=Nat.mul_pos (Nat.pow_pos dd) om;omega);unfold sgn;cases neg <;> simp <;> omega);rw[S]at p;obtain⟨q,r⟩:=B.out.done p;have f:Hid _:=q;have g:Hid _:=r;obtain⟨-,-,lt,k0,k1,Z,f1⟩:=B.out;have c4:(j:Int)+1≤(c:Int):=om;clear q r p S s m C;go_wp2;refine bodyPost_ret (v:= .agg #[.bool neg,.slice (some ⟨b,o,none⟩) (j+1) c]) rt rfl ?_;exact⟨_,rfl,f.out,g.out⟩
end Go.Proofs.YtjlkplidpdhgbaaGreatDoor
namespace Rad
open Go
theorem zfq:∀l:List UInt8,runD (l.take (runD l))=runD l
 |[]=>rfl
 |b::r=>by
  by_cases c:IsDg b
  ·have e:runD (b::r)=runD r+1:=(by rw[runD,if_pos c]);rw[e,List.take_succ_cons,runD,if_pos c,zfq r]
  ·have e:runD (b::r)=0:=(by rw[runD,if_neg c]);rw[e];rfl
theorem wlen_le_len (l:List UInt8):wlen l≤l.length:=by
 cases l with
 |nil=>exact Nat.le_refl _
 |cons b r=>
  by_cases d:b=45
  ·subst d;rw[wlen_neg];have:=runD_le r;simp only[List.length_cons];split <;> omega
  ·by_cases c:b=48
   ·subst c;rw[wlen_zero];simp
   ·rw[wlen_pos d c];exact runD_le _
theorem wlen_take (l:List UInt8):wlen (l.take (wlen l))=wlen l:=by
 cases l with
 |nil=>rfl
 |cons b r=>
  by_cases f:b=45
  ·subst f;rw[wlen_neg];by_cases h:r.head? =some 48
   ·rw[if_pos h];rfl
   ·rw[if_neg h,Nat.add_comm,List.take_succ_cons,wlen_neg,zfq,if_neg,Nat.add_comm];cases r with
    |nil=>simp
    |cons c r=>
     cases hm:runD (c::r)with
     |zero=>simp
     |succ m=>simpa using h
  ·by_cases d:b=48
   ·subst d;rw[wlen_zero];rfl
   ·rw[wlen_pos f d];by_cases g:IsDg b
    ·have e:runD (b::r)=runD r+1:=(by rw[runD,if_pos g]);rw[e,List.take_succ_cons,wlen_pos f d,runD,if_pos g,zfq]
    ·have e:runD (b::r)=0:=(by rw[runD,if_neg g]);rw[e];rfl
theorem zdf (l:List UInt8):Valid (l.take (wlen l))↔digs (l.take (wlen l))≠[]:=by unfold Valid;rw[wlen_take,List.length_take,Nat.min_eq_left (wlen_le_len l)];simp
theorem valid_take_nil:¬Valid (([]:List UInt8).take (wlen [])):=by rw[zdf];simp[digs]
theorem valid_take_neg (r:List UInt8):Valid ((45::r).take (wlen (45::r)))↔(¬r.head? =some 48∧0<runD r):=by
 rw[zdf,wlen_neg];by_cases h:r.head? =some 48
 ·rw[if_pos h];simp[digs,h]
 ·rw[if_neg h,Nat.add_comm,List.take_succ_cons,digs_neg];simp only[h,not_false_eq_true,true_and,ne_eq,List.take_eq_nil_iff];constructor
  ·intro c;omega
  ·intro c b;rcases b with b|b
   ·omega
   ·subst b;simp[runD]at c
theorem valid_take_zero (r:List UInt8):Valid ((48::r).take (wlen (48::r))):=by rw[zdf,wlen_zero];simp[digs]
theorem valid_take_pos {b:UInt8} (c:b≠45) (f:b≠48) (r:List UInt8):Valid ((b::r).take (wlen (b::r)))↔0<runD (b::r):=by
 rw[zdf,wlen_pos c f];by_cases d:IsDg b
 ·have e:runD (b::r)=runD r+1:=(by rw[runD,if_pos d]);rw[e,List.take_succ_cons,digs_pos c];simp
 ·have e:runD (b::r)=0:=(by rw[runD,if_neg d]);rw[e];simp[digs]
theorem dval_snoc (l:List UInt8) (b:UInt8):dval (l++[b])=dval l*10+(b.toNat-48):=by rw[zcx,List.length_singleton,Nat.pow_one];simp[dval,dvalF]
theorem four_step (t:List UInt8) {I:Nat} (b:I≤t.length):dval (t.drop (I-4))=dval ((t.drop (I-4)).take (I-(I-4)))*10^(t.length-I)+dval (t.drop I):=by
 have e:t.drop (I-4)=(t.drop (I-4)).take (I-(I-4))++t.drop I:=(by have h:=List.take_append_drop (I-(I-4)) (t.drop (I-4));rw[List.drop_drop,show I-4+(I-(I-4))=I by omega]at h;exact h.symm)
 conv=>lhs;rw[e]
 rw[zcx,List.length_drop]
theorem take_step {t:List UInt8} {a x:Nat} (c:a≤x) (d:x<t.length):(t.drop a).take (x+1-a)=(t.drop a).take (x-a)++[t[x]]:=by have b:x-a<(t.drop a).length:=(by rw[List.length_drop];omega);rw[show x+1-a=(x-a)+1 by omega,List.take_succ_eq_append_getElem b,List.getElem_drop];congr 2;simp only[show a+(x-a)=x by omega]
theorem zbz {x d:Nat} (c:0<x) (b:d≤9):Lib.decDigits (x*10+d)=Lib.decDigits x++[UInt8.ofNat (48+d)]:=by rw[Lib.decDigits,dif_neg om,show(x*10+d) / 10=x by omega,show(x*10+d)%10=d by omega]
def four (d0 d1 d2 d3:Nat):List UInt8:=[UInt8.ofNat (48+d0),UInt8.ofNat (48+d1),UInt8.ofNat (48+d2),UInt8.ofNat (48+d3)]
theorem dec_four {H d0 d1 d2 d3:Nat} (g:0<H) (b:d0≤9) (c:d1≤9) (d:d2≤9) (f:d3≤9):Lib.decDigits (1000*d0+100*d1+10*d2+d3+10000*H)=Lib.decDigits H++four d0 d1 d2 d3:=by have e:1000*d0+100*d1+10*d2+d3+10000*H=(((H*10+d0)*10+d1)*10+d2)*10+d3:=om;rw[e,zbz om f,zbz om d,zbz om c,zbz g b];simp[four]
def lead (d0 d1 d2:Nat):Nat:=if d0≠0 then 0 else if d1≠0 then 1 else if d2≠0 then 2 else 3
theorem lead_le (d0 d1 d2:Nat):lead d0 d1 d2≤3:=by unfold lead;split <;> (try split) <;> (try split) <;> omega
theorem dec_lead {d0 d1 d2 d3:Nat} (k:d0≤9) (j:d1≤9) (g:d2≤9) (c:d3≤9):Lib.decDigits (1000*d0+100*d1+10*d2+d3)=(four d0 d1 d2 d3).drop (lead d0 d1 d2):=by
 unfold lead;by_cases b:d0≠0
 ·rw[if_pos b];have e:1000*d0+100*d1+10*d2+d3=((d0*10+d1)*10+d2)*10+d3:=om;rw[e,zbz om c,zbz om g,zbz om j,Lib.decDigits_one om];simp[four]
 ·rw[if_neg b];have b:d0=0:=om;by_cases d:d1≠0
  ·rw[if_pos d];have e:1000*d0+100*d1+10*d2+d3=(d1*10+d2)*10+d3:=om;rw[e,zbz om c,zbz om g,Lib.decDigits_one om];simp[four]
  ·rw[if_neg d];by_cases f:d2≠0
   ·rw[if_pos f];have e:1000*d0+100*d1+10*d2+d3=d2*10+d3:=om;rw[e,zbz om c,Lib.decDigits_one om];simp[four]
   ·rw[if_neg f];have e:1000*d0+100*d1+10*d2+d3=d3:=om;rw[e,Lib.decDigits_one om];simp[four]
def pick4 (d0 d1 d2 d3 i:Nat):Nat:=if i=0 then d0 else if i=1 then d1 else if i=2 then d2 else d3
theorem lead_zero {d0 d1 d2 d3 i:Nat} (h:i<lead d0 d1 d2):pick4 d0 d1 d2 d3 i=0:=by
 unfold lead at h;unfold pick4
 split at h
 ·omega
 ·split at h
  ·have:i=0:=om;subst this;simp;omega
  ·split at h
   ·by_cases b:i=0
    ·subst b;simp;omega
    ·have:i=1:=om;subst this;simp;omega
   ·by_cases b:i=0
    ·subst b;simp;omega
    ·by_cases c:i=1
     ·subst c;simp;omega
     ·have:i=2:=om;subst this;simp;omega
theorem lead_stop {d0 d1 d2 d3:Nat} (h:lead d0 d1 d2<3):pick4 d0 d1 d2 d3 (lead d0 d1 d2)≠0:=by
 unfold lead at h⊢;unfold pick4;by_cases b:d0≠0
 ·rw[if_pos b];simpa using b
 ·rw[if_neg b]at h⊢;by_cases c:d1≠0
  ·rw[if_pos c];simpa using c
  ·rw[if_neg c]at h⊢;by_cases d:d2≠0
   ·rw[if_pos d];simpa using d
   ·rw[if_neg d]at h;omega
theorem four_at (d0 d1 d2 d3:Nat) {i:Nat} (hi:i<(four d0 d1 d2 d3).length) (c:d0≤9) (d:d1≤9) (f:d2≤9) (g:d3≤9):(four d0 d1 d2 d3)[i].toNat=48+pick4 d0 d1 d2 d3 i:=by
 have b:i<4:=hi;unfold pick4
 match i,b with
 |0,_=>simp[four];omega
 |1,_=>simp[four];omega
 |2,_=>simp[four];omega
 |3,_=>simp[four];omega
theorem zfb {d:Nat} (b:d≤9):(UInt8.ofNat (48+d)).toNat=48+d:=by rw[UInt8.toNat_ofNat'];omega
theorem decD:∀n:Nat,(∀b∈Lib.decDigits n,IsDg b)∧dval (Lib.decDigits n)=n∧(0<n→∃b r,Lib.decDigits n=b::r∧b≠48)∧Lib.decDigits n≠[]∧(∀L,0<L→n<10^L→(Lib.decDigits n).length≤L):=by
 intro n
 induction n using Nat.strongRecOn with
 |ind n ih=>
  by_cases h:n<10
  ·have e:Lib.decDigits n=[UInt8.ofNat (48+n)]:=Lib.decDigits_one h;have g:=zfb (d:=n) om;rw[e];refine⟨?_,?_,?_,by simp,?_⟩
   ·intro b c;rw[List.mem_singleton]at c;rw[c];unfold IsDg;rw[g];omega
   ·rw[zc3,g];simp[dval,dvalF]
   ·intro z;refine⟨_,[],rfl,fun u=>?_⟩;have:=congrArg UInt8.toNat u;rw[g]at this;change 48+n=48 at this;omega
   ·intro L q _;simp;omega
  ·have t:n=n / 10*10+n%10:=om;obtain⟨l,m,o,y,p⟩:=ih (n / 10) om;have g:=zfb (d:=n%10) om;have e:Lib.decDigits n=Lib.decDigits (n / 10)++[UInt8.ofNat (48+n%10)]:=by
    have:=zbz (x:=n / 10) (d:=n%10) om om
    rwa [←t]at this
   rw[e];refine⟨?_,?_,?_,by simp,?_⟩
   ·intro b c;rcases List.mem_append.1 c with c|c
    ·exact l b c
    ·rw[List.mem_singleton]at c;rw[c];unfold IsDg;rw[g];omega
   ·rw[dval_snoc,m,g];omega
   ·intro _;obtain⟨b,r,c,k⟩:=o om;exact⟨b,r++[UInt8.ofNat (48+n%10)],by rw[c];rfl,k⟩
   ·intro L q f;obtain⟨M,rfl⟩:∃M,L=M+1:=⟨L-1,by omega⟩;have s:0<M:=by
     rcases Nat.eq_zero_or_pos M with j|j
     ·rw[j]at f;omega
     ·exact j
    have:=p M s (by rw[Nat.div_lt_iff_lt_mul dd];rw[Nat.pow_succ]at f;exact f);rw[List.length_append];simp;omega
theorem valid_pos {b:UInt8} {r:List UInt8} (h:∀c∈b::r,IsDg c) (k:b=48→r=[]):Valid (b::r)∧digs (b::r)=b::r∧(b::r).head?≠some 45:=by
 have g:=h b List.mem_cons_self;have d:b≠45:=fun e=>by rw[e]at g;exact absurd g dd
 have j:=digs_pos d r;refine⟨⟨?_,by rw[j];simp⟩,j,by simpa using d⟩;by_cases f:b=48
 ·rw[k f,f];rfl
 ·rw[wlen_pos d f];exact zdu h
theorem itoa_back (z:Int):Valid (Lib.itoa z)∧val (Lib.itoa z)=z∧(∀L,0<L→z.natAbs<10^L→(digs (Lib.itoa z)).length≤L):=by
 rcases Int.lt_or_le z 0 with x|x
 ·obtain⟨n,rfl⟩:∃n:Nat,z= -(n:Int):=⟨z.natAbs,by omega⟩;have s:0<n:=om;obtain⟨g,j,m,q,k⟩:=decD n;obtain⟨b,r,f,c⟩:=m s;rw[Lib.itoa_neg _ s];have p:=digs_neg (Lib.decDigits n);have u:(45::Lib.decDigits n).head? =some 45:=rfl;refine⟨⟨?_,by rw[p];exact q⟩,?_,?_⟩
  ·rw[wlen_neg,f,if_neg (by simpa using c),←f,zdu g];simp;omega
  ·unfold val;rw[if_pos u,p,j]
  ·intro L o d;rw[p];exact k L o (by simpa using d)
 ·obtain⟨n,rfl⟩:∃n:Nat,z=(n:Int):=⟨z.natAbs,by omega⟩;obtain⟨g,j,m,q,k⟩:=decD n;rw[Lib.itoa_nonneg];obtain⟨b,r,f,c⟩:∃b r,Lib.decDigits n=b::r∧(b=48→r=[]):=by
   rcases Nat.eq_zero_or_pos n with l|l
   ·subst l;exact⟨_,[],Lib.decDigits_one dd,fun _=>rfl⟩
   ·obtain⟨b,r,f,c⟩:=m l;exact⟨b,r,f,fun e=>absurd e c⟩
  rw[f]at g j k⊢;obtain⟨y,t,A⟩:=valid_pos g c;refine⟨y,?_,?_⟩
  ·unfold val;rw[if_neg A,t,j]
  ·intro L o d;rw[t];exact k L o (by simpa using d)
end Rad
namespace Rad
end Rad
namespace Rad
open Go
abbrev IsFr (l:List UInt8):Prop:=Valid (l.take (wlen l))∧l[wlen l]? =some 47
def ftop (l:List UInt8):List UInt8:=l.take (wlen l)
def fden (l:List UInt8):List UInt8:=l.drop (wlen l+1)
theorem IsFr.parts {l:List UInt8} (h:IsFr l):l=ftop l++47::fden l∧Valid (ftop l):=by refine⟨?_,h.1⟩;obtain⟨b,c⟩:=List.getElem?_eq_some_iff.1 h.2;have:=List.take_append_drop (wlen l) l;rw[List.drop_eq_getElem_cons b,c]at this;exact this.symm
end Rad
