/- A part of the proof: P1, G13, G10, R15, S1. -/
import Derived.Test.YtjlkplidpdhgbaaGreatDoorP00
import Derived.Test.YtjlkplidpdhgbaaGreatDoorP28
import Derived.Test.YtjlkplidpdhgbaaGreatDoorP06
import Derived.Test.YtjlkplidpdhgbaaGreatDoorP26
import Derived.Test.YtjlkplidpdhgbaaGreatDoorP24
import Derived.Deep.AppendLies
import Derived.Deep.Upon
import Derived.Test.YtjlkplidpdhgbaaGreatDoorP12
import Derived.Test.YtjlkplidpdhgbaaGreatDoorP27
set_option linter.all false
set_option maxRecDepth 10000
set_option maxHeartbeats 4000000
namespace Go.Proofs.YtjlkplidpdhgbaaGreatDoor
open Go Go.Proofs Go.RowKit Go.Rad
def fbad (l:List UInt8):Prop:=_root_.Rad.klen (_root_.Rad.fden l)=0∨_root_.Rad.klen (_root_.Rad.fden l)<(_root_.Rad.fden l).length
def flong (l:List UInt8):Prop:=1000<(_root_.Rad.digs (_root_.Rad.ftop l)).length∨1000<(_root_.Rad.fden l).length
def fform (l:List UInt8):Prop:=_root_.Rad.dval (_root_.Rad.fden l)=1∨Int.gcd (_root_.Rad.val (_root_.Rad.ftop l)) (_root_.Rad.dval (_root_.Rad.fden l):Int)≠1
open Classical in
noncomputable def fcode (l:List UInt8):Int:=if _root_.Rad.IsFr l then (if fbad l then 1 else if flong l then 2 else if fform l then 3 else 0) else pcode l
open Classical in
noncomputable def fat (l:List UInt8):Int:=if _root_.Rad.IsFr l then (if fbad l then (((_root_.Rad.ftop l).length+1+_root_.Rad.klen (_root_.Rad.fden l):Nat):Int) else 0) else pat l
open Classical in
noncomputable def fval (l:List UInt8):Rat:=if _root_.Rad.IsFr l then (if fbad l∨flong l∨fform l then 0 else Rat.divInt (_root_.Rad.val (_root_.Rad.ftop l)) (_root_.Rad.dval (_root_.Rad.fden l):Int)) else (pval l:Rat)
theorem fno {l:List UInt8} (h:¬_root_.Rad.IsFr l):fcode l=pcode l∧fat l=pat l∧fval l=(pval l:Rat):=⟨if_neg h,if_neg h,if_neg h⟩
theorem fyes1 {l:List UInt8} (h:_root_.Rad.IsFr l) (b:fbad l):fcode l=1∧fat l=(((_root_.Rad.ftop l).length+1+_root_.Rad.klen (_root_.Rad.fden l):Nat):Int)∧fval l=0:=by unfold fcode fat fval;rw[if_pos h,if_pos h,if_pos h,if_pos b,if_pos b,if_pos (.inl b)];exact⟨rfl,rfl,rfl⟩
theorem fyes2 {l:List UInt8} (h:_root_.Rad.IsFr l) (b:¬fbad l) (c:flong l):fcode l=2∧fat l=0∧fval l=0:=by unfold fcode fat fval;rw[if_pos h,if_pos h,if_pos h,if_neg b,if_neg b,if_pos c,if_pos (.inr (.inl c))];exact⟨rfl,rfl,rfl⟩
theorem fyes3 {l:List UInt8} (h:_root_.Rad.IsFr l) (b:¬fbad l) (d:¬flong l) (c:fform l):fcode l=3∧fat l=0∧fval l=0:=by unfold fcode fat fval;rw[if_pos h,if_pos h,if_pos h,if_neg b,if_neg b,if_neg d,if_pos c,if_pos (.inr (.inr c))];exact⟨rfl,rfl,rfl⟩
theorem fyes0 {l:List UInt8} (h:_root_.Rad.IsFr l) (b:¬fbad l) (c:¬flong l) (d:¬fform l):fcode l=0∧fat l=0∧fval l=Rat.divInt (_root_.Rad.val (_root_.Rad.ftop l)) (_root_.Rad.dval (_root_.Rad.fden l):Int):=by unfold fcode fat fval;rw[if_pos h,if_pos h,if_pos h,if_neg b,if_neg b,if_neg c,if_neg d,if_neg (by rintro (h4|h4|h4) <;> contradiction)];exact⟨rfl,rfl,rfl⟩
theorem dl_klen (l:List UInt8):dl l=_root_.Rad.klen l:=rfl
theorem ten_B {x L n:Nat} (h:x<10^L) (c:L≤19*n):x<B^n:=by have b:10^L≤10^(19*n):=Nat.pow_le_pow_right dd c;have d:(10^19)^n≤B^n:=Nat.pow_le_pow_left (by unfold B;decide) n;rw[Nat.pow_mul]at b;omega
theorem cutBar' (s:ByteArray) (g:s.size≤9223372036854775806) (w:World):
 Calls Tryz.prog 95 #[.string s,.string (⟨#[47]⟩:ByteArray)] w fun e w'=>∃(p r:ByteArray) (b:Bool),e=.returned (.tuple #[.string p,.string r,.bool b])∧Below w.heap.size w w'∧
  (b=true→s.data.toList=p.data.toList++47::r.data.toList∧(47:UInt8)∉p.data.toList)∧(b=false→(47:UInt8)∉s.data.toList):=by
 refine(cutBar_any s g w).mono ?_;rintro e w' ⟨d,⟨c,rfl⟩|⟨p,r,c,f,rfl⟩⟩
 ·exact⟨s,ByteArray.empty,false,rfl,d,fun h=>(by cases h),fun _=>c⟩
 ·exact⟨p,r,true,rfl,d,fun _=>⟨c,f⟩,fun h=>(by cases h)⟩
theorem parseFrac_any (w:World) (s:ByteArray) (hs:s.size≤9223372036854775806) (ht:TabB w):
 Calls Tryz.prog 39 #[.string s] w fun e w'=>∃v,e=.returned (.tuple #[v,flt (fcode s.data.toList) (fat s.data.toList)])∧Below w.heap.size w w'∧IsQ w' v (fval s.data.toList):=by
 have HT:Hid (TabB w):=ht;have HS:Hid (s.size≤9223372036854775806):=hs;clear ht hs;go_enter Tryz.func39,Tryz.ntmps39;go_upto_region 1 with fail;refine wp_world (fun w1=>Below w.heap.size w w1∧FB4 w1 w.heap.size (.int .i64 0) (.slice none 0 0) (.int .i64 0) (.slice none 0 0)∧FB w1 (w.heap.size+1) (.int .i64 0) (.int .i64 0)) ⟨((bel1 w _).alloc (by simp;try omega) _),((FB4.mk0 w _ _ _ _ _).alloc _),by simpa using (FB.mk0 ((w).alloc (Obj.cells #[.int .i64 0,.slice none 0 0,.int .i64 0,.slice none 0 0] 62)) _ _ _)⟩ ?_;rintro w1 ⟨vd,wb,xb⟩;obtain⟨y1,we⟩:∃b,b=w.heap.size+1:=⟨_,rfl⟩;obtain⟨y0,ve⟩:∃b,b=w.heap.size:=⟨_,rfl⟩;rw[←we]at xb⊢;rw[←ve]at wb⊢;have A:Hid (w.heap.size≤y0∧y0<y1):=(by show _∧_;omega);have sc:Hid _:=vd;have xc:Hid (TQ false undef w1 y0):=⟨0,none,0,0,0,none,0,0,wb,fun h=>(by cases h)⟩;have yc:Hid (TFa false undef w1 y1):=⟨0,0,xb,fun h=>(by cases h),fun _=>⟨rfl,rfl⟩⟩;have sd:Hid (FB4 w1 y0 (.int .i64 0) (.slice none 0 0) (.int .i64 0) (.slice none 0 0)):=wb;have td:Hid (FB w1 y1 (.int .i64 0) (.int .i64 0)):=xb;clear vd ve we wb xb;have CC:=cutBar' s HS.out w1;go_wp2_with (go_at_call 95;fail);refine CC.mono ?_;rintro e w2 ⟨p,r,U,rfl,yb,be,ae⟩;have q:Hid (Below w.heap.size w w2):=sc.out.trans (yb.mono sc.out.size);have j:Hid (FB4 w2 y0 _ _ _ _):=sd.out.below yb;have g:Hid (FB w2 y1 _ _):=td.out.below yb;have jb:Hid (U=true→s.data.toList=p.data.toList++47::r.data.toList∧(47:UInt8)∉p.data.toList):=be;have tc:Hid (U=false→(47:UInt8)∉s.data.toList):=ae;clear CC yb be ae sd td xc yc sc;clear w1;obtain⟨V,hV⟩:∃V:Bool,V=true↔(U=true∧_root_.Rad.Valid p.data.toList):=by
  rcases Classical.em (U=true∧_root_.Rad.Valid p.data.toList)with h|h
  ·exact⟨true,fun _=>h,fun _=>rfl⟩
  ·exact⟨false,fun h'=>(by cases h'),fun h'=>absurd h' h⟩
 have HV:Hid (V=true↔(U=true∧_root_.Rad.Valid p.data.toList)):=hV;clear hV;have ec:p.data.toList.length=p.size:=ba_size p;have HP:Hid (U=true→p.size+1+r.size≤9223372036854775806):=(by intro h;have J:=HS.out;have Y:=congrArg List.length (jb.out h).1;rw[List.length_append,List.length_cons,ba_size,ba_size,ba_size]at Y;omega);go_upto_region 2 with fail;go_cut [31] from 18 to 31 (fun v f=>v=.bool (!V)∧f=w2)
 case first=>
  cases U with
  |false=>
   have HN:Hid (V=false):=by
    cases V with
    |false=>rfl
    |true=>exact absurd (HV.out.1 rfl).1 dd
   clear ec;go_wp2_with fail;go_meet
   case rel=>exact⟨by rw[HN.out];rfl,rfl⟩
  |true=>
   obtain⟨n,hn⟩:∃n,_root_.Rad.wlen p.data.toList=n:=⟨_,rfl⟩;obtain⟨en,ob⟩:∃en:Bool,en=true↔_root_.Rad.digs p.data.toList≠[]:=by
    rcases Classical.em (_root_.Rad.digs p.data.toList≠[])with h|h
    ·exact⟨true,fun _=>h,fun _=>rfl⟩
    ·exact⟨false,fun h'=>(by cases h'),fun h'=>absurd h' h⟩
   have CN:=fun f=>numberLen_any f p (by have:=HP.out rfl;omega) n hn;have CE:=fun f=>endsInDigit_any f p en ob;have me:n≤p.size:=(by rw[←hn,←ba_size];exact wlen_le _);by_cases J:n<p.size
   ·have gf:(n:Int)<(p.size:Int):=om;have HN:Hid (V=false):=by
     cases V with
     |false=>rfl
     |true=>have:=(HV.out.1 rfl).2.1;omega
    clear ec hn ob me J CE;go_wp2_with (go_at_call 62;refine(CN _).mono ?_;rintro e w' ⟨rfl,hw⟩;subst hw);go_meet
    case rel=>exact⟨by rw[HN.out];rfl,rfl⟩
   ·have gf:¬(n:Int)<(p.size:Int):=om;have HN:Hid (V=en):=by
     have Y:=HV.out;cases V with
     |true=>exact(ob.2 (Y.1 rfl).2.2).symm
     |false=>
      cases en with
      |false=>rfl
      |true=>exact Y.2 ⟨rfl,by rw[hn];omega,ob.1 rfl⟩
    clear ec hn ob me J;go_wp2_with (first|(go_at_call 62;refine(CN _).mono ?_;rintro e w' ⟨rfl,hw⟩;subst hw)|(go_at_call 63;refine(CE _).mono ?_;rintro e w' ⟨rfl,hw⟩;subst hw));go_meet
    case rel=>exact⟨by first|(rw[HN.out];done)|(rw[HN.out];rfl)|(have h:=HN.out;subst h;rfl)|(have h:=HN.out;subst h;simp;intro h9;omega)|(have h:=HN.out;subst h;simp)|(have h:=HN.out;subst h;cases en <;> rfl),rfl⟩
 case rest=>
 obtain⟨rfl,vf⟩:=hcut;subst wc;clear ec;go_upto_if 31 with fail;cases V with
 |false=>
  have ke:¬_root_.Rad.IsFr s.data.toList:=by
   cases U with
   |false=>exact _root_.Rad.not_isFr' (tc.out rfl)
   |true=>obtain⟨J,Y⟩:=jb.out rfl;rw[J];exact _root_.Rad.not_isFr Y (fun h=>by have:=HV.out.2 ⟨rfl,h⟩;cases this)
  have c:Hid (fcode s.data.toList=pcode s.data.toList∧fat s.data.toList=pat s.data.toList∧fval s.data.toList=(pval s.data.toList:Rat)):=fno ke;have CP:=parse_any w2 s HS.out;obtain⟨pc,qe⟩:∃pc,pcode s.data.toList=pc:=⟨_,rfl⟩;obtain⟨pa,pe⟩:∃pa,pat s.data.toList=pa:=⟨_,rfl⟩;obtain⟨z,hz⟩:∃z,pval s.data.toList=z:=⟨_,rfl⟩;rw[qe,pe,hz]at CP c;unfold flt at CP;clear ke qe pe hz jb tc HV HP;go_wp2_with (go_at_call 9;fail);refine CP.mono ?_;rintro e w3 ⟨v3,rfl,ac,hd⟩;obtain⟨sP,aP,nP,cP,rfl⟩:=hd.form;clear CP;go_upto_region 4 with fail;refine wp_world (fun f=>Below w3.heap.size w3 f∧FB f w3.heap.size (.int .i64 sP) (.slice aP nP cP)∧FB f (w3.heap.size+1) (.int .i64 pc) (.int .i64 pa)) (fb2 w3 _ _ _ _ _ _ rfl) ?_;rintro Z ⟨bd,F7,F8⟩;have ja:=ac.trans (bd.mono ac.size);obtain⟨g1,qb⟩:∃b,b=w3.heap.size+1:=⟨_,rfl⟩;obtain⟨g0,pb⟩:∃b,b=w3.heap.size:=⟨_,rfl⟩;have sa:Hid (y1<g0∧y1<g1):=(by have J:=g.out.lt;have Y:=ac.size;show _∧_;omega);rw[←qb]at F8⊢;rw[←pb]at F7⊢;have N:Hid (Below w.heap.size w Z):=q.out.trans (ja.mono q.out.size);have ze:Hid (FB Z g0 _ _):=F7;have af:Hid (FB Z g1 _ _):=F8;have xc:Hid (TQ false undef Z y0):=⟨_,_,_,_,_,_,_,_,j.out.below ja,fun h=>(by cases h)⟩;have yc:Hid (TFa false undef Z y1):=⟨0,0,g.out.below ja,fun h=>(by cases h),fun _=>⟨rfl,rfl⟩⟩;have bf:Hid (IsInt Z _ z):=hd.below bd;clear ac bd ja pb qb F7 F8 hd j g q;refine wp_draw3 mixed [⟨37,[],[],[7]⟩,⟨38,[0],[0],[]⟩,⟨39,[],[],[8]⟩,⟨87,[0,1],[0,1],[2]⟩,⟨88,[0,1,2,3],[0,1,2,3],[3]⟩] [] 84 rfl kfl (fun (i:Nat) (v:Value) (wq:World)=>match i with|0=>v=.agg #[.int .i64 sP,.slice aP nP cP]|1=>IsQ wq v ((z:Rat))|2=>v=.agg #[.int .i64 pc,.int .i64 pa]|3=>True|4=>True|_=>True) (fun (L:Nat→Bool) (fr:Act) (wq:World)=>Keep Z wq∧Below w.heap.size w wq∧Z.heap.size≤wq.heap.size∧FB wq g0 (.int .i64 sP) (.slice aP nP cP)∧FB wq g1 (.int .i64 pc) (.int .i64 pa)∧TQ (L 3) (fr.eval (.tmp 38)) wq y0∧TFa (L 4) (fr.eval (.tmp 39)) wq y1∧True) Keep ⟨Keep.of_below (bel_drew _),N.out.drew,Nat.le_refl _,ze.out.drew,af.out.drew,(TQ.below xc.out (bel_drew _)).free,(TFa.below yc.out (bel_drew _)).free,trivial⟩ (fun i v f wy h hx=>match i,h with|0,h=>h|1,h=>(h:IsQ f v ((z:Rat))).keep hx|2,h=>h|3,_=>trivial|4,_=>trivial|n+5,_=>trivial) ?_ ?_
  ·intro i o r ho hr L fr f hW hL fc ta re I D;have rd:Hid _:=re;clear re;obtain⟨hE,hB,hS,W,X,T,P,-⟩:Keep Z f∧Below w.heap.size w f∧Z.heap.size≤f.heap.size∧FB f g0 (.int .i64 sP) (.slice aP nP cP)∧FB f g1 (.int .i64 pc) (.int .i64 pa)∧TQ (L 3) (fr.eval (.tmp 38)) f y0∧TFa (L 4) (fr.eval (.tmp 39)) f y1∧True:=hW
   match i,ho,hr with
   |0,ho,hr=>?_
   |1,ho,hr=>obtain rfl:=oi ho;obtain rfl:=oi hr;have f0:L 3=false:=ta 3 dd;have e0:=evs 37 (I 0 dd _ rfl);clear I D ta fc;refine stpK3 rfl rfl dd fun K hK=>?_;go_simp;refine(whole_any f _ z (bf.out.keep hE)).mono ?_;rintro e wy ⟨u4,rfl,hb,h4⟩;exact hK _ _ ⟨h4,⟨hE.trans (Keep.of_below hb),hB.trans (Below.mono hb hB.size),Nat.le_trans hS (Below.size hb),(W.below hb),(X.below hb),(by show TQ (L 3) _ _ _;have t9:=(T.below hb);rw[f0]at t9⊢;exact t9.free),TFa.at dd (P.below hb),trivial⟩,Keep.of_below hb,nn⟩
   |2,ho,hr=>?_
   |3,ho,hr=>obtain rfl:=oi ho;obtain rfl:=oi hr;obtain⟨u1,q1⟩:∃u,fr.eval (.tmp 38)=u:=⟨_,rfl⟩;have p1:IsQ f u1 ((z:Rat)):=(by rw[←q1];exact I 1 dd _ rfl);have e1:=ev_tmp q1;have t2:=evf 2 (.pointer (some ⟨y0,0,none⟩)) (D 2 dd);clear I D ta fc;have tk:=T;obtain⟨s4,a4,n4,c4,t4,q4,m4,d4,rfl⟩:=p1.form;have hX:Keep f (put4 f y0 (.int .i64 s4) (.slice a4 n4 c4) (.int .i64 t4) (.slice q4 m4 d4)):=tk.keep (.int .i64 s4) (.slice a4 n4 c4) (.int .i64 t4) (.slice q4 m4 d4);have hN:TQ true (.agg #[.int .i64 s4,.slice a4 n4 c4,.int .i64 t4,.slice q4 m4 d4]) (put4 f y0 (.int .i64 s4) (.slice a4 n4 c4) (.int .i64 t4) (.slice q4 m4 d4)) y0:=tk.store s4 a4 n4 c4 t4 q4 m4 d4;rw[←q1]at hN;have uc:Hid _:=hN;have HX:Hid _:=hX;obtain⟨_,_,_,_,_,_,_,_,gd,ea⟩:=id tk;clear ea;obtain⟨lb,k0,k1,k2,k3,z0,z1,z2,z3⟩:=gd;refine stpS rfl rd.out dd fun K hK=>?_;have cf:Hid _:=hK;clear hN hX;go_simp;have hN:=uc.out;have hX:=HX.out;refine hK _ ⟨trivial,?_,hX,nn⟩;exact⟨hE.trans hX,below_set4 hB (by have:=A.out;omega) _ _ _ _,(by simp;exact hS),W.other4 _ _ _ _ (by have:=A.out;have:=sa.out;omega),X.other4 _ _ _ _ (by have:=A.out;have:=sa.out;omega),TQ.at dd hN,TFa.at dd (P.other4 _ _ _ _ (by have:=A.out;have:=sa.out;omega)),trivial⟩
   |4,ho,hr=>obtain rfl:=oi ho;obtain rfl:=oi hr;have q2:fr.eval (.tmp 39)=_:=I 2 dd _ rfl;have e2:=ev_tmp q2;have t3:=evf 3 (.pointer (some ⟨y1,0,none⟩)) (D 3 dd);clear I D ta fc;have tk:=P;have hX:Keep f (put2 f y1 (.int .i64 pc) (.int .i64 pa)):=tk.keep (.int .i64 pc) (.int .i64 pa);have hN:TFa true (.agg #[.int .i64 pc,.int .i64 pa]) (put2 f y1 (.int .i64 pc) (.int .i64 pa)) y1:=tk.store _ _;rw[←q2]at hN;have uc:Hid _:=hN;have HX:Hid _:=hX;obtain⟨_,_,gd,ea⟩:=id tk;clear ea;obtain⟨lb,k0,k1,z0,z1⟩:=gd;refine stpS rfl rd.out dd fun K hK=>?_;have cf:Hid _:=hK;clear hN hX;go_simp;have hN:=uc.out;have hX:=HX.out;refine hK _ ⟨trivial,?_,hX,nn⟩;exact⟨hE.trans hX,below_set2 hB (by have:=A.out;omega) _ _,(by simp;exact hS),W.other2 _ _ (by have:=A.out;have:=sa.out;omega),X.other2 _ _ (by have:=A.out;have:=sa.out;omega),TQ.at dd (T.other2 _ _ (by have:=A.out;have:=sa.out;omega)),TFa.at dd hN,trivial⟩
   |n+5,ho,hr=>exact absurd hr (by simp)
   all_goals
    obtain rfl:=oi ho;obtain rfl:=oi hr;have HD:Hid _:=ta;have pf:=W.c0;have qf:=W.c1;have rf:=X.c0;have sf:=X.c1;simp only[uxw,uw,evt]at I D;clear ta fc;refine stpK3 rfl rfl dd fun K hK=>?_;go_simp;exact hK _ _ ⟨rfl,⟨hE,hB,hS,W,X,TQ.at dd T,(by first|exact TFa.at dd P|exact P.fr (HD.out 4 dd)),trivial⟩,Keep.refl _,nn⟩
  ·intro vs wn gc hf ad wd;clear wd;obtain⟨hE,hB,hS,W,X,T,P,-⟩:=hf;replace T:TQ true _ wn y0:=T;rw[ad 1 _ rfl]at T;replace P:TFa true _ wn y1:=P;rw[ad 2 _ rfl]at P;clear ad;have e0:vs 0=_:=gc 0 dd;obtain⟨u1,e1⟩:∃u,vs 1=u:=⟨_,rfl⟩;have ud:IsQ wn u1 ((z:Rat)):=(by rw[←e1];exact gc 1 dd);have e2:vs 2=_:=gc 2 dd;obtain⟨mf,df,kf,ef,nf,lf,mk0,ff,xe,rb⟩:=T;have se:=rb rfl;rw[e1]at se;subst se;obtain⟨wf,xf,ye,cc,-⟩:=P;have md:=cc rfl;rw[e2]at md;simp only[Value.agg.injEq,Array.mk.injEq,List.cons.injEq,Value.int.injEq,Value.bool.injEq,Value.slice.injEq,and_true,true_and]at md;obtain⟨rfl,rfl⟩:=md;obtain⟨u3,e3⟩:∃u,vs 3=u:=⟨_,rfl⟩;obtain⟨u4,e4⟩:∃u,vs 4=u:=⟨_,rfl⟩;simp only[puts,Nat.reduceAdd,e0,e1,e2,e3,e4,Act.put,ll];clear gc e0 e1 e2 e3 e4 rb cc;have y:Hid _:=hB;have vc:Hid (IsQ _ _ _):=ud;obtain⟨lb,k0,k1,k2,k3,-,-,-,-⟩:=xe;obtain⟨lc,j0,j1,-,-⟩:=ye;clear hE hB hS W X ud;go_wp2;refine bodyPost_ret (v:= .tuple #[.agg #[.int .i64 mf,.slice df kf ef,.int .i64 nf,.slice lf mk0 ff],.agg #[.int .i64 pc,.int .i64 pa]]) rsw rfl ?_;exact⟨_,by rw[c.out.1,c.out.2.1];rfl,y.out,by rw[c.out.2.2];exact vc.out⟩
 |true=>
  obtain⟨rfl,nd⟩:=HV.out.1 rfl;have C:Hid (p.size+1+r.size≤9223372036854775806):=HP.out rfl;clear HP;obtain⟨hl,yd⟩:=jb.out rfl;obtain⟨f1,f2,f3⟩:=_root_.Rad.isFr_of (r:=r.data.toList) nd;rw[←hl]at f1 f2 f3;have G:Hid (_root_.Rad.IsFr s.data.toList∧_root_.Rad.ftop s.data.toList=p.data.toList∧_root_.Rad.fden s.data.toList=r.data.toList∧_root_.Rad.Valid p.data.toList):=⟨f1,f2,f3,nd⟩;obtain⟨k,hk⟩:∃k,_root_.Rad.klen r.data.toList=k:=⟨_,rfl⟩;have HK:Hid (_root_.Rad.klen r.data.toList=k):=hk;have CD:=digitsLen_any w2 r (by have:=C.out;omega);rw[dl_klen,hk]at CD;have ie:k≤r.size:=(by rw[←hk,←ba_size];exact _root_.Rad.klen_le _);have qa:Hid (k≤r.size):=ie;have zd:fbad s.data.toList↔(k=0∨k<r.size):=(by unfold fbad;rw[f3,hk,ba_size]);have ib:Hid (fbad s.data.toList↔(k=0∨k<r.size)):=zd;clear nd hl yd f1 f2 f3 hk ie zd jb tc HV;go_wp2_with (go_at_call 96;fail);refine CD.mono ?_;rintro e w3 ⟨rfl,hw⟩;subst w3;clear CD;by_cases h6:k=0∨k<r.size
  ·have c:Hid (fcode s.data.toList=1∧fat s.data.toList=((p.size+1+k:Nat):Int)∧fval s.data.toList=0):=(by have h:=fyes1 G.out.1 (ib.out.2 h6);rw[G.out.2.1,G.out.2.2.1,HK.out,ba_size]at h;exact h);have e1:IntKind.i64.wrap ((p.size:Int)+1)=(p.size:Int)+1:=(by have:=C.out;rw[IntKind.wrap_i64];omega);have e2:IntKind.i64.wrap ((p.size:Int)+1+(k:Int))=((p.size+1+k:Nat):Int):=(by have:=C.out;have:=qa.out;rw[IntKind.wrap_i64];omega);have BW:=q.out;have F0:=j.out;have F1:=g.out;by_cases rb:k=0
   ·subst rb;have he:((p.size+1+0:Nat):Int)=(p.size:Int)+1:=om;rw[he]at c;have e3:IntKind.i64.wrap ((p.size:Int)+1+0)=(p.size:Int)+1:=(by have:=C.out;rw[IntKind.wrap_i64];omega);clear h6 he e2;have y:Hid (Below w.heap.size w (put2 (put4 w2 y0 (.int .i64 0) (.slice none 0 0) (.int .i64 0) (.slice none 0 0)) y1 (.int .i64 1) (.int .i64 ((p.size:Int)+1)))):=below_set2 (below_set4 BW (by have:=A.out;omega) _ _ _ _) (by have:=A.out;omega) _ _;obtain⟨ly,ua,wa,xa,ya,z0,z1,z2,z3⟩:=F0;obtain⟨lz,ab,bb,cb,db⟩:=F1;have E:y0≠y1:=(by have:=A.out;omega);have fa:=E.symm;clear qa ib HK G C j g q;go_wp2;refine bodyPost_ret (v:= .tuple #[.agg #[.int .i64 0,.slice none 0 0,.int .i64 0,.slice none 0 0],.agg #[.int .i64 1,.int .i64 ((p.size:Int)+1)]]) rs rfl ?_;have H:flt (fcode s.data.toList) (fat s.data.toList)=.agg #[.int .i64 1,.int .i64 ((p.size:Int)+1)]:=(by rw[c.out.1,c.out.2.1];rfl);refine⟨.agg #[.int .i64 0,.slice none 0 0,.int .i64 0,.slice none 0 0],?_,y.out,?_⟩
    ·rw[H]
    ·rw[c.out.2.2];exact isQ_zero _
   ·have cc:¬(k:Int)=0:=om;have jf:(k:Int)<(r.size:Int):=om;obtain⟨zc,jc⟩:∃a:Int,((p.size+1+k:Nat):Int)=a:=⟨_,rfl⟩;rw[jc]at e2 c;clear h6 jc rb;have y:Hid (Below w.heap.size w (put2 (put4 w2 y0 (.int .i64 0) (.slice none 0 0) (.int .i64 0) (.slice none 0 0)) y1 (.int .i64 1) (.int .i64 zc))):=below_set2 (below_set4 BW (by have:=A.out;omega) _ _ _ _) (by have:=A.out;omega) _ _;obtain⟨ly,ua,wa,xa,ya,z0,z1,z2,z3⟩:=F0;obtain⟨lz,ab,bb,cb,db⟩:=F1;have E:y0≠y1:=(by have:=A.out;omega);have fa:=E.symm;clear qa ib HK G C j g q;go_wp2;refine bodyPost_ret (v:= .tuple #[.agg #[.int .i64 0,.slice none 0 0,.int .i64 0,.slice none 0 0],.agg #[.int .i64 1,.int .i64 zc]]) rs rfl ?_;have H:flt (fcode s.data.toList) (fat s.data.toList)=.agg #[.int .i64 1,.int .i64 zc]:=(by rw[c.out.1,c.out.2.1];rfl);refine⟨.agg #[.int .i64 0,.slice none 0 0,.int .i64 0,.slice none 0 0],?_,y.out,?_⟩
    ·rw[H]
    ·rw[c.out.2.2];exact isQ_zero _
  ·have cc:¬(k:Int)=0:=om;have jf:¬(k:Int)<(r.size:Int):=om;have tf:¬k<r.size:=fun h=>h6 (.inr h);have uf:¬k=0:=fun h=>h6 (.inl h);have ee:_root_.Rad.klen r.data.toList≠0:=(by rw[HK.out];omega);have fe:_root_.Rad.klen r.data.toList=r.data.toList.length:=(by rw[HK.out,ba_size];have:=qa.out;omega);obtain⟨b,t,-,-,-,-,nc,te,ce,rc⟩:=_root_.Rad.klen_all ee fe;have HR:Hid (_root_.Rad.Valid r.data.toList∧_root_.Rad.digs r.data.toList=r.data.toList∧_root_.Rad.val r.data.toList=(_root_.Rad.dval r.data.toList:Int)∧0<_root_.Rad.dval r.data.toList∧0<r.size):=⟨te,ce,rc,nc,by have:=qa.out;omega⟩;have S:Hid (¬fbad s.data.toList):=fun h=>h6 (ib.out.1 h);have oe:0<p.size:=by
    have J:=G.out.2.2.2.2;rcases Nat.eq_zero_or_pos p.size with h|h
    ·rw[List.eq_nil_of_length_eq_zero (by rw[ba_size];exact h:p.data.toList.length=0)]at J;exact absurd rfl J
    ·exact h
   have je:flong s.data.toList↔(1000<(_root_.Rad.digs p.data.toList).length∨1000<r.size):=(by unfold flong;rw[G.out.2.1,G.out.2.2.1,ba_size]);have da:Hid (flong s.data.toList↔(1000<(_root_.Rad.digs p.data.toList).length∨1000<r.size)):=je;obtain⟨l1,ld⟩:∃b:Bool,b=decide (1000<(_root_.Rad.digs p.data.toList).length):=⟨_,rfl⟩;obtain⟨l2,dc⟩:∃b:Bool,b=decide (1000<(_root_.Rad.digs r.data.toList).length):=⟨_,rfl⟩;have od:=fun f=>tooLong_any f p (by have:=C.out;omega) oe l1 ld;have eb:=fun f=>tooLong_any f r (by have:=C.out;omega) HR.out.2.2.2.2 l2 dc;rw[HR.out.2.1,ba_size]at dc;have HL:Hid (l1=decide (1000<(_root_.Rad.digs p.data.toList).length)∧l2=decide (1000<r.size)):=⟨ld,dc⟩;clear h6 ee fe nc te ce rc je ld dc oe ib HK qa;go_wp2_with (go_at_call 64;fail);refine(od w2).mono ?_;rintro e w3 ⟨rfl,n3,ue⟩;have M:Hid (Below w2.heap.size w2 w3):=(by rw[ue];exact below_drewN _ _ _);clear ue od;by_cases d:1000<(_root_.Rad.digs p.data.toList).length∨1000<r.size
   ·have c:Hid (fcode s.data.toList=2∧fat s.data.toList=0∧fval s.data.toList=0):=fyes2 G.out.1 S.out (da.out.2 d);cases l1 with
    |true=>
     have BW:=q.out.trans (M.out.mono q.out.size);have F0:=j.out.below M.out;have F1:=g.out.below M.out;clear eb d;have y:Hid (Below w.heap.size w (put2 (put4 w3 y0 (.int .i64 0) (.slice none 0 0) (.int .i64 0) (.slice none 0 0)) y1 (.int .i64 2) (.int .i64 0))):=below_set2 (below_set4 BW (by have:=A.out;omega) _ _ _ _) (by have:=A.out;omega) _ _;obtain⟨ly,ua,wa,xa,ya,z0,z1,z2,z3⟩:=F0;obtain⟨lz,ab,bb,cb,db⟩:=F1;have E:y0≠y1:=(by have:=A.out;omega);have fa:=E.symm;clear S da HL HR G C j g q M;go_wp2;refine bodyPost_ret (v:= .tuple #[.agg #[.int .i64 0,.slice none 0 0,.int .i64 0,.slice none 0 0],.agg #[.int .i64 2,.int .i64 0]]) rs rfl ?_;have H:flt (fcode s.data.toList) (fat s.data.toList)=.agg #[.int .i64 2,.int .i64 0]:=(by rw[c.out.1,c.out.2.1];rfl);refine⟨.agg #[.int .i64 0,.slice none 0 0,.int .i64 0,.slice none 0 0],?_,y.out,?_⟩
     ·rw[H]
     ·rw[c.out.2.2];exact isQ_zero _
    |false=>
     obtain rfl:l2=true:=by
      have J:=HL.out;rw[J.2];refine decide_eq_true ?_;rcases d with h|h
      ·have:=J.1;rw[decide_eq_true h]at this;cases this
      ·exact h
     clear d;go_wp2_with (go_at_call 64;fail);refine(eb w3).mono ?_;rintro e Z ⟨rfl,n4,sb⟩;have N:Hid (Below w2.heap.size w2 Z):=(by rw[sb];exact M.out.trans ((below_drewN _ _ _).mono M.out.size));clear sb eb;have BW:=q.out.trans (N.out.mono q.out.size);have F0:=j.out.below N.out;have F1:=g.out.below N.out;have y:Hid (Below w.heap.size w (put2 (put4 Z y0 (.int .i64 0) (.slice none 0 0) (.int .i64 0) (.slice none 0 0)) y1 (.int .i64 2) (.int .i64 0))):=below_set2 (below_set4 BW (by have:=A.out;omega) _ _ _ _) (by have:=A.out;omega) _ _;obtain⟨ly,ua,wa,xa,ya,z0,z1,z2,z3⟩:=F0;obtain⟨lz,ab,bb,cb,db⟩:=F1;have E:y0≠y1:=(by have:=A.out;omega);have fa:=E.symm;clear S da HL HR G C j g q M N;go_wp2;refine bodyPost_ret (v:= .tuple #[.agg #[.int .i64 0,.slice none 0 0,.int .i64 0,.slice none 0 0],.agg #[.int .i64 2,.int .i64 0]]) rs rfl ?_;have H:flt (fcode s.data.toList) (fat s.data.toList)=.agg #[.int .i64 2,.int .i64 0]:=(by rw[c.out.1,c.out.2.1];rfl);refine⟨.agg #[.int .i64 0,.slice none 0 0,.int .i64 0,.slice none 0 0],?_,y.out,?_⟩
     ·rw[H]
     ·rw[c.out.2.2];exact isQ_zero _
   ·obtain rfl:l1=false:=(by rw[HL.out.1];exact decide_eq_false (fun h=>d (.inl h)));obtain rfl:l2=false:=(by rw[HL.out.2];exact decide_eq_false (fun h=>d (.inr h)));have ra:Hid (¬flong s.data.toList):=fun h=>d (da.out.1 h);obtain⟨za,tb⟩:∃z,_root_.Rad.val p.data.toList=z:=⟨_,rfl⟩;obtain⟨zb,ub⟩:∃z,_root_.Rad.dval r.data.toList=z:=⟨_,rfl⟩;have oc:p.size≤1001:=by
     have J:=G.out.2.2.2.cases.2;have Y:¬1000<(_root_.Rad.digs p.data.toList).length:=fun h=>d (.inl h);have h3:=ba_size p;rcases J with⟨h4,-⟩|h4
     ·rw[h4]at h3;omega
     ·rw[h4,List.length_cons]at h3;omega
    have qc:r.size≤1001:=(by have:¬1000<r.size:=fun h=>d (.inr h);omega);have pd:=fun f=>value_any f p G.out.2.2.2 oc za tb.symm;have qd:=fun f=>value_any f r HR.out.1 qc (zb:Int) (by rw[HR.out.2.2.1,ub]);have HZ:Hid (za.natAbs<B^159∧((zb:Nat):Int).natAbs<B^159∧0<zb):=by
     have J:=_root_.Rad.dval_lt G.out.2.2.2.digits;have Y:=_root_.Rad.dval_lt HR.out.1.digits;have h3:=_root_.Rad.Valid.val_abs (l:=p.data.toList);rw[tb]at h3;rw[HR.out.2.1,ba_size,ub]at Y;refine⟨?_,?_,by have:=HR.out.2.2.2.1;omega⟩
     ·rw[h3];exact ten_B J (by have:¬1000<(_root_.Rad.digs p.data.toList).length:=fun h=>d (.inl h);omega)
     ·rw[Int.natAbs_natCast];exact ten_B Y om
    have ba:Hid ((fform s.data.toList↔(zb=1∨Int.gcd za (zb:Int)≠1))∧(¬fform s.data.toList→fcode s.data.toList=0∧fat s.data.toList=0∧fval s.data.toList=Rat.divInt za (zb:Int))):=by
     refine⟨?_,fun h=>?_⟩
     ·unfold fform;rw[G.out.2.1,G.out.2.2.1,tb,ub]
     ·have h9:=fyes0 G.out.1 S.out ra.out h;rw[G.out.2.1,G.out.2.2.1,tb,ub]at h9;exact h9
    clear tb ub oc qc d;go_wp2_with (go_at_call 64;fail);refine(eb w3).mono ?_;rintro e Z ⟨rfl,n4,sb⟩;have N:Hid (Below w2.heap.size w2 Z):=(by rw[sb];exact M.out.trans ((below_drewN _ _ _).mono M.out.size));clear sb eb M;go_wp2_with (go_at_call 65;fail);refine(pd Z).mono ?_;rintro e w5 ⟨va,rfl,cd,jd⟩;obtain⟨sA,aA,nA,cA,rfl⟩:=jd.form;go_wp2_with (go_at_call 65;fail);refine(qd w5).mono ?_;rintro e w6 ⟨vb,rfl,ed,kd⟩;obtain⟨sB,aB,nB,cB,rfl⟩:=kd.form;clear pd qd;go_upto_region 11 with fail;refine wp_world (fun f=>Below w6.heap.size w6 f∧FB f w6.heap.size (.int .i64 sA) (.slice aA nA cA)∧FB f (w6.heap.size+1) (.int .i64 sB) (.slice aB nB cB)) (fb2 w6 _ _ _ _ _ _ rfl) ?_;rintro w7 ⟨fd,fb,gb⟩;have mb:=ed.trans (fd.mono ed.size);have mc:=cd.trans (mb.mono cd.size);have ka:=N.out.trans (mc.mono N.out.size);obtain⟨g1,qb⟩:∃b,b=w6.heap.size+1:=⟨_,rfl⟩;obtain⟨g0,pb⟩:∃b,b=w6.heap.size:=⟨_,rfl⟩;rw[←qb]at gb⊢;rw[←pb]at fb⊢;have aa:Hid (Below w.heap.size w w7):=q.out.trans (ka.mono q.out.size);have O:Hid (FB4 w7 y0 _ _ _ _∧FB w7 y1 _ _∧FB w7 g0 (.int .i64 sA) (.slice aA nA cA)∧FB w7 g1 (.int .i64 sB) (.slice aB nB cB)):=⟨j.out.below ka,g.out.below ka,fb,gb⟩;have ca:Hid (IsInt w7 (.agg #[.int .i64 sA,.slice aA nA cA]) za∧IsInt w7 (.agg #[.int .i64 sB,.slice aB nB cB]) (zb:Int)):=⟨jd.below mb,kd.below fd⟩;clear cd ed fd mb mc ka pb qb jd kd j g q N;obtain⟨hc,la,ma,-,-⟩:=fb;obtain⟨ic,na,oa,-,-⟩:=gb;have CO:=isOne_any w7 _ _ ca.out.2;go_wp2_with (go_at_call 97;fail);refine CO.mono ?_;rintro e w8 ⟨rfl,F⟩;clear CO;by_cases J:(zb:Int)=1
    ·rw[decide_eq_true J];have c:Hid (fcode s.data.toList=3∧fat s.data.toList=0∧fval s.data.toList=0):=fyes3 G.out.1 S.out ra.out (ba.out.1.2 (.inl om));have BW:=aa.out.trans (F.mono aa.out.size);have F0:=O.out.1.below F;have F1:=O.out.2.1.below F;clear J F hc la ma ic na oa;have y:Hid (Below w.heap.size w (put2 (put4 w8 y0 (.int .i64 0) (.slice none 0 0) (.int .i64 0) (.slice none 0 0)) y1 (.int .i64 3) (.int .i64 0))):=below_set2 (below_set4 BW (by have:=A.out;omega) _ _ _ _) (by have:=A.out;omega) _ _;obtain⟨ly,ua,wa,xa,ya,z0,z1,z2,z3⟩:=F0;obtain⟨lz,ab,bb,cb,db⟩:=F1;have E:y0≠y1:=(by have:=A.out;omega);have fa:=E.symm;clear S da HL HR G C O ca aa ba HZ ra;go_wp2;refine bodyPost_ret (v:= .tuple #[.agg #[.int .i64 0,.slice none 0 0,.int .i64 0,.slice none 0 0],.agg #[.int .i64 3,.int .i64 0]]) rs rfl ?_;have H:flt (fcode s.data.toList) (fat s.data.toList)=.agg #[.int .i64 3,.int .i64 0]:=(by rw[c.out.1,c.out.2.1];rfl);refine⟨.agg #[.int .i64 0,.slice none 0 0,.int .i64 0,.slice none 0 0],?_,y.out,?_⟩
     ·rw[H]
     ·rw[c.out.2.2];exact isQ_zero _
    ·rw[decide_eq_false J];obtain⟨hc,la,ma,-,-⟩:=O.out.2.2.1.below F;obtain⟨ic,na,oa,-,-⟩:=O.out.2.2.2.below F;have CG:=gcd_any w8 _ _ za (zb:Int) (ca.out.1.below F) (ca.out.2.below F) HZ.out.1 HZ.out.2.1 ((HT.out.below aa.out).below F);go_wp2_with (go_at_call 37;fail);refine CG.mono ?_;rintro e w9 ⟨vg,rfl,xd,de⟩;clear CG;have CO:=isOne_any w9 _ _ de;have nb:=F.trans (xd.mono F.size);go_wp2_with (go_at_call 97;fail);refine CO.mono ?_;rintro e R ⟨rfl,kc⟩;clear CO;have m:=nb.trans (kc.mono nb.size);have ga:Hid (Below w.heap.size w R):=aa.out.trans (m.mono aa.out.size);have ha:Hid (FB4 R y0 _ _ _ _∧FB R y1 _ _∧FB R g0 (.int .i64 sA) (.slice aA nA cA)∧FB R g1 (.int .i64 sB) (.slice aB nB cB)):=⟨O.out.1.below m,O.out.2.1.below m,O.out.2.2.1.below m,O.out.2.2.2.below m⟩;have ia:Hid (IsInt R (.agg #[.int .i64 sA,.slice aA nA cA]) za∧IsInt R (.agg #[.int .i64 sB,.slice aB nB cB]) (zb:Int)):=⟨ca.out.1.below m,ca.out.2.below m⟩;clear F xd de kc nb m O ca aa;by_cases bc:((Int.gcd za (zb:Int):Nat):Int)=1
     ·rw[decide_eq_true bc];have kb:fcode s.data.toList=0∧fat s.data.toList=0∧fval s.data.toList=Rat.divInt za (zb:Int):=ba.out.2 (fun h=>by
       rcases ba.out.1.1 h with Y|Y
       ·omega
       ·omega)
      obtain⟨x,hx⟩:∃x,Rat.divInt za (zb:Int)=x:=⟨_,rfl⟩;rw[hx]at kb;have c:Hid (fcode s.data.toList=0∧fat s.data.toList=0∧fval s.data.toList=x):=kb;have hq:IsQ R (.agg #[.int .i64 sA,.slice aA nA cA,.int .i64 sB,.slice aB nB cB]) x:=(by obtain⟨Y,h3⟩:=_root_.Rad.low_pos (a:=za) (b:=(zb:Int)) (by have:=HZ.out.2.2;omega) om;rw[hx]at Y h3;refine IsQ.mk (by rw[Y];exact ia.out.1) ?_;rw[bot_den om,h3];exact ia.out.2);obtain⟨F0,F1,fb,gb⟩:=ha.out;have E:y0≠y1:=(by have:=A.out;omega);have fa:=E.symm;have y:Hid (Below w.heap.size w (put2 (put4 R y0 (.int .i64 sA) (.slice aA nA cA) (.int .i64 sB) (.slice aB nB cB)) y1 (.int .i64 0) (.int .i64 0))):=below_set2 (below_set4 ga.out (by have:=A.out;omega) _ _ _ _) (by have:=A.out;omega) _ _;have K1:=F0.keep' (.int _) (.soft (.slice _ _ _)) (.int _) (.soft (.slice _ _ _)) (.int .i64 sA) (.slice aA nA cA) (.int .i64 sB) (.slice aB nB cB);have K2:=(F1.other4 (.int .i64 sA) (.slice aA nA cA) (.int .i64 sB) (.slice aB nB cB) fa).keep' (.int _) (.int _) (.int .i64 0) (.int .i64 0);have vc:Hid (IsQ _ _ x):=(hq.keep K1).keep K2;obtain⟨ly,ua,wa,xa,ya,z0,z1,z2,z3⟩:=F0;obtain⟨lz,ab,bb,cb,db⟩:=F1;obtain⟨hc,la,ma,-,-⟩:=fb;obtain⟨ic,na,oa,-,-⟩:=gb;clear J bc hx kb hq K1 K2 ia ha ga ba HZ ra S da HL HR G C;go_wp2;refine bodyPost_ret (v:= .tuple #[.agg #[.int .i64 sA,.slice aA nA cA,.int .i64 sB,.slice aB nB cB],.agg #[.int .i64 0,.int .i64 0]]) rs rfl ?_;exact⟨_,by rw[c.out.1,c.out.2.1];rfl,y.out,by rw[c.out.2.2];exact vc.out⟩
     ·rw[decide_eq_false bc];have c:Hid (fcode s.data.toList=3∧fat s.data.toList=0∧fval s.data.toList=0):=fyes3 G.out.1 S.out ra.out (ba.out.1.2 (.inr om));have BW:=ga.out;obtain⟨F0,F1,-,-⟩:=ha.out;clear J bc hc la ma ic na oa;have y:Hid (Below w.heap.size w (put2 (put4 R y0 (.int .i64 0) (.slice none 0 0) (.int .i64 0) (.slice none 0 0)) y1 (.int .i64 3) (.int .i64 0))):=below_set2 (below_set4 BW (by have:=A.out;omega) _ _ _ _) (by have:=A.out;omega) _ _;obtain⟨ly,ua,wa,xa,ya,z0,z1,z2,z3⟩:=F0;obtain⟨lz,ab,bb,cb,db⟩:=F1;have E:y0≠y1:=(by have:=A.out;omega);have fa:=E.symm;clear S da HL HR G C ha ia ga ba HZ ra;go_wp2;refine bodyPost_ret (v:= .tuple #[.agg #[.int .i64 0,.slice none 0 0,.int .i64 0,.slice none 0 0],.agg #[.int .i64 3,.int .i64 0]]) rs rfl ?_;have H:flt (fcode s.data.toList) (fat s.data.toList)=.agg #[.int .i64 3,.int .i64 0]:=(by rw[c.out.1,c.out.2.1];rfl);refine⟨.agg #[.int .i64 0,.slice none 0 0,.int .i64 0,.slice none 0 0],?_,y.out,?_⟩
      ·rw[H]
      ·rw[c.out.2.2];exact isQ_zero _
theorem lv_words (β:Nat) (w:World) (b o:Nat):∀n,lv β ((List.range n).map fun i=>word w b (o+i))=num β w b o n
 |0=>rfl
 |n+1=>by rw[List.range_succ,List.map_append,List.map_cons,List.map_nil,lv_snoc,lv_words β w b o n,num_succ,List.length_map,List.length_range]
theorem append_dg (w:World) (d:Nat) (hd:d<10000) (v:Value) (x n:Nat) (hr:Dg w v x n) (hn:n≤1073741824):
 ∃g f w',(Builtin.append_ #[29,29] 29 #[.slice (some ⟨w.heap.size,0,none⟩) 1 1,v]).run Tryz.prog (w.alloc (Obj.cells #[.int .i64 (d:Int)] 3)).drew=.ok (.slice (some ⟨g,0,none⟩) (1+n) f) w'∧
  Arr .i64 10000 w' g 0 (1+n)∧num 10000 w' g 0 (1+n)=d+10000*x∧w.heap.size≤g∧g<w'.heap.size∧Below w.heap.size w w'∧1+n≤f∧f≤maxLen:=by
 obtain⟨i,B,C⟩:=Option.map_eq_some_iff.1 info3;simp only[Prod.mk.injEq]at C;obtain⟨z0,z1,z2⟩:=C;have own:(w.alloc (Obj.cells #[.int .i64 (d:Int)] 3)).drew.ownsRow w.heap.size 3 1 (.slice (some ⟨w.heap.size,0,none⟩) 1 1) 1 [.int .i64 (d:Int)]:=World.ownsRow_lit (size:=1) w #[.int .i64 (d:Int)] 1 (Nat.le_refl _) (by unfold maxLen;omega) rfl;have l:Below w.heap.size w (w.alloc (Obj.cells #[.int .i64 (d:Int)] 3)).drew:=(bel1 w _).drew;obtain⟨L,b,o,c,rfl,hs,hc,ca,Y,hx,_⟩:=hr;have J:∀g f w' (s:List Nat),w'.ownsRow w.heap.size 3 1 (.slice (some ⟨g,0,none⟩) (1+n) f) (1+n) ([.int .i64 (d:Int)]++s.map fun y:Nat=>Value.int .i64 (y:Int))→s.length=n→(∀y∈s,y<10000)→lv 10000 s=x→
  Arr .i64 10000 w' g 0 (1+n)∧num 10000 w' g 0 (1+n)=d+10000*x∧w.heap.size≤g∧g<w'.heap.size∧1+n≤f∧f≤maxLen:=by
  intro g f w' s h Z I hv;have hR:RowN .i64 3 w' w.heap.size (.slice (some ⟨g,0,none⟩) (1+n) f) (d::s):=(by unfold RowN;rw[List.length_cons,Z,Nat.add_comm n 1];exact h);obtain⟨aa,b',c',M,G,A,O,p,E,da,z,fa⟩:=hR.arr (β:=10000) (fun y r=>by
   rcases List.mem_cons.1 r with rfl|r
   ·exact hd
   ·exact I y r)
  rw[List.length_cons,Z,Nat.add_comm n 1]at M G A p E z;have e:=G om;simp only[Value.slice.injEq]at M;obtain⟨h1,-,rfl⟩:=M;rw[←h1]at e;simp only[Option.some.injEq,Addr.mk.injEq,and_true]at e;subst e;exact⟨p,by rw[E];simp[lv,hv],z om,p.lt om,A,O⟩
 by_cases h0:n=0
 ·subst h0;have R:x=0:=(by rw[←hx];rfl);have H:Src Tryz.prog i.size 29 (.slice L 0 c) 0 [] (w.alloc (Obj.cells #[.int .i64 (d:Int)] 3)).drew:=by
   cases L with
   |none=>exact Src.ofNil _ Tryz.underlying29 c
   |some a=>exact Src.ofSlice _ Tryz.underlying29 a 0 c [] (by simp) (by intro j u h;simp at h) (by intro u h;cases h)
  have m:=run_append_nothing (P:=Tryz.prog) (w.alloc (Obj.cells #[.int .i64 (d:Int)] 3)).drew 29 29 29 3 i Tryz.underlying29 B (some ⟨w.heap.size,0,none⟩) 1 1 (Nat.le_refl _) (.slice L 0 c) H;obtain⟨S,T,U,V,W,X⟩:=J w.heap.size 1 _ [] own rfl (fun y I=>by cases I) (by rw[R];rfl);exact⟨w.heap.size,1,_,m,S,T,U,V,l,W,X⟩
 ·obtain rfl:=hs om;have t:Arr .i64 10000 (w.alloc (Obj.cells #[.int .i64 (d:Int)] 3)).drew b o n:=arr_below Y l;have D:((List.range n).map fun i=>Value.int .i64 ((word (w.alloc (Obj.cells #[.int .i64 (d:Int)] 3)).drew b (o+i):Nat):Int)).length=n*1:=(by simp);obtain⟨g,f,w',m,F,N,ba,ea⟩:=run_append_lies (P:=Tryz.prog) (w.alloc (Obj.cells #[.int .i64 (d:Int)] 3)).drew 29 29 w.heap.size 3 i (.int .i64 0) 1 8 Tryz.underlying29 B z0 z1 z2 rfl om _ 1 _ own ⟨b,o,none⟩ n c
   ((List.range n).map fun i=>Value.int .i64 ((word (w.alloc (Obj.cells #[.int .i64 (d:Int)] 3)).drew b (o+i):Nat):Int)) D (cells_list t (Nat.le_refl _)) (fun u hu=>by obtain⟨_,_,rfl⟩:=List.mem_map.1 hu;rfl) om (by unfold maxLen;omega) om l.size _ rfl
  have q:w'.ownsRow w.heap.size 3 1 (.slice (some ⟨g,0,none⟩) (1+n) f) (1+n) ([.int .i64 (d:Int)]++((List.range n).map fun i=>word (w.alloc (Obj.cells #[.int .i64 (d:Int)] 3)).drew b (o+i)).map fun y:Nat=>Value.int .i64 (y:Int)):=(by rw[List.map_map];exact F);obtain⟨S,T,U,V,W,X⟩:=J g f w' _ q (by simp) (fun y I=>by obtain⟨j,hj,rfl⟩:=List.mem_map.1 I;exact arr_lt t (List.mem_range.1 hj)) (by rw[lv_words,num_below Y l,hx]);refine⟨g,f,w',m,S,T,U,V,l.grown N l.size (fun k hk=>?_),W,X⟩;simp only[Value.ownBlock,Option.some.injEq]at hk;omega
theorem fb5 (w:World) (c d f g j k d0 d1 p q:Value) (l m n o r:TypeId) {b:World}
 (h:b=((((w.alloc (Obj.cells #[c,d] l)).alloc (Obj.cells #[f,g] m)).alloc (Obj.cells #[j,k] n)).alloc (Obj.cells #[d0,d1] o)).alloc (Obj.cells #[p,q] r)):
 Below w.heap.size w b∧FB b w.heap.size c d∧FB b (w.heap.size+1) f g∧FB b (w.heap.size+1+1) j k∧FB b (w.heap.size+1+1+1) d0 d1∧FB b (w.heap.size+1+1+1+1) p q:=by
 subst h;obtain⟨s,t,u,x,y⟩:=fb4 w c d f g j k d0 d1 l m n o rfl;refine⟨s.alloc s.size _,t.alloc _,u.alloc _,x.alloc _,y.alloc _,?_⟩;have:=FB.mk0 ((((w.alloc (Obj.cells #[c,d] l)).alloc (Obj.cells #[f,g] m)).alloc (Obj.cells #[j,k] n)).alloc (Obj.cells #[d0,d1] o)) p q r;simpa using this
structure Box2 (w:World) (b:Nat) (u0 u1:Value):Prop where
 lt:b<w.heap.size
 c0:w.cell? ⟨b,0,none⟩=some u0
 c1:w.cell? ⟨b,1,none⟩=some u1
theorem Box2.step {w w':World} {b B:Nat} {u0 u1:Value} (h:Box2 w b u0 u1) (c:Below B w w') (d:b<B):Box2 w' b u0 u1:=⟨Nat.lt_of_lt_of_le h.lt c.size,(World.cell?_of_block (c.block b d)).trans h.c0,(World.cell?_of_block (c.block b d)).trans h.c1⟩
end Go.Proofs.YtjlkplidpdhgbaaGreatDoor
namespace Go.Rad
open Go Go.RowKit
theorem lv_set {β:Nat}:∀ {xs:List Nat} {k v:Nat} (h:k<xs.length),lv β (xs.set k v)+β^k*xs[k]=lv β xs+β^k*v
 |x::r,0,v,_=>by simp[lv];omega
 |x::r,k+1,v,h=>by have b:=lv_set (β:=β) (xs:=r) (k:=k) (v:=v) (by simpa using h);simp only[List.set_cons_succ,lv,List.getElem_cons_succ,Nat.pow_succ];rw[Nat.mul_comm (β^k) β,Nat.mul_assoc,Nat.mul_assoc,Nat.add_assoc,←Nat.mul_add,b,Nat.mul_add,Nat.add_assoc]
theorem lv_replicate (β:Nat):∀n,lv β (List.replicate n 0)=0
 |0=>rfl
 |n+1=>by simp[List.replicate_succ,lv,lv_replicate β n]
theorem wpList_makeFullN {P:Program} {w:World} {m:Array Oper} {rest:List Oper} {o:Oper} {a:Act} {Q:Exit→Act→World→Prop} (k:IntKind) (e:TypeId)
 (G:o.guard=none) (l c:Operand) (t:TypeId) (s:o.op=Op.makeSlice t l c) (J:P.underlying t=some (.slice e)) (bytes:Nat)
 (hi:(P.info? e).map (fun i=>(i.zero,i.size,i.bytes))=some (some (.int k 0),1,bytes)) (D:bytes≤8) (x u:IntKind) (L C:Int) (n:Nat) (I:a.eval l=.int x L) (F:a.eval c=.int u C) (B:L=(n:Int)) (z:C=(n:Int)) (O:n≤1099511627776) (b:Nat) (d:b≤w.heap.size)
 (A:∀w',RowN k e w' b (.slice (some ⟨w.heap.size,0,none⟩) n n) (List.replicate n 0)→Below w.heap.size w w'→wpList P m Q rest (a.put o.dst (.slice (some ⟨w.heap.size,0,none⟩) n n)) w'):
 wpList P m Q (o::rest) a w:=by
 obtain⟨i,r,f⟩:=Option.map_eq_some_iff.1 hi;simp only[Prod.mk.injEq]at f;obtain⟨M,N,R⟩:=f;subst z B;refine wpList_plain G fun K p=>?_;have E:i.bytes*n≤8*n:=Nat.mul_le_mul_right _ om;obtain⟨w',j,g,q⟩:=run_make_full (P:=P) w b t e i (.int k 0) 1 J r M N x u n om (by unfold maxLen;omega) d;unfold Oper.wp;simp[execOp,s,I,F,j,Result.andThen];refine p _ _ (A _ ?_ ((zz).grown q (Nat.le_refl _) (fun k H=>by cases H)));unfold RowN;rw[List.length_replicate,List.map_replicate];have y:(madeCells (Value.int k 0).cells (n*1)).toList=List.replicate n (Value.int k ((0:Nat):Int)):=(by rw[Nat.mul_one];exact toList_madeCells_one _ _);rw[←y];exact g
end Go.Rad
