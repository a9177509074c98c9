/- A part of the proof: Q10, C1. -/
import Derived.Test.YtjlkplidpdhgbaaGreatDoorP00
import Derived.Test.YtjlkplidpdhgbaaGreatDoorP29
import Derived.Test.YtjlkplidpdhgbaaGreatDoorP16
import Derived.Test.YtjlkplidpdhgbaaGreatDoorP22
import Derived.Test.YtjlkplidpdhgbaaGreatDoorP07
import Derived.Test.YtjlkplidpdhgbaaGreatDoorP06
import Derived.Test.YtjlkplidpdhgbaaGreatDoorP05
import Derived.Lib.CutLaws
import Derived.Lib.Bytealg
import Derived.Deep.Cut
import Derived.Deep.CutRange
set_option linter.all false
set_option maxRecDepth 10000
set_option maxHeartbeats 4000000
namespace Go.Proofs.YtjlkplidpdhgbaaGreatDoor
open Go Go.Proofs Go.RowKit Go.Rad
theorem pow20 (k:Nat):B^k≤10^(20*k):=by rw[Nat.pow_mul];exact Nat.pow_le_pow_left (by unfold B;decide) k
theorem txt_len (z:Int) (h:z.natAbs<B^159):(txt z).length≤3181:=by
 obtain⟨E,c⟩:∃E,E=20*159:=⟨_,rfl⟩;have b:B^159≤10^E:=(by subst c;exact pow20 159);obtain⟨f,-,d⟩:=_root_.Rad.itoa_back z;have g:=d E om (Nat.lt_of_lt_of_le h b);unfold txt;rcases f.cases.2 with⟨h3,-⟩|h3
 ·rw[h3];omega
 ·rw[h3,List.length_cons];omega
theorem cmpI_all (a b:Int):(a<b→zat a b= -1)∧(a=b→zat a b=0)∧(b<a→zat a b=1):=by
 unfold zat;refine⟨fun h=>if_pos h,fun h=>?_,fun h=>?_⟩
 ·subst h;rw[if_neg (Int.lt_irrefl a),if_pos rfl]
 ·have c:¬a<b:=om;have d:¬a=b:=om;rw[if_neg c,if_neg d]
theorem floor_any (w:World) (vx:Value) (x:Rat) (V:IsQ w vx x) (N:x.num.natAbs<B^159∧(x.den:Int).natAbs<B^159):
 Calls Tryz.prog 51 #[vx] w fun e w'=>∃u,e=.returned u∧Below w.heap.size w w'∧IsInt w' u (x.num / x.den):=by
 obtain⟨s,p,r,q,T,J,H,F,rfl⟩:=V.form;have j:Hid (IsQ w _ x):=V;have M:Hid (x.num.natAbs<B^159∧(x.den:Int).natAbs<B^159):=N;have U:T=0↔x.den=1:=V.parts.2.bot;clear V N;by_cases G:x.den=1
 ·have Z:=U.2 G;subst Z;have HD:Hid (x.num / (x.den:Int)=x.num):=(by show _=_;rw[G];exact Int.ediv_one _);rw[HD.out];clear U G;go_enter Tryz.func51,Tryz.ntmps51;go_upto_region 1 with fail;refine zab (fun f=>Below w.heap.size w f∧FB4 f w.heap.size (.int .i64 s) (.slice p r q) (.int .i64 0) (.slice J H F)∧FB f (w.heap.size+1) (.int .i64 0) (.slice none 0 0)) ⟨((zao w _).alloc (by simp;try omega) _),((FB4.mk0 w _ _ _ _ _).alloc _),by simpa using (FB.mk0 ((w).alloc (Obj.cells #[.int .i64 s,.slice p r q,.int .i64 0,.slice J H F] 62)) _ _ _)⟩ ?_;rintro f ⟨m,g,c⟩;obtain⟨y0,o⟩:∃b,b=w.heap.size+1:=⟨_,rfl⟩;obtain⟨x0,n⟩:∃b,b=w.heap.size:=⟨_,rfl⟩;rw[←o]at c⊢;rw[←n]at g⊢;have Y:Hid (w.heap.size≤x0∧x0<y0):=(by show _∧_;omega);have d:Hid _:=m;have k:Hid (FB4 f x0 (.int .i64 s) (.slice p r q) (.int .i64 0) (.slice J H F)):=g;have A:Hid (TI false undef f y0):=⟨0,none,0,0,c,fun h=>(by cases h)⟩;have l:Hid (FB f y0 (.int .i64 0) (.slice none 0 0)):=c;clear m n o g c;obtain⟨l3,O,P,R,S,-,-,-,-⟩:=k.out;have FY:=l.out;have y:Hid _:=zad d.out (show w.heap.size≤y0 by have:=Y.out;omega) (.int .i64 s) (.slice p r q);have z:Hid (IsInt _ _ _):=(j.out.below d.out).parts.1.keep (FY.keep (.int .i64 s) (.slice p r q));obtain⟨ly,ga,ha,z0,z1⟩:=FY;clear k A l j;go_wp2;refine bodyPost_ret (v:= .agg #[.int .i64 s,.slice p r q]) rs rfl ?_;exact⟨_,rfl,y.out,z.out⟩
 ·have Z:¬T=0:=fun h=>G (U.1 h);have t:Hid (bot x=(x.den:Int)):=zfp G;clear U G;go_enter Tryz.func51,Tryz.ntmps51;go_upto_region 1 with fail;refine zab (fun f=>Below w.heap.size w f∧FB4 f w.heap.size (.int .i64 s) (.slice p r q) (.int .i64 T) (.slice J H F)∧FB f (w.heap.size+1) (.int .i64 0) (.slice none 0 0)) ⟨((zao w _).alloc (by simp;try omega) _),((FB4.mk0 w _ _ _ _ _).alloc _),by simpa using (FB.mk0 ((w).alloc (Obj.cells #[.int .i64 s,.slice p r q,.int .i64 T,.slice J H F] 62)) _ _ _)⟩ ?_;rintro f ⟨m,g,c⟩;obtain⟨y0,o⟩:∃b,b=w.heap.size+1:=⟨_,rfl⟩;obtain⟨x0,n⟩:∃b,b=w.heap.size:=⟨_,rfl⟩;rw[←o]at c⊢;rw[←n]at g⊢;have Y:Hid (w.heap.size≤x0∧x0<y0):=(by show _∧_;omega);have d:Hid _:=m;have k:Hid (FB4 f x0 (.int .i64 s) (.slice p r q) (.int .i64 T) (.slice J H F)):=g;have A:Hid (TI false undef f y0):=⟨0,none,0,0,c,fun h=>(by cases h)⟩;have l:Hid (FB f y0 (.int .i64 0) (.slice none 0 0)):=c;clear m n o g c;obtain⟨l3,O,P,R,S,-,-,-,-⟩:=k.out;have X:=cut_any f _ _ x.num (bot x) 159 (j.out.below d.out).parts.1 (j.out.below d.out).parts.2 (by rw[t.out];exact _root_.Rad.under_ne x) M.out.1 (by rw[t.out];exact M.out.2) dd;rw[t.out]at X;go_wp2_with (go_at_call 90;fail);refine X.mono ?_;rintro e w3 ⟨vq,vr,rfl,C,hq,hr⟩;obtain⟨L,D,I,E,rfl⟩:=hq.form;obtain⟨s6,a6,n6,c6,rfl⟩:=hr.form;clear X hr l3 O P R S Z;go_upto_region 4 with fail;refine zab (fun W=>Below w.heap.size w W∧FB W y0 (.int .i64 0) (.slice none 0 0)∧FB W w3.heap.size (.int .i64 L) (.slice D I E)∧IsInt W (.agg #[.int .i64 L,.slice D I E]) (x.num / (x.den:Int))) ?_ ?_
  ·obtain⟨h1,h2,h3⟩:=fb2 w3 (.int .i64 L) (.slice D I E) (.int .i64 s6) (.slice a6 n6 c6) 24 24 rfl;have B3:=d.out.trans (C.mono d.out.size);exact⟨B3.trans (h1.mono B3.size),(l.out.below C).below h1,h2,hq.below h1⟩
  rintro w4 ⟨B4,F4,F5,I5⟩;have z:Hid (IsInt _ _ _):=I5.keep (F4.keep (.int .i64 L) (.slice D I E));have y:Hid _:=zad B4 (show w.heap.size≤y0 by have:=Y.out;omega) (.int .i64 L) (.slice D I E);obtain⟨l4,aa,ba,ea,fa⟩:=F4;obtain⟨l5,ca,da,-,-⟩:=F5;clear C B4 I5 hq k A l j d;go_wp2;refine bodyPost_ret (v:= .agg #[.int .i64 L,.slice D I E]) rs rfl ?_;exact⟨_,rfl,y.out,z.out⟩
theorem zek (w:World) (vx:Value) (x:Rat) (hx:IsQ w vx x) (da:x.num.natAbs<B^159∧(x.den:Int).natAbs<B^159) (ht:TabP w):
 Calls Tryz.prog 41 #[vx] w fun e w'=>e=.returned (.string ⟨(_root_.Rad.ftxt x).toArray⟩)∧Below w.heap.size w w':=by
 obtain⟨O,G,M,H,R,N,J,I,rfl⟩:=hx.form;have E:Hid (IsQ w _ x):=hx;have u:Hid (x.num.natAbs<B^159∧(x.den:Int).natAbs<B^159):=da;have HT:Hid (TabP w):=ht;have hp:R=0↔x.den=1:=hx.parts.2.bot;clear hx da ht;obtain⟨C,ha⟩:∃t:ByteArray,t=⟨(txt x.num).toArray⟩:=⟨_,rfl⟩;have Z:Hid (C=⟨(txt x.num).toArray⟩):=ha;clear ha;by_cases U:x.den=1
 ·have h0:=hp.2 U;subst h0;have HR:Hid ((⟨(_root_.Rad.ftxt x).toArray⟩:ByteArray)=C):=(by rw[Z.out];show _=_;unfold _root_.Rad.ftxt;rw[if_pos U];rfl);rw[HR.out];clear hp U;go_enter Tryz.func41,Tryz.ntmps41;go_upto_region 1 with fail;refine zab (fun k=>Below w.heap.size w k∧FB4 k w.heap.size (.int .i64 O) (.slice G M H) (.int .i64 0) (.slice N J I)) ⟨(zao w _),(FB4.mk0 w _ _ _ _ _)⟩ ?_;rintro k ⟨z,l⟩;obtain⟨x0,A⟩:∃b,b=w.heap.size:=⟨_,rfl⟩;rw[←A]at l⊢;have HO:Hid (w.heap.size≤x0):=(by show _≤_;omega);have g:Hid _:=z;have y:Hid (FB4 k x0 (.int .i64 O) (.slice G M H) (.int .i64 0) (.slice N J I)):=l;clear z A l;obtain⟨l3,ia,ja,ka,la,-,-,-,-⟩:=y.out;have CT:=zdc k _ _ (E.out.below g.out).parts.1 u.out.1 (HT.out.below g.out);rw[←Z.out]at CT;clear y E HT;go_wp2_with (go_at_call 14;fail);refine CT.mono ?_;rintro e w2 ⟨rfl,ca⟩;have S:Hid _:=g.out.trans (ca.mono g.out.size);clear CT ca;go_wp2;go_ret;exact⟨rfl,S.out⟩
 ·have h0:¬R=0:=fun h=>U (hp.1 h);have aa:Hid (bot x=(x.den:Int)):=zfp U;obtain⟨P,W⟩:∃t:ByteArray,t=⟨(txt (x.den:Int)).toArray⟩:=⟨_,rfl⟩;have H2:Hid (P=⟨(txt (x.den:Int)).toArray⟩):=W;have HR:Hid ((⟨(_root_.Rad.ftxt x).toArray⟩:ByteArray)=(C++(⟨#[47]⟩:ByteArray))++P):=(by show _=_;refine(ba_eq ?_).symm;rw[zee,zee,Z.out,W,ba_mk,ba_mk];unfold _root_.Rad.ftxt;rw[if_neg U];unfold txt;show Lib.itoa x.num++[47]++Lib.itoa (x.den:Int)=_;rw[List.append_assoc];rfl);have ea:=txt_len x.num u.out.1;have fa:=txt_len (x.den:Int) u.out.2;have z1:C.size≤3181:=(by rw[Z.out];exact ea);have z2:P.size≤3181:=(by rw[H2.out];exact fa);have n1:¬9223372036854775807<C.size+1:=om;have n2:¬9223372036854775807<C.size+1+P.size:=om;rw[HR.out];clear hp U W ea fa z1 z2;go_enter Tryz.func41,Tryz.ntmps41;go_upto_region 1 with fail;refine zab (fun k=>Below w.heap.size w k∧FB4 k w.heap.size (.int .i64 O) (.slice G M H) (.int .i64 R) (.slice N J I)) ⟨(zao w _),(FB4.mk0 w _ _ _ _ _)⟩ ?_;rintro k ⟨z,l⟩;obtain⟨x0,A⟩:∃b,b=w.heap.size:=⟨_,rfl⟩;rw[←A]at l⊢;have HO:Hid (w.heap.size≤x0):=(by show _≤_;omega);have g:Hid _:=z;have y:Hid (FB4 k x0 (.int .i64 O) (.slice G M H) (.int .i64 R) (.slice N J I)):=l;clear z A l;obtain⟨l3,ia,ja,ka,la,-,-,-,-⟩:=y.out;have X:∀c,Keep k c→Below w.heap.size w c→Calls Tryz.prog 14 #[.agg #[.int .i64 O,.slice G M H]] c fun e w'=>e=.returned (.string C)∧Below c.heap.size c w':=fun c hk m=>by rw[Z.out];exact zdc c _ _ ((E.out.below g.out).keep hk).parts.1 u.out.1 (HT.out.below m)
  have Y:∀c,Keep k c→Below w.heap.size w c→Calls Tryz.prog 14 #[.agg #[.int .i64 R,.slice N J I]] c fun e w'=>e=.returned (.string P)∧Below c.heap.size c w':=fun c hk m=>by rw[H2.out,←aa.out];exact zdc c _ _ ((E.out.below g.out).keep hk).parts.2 (by rw[aa.out];exact u.out.2) (HT.out.below m)
  go_upto_region 3 with fail
  clear l3 ia ja ka la h0;refine za2 za6 [⟨10,[],[],[1]⟩,⟨11,[0],[0],[]⟩,⟨12,[1],[0,1],[]⟩,⟨13,[2],[0,1,2],[]⟩,⟨14,[],[],[1]⟩,⟨15,[4],[4],[]⟩,⟨16,[2,5],[0,1,2,4,5],[]⟩,⟨17,[3,6],[0,1,2,3,4,5,6],[]⟩,⟨2,[0,1,2,3,4,5,6,7],[0,1,2,3,4,5,6,7],[]⟩] [] 18 rfl kfl (fun (i:Nat) (v:Value) (wq:World)=>match i with|0=>v=.pointer (some ⟨x0,0,none⟩)|1=>v=.agg #[.int .i64 O,.slice G M H]|2=>v=.string (C)|3=>v=.string ((C)++((⟨#[47]⟩:ByteArray)))|4=>v=.pointer (some ⟨x0,2,none⟩)|5=>v=.agg #[.int .i64 R,.slice N J I]|6=>v=.string (P)|7=>v=.string (((C)++((⟨#[47]⟩:ByteArray)))++(P))|8=>v=.string (((C)++((⟨#[47]⟩:ByteArray)))++(P))|_=>True) (fun (L:Nat→Bool) (fr:Act) (wq:World)=>Keep k wq∧Below w.heap.size w wq∧k.heap.size≤wq.heap.size∧FB4 wq x0 (.int .i64 O) (.slice G M H) (.int .i64 R) (.slice N J I)∧True) Keep ⟨Keep.of_below (zae _),g.out.drew,Nat.le_refl _,y.out.drew,trivial⟩ (fun i v c wy h hx=>match i,h with|0,h=>h|1,h=>h|2,h=>h|3,h=>h|4,h=>h|5,h=>h|6,h=>h|7,h=>h|8,h=>h|n+9,_=>trivial) ?_ ?_
  ·intro i o r s q L fr c hW hL V F ga j p;have sa:Hid _:=ga;clear ga;obtain⟨T,D,hS,f,-⟩:Keep k c∧Below w.heap.size w c∧k.heap.size≤c.heap.size∧FB4 c x0 (.int .i64 O) (.slice G M H) (.int .i64 R) (.slice N J I)∧True:=hW
   match i,s,q with
   |0,s,q=>?_
   |1,s,q=>?_
   |2,s,q=>obtain rfl:=oi s;obtain rfl:=oi q;have e1:=evs 11 (j 1 dd _ rfl);clear j p F V;refine zaj rfl rfl dd fun K hK=>?_;go_simp;refine(X c (T.trans (Keep.refl _)) D).mono ?_;rintro e wy ⟨rfl,m⟩;exact hK _ _ ⟨rfl,⟨T.trans (Keep.of_below m),D.trans (Below.mono m D.size),Nat.le_trans hS (Below.size m),(f.below m),trivial⟩,Keep.of_below m,nn⟩
   |3,s,q=>?_
   |4,s,q=>?_
   |5,s,q=>?_
   |6,s,q=>obtain rfl:=oi s;obtain rfl:=oi q;have e5:=evs 15 (j 5 dd _ rfl);clear j p F V;refine zaj rfl rfl dd fun K hK=>?_;go_simp;refine(Y c T D).mono ?_;rintro e wy ⟨rfl,m⟩;exact hK _ _ ⟨rfl,⟨T.trans (Keep.of_below m),D.trans (Below.mono m D.size),Nat.le_trans hS (Below.size m),(f.below m),trivial⟩,Keep.of_below m,nn⟩
   |7,s,q=>?_
   |8,s,q=>?_
   |n+9,s,q=>exact absurd q (by simp)
   all_goals
    obtain rfl:=oi s;obtain rfl:=oi q;have HD:Hid _:=F;have oa:=f.c0;have pa:=f.c1;have qa:=f.c2;have ra:=f.c3;simp only[uxw,uw,evt]at j p;clear F V;refine zaj rfl rfl dd fun K hK=>?_;go_simp;exact hK _ _ ⟨rfl,⟨T,D,hS,f,trivial⟩,Keep.refl _,nn⟩
  ·intro vs wn d ma na ba;clear ba;obtain⟨T,D,hS,f,-⟩:=ma;clear na;have e0:vs 0=_:=d 0 dd;have e1:vs 1=_:=d 1 dd;have e2:vs 2=_:=d 2 dd;have e3:vs 3=_:=d 3 dd;have e4:vs 4=_:=d 4 dd;have e5:vs 5=_:=d 5 dd;have e6:vs 6=_:=d 6 dd;have e7:vs 7=_:=d 7 dd;have e8:vs 8=_:=d 8 dd;simp only[zbp,Nat.reduceAdd,e0,e1,e2,e3,e4,e5,e6,e7,e8,Act.put,ll];clear d e0 e1 e2 e3 e4 e5 e6 e7 e8;have S:Hid _:=D;clear T D hS f X Y;go_wp2;go_ret;exact⟨rfl,S.out⟩
theorem cmp_nums {x y:Rat} (b:x.den=1) (c:y.den=1):zat x.num y.num=zat (x.num*y.den) (y.num*x.den):=by rw[b,c];simp
theorem cmp_signs {x y:Rat} (h:zat x.num 0≠zat y.num 0):zat (zat x.num 0) (zat y.num 0)=zat (x.num*y.den) (y.num*x.den):=by
 have z:=x.den_pos;have A:=y.den_pos;have o:x.num<0→x.num*(y.den:Int)<0:=fun h=>Int.mul_neg_of_neg_of_pos h om;have p:0<x.num→0<x.num*(y.den:Int):=fun h=>Int.mul_pos h om;have q:x.num=0→x.num*(y.den:Int)=0:=fun h=>by rw[h,Int.zero_mul]
 have q1:y.num<0→y.num*(x.den:Int)<0:=fun h=>Int.mul_neg_of_neg_of_pos h om;have q2:0<y.num→0<y.num*(x.den:Int):=fun h=>Int.mul_pos h om;have q3:y.num=0→y.num*(x.den:Int)=0:=fun h=>by rw[h,Int.zero_mul]
 obtain⟨P,m⟩:∃P,x.num*(y.den:Int)=P:=⟨_,rfl⟩;obtain⟨Q,n⟩:∃Q,y.num*(x.den:Int)=Q:=⟨_,rfl⟩;rw[m]at o p q;rw[n]at q1 q2 q3;rw[m,n];obtain⟨r,s,t⟩:=cmpI_all x.num 0;obtain⟨d,f,g⟩:=cmpI_all y.num 0;obtain⟨j,u,k⟩:=cmpI_all P Q;rcases Int.lt_trichotomy x.num 0 with a|a|a
 ·rw[r a]at h⊢;have l:=o a;rcases Int.lt_trichotomy y.num 0 with b|b|b
  ·exact absurd (d b).symm h
  ·have c:=q3 b;rw[f b,j om];rfl
  ·have c:=q2 b;rw[g b,j om];rfl
 ·rw[s a]at h⊢;have l:=q a;rcases Int.lt_trichotomy y.num 0 with b|b|b
  ·have c:=q1 b;rw[d b,k om];rfl
  ·exact absurd (f b).symm h
  ·have c:=q2 b;rw[g b,j om];rfl
 ·rw[t a]at h⊢;have l:=p a;rcases Int.lt_trichotomy y.num 0 with b|b|b
  ·have c:=q1 b;rw[d b,k om];rfl
  ·have c:=q3 b;rw[f b,k om];rfl
  ·exact absurd (g b).symm h
theorem fcmp_any (w:World) (vx vy:Value) (x y:Rat) (hx:IsQ w vx x) (hy:IsQ w vy y) (kb:x.num.natAbs<B^53∧(x.den:Int).natAbs<B^53) (lb:y.num.natAbs<B^53∧(y.den:Int).natAbs<B^53):
 Calls Tryz.prog 49 #[vx,vy] w fun e w'=>e=.returned (.int .i64 (zat (x.num*y.den) (y.num*x.den)))∧Below w.heap.size w w':=by
 obtain⟨S,N,R,O,I,pA,Y,X,rfl⟩:=hx.form;obtain⟨sB,V,Z,W,J,pB,mB,eB,rfl⟩:=hy.form;have T:Hid (IsQ w _ x):=hx;have U:Hid (IsQ w _ y):=hy;have ba:Hid (x.num.natAbs<B^53∧(x.den:Int).natAbs<B^53):=kb;have ca:Hid (y.num.natAbs<B^53∧(y.den:Int).natAbs<B^53):=lb;clear kb lb;obtain⟨cr,ya⟩:∃c,zat (x.num*y.den) (y.num*x.den)=c:=⟨_,rfl⟩;rw[ya];have va:Hid (zat (x.num*y.den) (y.num*x.den)=cr):=ya;clear ya;clear hx hy;go_enter Tryz.func49,Tryz.ntmps49;go_upto_region 1 with fail;refine zab (fun M=>Below w.heap.size w M∧FB4 M w.heap.size (.int .i64 S) (.slice N R O) (.int .i64 I) (.slice pA Y X)∧FB4 M (w.heap.size+1) (.int .i64 sB) (.slice V Z W) (.int .i64 J) (.slice pB mB eB)) ⟨((zao w _).alloc (by simp;try omega) _),((FB4.mk0 w _ _ _ _ _).alloc _),by simpa using (FB4.mk0 ((w).alloc (Obj.cells #[.int .i64 S,.slice N R O,.int .i64 I,.slice pA Y X] 62)) _ _ _ _ _)⟩ ?_;rintro M ⟨ib,ta,ua⟩;obtain⟨x1,nb⟩:∃b,b=w.heap.size+1:=⟨_,rfl⟩;obtain⟨x0,mb⟩:∃b,b=w.heap.size:=⟨_,rfl⟩;rw[←nb]at ua⊢;rw[←mb]at ta⊢;have HO:Hid (w.heap.size≤x0∧x0<x1):=(by show _∧_;omega);have E:Hid _:=ib;have wa:Hid (FB4 M x0 (.int .i64 S) (.slice N R O) (.int .i64 I) (.slice pA Y X)):=ta;have xa:Hid (FB4 M x1 (.int .i64 sB) (.slice V Z W) (.int .i64 J) (.slice pB mB eB)):=ua;clear ib mb nb ta ua;have hA:I=0↔x.den=1:=T.out.parts.2.bot;have s:J=0↔y.den=1:=U.out.parts.2.bot;obtain⟨l2,ob,pb,qb,rb,-,-,-,-⟩:=wa.out;obtain⟨l3,sb,tb,ub,vb,-,-,-,-⟩:=xa.out;go_cut [14] from 5 to 14 (fun v f=>v=.bool (decide (x.den=1∧y.den=1))∧f=M)
 case first=>
  by_cases h1:I=0
  ·by_cases h2:J=0
   ·have HD:Hid (decide (x.den=1∧y.den=1)=true):=decide_eq_true ⟨hA.1 h1,s.1 h2⟩;clear hA s;subst h1 h2;go_wp2_with fail;go_meet
    case rel=>exact⟨congrArg Value.bool HD.out.symm,rfl⟩
   ·have HD:Hid (decide (x.den=1∧y.den=1)=false):=decide_eq_false (fun h=>h2 (s.2 h.2));have H2:Hid (¬J=0):=h2;clear hA s;subst h1;go_wp2_with fail;go_meet
    case rel=>exact⟨congrArg Value.bool (by rw[HD.out];have:=H2.out;simpa using this),rfl⟩
  ·have HD:Hid (decide (x.den=1∧y.den=1)=false):=decide_eq_false (fun h=>h1 (hA.2 h.1));clear hA s;go_wp2_with fail;go_meet
   case rel=>exact⟨congrArg Value.bool HD.out.symm,rfl⟩
 case rest=>
 obtain⟨rfl,wb⟩:=hcut;subst wc;clear hA s;go_upto_if 14 with fail;by_cases hw:x.den=1∧y.den=1
 ·rw[decide_eq_true hw];have CM:=cmp_any M _ _ _ _ 53 (T.out.below E.out).parts.1 (U.out.below E.out).parts.1 ba.out.1 ca.out.1 dd;rw[cmp_nums hw.1 hw.2,va.out]at CM;clear hw T U;go_wp2_with (go_at_call 28;fail);refine CM.mono ?_;rintro e w2 ⟨rfl,jb⟩;have aa:Hid _:=E.out.trans (jb.mono E.out.size);clear CM jb;go_wp2;go_ret;exact⟨rfl,aa.out⟩
 ·rw[decide_eq_false hw];clear hw l2 ob pb qb rb l3 sb tb ub vb;obtain⟨cx,za⟩:∃c,zat x.num 0=c:=⟨_,rfl⟩;obtain⟨cy,ab⟩:∃c,zat y.num 0=c:=⟨_,rfl⟩;have ga:∀f,Keep M f→Calls Tryz.prog 60 #[.agg #[.int .i64 S,.slice N R O,.int .i64 I,.slice pA Y X]] f fun e w'=>e=.returned (.int .i64 cx)∧Below f.heap.size f w':=fun f hk=>by rw[←za];exact zfz f _ x ((T.out.below E.out).keep hk)
  have ha:∀f,Keep M f→Calls Tryz.prog 60 #[.agg #[.int .i64 sB,.slice V Z W,.int .i64 J,.slice pB mB eB]] f fun e w'=>e=.returned (.int .i64 cy)∧Below f.heap.size f w':=fun f hk=>by rw[←ab];exact zfz f _ y ((U.out.below E.out).keep hk)
  have ia:Hid (zat x.num 0=cx∧zat y.num 0=cy):=⟨za,ab⟩;clear za ab;go_upto_region 3 with fail;refine za2 za6 [⟨20,[],[],[2]⟩,⟨21,[0],[0],[]⟩,⟨22,[],[],[3]⟩,⟨23,[1,2],[0,1,2],[]⟩,⟨24,[1,3],[0,1,2,3],[]⟩] [] 41 rfl kfl (fun (i:Nat) (v:Value) (D:World)=>match i with|0=>v=.agg #[.int .i64 S,.slice N R O,.int .i64 I,.slice pA Y X]|1=>v=.int .i64 (cx)|2=>v=.agg #[.int .i64 sB,.slice V Z W,.int .i64 J,.slice pB mB eB]|3=>v=.int .i64 (cy)|4=>v=.bool ((cx:Int) !=(cy))|_=>True) (fun (L:Nat→Bool) (fr:Act) (D:World)=>Keep M D∧Below w.heap.size w D∧M.heap.size≤D.heap.size∧FB4 D x0 (.int .i64 S) (.slice N R O) (.int .i64 I) (.slice pA Y X)∧FB4 D x1 (.int .i64 sB) (.slice V Z W) (.int .i64 J) (.slice pB mB eB)∧True) Keep ⟨Keep.of_below (zae _),E.out.drew,Nat.le_refl _,wa.out.drew,xa.out.drew,trivial⟩ (fun i v f wy h hx=>match i,h with|0,h=>h|1,h=>h|2,h=>h|3,h=>h|4,h=>h|n+5,_=>trivial) ?_ ?_
  ·intro i o r q p L fr f hW hL z t H d l;have eb:Hid _:=H;clear H;obtain⟨A,s,F,j,k,-⟩:Keep M f∧Below w.heap.size w f∧M.heap.size≤f.heap.size∧FB4 f x0 (.int .i64 S) (.slice N R O) (.int .i64 I) (.slice pA Y X)∧FB4 f x1 (.int .i64 sB) (.slice V Z W) (.int .i64 J) (.slice pB mB eB)∧True:=hW
   match i,q,p with
   |0,q,p=>?_
   |1,q,p=>obtain rfl:=oi q;obtain rfl:=oi p;have e0:=evs 20 (d 0 dd _ rfl);clear d l t z;refine zaj rfl rfl dd fun K C=>?_;go_simp;refine(ga f A).mono ?_;rintro e wy ⟨rfl,g⟩;exact C _ _ ⟨rfl,⟨A.trans (Keep.of_below g),s.trans (Below.mono g s.size),Nat.le_trans F (Below.size g),(j.below g),(k.below g),trivial⟩,Keep.of_below g,nn⟩
   |2,q,p=>?_
   |3,q,p=>obtain rfl:=oi q;obtain rfl:=oi p;have e2:=evs 22 (d 2 dd _ rfl);clear d l t z;refine zaj rfl rfl dd fun K C=>?_;go_simp;refine(ha f A).mono ?_;rintro e wy ⟨rfl,g⟩;exact C _ _ ⟨rfl,⟨A.trans (Keep.of_below g),s.trans (Below.mono g s.size),Nat.le_trans F (Below.size g),(j.below g),(k.below g),trivial⟩,Keep.of_below g,nn⟩
   |4,q,p=>?_
   |n+5,q,p=>exact absurd p (by simp)
   all_goals
    obtain rfl:=oi q;obtain rfl:=oi p;have HD:Hid _:=t;have la:=j.c0;have ma:=j.c1;have na:=j.c2;have oa:=j.c3;have pa:=k.c0;have qa:=k.c1;have ra:=k.c2;have sa:=k.c3;simp only[uxw,uw,evt]at d l;clear t z;refine zaj rfl rfl dd fun K C=>?_;go_simp;exact C _ _ ⟨rfl,⟨A,s,F,j,k,trivial⟩,Keep.refl _,nn⟩
  ·intro vs wn m da ea G;clear G;obtain⟨A,s,F,j,k,-⟩:=da;clear ea;have e0:vs 0=_:=m 0 dd;have e1:vs 1=_:=m 1 dd;have e2:vs 2=_:=m 2 dd;have e3:vs 3=_:=m 3 dd;have e4:vs 4=_:=m 4 dd;simp only[zbp,Nat.reduceAdd,e0,e1,e2,e3,e4,Act.put,ll];clear m e0 e1 e2 e3 e4;have HK:Hid (Keep M wn):=A;have db:Hid (Below w.heap.size w wn):=s;have ja:Hid (FB4 wn x0 _ _ _ _):=j;have ka:Hid (FB4 wn x1 _ _ _ _):=k;clear A s F j k wa xa;by_cases hc:cx=cy
   ·have fa:(cx !=cy)=false:=(by simpa using hc);rw[fa];clear fa hc ga ha;have bb:∀f v v',IsInt f v (x.num*y.den)→IsInt f v' (y.num*x.den)→Calls Tryz.prog 28 #[v,v'] f fun e w'=>e=.returned (.int .i64 cr)∧Below f.heap.size f w':=fun f v v' h h'=>by rw[←va.out];exact cmp_any f v v' _ _ 106 h h' (prod53 ba.out.1 ca.out.2) (prod53 ca.out.1 ba.out.2) dd
    go_upto_region 5 with fail
    refine zab (fun f=>f=wn) rfl ?_;rintro w3 rfl;refine za2 za6 [⟨30,[],[],[2]⟩,⟨31,[0],[0],[]⟩,⟨32,[],[],[3]⟩,⟨33,[2],[2],[]⟩,⟨34,[1,3],[0,1,2,3],[]⟩,⟨35,[],[],[3]⟩,⟨36,[5],[5],[]⟩,⟨37,[],[],[2]⟩,⟨38,[4,7],[0,1,2,3,4,7],[]⟩,⟨39,[6,8],[0,1,2,3,4,5,6,7,8],[]⟩,⟨40,[4,9],[0,1,2,3,4,5,6,7,8,9],[]⟩,⟨4,[0,1,2,3,4,5,6,7,8,9,10],[0,1,2,3,4,5,6,7,8,9,10],[]⟩] [] 41 rfl kfl (fun (i:Nat) (v:Value) (D:World)=>match i with|0=>v=.pointer (some ⟨x0,0,none⟩)|1=>v=.agg #[.int .i64 S,.slice N R O]|2=>v=.agg #[.int .i64 sB,.slice V Z W,.int .i64 J,.slice pB mB eB]|3=>IsInt D v (y.den)|4=>IsInt D v (x.num*y.den)|5=>v=.pointer (some ⟨x1,0,none⟩)|6=>v=.agg #[.int .i64 sB,.slice V Z W]|7=>v=.agg #[.int .i64 S,.slice N R O,.int .i64 I,.slice pA Y X]|8=>IsInt D v (x.den)|9=>IsInt D v (y.num*x.den)|10=>v=.int .i64 (cr)|11=>v=.int .i64 (cr)|_=>True) (fun (L:Nat→Bool) (fr:Act) (D:World)=>Keep w3 D∧Below w.heap.size w D∧w3.heap.size≤D.heap.size∧FB4 D x0 (.int .i64 S) (.slice N R O) (.int .i64 I) (.slice pA Y X)∧FB4 D x1 (.int .i64 sB) (.slice V Z W) (.int .i64 J) (.slice pB mB eB)∧True) Keep ⟨Keep.of_below (zae _),db.out.drew,Nat.le_refl _,ja.out.drew,ka.out.drew,trivial⟩ (fun i v f wy h hx=>match i,h with|0,h=>h|1,h=>h|2,h=>h|3,h=>(h:IsInt f v y.den).keep hx|4,h=>(h:IsInt f v (x.num*y.den)).keep hx|5,h=>h|6,h=>h|7,h=>h|8,h=>(h:IsInt f v x.den).keep hx|9,h=>(h:IsInt f v (y.num*x.den)).keep hx|10,h=>h|11,h=>h|n+12,_=>trivial) ?_ ?_
    ·intro i o r q p L fr f hW hL z t H d l;have eb:Hid _:=H;clear H;obtain⟨A,s,F,j,k,-⟩:Keep w3 f∧Below w.heap.size w f∧w3.heap.size≤f.heap.size∧FB4 f x0 (.int .i64 S) (.slice N R O) (.int .i64 I) (.slice pA Y X)∧FB4 f x1 (.int .i64 sB) (.slice V Z W) (.int .i64 J) (.slice pB mB eB)∧True:=hW
     match i,q,p with
     |0,q,p=>?_
     |1,q,p=>?_
     |2,q,p=>?_
     |3,q,p=>obtain rfl:=oi q;obtain rfl:=oi p;have e2:=evs 32 (d 2 dd _ rfl);clear d l t z;refine zaj rfl rfl dd fun K C=>?_;go_simp;refine(zb1 f _ y (((U.out.below E.out).keep HK.out).keep A)).mono ?_;rintro e wy ⟨u4,rfl,g,h4⟩;exact C _ _ ⟨h4,⟨A.trans (Keep.of_below g),s.trans (Below.mono g s.size),Nat.le_trans F (Below.size g),(j.below g),(k.below g),trivial⟩,Keep.of_below g,nn⟩
     |4,q,p=>obtain rfl:=oi q;obtain rfl:=oi p;have e1:=evs 31 (d 1 dd _ rfl);obtain⟨u3,e3,p3⟩:=evr 33 (P:=fun u3=>IsInt f u3 y.den) (d 3 dd _ rfl);clear d l t z;refine zaj rfl rfl dd fun K C=>?_;go_simp;refine(zct f _ _ _ _ 53 53 (((T.out.below E.out).keep HK.out).keep A).parts.1 p3 ba.out.1 ca.out.2 dd).mono ?_;rintro e wy ⟨u4,rfl,g,h4⟩;exact C _ _ ⟨h4,⟨A.trans (Keep.of_below g),s.trans (Below.mono g s.size),Nat.le_trans F (Below.size g),(j.below g),(k.below g),trivial⟩,Keep.of_below g,nn⟩
     |5,q,p=>?_
     |6,q,p=>?_
     |7,q,p=>?_
     |8,q,p=>obtain rfl:=oi q;obtain rfl:=oi p;have e7:=evs 37 (d 7 dd _ rfl);clear d l t z;refine zaj rfl rfl dd fun K C=>?_;go_simp;refine(zb1 f _ x (((T.out.below E.out).keep HK.out).keep A)).mono ?_;rintro e wy ⟨u4,rfl,g,h4⟩;exact C _ _ ⟨h4,⟨A.trans (Keep.of_below g),s.trans (Below.mono g s.size),Nat.le_trans F (Below.size g),(j.below g),(k.below g),trivial⟩,Keep.of_below g,nn⟩
     |9,q,p=>obtain rfl:=oi q;obtain rfl:=oi p;have e6:=evs 36 (d 6 dd _ rfl);obtain⟨u8,e8,p8⟩:=evr 38 (P:=fun u8=>IsInt f u8 x.den) (d 8 dd _ rfl);clear d l t z;refine zaj rfl rfl dd fun K C=>?_;go_simp;refine(zct f _ _ _ _ 53 53 (((U.out.below E.out).keep HK.out).keep A).parts.1 p8 ca.out.1 ba.out.2 dd).mono ?_;rintro e wy ⟨u4,rfl,g,h4⟩;exact C _ _ ⟨h4,⟨A.trans (Keep.of_below g),s.trans (Below.mono g s.size),Nat.le_trans F (Below.size g),(j.below g),(k.below g),trivial⟩,Keep.of_below g,nn⟩
     |10,q,p=>obtain rfl:=oi q;obtain rfl:=oi p;obtain⟨u4,e4,p4⟩:=evr 34 (P:=fun u4=>IsInt f u4 (x.num*y.den)) (d 4 dd _ rfl);obtain⟨u9,e9,p9⟩:=evr 39 (P:=fun u9=>IsInt f u9 (y.num*x.den)) (d 9 dd _ rfl);clear d l t z;refine zaj rfl rfl dd fun K C=>?_;go_simp;refine(bb f _ _ p4 p9).mono ?_;rintro e wy ⟨rfl,g⟩;exact C _ _ ⟨rfl,⟨A.trans (Keep.of_below g),s.trans (Below.mono g s.size),Nat.le_trans F (Below.size g),(j.below g),(k.below g),trivial⟩,Keep.of_below g,nn⟩
     |11,q,p=>?_
     |n+12,q,p=>exact absurd p (by simp)
     all_goals
      obtain rfl:=oi q;obtain rfl:=oi p;have HD:Hid _:=t;have la:=j.c0;have ma:=j.c1;have na:=j.c2;have oa:=j.c3;have pa:=k.c0;have qa:=k.c1;have ra:=k.c2;have sa:=k.c3;simp only[uxw,uw,evt]at d l;clear t z;refine zaj rfl rfl dd fun K C=>?_;go_simp;exact C _ _ ⟨rfl,⟨A,s,F,j,k,trivial⟩,Keep.refl _,nn⟩
    ·intro vs wn m da ea G;clear G;obtain⟨A,s,F,j,k,-⟩:=da;clear ea;have e0:vs 0=_:=m 0 dd;have e1:vs 1=_:=m 1 dd;have e2:vs 2=_:=m 2 dd;obtain⟨u3,e3⟩:∃u,vs 3=u:=⟨_,rfl⟩;obtain⟨u4,e4⟩:∃u,vs 4=u:=⟨_,rfl⟩;have e5:vs 5=_:=m 5 dd;have e6:vs 6=_:=m 6 dd;have e7:vs 7=_:=m 7 dd;obtain⟨u8,e8⟩:∃u,vs 8=u:=⟨_,rfl⟩;obtain⟨u9,e9⟩:∃u,vs 9=u:=⟨_,rfl⟩;have fb:vs 10=_:=m 10 dd;have gb:vs 11=_:=m 11 dd;simp only[zbp,Nat.reduceAdd,e0,e1,e2,e3,e4,e5,e6,e7,e8,e9,fb,gb,Act.put,ll];clear m e0 e1 e2 e3 e4 e5 e6 e7 e8 e9 fb gb;have aa:Hid _:=s;clear A s F j k bb;go_wp2;go_ret;exact⟨rfl,aa.out⟩
   ·have fa:(cx !=cy)=true:=(by simpa using hc);rw[fa];have cb:∀f,Calls Tryz.prog 74 #[.int .i64 cx,.int .i64 cy] f fun e w'=>e=.returned (.int .i64 cr)∧Below f.heap.size f w':=fun f=>by have h:=cmp_signs (x:=x) (y:=y) (by rw[ia.out.1,ia.out.2];exact hc);rw[ia.out.1,ia.out.2,va.out]at h;rw[←h];refine(zc4 cx cy f).mono ?_;rintro e w' ⟨rfl,hw⟩;subst hw;exact⟨rfl,zz⟩
    clear fa hc;go_upto_region 4 with fail;refine zab (fun f=>f=wn) rfl ?_;rintro w3 rfl;refine za2 za6 [⟨25,[],[],[2]⟩,⟨26,[0],[0],[]⟩,⟨27,[],[],[3]⟩,⟨28,[1,2],[0,1,2],[]⟩,⟨29,[1,3],[0,1,2,3],[]⟩,⟨4,[0,1,2,3,4],[0,1,2,3,4],[]⟩] [] 41 rfl kfl (fun (i:Nat) (v:Value) (D:World)=>match i with|0=>v=.agg #[.int .i64 S,.slice N R O,.int .i64 I,.slice pA Y X]|1=>v=.int .i64 (cx)|2=>v=.agg #[.int .i64 sB,.slice V Z W,.int .i64 J,.slice pB mB eB]|3=>v=.int .i64 (cy)|4=>v=.int .i64 (cr)|5=>v=.int .i64 (cr)|_=>True) (fun (L:Nat→Bool) (fr:Act) (D:World)=>Keep w3 D∧Below w.heap.size w D∧w3.heap.size≤D.heap.size∧FB4 D x0 (.int .i64 S) (.slice N R O) (.int .i64 I) (.slice pA Y X)∧FB4 D x1 (.int .i64 sB) (.slice V Z W) (.int .i64 J) (.slice pB mB eB)∧True) Keep ⟨Keep.of_below (zae _),db.out.drew,Nat.le_refl _,ja.out.drew,ka.out.drew,trivial⟩ (fun i v f wy h hx=>match i,h with|0,h=>h|1,h=>h|2,h=>h|3,h=>h|4,h=>h|5,h=>h|n+6,_=>trivial) ?_ ?_
    ·intro i o r q p L fr f hW hL z t H d l;have eb:Hid _:=H;clear H;obtain⟨A,s,F,j,k,-⟩:Keep w3 f∧Below w.heap.size w f∧w3.heap.size≤f.heap.size∧FB4 f x0 (.int .i64 S) (.slice N R O) (.int .i64 I) (.slice pA Y X)∧FB4 f x1 (.int .i64 sB) (.slice V Z W) (.int .i64 J) (.slice pB mB eB)∧True:=hW
     match i,q,p with
     |0,q,p=>?_
     |1,q,p=>obtain rfl:=oi q;obtain rfl:=oi p;have e0:=evs 25 (d 0 dd _ rfl);clear d l t z;refine zaj rfl rfl dd fun K C=>?_;go_simp;refine(ga f (HK.out.trans A)).mono ?_;rintro e wy ⟨rfl,g⟩;exact C _ _ ⟨rfl,⟨A.trans (Keep.of_below g),s.trans (Below.mono g s.size),Nat.le_trans F (Below.size g),(j.below g),(k.below g),trivial⟩,Keep.of_below g,nn⟩
     |2,q,p=>?_
     |3,q,p=>obtain rfl:=oi q;obtain rfl:=oi p;have e2:=evs 27 (d 2 dd _ rfl);clear d l t z;refine zaj rfl rfl dd fun K C=>?_;go_simp;refine(ha f (HK.out.trans A)).mono ?_;rintro e wy ⟨rfl,g⟩;exact C _ _ ⟨rfl,⟨A.trans (Keep.of_below g),s.trans (Below.mono g s.size),Nat.le_trans F (Below.size g),(j.below g),(k.below g),trivial⟩,Keep.of_below g,nn⟩
     |4,q,p=>obtain rfl:=oi q;obtain rfl:=oi p;have e1:=evs 26 (d 1 dd _ rfl);have e3:=evs 28 (d 3 dd _ rfl);clear d l t z;refine zaj rfl rfl dd fun K C=>?_;go_simp;refine(cb f).mono ?_;rintro e wy ⟨rfl,g⟩;exact C _ _ ⟨rfl,⟨A.trans (Keep.of_below g),s.trans (Below.mono g s.size),Nat.le_trans F (Below.size g),(j.below g),(k.below g),trivial⟩,Keep.of_below g,nn⟩
     |5,q,p=>?_
     |n+6,q,p=>exact absurd p (by simp)
     all_goals
      obtain rfl:=oi q;obtain rfl:=oi p;have HD:Hid _:=t;have la:=j.c0;have ma:=j.c1;have na:=j.c2;have oa:=j.c3;have pa:=k.c0;have qa:=k.c1;have ra:=k.c2;have sa:=k.c3;simp only[uxw,uw,evt]at d l;clear t z;refine zaj rfl rfl dd fun K C=>?_;go_simp;exact C _ _ ⟨rfl,⟨A,s,F,j,k,trivial⟩,Keep.refl _,nn⟩
    ·intro vs wn m da ea G;clear G;obtain⟨A,s,F,j,k,-⟩:=da;clear ea;have e0:vs 0=_:=m 0 dd;have e1:vs 1=_:=m 1 dd;have e2:vs 2=_:=m 2 dd;have e3:vs 3=_:=m 3 dd;have e4:vs 4=_:=m 4 dd;have e5:vs 5=_:=m 5 dd;simp only[zbp,Nat.reduceAdd,e0,e1,e2,e3,e4,e5,Act.put,ll];clear m e0 e1 e2 e3 e4 e5;have aa:Hid _:=s;clear A s F j k cb ga ha;go_wp2;go_ret;exact⟨rfl,aa.out⟩
theorem indexByte_any (s:ByteArray) (c:Int) (w:World):
 Calls Tryz.prog 174 #[.string s,.int .u8 c] w fun e w'=>e=.returned (.int .i64 (Lib.indexByte s.data.toList c.toNat.toUInt8))∧w'=w:=by
 go_enter Tryz.func174,Tryz.ntmps174;go_wp2;rw[run_callFunc_extern Tryz.func184 kfl kfl kfl (e:=Extern.BytealgIndexByte.indexByte) kfl,Lib.run_indexByteString];simp only[Result.andThen];rw[Oper.upon_value];go_wp2;go_ret;exact⟨rfl,rfl⟩
theorem zem:∀l:List UInt8,((47:UInt8)∉l∧Lib.indexByte l 47= -1)∨∃p r,l=p++47::r∧(47:UInt8)∉p∧Lib.indexByte l 47=(p.length:Int)
 |[]=> .inl ⟨by simp,rfl⟩
 |b::l=>by
  by_cases d:b=47
  ·subst d;exact .inr ⟨[],l,rfl,by simp,rfl⟩
  ·have c:(b==47)=false:=(by simpa using d);have f:¬47=b:=fun h=>d h.symm;rcases zem l with⟨h1,h2⟩|⟨p,r,h1,h2,h3⟩
   ·left;refine⟨by simp[h1,f],?_⟩;simp[Lib.indexByte,c,h2]
   ·right;refine⟨b::p,r,by rw[h1];rfl,by simp[h2,f],?_⟩;have g:((p.length:Int)== -1)=false:=(by simp);simp only[Lib.indexByte,c,h3,g,List.length_cons];simp
theorem index_bar (s:ByteArray) (w:World):
 Calls Tryz.prog 152 #[.string s,.string (⟨#[47]⟩:ByteArray)] w fun e w'=>e=.returned (.int .i64 (Lib.indexByte s.data.toList 47))∧w'=w:=by
 by_cases b:s=(⟨#[47]⟩:ByteArray)
 ·subst b;go_enter Tryz.func152,Tryz.ntmps152;go_wp2;go_ret;exact⟨rfl,rfl⟩
 ·have f:([47]==s.toList)=false:=(by rw[beq_eq_false_iff_ne,ByteArray.toList_eq];intro h;apply b;apply ByteArray.ext;apply Array.toList_inj.1;rw[←h]);have c:=indexByte_any s 47 w;go_enter Tryz.func152,Tryz.ntmps152;go_wp2_with (go_at_call 174;refine c.mono ?_;rintro e w' ⟨rfl,d⟩;subst d);go_ret;exact⟨rfl,rfl⟩
theorem scut_any (s:ByteArray) (u:s.size≤9223372036854775806) (w:World):
 Calls Tryz.prog 127 #[.string s,.string (⟨#[47]⟩:ByteArray)] w fun e w'=>Below w.heap.size w w'∧
  (((47:UInt8)∉s.data.toList∧e=.returned (.tuple #[.string s,.string ByteArray.empty,.bool false]))∨
   ∃p r:ByteArray,s.data.toList=p.data.toList++47::r.data.toList∧(47:UInt8)∉p.data.toList∧e=.returned (.tuple #[.string p,.string r,.bool true])):=by
 have b:=index_bar s w;rcases zem s.data.toList with⟨h1,h2⟩|⟨p,r,h1,h2,h3⟩
 ·rw[h2]at b;go_enter Tryz.func127,Tryz.ntmps127;go_wp2_with (go_at_call 152;refine b.mono ?_;rintro e w' ⟨rfl,f⟩;subst f);go_ret3;exact⟨zz,.inl ⟨h1,rfl⟩⟩
 ·rw[h3]at b;have k:s.size=p.length+1+r.length:=(by rw[←zak,h1,List.length_append,List.length_cons];omega);obtain⟨n,d⟩:∃n,p.length=n:=⟨_,rfl⟩;rw[d]at b k;have g:s.extract 0 n=(⟨p.toArray⟩:ByteArray):=(by apply ByteArray.ext;apply Array.toList_inj.1;rw[Lib.extract_eq];simp[h1,←d]);have j:s.extract (n+1) s.size=(⟨r.toArray⟩:ByteArray):=(by apply ByteArray.ext;apply Array.toList_inj.1;rw[Lib.extract_to_end,h1,←d,←List.drop_drop];simp);have l:(0:Int)≤n:=om;have m:(n:Int)≤s.size:=om;have o:(0:Int)≤(n:Int)+1:=om;have q:(n:Int)+1≤s.size:=om;have t:IntKind.i64.wrap ((n:Int)+1)=(n:Int)+1:=(by rw[IntKind.wrap_i64];omega);have c:Hid (s.data.toList=p++47::r∧(47:UInt8)∉p∧s.extract 0 n=(⟨p.toArray⟩:ByteArray)∧s.extract (n+1) s.size=(⟨r.toArray⟩:ByteArray)):=⟨h1,h2,g,j⟩;clear h1 h2 h3 k d g j;go_enter Tryz.func127,Tryz.ntmps127;go_wp2_with (go_at_call 152;refine b.mono ?_;rintro e w' ⟨rfl,f⟩;subst f);go_region;go_wp2;go_ret3;refine⟨zae _,.inr ⟨⟨p.toArray⟩,⟨r.toArray⟩,c.out.1,c.out.2.1,?_⟩⟩;rw[←c.out.2.2.1,←c.out.2.2.2];rfl
theorem cutBar_any (s:ByteArray) (j:s.size≤9223372036854775806) (w:World):
 Calls Tryz.prog 95 #[.string s,.string (⟨#[47]⟩:ByteArray)] w fun e w'=>Below w.heap.size w w'∧
  (((47:UInt8)∉s.data.toList∧e=.returned (.tuple #[.string s,.string ByteArray.empty,.bool false]))∨
   ∃p r:ByteArray,s.data.toList=p.data.toList++47::r.data.toList∧(47:UInt8)∉p.data.toList∧e=.returned (.tuple #[.string p,.string r,.bool true])):=by
 have g:=scut_any s j w;go_enter Tryz.func95,Tryz.ntmps95;go_wp2_with (go_at_call 127;fail);refine g.mono ?_;rintro e w' ⟨f,⟨b,rfl⟩|⟨p,r,b,d,rfl⟩⟩
 ·go_wp2;go_ret3;exact⟨f,.inl ⟨b,rfl⟩⟩
 ·have c:Hid (s.data.toList=p.data.toList++47::r.data.toList∧(47:UInt8)∉p.data.toList):=⟨b,d⟩;clear b d;go_wp2;go_ret3;exact⟨f,.inr ⟨p,r,c.out.1,c.out.2,rfl⟩⟩
end Go.Proofs.YtjlkplidpdhgbaaGreatDoor
