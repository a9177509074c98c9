/- A part of the proof: W22, W30. -/
import Derived.Test.YtjlkplidpdhgbaaGreatDoorP00
import Derived.Test.YtjlkplidpdhgbaaGreatDoorP15
import Derived.Test.YtjlkplidpdhgbaaGreatDoorP11
set_option linter.all false
set_option maxRecDepth 10000
set_option maxHeartbeats 2000000
namespace Go.Proofs.YtjlkplidpdhgbaaGreatDoor
open Go Go.Proofs Go.RowKit Go.Rad
theorem cmpI_range (x y:Int): -1≤zat x y∧zat x y≤1:=by unfold zat;split <;> (try split) <;> omega
theorem cmpI_sign {x y:Int} (h:zat x 0≠zat y 0):zat (zat x 0) (zat y 0)=zat x y:=by by_cases b:x<0 <;> by_cases c:y<0 <;> by_cases d:x=0 <;> by_cases f:y=0 <;> simp[zat,b,c,d,f]at h⊢ <;> (try split) <;> (try split) <;> omega
theorem cmpI_abs {x y:Int} (h:zat x 0=zat y 0):zat x 0*zat ((x.natAbs:Nat):Int) ((y.natAbs:Nat):Int)=zat x y:=by
 by_cases c:x<0
 ·have b:y<0:=(by refine Classical.byContradiction fun b=>?_;simp[zat,c,b]at h;split at h <;> omega);unfold zat;rw[if_pos c];(repeat' split) <;> omega
 ·by_cases d:x=0
  ·have f:y=0:=(by refine Classical.byContradiction fun b=>?_;simp[zat,d,b]at h;split at h <;> omega);subst d;subst f;rfl
  ·have f:0<y:=(by refine Classical.byContradiction fun b=>?_;simp[zat,c,d]at h;split at h <;> (try split at h) <;> omega);unfold zat;rw[if_neg c,if_neg d];(repeat' split) <;> omega
theorem cmp_any (w:World) (vx vy:Value) (x y:Int) (L:Nat) (hx:IsInt w vx x) (hy:IsInt w vy y) (ga:x.natAbs<B^L) (ha:y.natAbs<B^L) (hL:L≤1099511627776):
 Calls Tryz.prog 28 #[vx,vy] w fun e w'=>e=.returned (.int .i64 (zat x y))∧Below w.heap.size w w':=by
 have q:=qEq;obtain⟨s,a,n,c,rfl⟩:=hx.form;obtain⟨t,b,m,d,rfl⟩:=hy.form;obtain⟨g1,g2,g3,g4,g5⟩:=hx.sgn;obtain⟨i1,i2,i3,i4,i5⟩:=hy.sgn;have hX:∀D,Below w.heap.size w D→IsInt D (.agg #[.int .i64 s,.slice a n c]) x:=fun D h=>hx.below h;have hY:∀D,Below w.heap.size w D→IsInt D (.agg #[.int .i64 t,.slice b m d]) y:=fun D h=>hy.below h;clear hx hy;by_cases hn:a=none∧b=none
 ·obtain⟨rfl,rfl⟩:=hn;obtain⟨rfl,rfl,rfl⟩:=g5 rfl;obtain⟨rfl,rfl,rfl⟩:=i5 rfl;clear g1 g2 g3 g4 g5 i1 i2 i3 i4 i5 hX hY;go_enter Tryz.func28,Tryz.ntmps28;go_wp2_with (go_at_call 74;refine(zc4 _ _ _).mono ?_;rintro e w' ⟨rfl,hw⟩;subst hw);go_ret;exact⟨rfl,zd2 _ _ _⟩
 ·clear g1 g2 g3 g4 g5 i1 i2 i3 i4 i5;by_cases fa:zat x 0=zat y 0
  ·have he:Hid (zat x 0*zat ((x.natAbs:Nat):Int) ((y.natAbs:Nat):Int)=zat x y):=cmpI_abs fa;have hw:Hid (IntKind.i64.wrap (zat x 0*zat ((x.natAbs:Nat):Int) ((y.natAbs:Nat):Int))=zat x y):=(by show IntKind.i64.wrap _=_;rw[cmpI_abs fa,IntKind.wrap_i64];have:=cmpI_range x y;omega);have HS:Hid ((zat x 0 !=zat y 0)=false):=(by show _=false;simpa using fa);clear fa he;rcases a with _|a
   ·rcases b with _|b
    ·exact absurd ⟨rfl,rfl⟩ hn
    ·clear hn;go_enter Tryz.func28,Tryz.ntmps28;go_wp2;refine zab (fun D=>Below w.heap.size w D∧w.heap.size+1<D.heap.size∧D.cell? ⟨w.heap.size,0,none⟩=some (.int .i64 s)∧D.cell? ⟨w.heap.size,1,none⟩=some (.slice none n c)∧D.cell? ⟨w.heap.size+1,0,none⟩=some (.int .i64 t)∧D.cell? ⟨w.heap.size+1,1,none⟩=some (.slice (some b) m d)) ⟨zd2 _ _ _,by simp,qq,qq,qq,qq⟩ ?_;rintro D ⟨k,hl,N,O,R,S⟩;have E:w.heap.size<D.heap.size:=om;have F:w.heap.size+1<D.heap.size:=om;refine zaq za6 [⟨18,[],[],[2]⟩,⟨19,[0],[0],[]⟩,⟨20,[],[],[3]⟩,⟨21,[1,2],[0,1,2],[]⟩,⟨22,[1,3],[0,1,2,3],[]⟩] [] kfl 36 rfl kfl (fun (i:Nat) (v:Value) (Y:World)=>match i with|0=>v=.agg #[.int .i64 s,.slice none n c]|1=>v=.int .i64 (zat x 0)|2=>v=.agg #[.int .i64 t,.slice (some b) m d]|3=>v=.int .i64 (zat y 0)|4=>v=.bool ((zat x 0:Int) !=(zat y 0))|_=>True) (fun _ Y=>Below D.heap.size D Y) (fun C M=>Below C.heap.size C M) (zz).drew (fun i v C M h hx=>match i,h with|0,h=>h|1,h=>h|2,h=>h|3,h=>h|4,h=>h|n+5,_=>trivial) ?_ ?_
     ·intro i o r z l L fr C u hL W V J f g;clear hL W V J
      match i,z,l with
      |0,z,l=>?_
      |1,z,l=>obtain rfl:=oi z;obtain rfl:=oi l;have T:=evs 18 (f 0 dd _ rfl);clear f g;refine zap rfl rfl fun K G=>?_;go_simp;refine(zbr C _ x (hX C (k.trans (u.mono k.size)))).mono ?_;rintro e M ⟨rfl,H⟩;exact G _ _ ⟨rfl,u.trans (H.mono u.size),H,nn⟩
      |2,z,l=>?_
      |3,z,l=>obtain rfl:=oi z;obtain rfl:=oi l;have U:=evs 20 (f 2 dd _ rfl);clear f g;refine zap rfl rfl fun K G=>?_;go_simp;refine(zbr C _ y (hY C (k.trans (u.mono k.size)))).mono ?_;rintro e M ⟨rfl,H⟩;exact G _ _ ⟨rfl,u.trans (H.mono u.size),H,nn⟩
      |4,z,l=>?_
      |n+5,z,l=>exact absurd l (by simp)
      all_goals obtain rfl:=oi z;obtain rfl:=oi l;simp only[uxw,uw,evt]at f g;have aa:=(u.cell (p:=⟨w.heap.size,0,none⟩) E).trans N;have ba:=(u.cell (p:=⟨w.heap.size,1,none⟩) E).trans O;have ca:=(u.cell (p:=⟨w.heap.size+1,0,none⟩) F).trans R;have da:=(u.cell (p:=⟨w.heap.size+1,1,none⟩) F).trans S;refine zap rfl rfl fun K G=>?_;go_simp;exact G _ _ ⟨rfl,u,zz,nn⟩
     ·intro vs wn j A I;clear I;have T:vs 0=_:=j 0 dd;have Z:vs 1=_:=j 1 dd;have U:vs 2=_:=j 2 dd;have X:vs 3=_:=j 3 dd;have e4:vs 4=_:=j 4 dd;simp only[zbp,Nat.reduceAdd,T,Z,U,X,e4,Act.put,ll];clear j T Z U X e4;replace N:=(A.cell (p:=⟨w.heap.size,0,none⟩) E).trans N;replace O:=(A.cell (p:=⟨w.heap.size,1,none⟩) E).trans O;replace R:=(A.cell (p:=⟨w.heap.size+1,0,none⟩) F).trans R;replace S:=(A.cell (p:=⟨w.heap.size+1,1,none⟩) F).trans S;replace E:=Nat.lt_of_lt_of_le E A.size;replace F:=Nat.lt_of_lt_of_le F A.size;replace hl:=Nat.lt_of_lt_of_le hl A.size;replace k:=k.trans (A.mono k.size);clear A;have hs:=HS.out;go_wp2;clear hs;refine zab (fun D=>D=wn) rfl ?_;rintro D rfl;refine zaq za6 [⟨28,[],[],[2]⟩,⟨29,[0],[0],[]⟩,⟨30,[],[],[2]⟩,⟨31,[1,2],[0,1,2],[]⟩,⟨32,[],[],[3]⟩,⟨33,[3,4],[0,1,2,3,4],[]⟩,⟨34,[3,5],[0,1,2,3,4,5],[]⟩,⟨35,[1,6],[0,1,2,3,4,5,6],[]⟩,⟨4,[0,1,2,3,4,5,6,7],[0,1,2,3,4,5,6,7],[]⟩] [] kfl 36 rfl kfl (fun (i:Nat) (v:Value) (Y:World)=>match i with|0=>v=.agg #[.int .i64 s,.slice none n c]|1=>v=.int .i64 (zat x 0)|2=>v=.agg #[.int .i64 s,.slice none n c]|3=>∃n,Mag Y v x.natAbs n|4=>v=.agg #[.int .i64 t,.slice (some b) m d]|5=>∃n,Mag Y v y.natAbs n|6=>v=.int .i64 (zat ((x.natAbs:Nat):Int) ((y.natAbs:Nat):Int))|7=>v=.int .i64 (IntKind.i64.wrap ((zat x 0:Int)*(zat ((x.natAbs:Nat):Int) ((y.natAbs:Nat):Int))))|8=>v=.int .i64 (IntKind.i64.wrap ((zat x 0:Int)*(zat ((x.natAbs:Nat):Int) ((y.natAbs:Nat):Int))))|_=>True) (fun _ Y=>Below D.heap.size D Y) (fun C M=>Below C.heap.size C M) (zz).drew (fun i v C M h hx=>match i,h with|0,h=>h|1,h=>h|2,h=>h|4,h=>h|6,h=>h|7,h=>h|8,h=>h|3,h=>by obtain⟨n,h⟩:=h;exact⟨n,h.below hx⟩|5,h=>by obtain⟨n,h⟩:=h;exact⟨n,h.below hx⟩|n+9,_=>trivial) ?_ ?_
      ·intro i o r z l L fr C u hL W V J f g;clear hL W V J
       match i,z,l with
       |0,z,l=>?_
       |1,z,l=>obtain rfl:=oi z;obtain rfl:=oi l;have T:=evs 28 (f 0 dd _ rfl);clear f g;refine zap rfl rfl fun K G=>?_;go_simp;refine(zbr C _ x (hX C (k.trans (u.mono k.size)))).mono ?_;rintro e M ⟨rfl,H⟩;exact G _ _ ⟨rfl,u.trans (H.mono u.size),H,nn⟩
       |2,z,l=>?_
       |3,z,l=>obtain rfl:=oi z;obtain rfl:=oi l;have U:=evs 30 (f 2 dd _ rfl);clear f g;refine zap rfl rfl fun K G=>?_;go_simp;refine(za5 C _ x (hX C (k.trans (u.mono k.size)))).mono ?_;rintro e M ⟨v4,n4,rfl,H,ea⟩;exact G _ _ ⟨⟨n4,ea⟩,u.trans (H.mono u.size),H,nn⟩
       |4,z,l=>?_
       |5,z,l=>obtain rfl:=oi z;obtain rfl:=oi l;have e4:=evs 32 (f 4 dd _ rfl);clear f g;refine zap rfl rfl fun K G=>?_;go_simp;refine(za5 C _ y (hY C (k.trans (u.mono k.size)))).mono ?_;rintro e M ⟨v4,n4,rfl,H,ea⟩;exact G _ _ ⟨⟨n4,ea⟩,u.trans (H.mono u.size),H,nn⟩
       |6,z,l=>obtain rfl:=oi z;obtain rfl:=oi l;obtain⟨u3,X,p3⟩:=evr 31 (P:=fun u3=>∃n,Mag C u3 x.natAbs n) (f 3 dd _ rfl);obtain⟨u5,e5,p5⟩:=evr 33 (P:=fun u5=>∃n,Mag C u5 y.natAbs n) (f 5 dd _ rfl);clear f g;refine zap rfl rfl fun K G=>?_;obtain⟨n3,p3⟩:=p3;obtain⟨n5,p5⟩:=p5;go_simp;refine(zdh C _ _ _ _ _ _ p3 p5 (by have:=p3.len_le ga;omega) (by have:=p5.len_le ha;omega)).mono ?_;rintro e M ⟨rfl,H⟩;exact G _ _ ⟨rfl,u.trans (H.mono u.size),H,nn⟩
       |7,z,l=>?_
       |8,z,l=>?_
       |n+9,z,l=>exact absurd l (by simp)
       all_goals obtain rfl:=oi z;obtain rfl:=oi l;simp only[uxw,uw,evt]at f g;have aa:=(u.cell (p:=⟨w.heap.size,0,none⟩) E).trans N;have ba:=(u.cell (p:=⟨w.heap.size,1,none⟩) E).trans O;have ca:=(u.cell (p:=⟨w.heap.size+1,0,none⟩) F).trans R;have da:=(u.cell (p:=⟨w.heap.size+1,1,none⟩) F).trans S;refine zap rfl rfl fun K G=>?_;go_simp;exact G _ _ ⟨rfl,u,zz,nn⟩
      ·intro vs wn j A I;clear I;have T:vs 0=_:=j 0 dd;have Z:vs 1=_:=j 1 dd;have U:vs 2=_:=j 2 dd;obtain⟨u3,X,p3⟩:∃u3,vs 3=u3∧(∃n,Mag wn u3 x.natAbs n):=⟨_,rfl,j 3 dd⟩;have e4:vs 4=_:=j 4 dd;obtain⟨u5,e5,p5⟩:∃u5,vs 5=u5∧(∃n,Mag wn u5 y.natAbs n):=⟨_,rfl,j 5 dd⟩;have e6:vs 6=_:=j 6 dd;have e7:vs 7=_:=j 7 dd;have e8:vs 8=_:=j 8 dd;simp only[zbp,Nat.reduceAdd,T,Z,U,X,e4,e5,e6,e7,e8,Act.put,ll];clear j T Z U X e4 e5 e6 e7 e8;rw[hw.out];go_wp2;go_ret;exact⟨rfl,k.trans (A.mono k.size)⟩
   ·clear hn;go_enter Tryz.func28,Tryz.ntmps28;go_wp2;refine zab (fun D=>Below w.heap.size w D∧w.heap.size+1<D.heap.size∧D.cell? ⟨w.heap.size,0,none⟩=some (.int .i64 s)∧D.cell? ⟨w.heap.size,1,none⟩=some (.slice (some a) n c)∧D.cell? ⟨w.heap.size+1,0,none⟩=some (.int .i64 t)∧D.cell? ⟨w.heap.size+1,1,none⟩=some (.slice b m d)) ⟨zd2 _ _ _,by simp,qq,qq,qq,qq⟩ ?_;rintro D ⟨k,hl,N,O,R,S⟩;have E:w.heap.size<D.heap.size:=om;have F:w.heap.size+1<D.heap.size:=om;refine zaq za6 [⟨18,[],[],[2]⟩,⟨19,[0],[0],[]⟩,⟨20,[],[],[3]⟩,⟨21,[1,2],[0,1,2],[]⟩,⟨22,[1,3],[0,1,2,3],[]⟩] [] kfl 36 rfl kfl (fun (i:Nat) (v:Value) (Y:World)=>match i with|0=>v=.agg #[.int .i64 s,.slice (some a) n c]|1=>v=.int .i64 (zat x 0)|2=>v=.agg #[.int .i64 t,.slice b m d]|3=>v=.int .i64 (zat y 0)|4=>v=.bool ((zat x 0:Int) !=(zat y 0))|_=>True) (fun _ Y=>Below D.heap.size D Y) (fun C M=>Below C.heap.size C M) (zz).drew (fun i v C M h hx=>match i,h with|0,h=>h|1,h=>h|2,h=>h|3,h=>h|4,h=>h|n+5,_=>trivial) ?_ ?_
    ·intro i o r z l L fr C u hL W V J f g;clear hL W V J
     match i,z,l with
     |0,z,l=>?_
     |1,z,l=>obtain rfl:=oi z;obtain rfl:=oi l;have T:=evs 18 (f 0 dd _ rfl);clear f g;refine zap rfl rfl fun K G=>?_;go_simp;refine(zbr C _ x (hX C (k.trans (u.mono k.size)))).mono ?_;rintro e M ⟨rfl,H⟩;exact G _ _ ⟨rfl,u.trans (H.mono u.size),H,nn⟩
     |2,z,l=>?_
     |3,z,l=>obtain rfl:=oi z;obtain rfl:=oi l;have U:=evs 20 (f 2 dd _ rfl);clear f g;refine zap rfl rfl fun K G=>?_;go_simp;refine(zbr C _ y (hY C (k.trans (u.mono k.size)))).mono ?_;rintro e M ⟨rfl,H⟩;exact G _ _ ⟨rfl,u.trans (H.mono u.size),H,nn⟩
     |4,z,l=>?_
     |n+5,z,l=>exact absurd l (by simp)
     all_goals obtain rfl:=oi z;obtain rfl:=oi l;simp only[uxw,uw,evt]at f g;have aa:=(u.cell (p:=⟨w.heap.size,0,none⟩) E).trans N;have ba:=(u.cell (p:=⟨w.heap.size,1,none⟩) E).trans O;have ca:=(u.cell (p:=⟨w.heap.size+1,0,none⟩) F).trans R;have da:=(u.cell (p:=⟨w.heap.size+1,1,none⟩) F).trans S;refine zap rfl rfl fun K G=>?_;go_simp;exact G _ _ ⟨rfl,u,zz,nn⟩
    ·intro vs wn j A I;clear I;have T:vs 0=_:=j 0 dd;have Z:vs 1=_:=j 1 dd;have U:vs 2=_:=j 2 dd;have X:vs 3=_:=j 3 dd;have e4:vs 4=_:=j 4 dd;simp only[zbp,Nat.reduceAdd,T,Z,U,X,e4,Act.put,ll];clear j T Z U X e4;replace N:=(A.cell (p:=⟨w.heap.size,0,none⟩) E).trans N;replace O:=(A.cell (p:=⟨w.heap.size,1,none⟩) E).trans O;replace R:=(A.cell (p:=⟨w.heap.size+1,0,none⟩) F).trans R;replace S:=(A.cell (p:=⟨w.heap.size+1,1,none⟩) F).trans S;replace E:=Nat.lt_of_lt_of_le E A.size;replace F:=Nat.lt_of_lt_of_le F A.size;replace hl:=Nat.lt_of_lt_of_le hl A.size;replace k:=k.trans (A.mono k.size);clear A;have hs:=HS.out;go_wp2;clear hs;refine zab (fun D=>D=wn) rfl ?_;rintro D rfl;refine zaq za6 [⟨28,[],[],[2]⟩,⟨29,[0],[0],[]⟩,⟨30,[],[],[2]⟩,⟨31,[1,2],[0,1,2],[]⟩,⟨32,[],[],[3]⟩,⟨33,[3,4],[0,1,2,3,4],[]⟩,⟨34,[3,5],[0,1,2,3,4,5],[]⟩,⟨35,[1,6],[0,1,2,3,4,5,6],[]⟩,⟨4,[0,1,2,3,4,5,6,7],[0,1,2,3,4,5,6,7],[]⟩] [] kfl 36 rfl kfl (fun (i:Nat) (v:Value) (Y:World)=>match i with|0=>v=.agg #[.int .i64 s,.slice (some a) n c]|1=>v=.int .i64 (zat x 0)|2=>v=.agg #[.int .i64 s,.slice (some a) n c]|3=>∃n,Mag Y v x.natAbs n|4=>v=.agg #[.int .i64 t,.slice b m d]|5=>∃n,Mag Y v y.natAbs n|6=>v=.int .i64 (zat ((x.natAbs:Nat):Int) ((y.natAbs:Nat):Int))|7=>v=.int .i64 (IntKind.i64.wrap ((zat x 0:Int)*(zat ((x.natAbs:Nat):Int) ((y.natAbs:Nat):Int))))|8=>v=.int .i64 (IntKind.i64.wrap ((zat x 0:Int)*(zat ((x.natAbs:Nat):Int) ((y.natAbs:Nat):Int))))|_=>True) (fun _ Y=>Below D.heap.size D Y) (fun C M=>Below C.heap.size C M) (zz).drew (fun i v C M h hx=>match i,h with|0,h=>h|1,h=>h|2,h=>h|4,h=>h|6,h=>h|7,h=>h|8,h=>h|3,h=>by obtain⟨n,h⟩:=h;exact⟨n,h.below hx⟩|5,h=>by obtain⟨n,h⟩:=h;exact⟨n,h.below hx⟩|n+9,_=>trivial) ?_ ?_
     ·intro i o r z l L fr C u hL W V J f g;clear hL W V J
      match i,z,l with
      |0,z,l=>?_
      |1,z,l=>obtain rfl:=oi z;obtain rfl:=oi l;have T:=evs 28 (f 0 dd _ rfl);clear f g;refine zap rfl rfl fun K G=>?_;go_simp;refine(zbr C _ x (hX C (k.trans (u.mono k.size)))).mono ?_;rintro e M ⟨rfl,H⟩;exact G _ _ ⟨rfl,u.trans (H.mono u.size),H,nn⟩
      |2,z,l=>?_
      |3,z,l=>obtain rfl:=oi z;obtain rfl:=oi l;have U:=evs 30 (f 2 dd _ rfl);clear f g;refine zap rfl rfl fun K G=>?_;go_simp;refine(za5 C _ x (hX C (k.trans (u.mono k.size)))).mono ?_;rintro e M ⟨v4,n4,rfl,H,ea⟩;exact G _ _ ⟨⟨n4,ea⟩,u.trans (H.mono u.size),H,nn⟩
      |4,z,l=>?_
      |5,z,l=>obtain rfl:=oi z;obtain rfl:=oi l;have e4:=evs 32 (f 4 dd _ rfl);clear f g;refine zap rfl rfl fun K G=>?_;go_simp;refine(za5 C _ y (hY C (k.trans (u.mono k.size)))).mono ?_;rintro e M ⟨v4,n4,rfl,H,ea⟩;exact G _ _ ⟨⟨n4,ea⟩,u.trans (H.mono u.size),H,nn⟩
      |6,z,l=>obtain rfl:=oi z;obtain rfl:=oi l;obtain⟨u3,X,p3⟩:=evr 31 (P:=fun u3=>∃n,Mag C u3 x.natAbs n) (f 3 dd _ rfl);obtain⟨u5,e5,p5⟩:=evr 33 (P:=fun u5=>∃n,Mag C u5 y.natAbs n) (f 5 dd _ rfl);clear f g;refine zap rfl rfl fun K G=>?_;obtain⟨n3,p3⟩:=p3;obtain⟨n5,p5⟩:=p5;go_simp;refine(zdh C _ _ _ _ _ _ p3 p5 (by have:=p3.len_le ga;omega) (by have:=p5.len_le ha;omega)).mono ?_;rintro e M ⟨rfl,H⟩;exact G _ _ ⟨rfl,u.trans (H.mono u.size),H,nn⟩
      |7,z,l=>?_
      |8,z,l=>?_
      |n+9,z,l=>exact absurd l (by simp)
      all_goals obtain rfl:=oi z;obtain rfl:=oi l;simp only[uxw,uw,evt]at f g;have aa:=(u.cell (p:=⟨w.heap.size,0,none⟩) E).trans N;have ba:=(u.cell (p:=⟨w.heap.size,1,none⟩) E).trans O;have ca:=(u.cell (p:=⟨w.heap.size+1,0,none⟩) F).trans R;have da:=(u.cell (p:=⟨w.heap.size+1,1,none⟩) F).trans S;refine zap rfl rfl fun K G=>?_;go_simp;exact G _ _ ⟨rfl,u,zz,nn⟩
     ·intro vs wn j A I;clear I;have T:vs 0=_:=j 0 dd;have Z:vs 1=_:=j 1 dd;have U:vs 2=_:=j 2 dd;obtain⟨u3,X,p3⟩:∃u3,vs 3=u3∧(∃n,Mag wn u3 x.natAbs n):=⟨_,rfl,j 3 dd⟩;have e4:vs 4=_:=j 4 dd;obtain⟨u5,e5,p5⟩:∃u5,vs 5=u5∧(∃n,Mag wn u5 y.natAbs n):=⟨_,rfl,j 5 dd⟩;have e6:vs 6=_:=j 6 dd;have e7:vs 7=_:=j 7 dd;have e8:vs 8=_:=j 8 dd;simp only[zbp,Nat.reduceAdd,T,Z,U,X,e4,e5,e6,e7,e8,Act.put,ll];clear j T Z U X e4 e5 e6 e7 e8;rw[hw.out];go_wp2;go_ret;exact⟨rfl,k.trans (A.mono k.size)⟩
  ·have he:Hid (zat (zat x 0) (zat y 0)=zat x y):=cmpI_sign fa;have HS:Hid ((zat x 0 !=zat y 0)=true):=(by show _=true;simpa using fa);clear fa;rcases a with _|a
   ·rcases b with _|b
    ·exact absurd ⟨rfl,rfl⟩ hn
    ·clear hn;go_enter Tryz.func28,Tryz.ntmps28;go_wp2;refine zab (fun D=>Below w.heap.size w D∧w.heap.size+1<D.heap.size∧D.cell? ⟨w.heap.size,0,none⟩=some (.int .i64 s)∧D.cell? ⟨w.heap.size,1,none⟩=some (.slice none n c)∧D.cell? ⟨w.heap.size+1,0,none⟩=some (.int .i64 t)∧D.cell? ⟨w.heap.size+1,1,none⟩=some (.slice (some b) m d)) ⟨zd2 _ _ _,by simp,qq,qq,qq,qq⟩ ?_;rintro D ⟨k,hl,N,O,R,S⟩;have E:w.heap.size<D.heap.size:=om;have F:w.heap.size+1<D.heap.size:=om;refine zaq za6 [⟨18,[],[],[2]⟩,⟨19,[0],[0],[]⟩,⟨20,[],[],[3]⟩,⟨21,[1,2],[0,1,2],[]⟩,⟨22,[1,3],[0,1,2,3],[]⟩] [] kfl 36 rfl kfl (fun (i:Nat) (v:Value) (Y:World)=>match i with|0=>v=.agg #[.int .i64 s,.slice none n c]|1=>v=.int .i64 (zat x 0)|2=>v=.agg #[.int .i64 t,.slice (some b) m d]|3=>v=.int .i64 (zat y 0)|4=>v=.bool ((zat x 0:Int) !=(zat y 0))|_=>True) (fun _ Y=>Below D.heap.size D Y) (fun C M=>Below C.heap.size C M) (zz).drew (fun i v C M h hx=>match i,h with|0,h=>h|1,h=>h|2,h=>h|3,h=>h|4,h=>h|n+5,_=>trivial) ?_ ?_
     ·intro i o r z l L fr C u hL W V J f g;clear hL W V J
      match i,z,l with
      |0,z,l=>?_
      |1,z,l=>obtain rfl:=oi z;obtain rfl:=oi l;have T:=evs 18 (f 0 dd _ rfl);clear f g;refine zap rfl rfl fun K G=>?_;go_simp;refine(zbr C _ x (hX C (k.trans (u.mono k.size)))).mono ?_;rintro e M ⟨rfl,H⟩;exact G _ _ ⟨rfl,u.trans (H.mono u.size),H,nn⟩
      |2,z,l=>?_
      |3,z,l=>obtain rfl:=oi z;obtain rfl:=oi l;have U:=evs 20 (f 2 dd _ rfl);clear f g;refine zap rfl rfl fun K G=>?_;go_simp;refine(zbr C _ y (hY C (k.trans (u.mono k.size)))).mono ?_;rintro e M ⟨rfl,H⟩;exact G _ _ ⟨rfl,u.trans (H.mono u.size),H,nn⟩
      |4,z,l=>?_
      |n+5,z,l=>exact absurd l (by simp)
      all_goals obtain rfl:=oi z;obtain rfl:=oi l;simp only[uxw,uw,evt]at f g;have aa:=(u.cell (p:=⟨w.heap.size,0,none⟩) E).trans N;have ba:=(u.cell (p:=⟨w.heap.size,1,none⟩) E).trans O;have ca:=(u.cell (p:=⟨w.heap.size+1,0,none⟩) F).trans R;have da:=(u.cell (p:=⟨w.heap.size+1,1,none⟩) F).trans S;refine zap rfl rfl fun K G=>?_;go_simp;exact G _ _ ⟨rfl,u,zz,nn⟩
     ·intro vs wn j A I;clear I;have T:vs 0=_:=j 0 dd;have Z:vs 1=_:=j 1 dd;have U:vs 2=_:=j 2 dd;have X:vs 3=_:=j 3 dd;have e4:vs 4=_:=j 4 dd;simp only[zbp,Nat.reduceAdd,T,Z,U,X,e4,Act.put,ll];clear j T Z U X e4;replace N:=(A.cell (p:=⟨w.heap.size,0,none⟩) E).trans N;replace O:=(A.cell (p:=⟨w.heap.size,1,none⟩) E).trans O;replace R:=(A.cell (p:=⟨w.heap.size+1,0,none⟩) F).trans R;replace S:=(A.cell (p:=⟨w.heap.size+1,1,none⟩) F).trans S;replace E:=Nat.lt_of_lt_of_le E A.size;replace F:=Nat.lt_of_lt_of_le F A.size;replace hl:=Nat.lt_of_lt_of_le hl A.size;replace k:=k.trans (A.mono k.size);clear A;have hs:=HS.out;go_wp2;clear hs;refine zab (fun D=>D=wn) rfl ?_;rintro D rfl;refine zaq za6 [⟨23,[],[],[2]⟩,⟨24,[0],[0],[]⟩,⟨25,[],[],[3]⟩,⟨26,[1,2],[0,1,2],[]⟩,⟨27,[1,3],[0,1,2,3],[]⟩,⟨4,[0,1,2,3,4],[0,1,2,3,4],[]⟩] [] kfl 36 rfl kfl (fun (i:Nat) (v:Value) (Y:World)=>match i with|0=>v=.agg #[.int .i64 s,.slice none n c]|1=>v=.int .i64 (zat x 0)|2=>v=.agg #[.int .i64 t,.slice (some b) m d]|3=>v=.int .i64 (zat y 0)|4=>v=.int .i64 (zat (zat x 0) (zat y 0))|5=>v=.int .i64 (zat (zat x 0) (zat y 0))|_=>True) (fun _ Y=>Below D.heap.size D Y) (fun C M=>Below C.heap.size C M) (zz).drew (fun i v C M h hx=>match i,h with|0,h=>h|1,h=>h|2,h=>h|3,h=>h|4,h=>h|5,h=>h|n+6,_=>trivial) ?_ ?_
      ·intro i o r z l L fr C u hL W V J f g;clear hL W V J
       match i,z,l with
       |0,z,l=>?_
       |1,z,l=>obtain rfl:=oi z;obtain rfl:=oi l;have T:=evs 23 (f 0 dd _ rfl);clear f g;refine zap rfl rfl fun K G=>?_;go_simp;refine(zbr C _ x (hX C (k.trans (u.mono k.size)))).mono ?_;rintro e M ⟨rfl,H⟩;exact G _ _ ⟨rfl,u.trans (H.mono u.size),H,nn⟩
       |2,z,l=>?_
       |3,z,l=>obtain rfl:=oi z;obtain rfl:=oi l;have U:=evs 25 (f 2 dd _ rfl);clear f g;refine zap rfl rfl fun K G=>?_;go_simp;refine(zbr C _ y (hY C (k.trans (u.mono k.size)))).mono ?_;rintro e M ⟨rfl,H⟩;exact G _ _ ⟨rfl,u.trans (H.mono u.size),H,nn⟩
       |4,z,l=>obtain rfl:=oi z;obtain rfl:=oi l;have Z:=evs 24 (f 1 dd _ rfl);have X:=evs 26 (f 3 dd _ rfl);clear f g;refine zap rfl rfl fun K G=>?_;go_simp;refine(zc4 _ _ C).mono ?_;rintro e M ⟨rfl,rfl⟩;exact G _ _ ⟨rfl,u,zz,nn⟩
       |5,z,l=>?_
       |n+6,z,l=>exact absurd l (by simp)
       all_goals obtain rfl:=oi z;obtain rfl:=oi l;simp only[uxw,uw,evt]at f g;have aa:=(u.cell (p:=⟨w.heap.size,0,none⟩) E).trans N;have ba:=(u.cell (p:=⟨w.heap.size,1,none⟩) E).trans O;have ca:=(u.cell (p:=⟨w.heap.size+1,0,none⟩) F).trans R;have da:=(u.cell (p:=⟨w.heap.size+1,1,none⟩) F).trans S;refine zap rfl rfl fun K G=>?_;go_simp;exact G _ _ ⟨rfl,u,zz,nn⟩
      ·intro vs wn j A I;clear I;have T:vs 0=_:=j 0 dd;have Z:vs 1=_:=j 1 dd;have U:vs 2=_:=j 2 dd;have X:vs 3=_:=j 3 dd;have e4:vs 4=_:=j 4 dd;have e5:vs 5=_:=j 5 dd;simp only[zbp,Nat.reduceAdd,T,Z,U,X,e4,e5,Act.put,ll];clear j T Z U X e4 e5;rw[he.out];go_wp2;go_ret;exact⟨rfl,k.trans (A.mono k.size)⟩
   ·clear hn;go_enter Tryz.func28,Tryz.ntmps28;go_wp2;refine zab (fun D=>Below w.heap.size w D∧w.heap.size+1<D.heap.size∧D.cell? ⟨w.heap.size,0,none⟩=some (.int .i64 s)∧D.cell? ⟨w.heap.size,1,none⟩=some (.slice (some a) n c)∧D.cell? ⟨w.heap.size+1,0,none⟩=some (.int .i64 t)∧D.cell? ⟨w.heap.size+1,1,none⟩=some (.slice b m d)) ⟨zd2 _ _ _,by simp,qq,qq,qq,qq⟩ ?_;rintro D ⟨k,hl,N,O,R,S⟩;have E:w.heap.size<D.heap.size:=om;have F:w.heap.size+1<D.heap.size:=om;refine zaq za6 [⟨18,[],[],[2]⟩,⟨19,[0],[0],[]⟩,⟨20,[],[],[3]⟩,⟨21,[1,2],[0,1,2],[]⟩,⟨22,[1,3],[0,1,2,3],[]⟩] [] kfl 36 rfl kfl (fun (i:Nat) (v:Value) (Y:World)=>match i with|0=>v=.agg #[.int .i64 s,.slice (some a) n c]|1=>v=.int .i64 (zat x 0)|2=>v=.agg #[.int .i64 t,.slice b m d]|3=>v=.int .i64 (zat y 0)|4=>v=.bool ((zat x 0:Int) !=(zat y 0))|_=>True) (fun _ Y=>Below D.heap.size D Y) (fun C M=>Below C.heap.size C M) (zz).drew (fun i v C M h hx=>match i,h with|0,h=>h|1,h=>h|2,h=>h|3,h=>h|4,h=>h|n+5,_=>trivial) ?_ ?_
    ·intro i o r z l L fr C u hL W V J f g;clear hL W V J
     match i,z,l with
     |0,z,l=>?_
     |1,z,l=>obtain rfl:=oi z;obtain rfl:=oi l;have T:=evs 18 (f 0 dd _ rfl);clear f g;refine zap rfl rfl fun K G=>?_;go_simp;refine(zbr C _ x (hX C (k.trans (u.mono k.size)))).mono ?_;rintro e M ⟨rfl,H⟩;exact G _ _ ⟨rfl,u.trans (H.mono u.size),H,nn⟩
     |2,z,l=>?_
     |3,z,l=>obtain rfl:=oi z;obtain rfl:=oi l;have U:=evs 20 (f 2 dd _ rfl);clear f g;refine zap rfl rfl fun K G=>?_;go_simp;refine(zbr C _ y (hY C (k.trans (u.mono k.size)))).mono ?_;rintro e M ⟨rfl,H⟩;exact G _ _ ⟨rfl,u.trans (H.mono u.size),H,nn⟩
     |4,z,l=>?_
     |n+5,z,l=>exact absurd l (by simp)
     all_goals obtain rfl:=oi z;obtain rfl:=oi l;simp only[uxw,uw,evt]at f g;have aa:=(u.cell (p:=⟨w.heap.size,0,none⟩) E).trans N;have ba:=(u.cell (p:=⟨w.heap.size,1,none⟩) E).trans O;have ca:=(u.cell (p:=⟨w.heap.size+1,0,none⟩) F).trans R;have da:=(u.cell (p:=⟨w.heap.size+1,1,none⟩) F).trans S;refine zap rfl rfl fun K G=>?_;go_simp;exact G _ _ ⟨rfl,u,zz,nn⟩
    ·intro vs wn j A I;clear I;have T:vs 0=_:=j 0 dd;have Z:vs 1=_:=j 1 dd;have U:vs 2=_:=j 2 dd;have X:vs 3=_:=j 3 dd;have e4:vs 4=_:=j 4 dd;simp only[zbp,Nat.reduceAdd,T,Z,U,X,e4,Act.put,ll];clear j T Z U X e4;replace N:=(A.cell (p:=⟨w.heap.size,0,none⟩) E).trans N;replace O:=(A.cell (p:=⟨w.heap.size,1,none⟩) E).trans O;replace R:=(A.cell (p:=⟨w.heap.size+1,0,none⟩) F).trans R;replace S:=(A.cell (p:=⟨w.heap.size+1,1,none⟩) F).trans S;replace E:=Nat.lt_of_lt_of_le E A.size;replace F:=Nat.lt_of_lt_of_le F A.size;replace hl:=Nat.lt_of_lt_of_le hl A.size;replace k:=k.trans (A.mono k.size);clear A;have hs:=HS.out;go_wp2;clear hs;refine zab (fun D=>D=wn) rfl ?_;rintro D rfl;refine zaq za6 [⟨23,[],[],[2]⟩,⟨24,[0],[0],[]⟩,⟨25,[],[],[3]⟩,⟨26,[1,2],[0,1,2],[]⟩,⟨27,[1,3],[0,1,2,3],[]⟩,⟨4,[0,1,2,3,4],[0,1,2,3,4],[]⟩] [] kfl 36 rfl kfl (fun (i:Nat) (v:Value) (Y:World)=>match i with|0=>v=.agg #[.int .i64 s,.slice (some a) n c]|1=>v=.int .i64 (zat x 0)|2=>v=.agg #[.int .i64 t,.slice b m d]|3=>v=.int .i64 (zat y 0)|4=>v=.int .i64 (zat (zat x 0) (zat y 0))|5=>v=.int .i64 (zat (zat x 0) (zat y 0))|_=>True) (fun _ Y=>Below D.heap.size D Y) (fun C M=>Below C.heap.size C M) (zz).drew (fun i v C M h hx=>match i,h with|0,h=>h|1,h=>h|2,h=>h|3,h=>h|4,h=>h|5,h=>h|n+6,_=>trivial) ?_ ?_
     ·intro i o r z l L fr C u hL W V J f g;clear hL W V J
      match i,z,l with
      |0,z,l=>?_
      |1,z,l=>obtain rfl:=oi z;obtain rfl:=oi l;have T:=evs 23 (f 0 dd _ rfl);clear f g;refine zap rfl rfl fun K G=>?_;go_simp;refine(zbr C _ x (hX C (k.trans (u.mono k.size)))).mono ?_;rintro e M ⟨rfl,H⟩;exact G _ _ ⟨rfl,u.trans (H.mono u.size),H,nn⟩
      |2,z,l=>?_
      |3,z,l=>obtain rfl:=oi z;obtain rfl:=oi l;have U:=evs 25 (f 2 dd _ rfl);clear f g;refine zap rfl rfl fun K G=>?_;go_simp;refine(zbr C _ y (hY C (k.trans (u.mono k.size)))).mono ?_;rintro e M ⟨rfl,H⟩;exact G _ _ ⟨rfl,u.trans (H.mono u.size),H,nn⟩
      |4,z,l=>obtain rfl:=oi z;obtain rfl:=oi l;have Z:=evs 24 (f 1 dd _ rfl);have X:=evs 26 (f 3 dd _ rfl);clear f g;refine zap rfl rfl fun K G=>?_;go_simp;refine(zc4 _ _ C).mono ?_;rintro e M ⟨rfl,rfl⟩;exact G _ _ ⟨rfl,u,zz,nn⟩
      |5,z,l=>?_
      |n+6,z,l=>exact absurd l (by simp)
      all_goals obtain rfl:=oi z;obtain rfl:=oi l;simp only[uxw,uw,evt]at f g;have aa:=(u.cell (p:=⟨w.heap.size,0,none⟩) E).trans N;have ba:=(u.cell (p:=⟨w.heap.size,1,none⟩) E).trans O;have ca:=(u.cell (p:=⟨w.heap.size+1,0,none⟩) F).trans R;have da:=(u.cell (p:=⟨w.heap.size+1,1,none⟩) F).trans S;refine zap rfl rfl fun K G=>?_;go_simp;exact G _ _ ⟨rfl,u,zz,nn⟩
     ·intro vs wn j A I;clear I;have T:vs 0=_:=j 0 dd;have Z:vs 1=_:=j 1 dd;have U:vs 2=_:=j 2 dd;have X:vs 3=_:=j 3 dd;have e4:vs 4=_:=j 4 dd;have e5:vs 5=_:=j 5 dd;simp only[zbp,Nat.reduceAdd,T,Z,U,X,e4,e5,Act.put,ll];clear j T Z U X e4 e5;rw[he.out];go_wp2;go_ret;exact⟨rfl,k.trans (A.mono k.size)⟩
theorem chg_new {a w w':World} {b lo hi p q r:Nat} (h:Chg a w b lo hi) (k:Chg w w' p q r) (j:a.heap.size≤p) (f:b<a.heap.size):Chg a w' b lo hi:=
 ⟨k.os.trans h.os,k.tape.trans h.tape,k.output.trans h.output,Nat.le_trans h.size k.size,
  fun c g d=>(k.block c (Nat.lt_of_lt_of_le g h.size) om).trans (h.block c g d),
  fun i hi=>(k.cellAt (Nat.lt_of_lt_of_le f h.size) (.inl om)).trans (h.cell i hi),
  fun i=>(k.frozAt (Nat.lt_of_lt_of_le f h.size)).trans (h.froz i)⟩
def Dig (w:World) (b o n m x:Nat):Prop:=∀i,i<m→w.cell? ⟨b,o+(n-1-i),none⟩=some (.int .u8 ((48+x / 10^i%10:Nat):Int))
def CH:Nat:=10000000000000000000
theorem CH_eq:CH=10^19:=by decide
theorem ch_pos:0<CH:=by decide
theorem ch_lt:CH<B:=by decide
theorem zft (x j t:Nat) (c:t<19):x / 10^(19*j)%CH / 10^t%10=x / 10^(19*j+t)%10:=by rw[CH_eq,Nat.pow_add 10 (19*j) t,←Nat.div_div_eq_div_mul];generalize x / 10^(19*j)=y;have e:(10:Nat)^19=10^t*10^(19-t):=(by rw[←Nat.pow_add];congr 1;omega);rw[e,Nat.mod_mul_right_div_self];obtain⟨k,b⟩:∃k,19-t=k+1:=⟨19-t-1,by omega⟩;rw[b,Nat.pow_succ,Nat.mul_comm];exact Nat.mod_mod_of_dvd _ ⟨_,rfl⟩
theorem Mag.of_num {w:World} {b o n c x:Nat} (g:Arr .u64 B w b o n) (k:n≤c) (h:num B w b o n=x) (d:n=0∨B^(n-1)≤x):Mag w (.slice (some ⟨b,o,none⟩) n c) x n:=by
 refine⟨_,b,o,c,rfl,Sl.mk _ _ _,k,g,h,?_⟩;rcases d with d|d
 ·exact .inl d
 ·rcases Nat.eq_zero_or_pos n with f|f
  ·exact .inl f
  ·right;intro j;obtain⟨m,rfl⟩:∃m,n=m+1:=⟨n-1,by omega⟩;rw[Nat.add_sub_cancel]at j d;rw[zam,j,Nat.mul_zero,Nat.add_zero]at h;have l:num B w b o m<B^m:=zbb (fun i hi=>g i om);omega
theorem zgm (w:World) (b o n c m:Nat) (v:Value) (x k:Nat) (xb:0<n) (hm:m≤n) (hn:n≤1099511627776) (hz:Dig w b o n m 0) (hf:Free w b o n) (hx:Mag w v x k) (hk:k≤35184372088832)
 (ma:x<10^m) (hl:b<w.heap.size) (yb:n≤c):
 Calls Tryz.prog 108 #[.slice (some ⟨b,o,none⟩) n c,v] w fun e w'=>e=.returned (.tuple #[])∧Chg w w' b (o+(n-m)) (o+n)∧Dig w' b o n m x:=by
 obtain⟨i0,bb,ib,jb,kb⟩:=info_parts zcs;have ua:Hid (k=0∨B^(k-1)≤x):=by
  rcases Nat.eq_zero_or_pos k with h|h
  ·exact .inl h
  ·exact .inr (hx.ge h)
 obtain⟨ax,bx,ox,cx,rfl,gb,sb,ea,ja,fb⟩:=hx;have HX:Hid (num B w bx ox k=x):=ja;clear ja fb;go_enter Tryz.func108,Tryz.ntmps108;go_wp2_with (first
  |(at_make;refine zau .u64 B zbg rfl _ _ 22 rfl 98 i0 Tryz.underlying22 bb ib jb .i64 .i64 _ _ k rfl rfl om om (by rw[kb];omega) (by unfold maxLen;omega) ?_;intro w2 E)
  |(refine za4 .u64 B rfl _ _ 22 22 rfl 98 Tryz.underlying22 zdg _ _ _ _ _ _ rfl rfl w.heap.size 0 bx ox (Sl.mk _ _ _) gb E.arr E.free (zaf ea E.below) ?_;intro w3 T;rw[Nat.min_self]at T))
 obtain⟨S,P,U,Y,Z⟩:=zc7 E ea (Nat.le_refl _) T;rw[HX.out]at Y;have C3:Chg w w3 b (o+(n-m)) (o+n):=zef S hl;have D3:∀i,i<m→w3.cell? ⟨b,o+(n-1-i),none⟩=some (.int .u8 ((48+(if i<19*0 then x / 10^i%10 else 0):Nat):Int)):=fun i hi=>by rw[S.cell (p:=⟨b,o+(n-1-i),none⟩) hl,hz i hi];simp
 have M3:Mag w3 (.slice (some ⟨w.heap.size,0,none⟩) k k) x k:=Mag.of_num P (Nat.le_refl _) Y ua.out;obtain⟨q,J⟩:∃q,q=w.heap.size:=⟨_,rfl⟩;rw[←J]at P U Z M3⊢;have rb:b<q:=(by rw[J];exact hl);have oa:Hid (q=w.heap.size):=J;clear E T S Y J;go_loopw [4,5] (fun l e wr=>∃j G cl:Nat,l=.slice (some ⟨q,0,none⟩) G cl∧e=.int .i64 ((n:Int)-19*(j:Int))∧Chg w wr b (o+(n-m)) (o+n)∧
  Mag wr (.slice (some ⟨q,0,none⟩) G cl) (x / 10^(19*j)) G∧Free wr q 0 G∧q<wr.heap.size∧G≤k∧19*j≤m+19∧
  (∀i,i<m→wr.cell? ⟨b,o+(n-1-i),none⟩=some (.int .u8 ((48+(if i<19*j then x / 10^i%10 else 0):Nat):Int))))
  (fun _ e _=>(intOf e).toNat)
 case atStart=>exact⟨0,k,k,rfl,by go_num,C3,by rw[Nat.mul_zero,Nat.pow_zero,Nat.div_one];exact M3,U,Z,Nat.le_refl _,by omega,D3⟩
 case round=>
  obtain⟨j,G,cl,rfl,rfl,f,hM,V,W,wb,hj,H⟩:=hrel;clear C3 D3 M3 P U Z;by_cases h0:G=0
  ·subst h0;have la:x / 10^(19*j)=0:=hM.zero_iff.2 rfl;have HD:Hid (Dig wr b o n m x):=fun i hi=>by
    rw[H i hi];by_cases D:i<19*j
    ·rw[if_pos D]
    ·rw[if_neg D];have I:x / 10^i=0:=(by obtain⟨t,ht⟩:=Nat.exists_eq_add_of_le (Nat.le_of_not_lt D);rw[ht,Nat.pow_add,←Nat.div_div_eq_div_mul,la,Nat.zero_div]);rw[I]
   have HC:Hid _:=f;clear H f hM la;go_wp2;go_end0;exact⟨rfl,HC.out,HD.out⟩
  ·have r:0<x / 10^(19*j):=hM.pos om;have vb:19*j<m:=(by have D:10^(19*j)≤x:=(by refine Nat.le_of_not_lt fun h=>?_;rw[Nat.div_eq_of_lt h]at r;omega);exact(Nat.pow_lt_pow_iff_right (by decide:1<10)).1 (Nat.lt_of_le_of_lt D ma));obtain⟨pb,ac,qb,hv,ya,da,L,_⟩:=hM.row om;simp only[Value.slice.injEq,Option.some.injEq,Addr.mk.injEq,and_true,true_and]at hv;obtain⟨⟨rfl,rfl⟩,rfl⟩:=hv;have CD:=zeg wr (some ⟨q,0,none⟩) q 0 G cl CH (Sl.mk _ _ _) (by unfold maxLen;omega) da V ch_pos ch_lt;rw[L]at CD;obtain⟨y,hy⟩:∃y,x / 10^(19*j)%CH=y:=⟨_,rfl⟩;rw[hy]at CD;have na:y<CH:=(by rw[←hy];exact Nat.mod_lt _ ch_pos);have HY:Hid _:=hy;clear hy;have eb:(0:Int)<(G:Int):=om;have aa:Hid _:=H;clear hM da L r H;go_wp2_with (go_at_call 134;fail);refine CD.mono ?_;rintro e w4 ⟨rfl,A,R,ia⟩;clear CD;have CF:=zbx w4 (some ⟨q,0,none⟩) q 0 G cl G (Sl.mk _ _ _) ya (by unfold maxLen;omega) (by unfold maxLen;omega) R;rw[Nat.min_self,ia]at CF;have ha:q<w4.heap.size:=Nat.lt_of_lt_of_le W A.size;have O:Hid (Chg w w4 b (o+(n-m)) (o+n)):=chg_new f A (by have:=oa.out;omega) hl;have ga:=A.free V (fun _=>W);have ba:Hid (∀i,i<m→w4.cell? ⟨b,o+(n-1-i),none⟩=some (.int .u8 ((48+(if i<19*j then x / 10^i%10 else 0):Nat):Int))):=fun i hi=>by rw[A.cellAt (by have:=f.size;omega) (.inl om)];exact aa.out i hi
   have ca:=R;clear ia R f A aa;go_wp2_with (go_at_call 86;fail);refine CF.mono ?_;rintro e w5 ⟨k5,rfl,hb,db,_,X⟩;subst hb;clear CF;have M:x / 10^(19*j) / CH=x / 10^(19*(j+1)):=(by rw[CH_eq,Nat.div_div_eq_div_mul,←Nat.pow_add];rfl);rw[M]at X;have wa:Hid _:=X;have ab:Free w5 q 0 k5:=zdk ga db;clear M X ca V W ga;have za:=ba.out;have A:=O.out;go_wp2;clear za A;go_loopw [6,7] (fun d e wr=>∃t z:Nat,t≤19∧z=y / 10^t∧d=.int .u64 (z:Int)∧e=.int .i64 ((n:Int)-19*(j:Int)-1-(t:Int))∧Chg w5 wr b (o+(n-m)) (o+n)∧
    (∀i,i<m→wr.cell? ⟨b,o+(n-1-i),none⟩=some (.int .u8 ((48+(if i<19*j+t then x / 10^i%10 else 0):Nat):Int))))
    (fun d _ _=>(intOf d).toNat)
   case atStart=>exact⟨0,y,by omega,by rw[Nat.pow_zero,Nat.div_one],rfl,by go_num,Chg.refl _ _ _ _,ba.out⟩
   case round=>
    obtain⟨t,z,ht,s,rfl,rfl,f,H⟩:=hrel;by_cases F:z=0
    ·subst F;have ra:Hid (∀i,i<m→wr.cell? ⟨b,o+(n-1-i),none⟩=some (.int .u8 ((48+(if i<19*(j+1) then x / 10^i%10 else 0):Nat):Int))):=fun i hi=>by
      rw[H i hi];by_cases D:i<19*j+t
      ·rw[if_pos D,if_pos om]
      ·rw[if_neg D];by_cases I:i<19*(j+1)
       ·rw[if_pos I];obtain⟨u,rfl⟩:=Nat.exists_eq_add_of_le (show 19*j≤i by omega);rw[←zft x j u om,HY.out];obtain⟨e,he⟩:=Nat.exists_eq_add_of_le (show t≤u by omega);rw[he,Nat.pow_add,←Nat.div_div_eq_div_mul,←s,Nat.zero_div]
       ·rw[if_neg I]
     have xa:Hid (Mag wr (.slice (some ⟨q,0,none⟩) k5 k5) (x / 10^(19*(j+1))) k5):=Mag.chg wa.out f (fun _=> .inl om);have pa:Hid (Chg w wr b (o+(n-m)) (o+n)):=O.out.trans f;have ta:Hid (Free wr q 0 k5):=f.free ab (fun _=>ha);have va:Hid (q<wr.heap.size):=Nat.lt_of_lt_of_le ha f.size;clear H f s;go_wp2;go_roundw
     case rel=>exact⟨j+1,k5,k5,rfl,by go_num,pa.out,xa.out,ta.out,va.out,by omega,by omega,ra.out⟩
     case measure=>simp[intOf];omega
    ·have r:0<x / 10^(19*j+t):=(by rw[Nat.pow_add,←Nat.div_div_eq_div_mul];refine Nat.pos_of_ne_zero fun h=>F ?_;rw[s,←HY.out];exact Nat.le_zero.1 (Nat.le_trans (Nat.div_le_div_right (Nat.mod_le _ _)) (Nat.le_of_eq h)));have cb:19*j+t<m:=(by have D:10^(19*j+t)≤x:=(by refine Nat.le_of_not_lt fun h=>?_;rw[Nat.div_eq_of_lt h]at r;omega);exact(Nat.pow_lt_pow_iff_right (by decide:1<10)).1 (Nat.lt_of_le_of_lt D ma));have ka:t<19:=(by refine Nat.lt_of_not_le fun h=>F ?_;rw[s];exact Nat.div_eq_of_lt (Nat.lt_of_lt_of_le na (by rw[CH_eq];exact Nat.pow_le_pow_right dd h)));have fa:z%10=x / 10^(19*j+t)%10:=(by rw[s,←HY.out,zft x j t ka]);have lb:z<B:=Nat.lt_of_le_of_lt (by rw[s];exact Nat.div_le_self _ _) (Nat.lt_trans na ch_lt);have C:=H (19*j+t) cb;rw[if_neg om]at C;obtain⟨p,hp⟩:∃p,p=n-1-(19*j+t):=⟨_,rfl⟩;rw[←hp]at C;have tb:wr.frozen? ⟨b,o+p,none⟩=false:=(by have D:=(O.out.trans f).free hf (fun _=>hl) p om;exact D);have e1:(n:Int)-19*(j:Int)-1-(t:Int)=(p:Int):=om;rw[e1];have nb:(z:Int)%10=((z%10:Nat):Int):=om;obtain⟨g,hg⟩:∃g,z%10=g:=⟨_,rfl⟩;have ub:g≤9:=om;rw[hg]at nb;have hq:z / 10=y / 10^(t+1):=(by rw[s,Nat.div_div_eq_div_mul,Nat.pow_succ]);have mb:(z:Int) / 10=((z / 10:Nat):Int):=om;obtain⟨z2,N⟩:∃g,z / 10=g:=⟨_,rfl⟩;have ob:z2<z:=om;rw[N]at mb hq;have zb:p<n:=om;have qa:Hid _:=f;have sa:Hid _:=H;have HQ:Hid _:=hq;have HG:Hid (g=x / 10^(19*j+t)%10):=(by show _=_;rw[←hg];exact fa);have HP:Hid (p=n-1-(19*j+t)):=hp;clear f H s r hq fa hg hp e1 N;unfold B at lb;go_wp2;go_roundw
     case rel=>
      refine⟨t+1,z2,by omega,HQ.out,rfl,by have:=HP.out;go_num,qa.out.set (by have:=HP.out;omega) (by have:=HP.out;omega) _,fun i hi=>?_⟩;by_cases D:n-1-i=p
      ·have I:i=19*j+t:=(by have:=HP.out;omega);subst I;rw[D,zav C,if_pos om,←HG.out];rfl
      ·rw[zaa (.inr om),sa.out i hi];by_cases I:i<19*j+t
       ·rw[if_pos I,if_pos om]
       ·rw[if_neg I,if_neg (by have:=HP.out;omega)]
     case measure=>simp[intOf];omega
end Go.Proofs.YtjlkplidpdhgbaaGreatDoor
