/- A part of the proof: QE. -/
import Derived.Test.YtffdemplaodbcaaDoorP18
import Derived.LoopN
set_option linter.all false
namespace Go.Proofs.YtffdemplaodbcaaDoor
open Go Go.Proofs Go.RowKit Go.Rad
theorem info22:(Tryd.prog.info? 22).map (fun i=>(i.zero,i.size,i.bytes))=some (some (.slice none 0 0),1,24):=by kernel_rfl
theorem OA.fb {w:World} {B b:Nat} {f:Nat→Int} (h:OA w B b 2 f):FB w b (.int .i64 (f 0)) (.int .i64 (f 1)):=⟨h.lt,h.c 0 (by omega),h.c 1 (by omega),h.z 0 (by omega),h.z 1 (by omega)⟩
theorem wpList_makeS {w:World} {ops:Array Oper} {rest:List Oper} {o:Oper} {a:Act} {Q:Exit→Act→World→Prop}
 (hg:o.guard=none) (l c:Operand) (hop:o.op=Op.makeSlice 64 l c) (hl:a.eval l= .int .i64 2) (hc:a.eval c= .int .i64 2)
 (hK:∀w',FB w' w.heap.size (.slice none 0 0) (.slice none 0 0)→Below w.heap.size w w'→wpList Tryd.prog ops Q rest (a.put o.dst (.slice (some ⟨w.heap.size,0,none⟩) 2 2)) w'):
 wpList Tryd.prog ops Q (o::rest) a w:=by
 obtain⟨i,hi0,hi1⟩:=Option.map_eq_some_iff.1 info22;simp only[Prod.mk.injEq]at hi1;obtain⟨z0,z1,z2⟩:=hi1;refine wpList_plain hg fun K hK'=>?_;obtain⟨w',hrun,hrow,hgr⟩:=run_make_full (P:=Tryd.prog) w w.heap.size 64 22 i (.slice none 0 0) 1 Tryd.underlying64 hi0 z0 z1 .i64 .i64 2 (by rw[z2];omega) (by unfold maxLen;omega) (Nat.le_refl _);unfold Oper.wp;simp only[execOp,hop,hl,hc];have hrun':Sem.run Tryd.prog (Instr.makeSlice 64 (.int .i64 2) (.int .i64 2)) w= .ok (.slice (some ⟨w.heap.size,0,none⟩) 2 2) w':=hrun;simp[hrun,hrun',Result.andThen];have hB:Below w.heap.size w w':=(Below.refl _ _).grown hgr (Nat.le_refl _) (fun k hk=>by cases hk);have e1:(madeCells (Value.slice none 0 0).cells (2*1)).toList=List.replicate 2 (Value.slice none 0 0):=(by exact toList_madeCells_one _ _);rw[e1]at hrow;have hlt:w.heap.size<w'.heap.size:=by
  rcases hrow.2 with⟨h,_⟩|⟨g,cap,cur,hv,_,hg,_⟩
  ·cases h
  ·have h2:=(Array.getElem?_eq_some_iff.1 hg).1;simp only[Value.slice.injEq,Option.some.injEq,Addr.mk.injEq]at hv;omega
 refine hK' _ _ (hK _ ⟨hlt,?_,?_,?_,?_⟩ hB)
 ·rw[World.ownsRow.cellAt hrow 0 (by omega)];rfl
 ·rw[World.ownsRow.cellAt hrow 1 (by omega)];rfl
 ·exact World.ownsRow.frozenAt hrow 0
 ·exact World.ownsRow.frozenAt hrow 1
theorem FB.set0 {w:World} {b:Nat} {u0 u1:Value} (h:FB w b u0 u1) (v0:Value):FB (w.setCell ⟨b,0,none⟩ v0) b v0 u1:=⟨by simp;exact h.lt,cell_same h.c0,by rw[cell_other (.inr (by omega))];exact h.c1,by rw[World.frozen?_setCell];exact h.f0,by rw[World.frozen?_setCell];exact h.f1⟩
theorem FB.set1 {w:World} {b:Nat} {u0 u1:Value} (h:FB w b u0 u1) (v1:Value):FB (w.setCell ⟨b,1,none⟩ v1) b u0 v1:=⟨by simp;exact h.lt,by rw[cell_other (.inr (by omega))];exact h.c0,cell_same h.c1,by rw[World.frozen?_setCell];exact h.f0,by rw[World.frozen?_setCell];exact h.f1⟩
theorem FB.keep {w:World} {b c i:Nat} {u0 u1:Value} (h:FB w b u0 u1) (v:Value) (hc:b≠c):FB (w.setCell ⟨c,i,none⟩ v) b u0 u1:=⟨by simp;exact h.lt,by rw[cell_other (.inl hc)];exact h.c0,by rw[cell_other (.inl hc)];exact h.c1,by rw[World.frozen?_setCell];exact h.f0,by rw[World.frozen?_setCell];exact h.f1⟩
theorem drewN_fb {w:World} {b:Nat} {u0 u1:Value} (h:FB w b u0 u1) (n:Nat):FB (w.drewN n) b u0 u1:=⟨h.lt,h.c0,h.c1,h.f0,h.f1⟩
theorem bel_drewN (w:World) (n B:Nat):Below B w (w.drewN n):=⟨rfl,rfl,rfl,Nat.le_refl _,fun _ _=>rfl⟩
structure MX (w:World) (B R r0 r1:Nat) (a b c d:Int):Prop where
 hR:FB w R (.slice (some ⟨r0,0,none⟩) 2 2) (.slice (some ⟨r1,0,none⟩) 2 2)
 h0:FB w r0 (.int .i64 a) (.int .i64 b)
 h1:FB w r1 (.int .i64 c) (.int .i64 d)
 ne:R≠r0∧R≠r1∧r0≠r1
 base:B≤R∧B≤r0∧B≤r1
theorem res_x2:Res 2 [1,1,1] (row (ppow [0,1] 2)) [1,1]:=by
 refine⟨by decide,fun j=>?_,fun _=>by decide,[1],fun j=>?_⟩
 ·match j with
  |0=>decide
  |1=>decide
  |j+2=>rw[getD_of_ge _ _ (by simp)];omega
 ·show _=(_+(1*row [1,1,1] j+sft (fun _=>0) j))%2;rw[row_getD,row_getD,row_getD]
  match j with
  |0=>decide
  |1=>decide
  |2=>decide
  |j+3=>rw[getD_of_ge [1,1] _ (by simp),getD_of_ge [1,1,1] _ (by simp),show ppow [0,1] 2=[0,0,1] by decide,getD_of_ge [0,0,1] _ (by simp)];rfl
theorem res_x1:Res 2 [1,1,1] (row (pmul [1] [1,1])) [1,1]:=by
 refine⟨by decide,fun j=>?_,fun _=>by decide, .of fun j=>by rw[show pmul [1] [1,1]=[1,1] by decide]⟩
 match j with
 |0=>decide
 |1=>decide
 |j+2=>rw[getD_of_ge _ _ (by simp)];omega
theorem res_eq2 {t:Nat→Int} {x y:List Int} (hx:Res 2 [1,1,1] t x) (hy:Res 2 [1,1,1] t y):x=y:=Res.eq (by decide) (by decide) hx hy (.refl _ _ _)
theorem bd01:∀j,0≤([0,1]:List Int).getD j 0∧([0,1]:List Int).getD j 0<2
 |0=>by decide
 |1=>by decide
 |j+2=>by rw[getD_of_ge _ _ (by simp)];omega
theorem bd11:∀j,0≤([1,1]:List Int).getD j 0∧([1,1]:List Int).getD j 0<2
 |0=>by decide
 |1=>by decide
 |j+2=>by rw[getD_of_ge _ _ (by simp)];omega
theorem bd1:∀j,0≤([1]:List Int).getD j 0∧([1]:List Int).getD j 0<2
 |0=>by decide
 |j+1=>by rw[getD_of_ge _ _ (by simp)];omega
theorem sr_new2 (w:World) (a b:Int):SR (w.alloc (Obj.cells #[Value.int .i64 a,Value.int .i64 b] 3)) w.heap.size (.slice (some ⟨w.heap.size,0,none⟩) 2 2) [a,b]:=
 .row w.heap.size 0 2 rfl (Nat.succ_pos _) (Nat.le_refl _) (Nat.le_refl _) (by simp) (fun i hi=>by
  match i,hi with
  |0,_=>simp[go_sem]
  |1,_=>simp[go_sem]) (fun i hi=>by
  match i,hi with
  |0,_=>simp[go_sem]
  |1,_=>simp[go_sem])
structure MW (w1 w:World) (R r0 r1 b4:Nat) (a b c d:Int):Prop where
 hR:FB w R (.slice (some ⟨r0,0,none⟩) 2 2) (.slice (some ⟨r1,0,none⟩) 2 2)
 h0:FB w r0 (.int .i64 a) (.int .i64 b)
 h1:FB w r1 (.int .i64 c) (.int .i64 d)
 h4:FB w b4 (.int .i64 2) (.int .i64 4)
 hB:Below w1.heap.size w1 w
structure NEQ (w1:World) (R r0 r1 b4:Nat):Prop where
 n0:R≠r0
 n1:R≠r1
 n2:r0≠r1
 n3:b4≠R
 n4:b4≠r0
 n5:b4≠r1
 g0:w1.heap.size≤r0
 g1:w1.heap.size≤r1
 g2:w1.heap.size≤R
theorem MW.below {w1 w w':World} {R r0 r1 b4:Nat} {a b c d:Int} (h:MW w1 w R r0 r1 b4 a b c d) (hb:Below w.heap.size w w'):MW w1 w' R r0 r1 b4 a b c d:=⟨h.hR.below hb,h.h0.below hb,h.h1.below hb,h.h4.below hb,h.hB.trans (hb.mono h.hB.size)⟩
theorem MW.s00 {w1 w:World} {R r0 r1 b4:Nat} {a b c d:Int} (h:MW w1 w R r0 r1 b4 a b c d) (n:NEQ w1 R r0 r1 b4) (x:Int):MW w1 (w.setCell ⟨r0,0,none⟩ (.int .i64 x)) R r0 r1 b4 x b c d:=⟨h.hR.keep _ n.n0,h.h0.set0 _,h.h1.keep _ n.n2.symm,h.h4.keep _ n.n4,h.hB.setCell (p:=⟨r0,0,none⟩) n.g0 _⟩
theorem MW.s01 {w1 w:World} {R r0 r1 b4:Nat} {a b c d:Int} (h:MW w1 w R r0 r1 b4 a b c d) (n:NEQ w1 R r0 r1 b4) (x:Int):MW w1 (w.setCell ⟨r0,1,none⟩ (.int .i64 x)) R r0 r1 b4 a x c d:=⟨h.hR.keep _ n.n0,h.h0.set1 _,h.h1.keep _ n.n2.symm,h.h4.keep _ n.n4,h.hB.setCell (p:=⟨r0,1,none⟩) n.g0 _⟩
theorem MW.s11 {w1 w:World} {R r0 r1 b4:Nat} {a b c d:Int} (h:MW w1 w R r0 r1 b4 a b c d) (n:NEQ w1 R r0 r1 b4) (x:Int):MW w1 (w.setCell ⟨r1,1,none⟩ (.int .i64 x)) R r0 r1 b4 a b c x:=⟨h.hR.keep _ n.n1,h.h0.keep _ n.n2,h.h1.set1 _,h.h4.keep _ n.n5,h.hB.setCell (p:=⟨r1,1,none⟩) n.g1 _⟩
theorem SR.form2 {w:World} {B n:Nat} {v:Value} {x:List Int} (h:SR w B v x) (hn:x.length=n) (h0:0<n):∃b o c,v= .slice (some ⟨b,o,none⟩) n c∧n≤c∧B≤b∧b<w.heap.size∧AR w b o n (fun j=>x.getD j 0)∧Free w b o n:=by
 subst hn;cases h with
 |nil a c hv hx=>subst hx;simp at h0
 |row b o c hv h0 hc hb hl hA hz=>exact⟨b,o,c,hv,hc,hb,hl,hA,hz⟩
theorem sr_set {w:World} {B b i:Nat} {v:Value} {x:List Int} (h:SR w B v x) (hb:b<B) (u:Value):SR (w.setCell ⟨b,i,none⟩ u) B v x:=by
 cases h with
 |nil a c hv hx=>exact .nil a c hv hx
 |row b' o c hv h0 hc hB hl hA hz=>exact .row b' o c hv h0 hc hB (by simpa [World.setCell]using hl) (fun j hj=>by rw[cell_other (.inl (by omega))];exact hA j hj) (fun j hj=>by rw[World.frozen?_setCell];exact hz j hj)
theorem MD.setc {w:World} {p:Int} {b o n c b' i:Nat} {y:Nat→Int} (h:MD w p b o n c y) (hb:b≠b') (u:Value):MD (w.setCell ⟨b',i,none⟩ u) p b o n c y:=⟨fun j hj=>by rw[cell_other (.inl hb)];exact h.row j hj,h.cap,h.bd,h.g,h.ne,h.small⟩
inductive PRD (wa:World) (t:Nat→Int) (v:Value) (wx:World):Prop
 |mk (z:List Int) (hS:SR wx wa.heap.size v z) (hB:Below wa.heap.size wa wx) (hq:∀j,0≤z.getD j 0∧z.getD j 0<4) (hl:z.length≤10) (ht:∀j,row z j%2=t j%2)
theorem PRD.below {wa wx wy:World} {t:Nat→Int} {v:Value} (h:PRD wa t v wx) (hb:Below wx.heap.size wx wy):PRD wa t v wy:=by obtain⟨z,hS,hB,hq,hl,ht⟩:=h;exact⟨z,hS.below hb,hB.trans (hb.mono hB.size),hq,hl,ht⟩
theorem sr_new1 (w:World) (a:Int):SR (w.alloc (Obj.cells #[Value.int .i64 a] 3)) w.heap.size (.slice (some ⟨w.heap.size,0,none⟩) 1 1) [a]:=
 .row w.heap.size 0 1 rfl (Nat.succ_pos _) (Nat.le_refl _) (Nat.le_refl _) (by simp) (fun i hi=>by
  match i,hi with
  |0,_=>simp[go_sem]) (fun i hi=>by
  match i,hi with
  |0,_=>simp[go_sem])
inductive EqPost (w:World) (a b c d:Int) (e:Ending) (w':World):Prop
 |mk (R r0 r1:Nat) (he:e= .returned (.slice (some ⟨R,0,none⟩) 2 2)) (hM:MX w' w.heap.size R r0 r1 a b c d) (hb:Below w.heap.size w w')
set_option maxRecDepth 10000 in
set_option maxHeartbeats 2000000 in
theorem equations_begun (w:World) (b2 o2 c2:Nat) (y:Nat→Int) (hM:MD w 2 b2 o2 2 c2 y) (hb2:b2<w.heap.size) (hy:lst y 3=[1,1,1]):
 Calls Tryd.prog 70 #[FV 2 4, .slice (some ⟨b2,o2,none⟩) 3 c2] w fun e w'=>EqPost w 2 1 0 2 e w':=by
 have HM:Hid (MD w 2 b2 o2 2 c2 y):=hM;have HB2:Hid (b2<w.heap.size):=hb2;have HY:Hid (lst y 3=[1,1,1]):=hy;clear hM hb2 hy;go_enter Tryd.func70,Tryd.ntmps70;go_upto_region 1 with fail;refine wp_world (fun w1=>Below w.heap.size w w1∧FB w1 w.heap.size (.int .i64 2) (.int .i64 4)) ⟨bel1 _ _,FB.mk0 _ _ _ _⟩ ?_;rintro w1 ⟨hB1,hF1⟩;obtain⟨b4,hb4⟩:∃x,x=w.heap.size:=⟨_,rfl⟩;rw[←hb4]at hF1⊢;have H4:Hid (b4=w.heap.size):=hb4;have HB1:Hid (Below w.heap.size w w1):=hB1;have HF1:Hid (FB w1 b4 (.int .i64 2) (.int .i64 4)):=hF1;clear hB1 hF1 hb4;go_wp2_with (at_make;refine wpList_makeS rfl _ _ rfl (by rfl) (by rfl) ?_;intro w3 hR3 hb3);obtain⟨R,hR⟩:∃x,x=w1.heap.size:=⟨_,rfl⟩;rw[←hR]at hR3⊢;have HR:Hid (R=w1.heap.size):=hR;have HR3:Hid (FB w3 R (.slice none 0 0) (.slice none 0 0)):=hR3;have HB3:Hid (Below w1.heap.size w1 w3):=hb3;clear hR hR3 hb3;refine wp_loop_rounds 3 ?_;rw[rounds_succ];go_upto_region 7 with (at_make;refine wpList_makeI rfl _ _ rfl _ 2 rfl rfl (by rfl) (by omega) ?_;intro w5 ho5 hb5;obtain⟨lR,R0,R1,Rz0,Rz1⟩:=HR3.out.below hb5);refine wp_world (fun w6=>Below w3.heap.size w3 w5∧FB w6 R (.slice (some ⟨w3.heap.size,0,none⟩) 2 2) (.slice none 0 0)∧FB w6 w3.heap.size (.int .i64 0) (.int .i64 0)∧FB w6 b4 (.int .i64 2) (.int .i64 4)∧w6.heap.size=w5.heap.size∧Below w1.heap.size w1 w6)
  ⟨hb5,FB.set0 ⟨lR,R0,R1,Rz0,Rz1⟩ _,FB.keep ho5.fb _ (by have:=HR3.out.lt;omega),FB.keep (((HF1.out.below HB3.out)).below hb5) _ (by have:=HF1.out.lt;have:=HR.out;omega),by simp[World.setCell],(HB3.out.trans (hb5.mono HB3.out.size)).setCell (p:=⟨R,0,none⟩) (by rw[HR.out];exact Nat.le_refl _) _⟩ ?_
 rintro w6 ⟨-,hR6,h06,h46,hs6,hb6⟩;obtain⟨r0,hr0⟩:∃x,x=w3.heap.size:=⟨_,rfl⟩;rw[←hr0]at hR6 h06⊢;have HR0:Hid (r0=w3.heap.size∧R<r0∧b4<r0∧b4<R):=(by have h1:=HR3.out.lt;have h2:=HR.out;have h3:=HF1.out.lt;show _∧_∧_∧_;omega);have HR6:Hid (FB w6 R (.slice (some ⟨r0,0,none⟩) 2 2) (.slice none 0 0)):=hR6;have H06:Hid (FB w6 r0 (.int .i64 0) (.int .i64 0)):=h06;have H46:Hid (FB w6 b4 (.int .i64 2) (.int .i64 4)):=h46;have HB6:Hid (Below w1.heap.size w1 w6):=hb6;clear hr0 hs6 hb6 lR R0 R1 Rz0 Rz1 ho5 hb5;obtain⟨lR,R0,R1,Rz0,Rz1⟩:=hR6;obtain⟨l0,x0,x1,z0,z1⟩:=h06;obtain⟨l4,k40,k41,z4,z5⟩:=h46;have hw1:IntKind.i64.wrap 1=1:=(by decide);refine wp_drawn mixed [⟨28,[],[],[6]⟩,⟨29,[],[],[7]⟩,⟨30,[0,1],[0,1],[]⟩,⟨31,[2],[0,1,2],[]⟩,⟨32,[],[],[7]⟩,⟨33,[],[],[2]⟩,⟨34,[5],[5],[]⟩,⟨35,[6],[5,6],[]⟩] [] (by kernel_rfl) 76 rfl (by kernel_rfl) (fun (i:Nat) (v:Value) (wq:World)=>match i with|0=>v= .slice (some ⟨R,0,none⟩) (2) (2)|1=>v= .int .i64 (0)|2=>v= .pointer (some ⟨R,0,none⟩)|3=>v= .slice (some ⟨r0,0,none⟩) (2) (2)|4=>v= .int .i64 (0)|5=>v= .pointer (some ⟨b4,0,none⟩)|6=>v= .int .i64 (2)|7=>v= .int .i64 (1)|_=>True) (fun _ wq=>Below w6.heap.size w6 wq) (fun wx wy=>Below wx.heap.size wx wy) (Below.refl _ _).drew (fun i v wx wy h hx=>match i,h with|0,h=>h|1,h=>h|2,h=>h|3,h=>h|4,h=>h|5,h=>h|6,h=>h|7,h=>h|n+8,_=>trivial) ?_ ?_
 ·intro i o r ho hr L fr wx hW hL hpr hds hdef hpre hfree;clear hL hpr hds hdef
  match i,ho,hr with
  |0,ho,hr=>?_
  |1,ho,hr=>?_
  |2,ho,hr=>?_
  |3,ho,hr=>?_
  |4,ho,hr=>?_
  |5,ho,hr=>?_
  |6,ho,hr=>?_
  |7,ho,hr=>obtain rfl:=Option.some.inj ho;obtain rfl:=Option.some.inj hr;have e6:=ev_tmp (show fr.eval (.tmp 34)= .int .i64 (2)from hpre 6 (by decide) _ rfl);clear hpre hfree;refine stpK rfl rfl fun K hK=>?_;go_simp;exact hK _ _ ⟨(by first|(show Value.int _ (IntKind.i64.wrap _)=_;rw[hw1])|rfl),hW,Below.refl _ _,fun h=>(List.not_mem_nil h).elim⟩
  |n+8,ho,hr=>exact absurd hr (by simp)
  all_goals
   obtain rfl:=Option.some.inj ho;obtain rfl:=Option.some.inj hr;simp only[List.mem_cons,List.not_mem_nil,or_false,false_imp_iff,implies_true,forall_eq_or_imp,forall_eq,List.getElem?_cons_zero,List.getElem?_cons_succ,Option.some.injEq,forall_eq',evt]at hpre hfree;have c0:=(hW.cell (p:=⟨R,0,none⟩) lR).trans R0;have c1:=(hW.cell (p:=⟨b4,0,none⟩) l4).trans k40;refine stpK rfl rfl fun K hK=>?_ <;> (go_simp;exact hK _ _ ⟨rfl,hW,Below.refl _ _,fun h=>(List.not_mem_nil h).elim⟩)
 ·intro vs wm hvs hW1 hap0;clear hap0;have e0:vs 0= .slice (some ⟨R,0,none⟩) (2) (2):=hvs 0 (by decide);have e1:vs 1= .int .i64 (0):=hvs 1 (by decide);have e2:vs 2= .pointer (some ⟨R,0,none⟩):=hvs 2 (by decide);have e3:vs 3= .slice (some ⟨r0,0,none⟩) (2) (2):=hvs 3 (by decide);have e4:vs 4= .int .i64 (0):=hvs 4 (by decide);have e5:vs 5= .pointer (some ⟨b4,0,none⟩):=hvs 5 (by decide);have e6:vs 6= .int .i64 (2):=hvs 6 (by decide);have e7:vs 7= .int .i64 (1):=hvs 7 (by decide);simp only[puts,Nat.reduceAdd,e0,e1,e2,e3,e4,e5,e6,e7,Act.put,List.setIfInBounds_toArray,List.set_cons_zero,List.set_cons_succ,List.drop_succ_cons,List.drop_zero,List.length_cons,List.length_nil];clear hvs e0 e1 e2 e3 e4 e5 e6 e7;obtain⟨m0,y0,y1,zz0,zz1⟩:=H06.out.below hW1;clear x0 x1 z0 z1;go_wp2;rw[rounds_succ];refine wp_world (fun w7=>FB w7 R (.slice (some ⟨r0,0,none⟩) 2 2) (.slice none 0 0)∧FB w7 r0 (.int .i64 1) (.int .i64 0)∧FB w7 b4 (.int .i64 2) (.int .i64 4)∧Below w1.heap.size w1 w7)
   ⟨FB.keep (HR6.out.below hW1) _ (by have:=HR0.out;omega),FB.set0 (H06.out.below hW1) _,FB.keep (H46.out.below hW1) _ (by have:=HR0.out;omega),(HB6.out.trans (hW1.mono HB6.out.size)).setCell (p:=⟨r0,0,none⟩) (by have:=HR0.out;have:=HR.out;show _≤r0;omega) _⟩ ?_
  rintro w7 ⟨hR7,h07,h47,hb7⟩;have HR7:Hid (FB w7 R (.slice (some ⟨r0,0,none⟩) 2 2) (.slice none 0 0)):=hR7;have H07:Hid (FB w7 r0 (.int .i64 1) (.int .i64 0)):=h07;have H47:Hid (FB w7 b4 (.int .i64 2) (.int .i64 4)):=h47;have HB7:Hid (Below w1.heap.size w1 w7):=hb7;clear hR7 h07 h47 hb7 m0 y0 y1 zz0 zz1 lR R0 R1 Rz0 Rz1 l0 l4 k40 k41 z4 z5 hW1;go_upto_region 7 with (at_make;refine wpList_makeI rfl _ _ rfl _ 2 rfl rfl (by rfl) (by omega) ?_;intro w5 ho5 hb5;obtain⟨lR,R0,R1,Rz0,Rz1⟩:=HR7.out.below hb5);refine wp_world (fun w8=>FB w8 R (.slice (some ⟨r0,0,none⟩) 2 2) (.slice (some ⟨w7.heap.size,0,none⟩) 2 2)∧FB w8 r0 (.int .i64 1) (.int .i64 0)∧FB w8 w7.heap.size (.int .i64 0) (.int .i64 0)∧FB w8 b4 (.int .i64 2) (.int .i64 4)∧Below w1.heap.size w1 w8)
   ⟨FB.set1 ⟨lR,R0,R1,Rz0,Rz1⟩ _,FB.keep (H07.out.below hb5) _ (by have:=HR0.out;omega),FB.keep ho5.fb _ (by have:=HR7.out.lt;omega),FB.keep (H47.out.below hb5) _ (by have:=HR0.out;omega),(HB7.out.trans (hb5.mono HB7.out.size)).setCell (p:=⟨R,1,none⟩) (by rw[HR.out];exact Nat.le_refl _) _⟩ ?_
  rintro w8 ⟨hR8,h08,h18,h48,hb8⟩;obtain⟨r1,hr1⟩:∃x,x=w7.heap.size:=⟨_,rfl⟩;rw[←hr1]at hR8 h18⊢;have HR1:Hid (R<r1∧b4<r1∧r0<r1):=(by have h1:=HR7.out.lt;have h2:=H07.out.lt;have h3:=H47.out.lt;show _∧_∧_;omega);have HR8:Hid (FB w8 R (.slice (some ⟨r0,0,none⟩) 2 2) (.slice (some ⟨r1,0,none⟩) 2 2)):=hR8;have H08:Hid (FB w8 r0 (.int .i64 1) (.int .i64 0)):=h08;have H18:Hid (FB w8 r1 (.int .i64 0) (.int .i64 0)):=h18;have H48:Hid (FB w8 b4 (.int .i64 2) (.int .i64 4)):=h48;have HB8:Hid (Below w1.heap.size w1 w8):=hb8;clear hr1 hb8 lR R0 R1 Rz0 Rz1 ho5 hb5 h08 h18;obtain⟨lR,R0,R1,Rz0,Rz1⟩:=hR8;obtain⟨l4,k40,k41,z4,z5⟩:=h48;refine wp_drawn mixed [⟨28,[],[],[6]⟩,⟨29,[],[],[7]⟩,⟨30,[0,1],[0,1],[]⟩,⟨31,[2],[0,1,2],[]⟩,⟨32,[],[],[7]⟩,⟨33,[],[],[2]⟩,⟨34,[5],[5],[]⟩,⟨35,[6],[5,6],[]⟩] [] (by kernel_rfl) 76 rfl (by kernel_rfl) (fun (i:Nat) (v:Value) (wq:World)=>match i with|0=>v= .slice (some ⟨R,0,none⟩) (2) (2)|1=>v= .int .i64 (1)|2=>v= .pointer (some ⟨R,1,none⟩)|3=>v= .slice (some ⟨r1,0,none⟩) (2) (2)|4=>v= .int .i64 (1)|5=>v= .pointer (some ⟨b4,0,none⟩)|6=>v= .int .i64 (2)|7=>v= .int .i64 (1)|_=>True) (fun _ wq=>Below w8.heap.size w8 wq) (fun wx wy=>Below wx.heap.size wx wy) (Below.refl _ _).drew (fun i v wx wy h hx=>match i,h with|0,h=>h|1,h=>h|2,h=>h|3,h=>h|4,h=>h|5,h=>h|6,h=>h|7,h=>h|n+8,_=>trivial) ?_ ?_
  ·intro i o r ho hr L fr wx hW hL hpr hds hdef hpre hfree;clear hL hpr hds hdef
   match i,ho,hr with
   |0,ho,hr=>?_
   |1,ho,hr=>?_
   |2,ho,hr=>?_
   |3,ho,hr=>?_
   |4,ho,hr=>?_
   |5,ho,hr=>?_
   |6,ho,hr=>?_
   |7,ho,hr=>obtain rfl:=Option.some.inj ho;obtain rfl:=Option.some.inj hr;have e6:=ev_tmp (show fr.eval (.tmp 34)= .int .i64 (2)from hpre 6 (by decide) _ rfl);clear hpre hfree;refine stpK rfl rfl fun K hK=>?_;go_simp;exact hK _ _ ⟨(by first|(show Value.int _ (IntKind.i64.wrap _)=_;rw[hw1])|rfl),hW,Below.refl _ _,fun h=>(List.not_mem_nil h).elim⟩
   |n+8,ho,hr=>exact absurd hr (by simp)
   all_goals
    obtain rfl:=Option.some.inj ho;obtain rfl:=Option.some.inj hr;simp only[List.mem_cons,List.not_mem_nil,or_false,false_imp_iff,implies_true,forall_eq_or_imp,forall_eq,List.getElem?_cons_zero,List.getElem?_cons_succ,Option.some.injEq,forall_eq',evt]at hpre hfree;have c0:=(hW.cell (p:=⟨R,1,none⟩) lR).trans R1;have c1:=(hW.cell (p:=⟨b4,0,none⟩) l4).trans k40;refine stpK rfl rfl fun K hK=>?_ <;> (go_simp;exact hK _ _ ⟨rfl,hW,Below.refl _ _,fun h=>(List.not_mem_nil h).elim⟩)
  ·intro vs wn2 hvs hW1 hap0;clear hap0;have e0:vs 0= .slice (some ⟨R,0,none⟩) (2) (2):=hvs 0 (by decide);have e1:vs 1= .int .i64 (1):=hvs 1 (by decide);have e2:vs 2= .pointer (some ⟨R,1,none⟩):=hvs 2 (by decide);have e3:vs 3= .slice (some ⟨r1,0,none⟩) (2) (2):=hvs 3 (by decide);have e4:vs 4= .int .i64 (1):=hvs 4 (by decide);have e5:vs 5= .pointer (some ⟨b4,0,none⟩):=hvs 5 (by decide);have e6:vs 6= .int .i64 (2):=hvs 6 (by decide);have e7:vs 7= .int .i64 (1):=hvs 7 (by decide);simp only[puts,Nat.reduceAdd,e0,e1,e2,e3,e4,e5,e6,e7,Act.put,List.setIfInBounds_toArray,List.set_cons_zero,List.set_cons_succ,List.drop_succ_cons,List.drop_zero,List.length_cons,List.length_nil];clear hvs e0 e1 e2 e3 e4 e5 e6 e7;obtain⟨m0,y0,y1,zz0,zz1⟩:=H18.out.below hW1;go_wp2;rw[rounds_succ];refine wp_world (fun w9=>FB w9 R (.slice (some ⟨r0,0,none⟩) 2 2) (.slice (some ⟨r1,0,none⟩) 2 2)∧FB w9 r0 (.int .i64 1) (.int .i64 0)∧FB w9 r1 (.int .i64 0) (.int .i64 1)∧FB w9 b4 (.int .i64 2) (.int .i64 4)∧Below w1.heap.size w1 w9)
    ⟨FB.keep (HR8.out.below hW1) _ (by have:=HR1.out;omega),FB.keep (H08.out.below hW1) _ (by have:=HR1.out;omega),FB.set1 (H18.out.below hW1) _,FB.keep (H48.out.below hW1) _ (by have:=HR1.out;omega),(HB8.out.trans (hW1.mono HB8.out.size)).setCell (p:=⟨r1,1,none⟩) (by have:=HR1.out;have:=HR.out;show _≤r1;omega) _⟩ ?_
   rintro w9 ⟨hR9,h09,h19,h49,hb9⟩;have HR9:Hid (FB w9 R (.slice (some ⟨r0,0,none⟩) 2 2) (.slice (some ⟨r1,0,none⟩) 2 2)):=hR9;have H09:Hid (FB w9 r0 (.int .i64 1) (.int .i64 0)):=h09;have H19:Hid (FB w9 r1 (.int .i64 0) (.int .i64 1)):=h19;have H49:Hid (FB w9 b4 (.int .i64 2) (.int .i64 4)):=h49;have HB9:Hid (Below w1.heap.size w1 w9):=hb9;clear hR9 h09 h19 hb9 m0 y0 y1 zz0 zz1 lR R0 R1 Rz0 Rz1 l4 k40 k41 z4 z5 hW1;obtain⟨l4,k40,k41,z4,z5⟩:=h49;go_wp2_with (go_at_call 36;fail);have HM9:Hid (MD w9 2 b2 o2 2 c2 y):=((HM.out.below HB1.out).below HB9.out);have HB29:Hid (b2<w9.heap.size):=Nat.lt_of_lt_of_le HB2.out (Nat.le_trans HB1.out.size HB9.out.size);have hS0:=sr_new2 w9 0 1;refine(power_any _ 2 4 _ [0,1] 2 b2 o2 2 c2 y hS0.view (HM9.out.below (bel1 _ _)) (by have:=HB29.out;simp;omega) (by decide) (by decide) bd01 (by decide) (by decide)).mono ?_;rintro e w10 ⟨u,z,rfl,hSz,hbz,hRz⟩;rw[HY.out]at hRz;obtain rfl:=res_eq2 hRz res_x2;have HNE:Hid (NEQ w1 R r0 r1 b4):=(by have h1:=HR0.out;have h2:=HR1.out;have h3:=HR.out;exact⟨by omega,by omega,by omega,by omega,by omega,by omega,by omega,by omega,by omega⟩);have hb910:Below w9.heap.size w9 w10:=(bel1 w9 _).trans (hbz.mono (by simp));have HX10:Hid (MW w1 w10 R r0 r1 b4 1 0 0 1):=MW.below ⟨HR9.out,H09.out,H19.out,H49.out,HB9.out⟩ hb910;have HSZ:Hid (SR w10 w9.heap.size u [1,1]):=hSz.mono (by simp);have HM10:Hid (MD w10 2 b2 o2 2 c2 y):=HM9.out.below hb910;have HB210:Hid (b2<w9.heap.size∧w9.heap.size≤w10.heap.size):=⟨HB29.out,hb910.size⟩;have HG10:Hid (R<w9.heap.size∧r0<w9.heap.size∧r1<w9.heap.size∧b4<w9.heap.size):=⟨HR9.out.lt,H09.out.lt,H19.out.lt,H49.out.lt⟩;clear hS0 hSz hbz hRz hb910 l4 k40 k41 z4 z5 HR9 H09 H19 H49 HM9 HB29;go_wp2;refine wp_world (fun w11=>MW w1 w11 R r0 r1 b4 1 0 0 1∧SR w11 w10.heap.size (.slice (some ⟨w10.heap.size,0,none⟩) 1 1) [1]∧SR w11 w9.heap.size u [1,1]∧MD w11 2 b2 o2 2 c2 y∧w10.heap.size<w11.heap.size∧Below w9.heap.size w10 w11)
    ⟨HX10.out.below (bel1 _ _),sr_new1 _ _,HSZ.out.below (bel1 _ _),HM10.out.below (bel1 _ _),by simp,(bel1 _ _).mono HB210.out.2⟩ ?_
   rintro w11 ⟨hX11,hS1,hSu,hM11,hl11,hb11⟩;obtain⟨P,hP⟩:∃x,x=w10.heap.size:=⟨_,rfl⟩;rw[←hP]at hS1 hl11⊢;have HX11:Hid (MW w1 w11 R r0 r1 b4 1 0 0 1):=hX11;have HS1:Hid (SR w11 w9.heap.size (.slice (some ⟨P,0,none⟩) 1 1) [1]):=hS1.mono (by rw[hP];exact HB210.out.2);have HSU:Hid (SR w11 w9.heap.size u [1,1]):=hSu;have HM11:Hid (MD w11 2 b2 o2 2 c2 y):=hM11;have HPP:Hid (w9.heap.size≤P∧P<w11.heap.size∧w9.heap.size≤w11.heap.size):=⟨by rw[hP];exact HB210.out.2,hl11,by have:=HB210.out.2;omega⟩;clear hX11 hS1 hSu hM11 hl11 hb11 hP HX10 HSZ HM10;have cP:w11.cell? ⟨P,0,none⟩=some (.int .i64 1):=by
    cases HS1.out with
    |nil a c hv hx=>cases hx
    |row b o c hv h0 hc hb hl hA hz=>simp only[Value.slice.injEq,Option.some.injEq,Addr.mk.injEq]at hv;obtain⟨⟨rfl,rfl,-⟩,-,-⟩:=hv;exact hA 0 (by decide)
   have hw2:IntKind.i64.wrap 2=2:=(by decide);have HB2B:Hid (b2≠r0∧b2≠r1):=(by have h1:=HB2.out;have h2:=HNE.out.g0;have h3:=HNE.out.g1;have h4:=HB1.out.size;show _∧_;omega);refine wp_loop_rounds 3 ?_;rw[rounds_succ];obtain⟨lR,R0,R1,Rz0,Rz1⟩:=HX11.out.hR;obtain⟨l0,x0,x1,z0,z1⟩:=HX11.out.h0;go_wp2;refine wp_loop_rounds 2 ?_;rw[rounds_succ];go_wp2;rw[rounds_succ];refine wp_world (fun w12=>MW w1 w12 R r0 r1 b4 2 0 0 1∧SR w12 w9.heap.size (.slice (some ⟨P,0,none⟩) 1 1) [1]∧SR w12 w9.heap.size u [1,1]∧MD w12 2 b2 o2 2 c2 y∧w12.heap.size=w11.heap.size)
    ⟨HX11.out.s00 HNE.out 2,sr_set HS1.out HG10.out.2.1 _,sr_set HSU.out HG10.out.2.1 _,HM11.out.setc HB2B.out.1 _,by simp[World.setCell]⟩ ?_
   rintro w12 ⟨hX12,hS1,hSu,hM12,hs12⟩;have HX12:Hid (MW w1 w12 R r0 r1 b4 2 0 0 1):=hX12;have HS12:Hid (SR w12 w9.heap.size (.slice (some ⟨P,0,none⟩) 1 1) [1]):=hS1;have HSU12:Hid (SR w12 w9.heap.size u [1,1]):=hSu;have HM12:Hid (MD w12 2 b2 o2 2 c2 y):=hM12;have HL12:Hid (w9.heap.size≤w12.heap.size∧b2<w12.heap.size):=(by have:=HPP.out;have:=HB210.out;show _∧_;omega);clear hX12 hS1 hSu hM12 hs12 lR R0 R1 Rz0 Rz1 l0 x0 x1 z0 z1 cP HX11 HS1 HSU HM11;obtain⟨l4,k40,k41,z4,z5⟩:=HX12.out.h4;go_upto_region 19 with fail;refine wp_drawn mixed [⟨67,[],[],[2]⟩,⟨68,[],[],[2]⟩,⟨69,[],[],[9]⟩,⟨70,[],[],[8]⟩,⟨71,[1,2,3],[1,2,3],[]⟩,⟨72,[],[],[1]⟩] [] (by kernel_rfl) 76 rfl (by kernel_rfl) (fun (i:Nat) (v:Value) (wq:World)=>match i with|0=>v= .agg #[.int .i64 (2), .int .i64 (4)]|1=>v= .agg #[.int .i64 (2), .int .i64 (4)]|2=>v= .slice (some ⟨P,0,none⟩) (1) (1)|3=>v=u|4=>PRD w12 (row (pmul [1] [1,1])) v wq|5=>v= .slice (some ⟨b2,o2,none⟩) (3) (c2)|_=>True) (fun _ wq=>Below w12.heap.size w12 wq) (fun wx wy=>Below wx.heap.size wx wy) (Below.refl _ _).drew (fun i v wx wy h hx=>match i,h with|0,h=>h|1,h=>h|2,h=>h|3,h=>h|5,h=>h|4,h=>h.below hx|n+6,_=>trivial) ?_ ?_
   ·intro i o r ho hr L fr wx hW hL hpr hds hdef hpre hfree;clear hL hpr hds hdef
    match i,ho,hr with
    |0,ho,hr=>?_
    |1,ho,hr=>?_
    |2,ho,hr=>?_
    |3,ho,hr=>?_
    |4,ho,hr=>obtain rfl:=Option.some.inj ho;obtain rfl:=Option.some.inj hr;have e1:=ev_tmp (show fr.eval (.tmp 68)= .agg #[.int .i64 (2), .int .i64 (4)] from hpre 1 (by decide) _ rfl);have e2:=ev_tmp (show fr.eval (.tmp 69)= .slice (some ⟨P,0,none⟩) (1) (1)from hpre 2 (by decide) _ rfl);have e3:=ev_tmp (show fr.eval (.tmp 70)=u from hpre 3 (by decide) _ rfl);clear hpre hfree;refine stpK rfl rfl fun K hK=>?_;go_simp;refine(product_sr wx 2 4 _ _ [1] [1,1] ((HS12.out.view).below hW) ((HSU12.out.view).below hW) (by decide) (by decide) bd1 bd11 (by decide) (by decide)).mono ?_;rintro e wy ⟨v1,zp,rfl,hSp,hbp,hz1,hz2,hz3⟩;exact hK _ _ ⟨(.mk zp (hSp.mono hW.size) (hW.trans (hbp.mono hW.size)) hz2 (by simp at hz1;omega) hz3),hW.trans (hbp.mono hW.size),hbp,fun h=>(List.not_mem_nil h).elim⟩
    |5,ho,hr=>?_
    |n+6,ho,hr=>exact absurd hr (by simp)
    all_goals
     obtain rfl:=Option.some.inj ho;obtain rfl:=Option.some.inj hr;simp only[List.mem_cons,List.not_mem_nil,or_false,false_imp_iff,implies_true,forall_eq_or_imp,forall_eq,List.getElem?_cons_zero,List.getElem?_cons_succ,Option.some.injEq,forall_eq',evt]at hpre hfree;have c0:=(hW.cell (p:=⟨b4,0,none⟩) l4).trans k40;have c1:=(hW.cell (p:=⟨b4,1,none⟩) l4).trans k41;refine stpK rfl rfl fun K hK=>?_ <;> (go_simp;exact hK _ _ ⟨rfl,hW,Below.refl _ _,fun h=>(List.not_mem_nil h).elim⟩)
   ·intro vs w13 hvs hW1 hap0;clear hap0;have e0:vs 0= .agg #[.int .i64 (2), .int .i64 (4)]:=hvs 0 (by decide);have e1:vs 1= .agg #[.int .i64 (2), .int .i64 (4)]:=hvs 1 (by decide);have e2:vs 2= .slice (some ⟨P,0,none⟩) (1) (1):=hvs 2 (by decide);have e3:vs 3=u:=hvs 3 (by decide);obtain⟨u4,e4⟩:∃u,vs 4=u:=⟨_,rfl⟩;have p4:PRD w12 (row (pmul [1] [1,1])) u4 w13:=(by rw[←e4];exact hvs 4 (by decide));have e5:vs 5= .slice (some ⟨b2,o2,none⟩) (3) (c2):=hvs 5 (by decide);simp only[puts,Nat.reduceAdd,e0,e1,e2,e3,e4,e5,Act.put,List.setIfInBounds_toArray,List.set_cons_zero,List.set_cons_succ,List.drop_succ_cons,List.drop_zero,List.length_cons,List.length_nil];clear hvs e0 e1 e2 e3 e4 e5;obtain⟨zp,hSp,hBp,hqp,hlp,htp⟩:=p4;have CR:=rest_sr w13 2 4 w12.heap.size _ zp b2 o2 2 c2 y hSp hBp.size (HM12.out.below hBp) HL12.out.2 (by decide) (by decide) hqp (by omega);rw[HY.out]at CR;have HBp:Hid (Below w12.heap.size w12 w13):=hBp;have HTP:Hid (∀j,row zp j%2=row (pmul [1] [1,1]) j%2):=htp;obtain⟨n4,k42,k43,z6,z7⟩:=HX12.out.h4.below hBp;clear hSp hBp hqp hlp htp hW1 l4 k40 k41 z4 z5;go_wp2_with (go_at_call 60;fail);refine CR.mono ?_;rintro e w14 ⟨u9,g,rfl,hS,hb,hR⟩;obtain rfl:=res_eq2 (hR.of (.of fun j=>(HTP.out j).symm)) res_x1;have hb14:Below w12.heap.size w12 w14:=HBp.out.trans hb;have HX14:Hid (MW w1 w14 R r0 r1 b4 2 0 0 1):=HX12.out.below hb14;have HS14:Hid (SR w14 w9.heap.size u9 [1,1]):=hS.mono HL12.out.1;have HSU14:Hid (SR w14 w9.heap.size u [1,1]):=HSU12.out.below hb14;have HM14:Hid (MD w14 2 b2 o2 2 c2 y):=HM12.out.below hb14;have HL14:Hid (w9.heap.size≤w14.heap.size∧b2<w14.heap.size):=(by have:=HL12.out;have:=hb14.size;show _∧_;omega);clear hS hb hR hb14 CR n4 k42 k43 z6 z7 HS12;go_wp2;rw[rounds_succ];obtain⟨bp,op,cp,rfl,hcp,hbp,hlp,hAp,hzp⟩:=HS14.out.form2 (n:=2) rfl (by decide);have hp0:w14.cell? ⟨bp,op,none⟩=some (.int .i64 1):=hAp 0 (by decide);have hp1:w14.cell? ⟨bp,op+1,none⟩=some (.int .i64 1):=hAp 1 (by decide);obtain⟨lR,R0,R1,Rz0,Rz1⟩:=HX14.out.hR;obtain⟨l0,x0,x1,z0,z1⟩:=HX14.out.h0;have HBPN:Hid (bp≠r0∧bp≠r1):=(by have:=HG10.out;show _∧_;omega);clear hAp hzp hcp hbp;go_wp2;refine wp_loop_rounds 3 ?_;rw[rounds_succ];go_wp2;rw[rounds_succ];refine wp_world (fun w15=>MW w1 w15 R r0 r1 b4 2 1 0 1∧SR w15 w9.heap.size (.slice (some ⟨bp,op,none⟩) 2 cp) [1,1]∧SR w15 w9.heap.size u [1,1]∧MD w15 2 b2 o2 2 c2 y∧w15.heap.size=w14.heap.size∧w15.cell? ⟨bp,op+1,none⟩=some (.int .i64 1))
     ⟨HX14.out.s01 HNE.out 1,sr_set HS14.out HG10.out.2.1 _,sr_set HSU14.out HG10.out.2.1 _,HM14.out.setc HB2B.out.1 _,by simp[World.setCell],by rw[cell_other (.inl HBPN.out.1)];exact hp1⟩ ?_
    rintro w15 ⟨hX15,hS15,hSU15,hM15,hs15,hp15⟩;have HX15:Hid (MW w1 w15 R r0 r1 b4 2 1 0 1):=hX15;have HS15:Hid (SR w15 w9.heap.size (.slice (some ⟨bp,op,none⟩) 2 cp) [1,1]):=hS15;have HSU15:Hid (SR w15 w9.heap.size u [1,1]):=hSU15;have HM15:Hid (MD w15 2 b2 o2 2 c2 y):=hM15;have HL15:Hid (w9.heap.size≤w15.heap.size∧b2<w15.heap.size):=(by have:=HL14.out;show _∧_;omega);clear hX15 hS15 hSU15 hM15 hs15 lR R0 R1 Rz0 Rz1 l0 x0 x1 z0 z1 hp0 hp1 hlp HX14 HS14 HSU14 HM14;obtain⟨lR,R0,R1,Rz0,Rz1⟩:=HX15.out.hR;obtain⟨l0,x0,x1,z0,z1⟩:=HX15.out.h1;go_wp2;rw[rounds_succ];refine wp_world (fun w16=>MW w1 w16 R r0 r1 b4 2 1 0 2∧SR w16 w9.heap.size (.slice (some ⟨bp,op,none⟩) 2 cp) [1,1]∧SR w16 w9.heap.size u [1,1]∧MD w16 2 b2 o2 2 c2 y∧w16.heap.size=w15.heap.size)
     ⟨HX15.out.s11 HNE.out 2,sr_set HS15.out HG10.out.2.2.1 _,sr_set HSU15.out HG10.out.2.2.1 _,HM15.out.setc HB2B.out.2 _,by simp[World.setCell]⟩ ?_
    rintro w16 ⟨hX16,hS16,hSU16,hM16,hs16⟩;have HX16:Hid (MW w1 w16 R r0 r1 b4 2 1 0 2):=hX16;have HS16:Hid (SR w16 w9.heap.size (.slice (some ⟨bp,op,none⟩) 2 cp) [1,1]):=hS16;have HSU16:Hid (SR w16 w9.heap.size u [1,1]):=hSU16;have HM16:Hid (MD w16 2 b2 o2 2 c2 y):=hM16;have HL16:Hid (w9.heap.size≤w16.heap.size∧b2<w16.heap.size):=(by have:=HL15.out;show _∧_;omega);clear hX16 hS16 hSU16 hM16 hs16 lR R0 R1 Rz0 Rz1 l0 x0 x1 z0 z1 hp15 HX15 HS15 HSU15 HM15;obtain⟨l4,k40,k41,z4,z5⟩:=HX16.out.h4;go_upto_region 19 with fail;refine wp_drawn mixed [⟨67,[],[],[2]⟩,⟨68,[],[],[2]⟩,⟨69,[],[],[9]⟩,⟨70,[],[],[8]⟩,⟨71,[1,2,3],[1,2,3],[]⟩,⟨72,[],[],[1]⟩] [] (by kernel_rfl) 76 rfl (by kernel_rfl) (fun (i:Nat) (v:Value) (wq:World)=>match i with|0=>v= .agg #[.int .i64 (2), .int .i64 (4)]|1=>v= .agg #[.int .i64 (2), .int .i64 (4)]|2=>v= .slice (some ⟨bp,op,none⟩) (2) (cp)|3=>v=u|4=>PRD w16 (row (pmul [1,1] [1,1])) v wq|5=>v= .slice (some ⟨b2,o2,none⟩) (3) (c2)|_=>True) (fun _ wq=>Below w16.heap.size w16 wq) (fun wx wy=>Below wx.heap.size wx wy) (Below.refl _ _).drew (fun i v wx wy h hx=>match i,h with|0,h=>h|1,h=>h|2,h=>h|3,h=>h|5,h=>h|4,h=>h.below hx|n+6,_=>trivial) ?_ ?_
    ·intro i o r ho hr L fr wx hW hL hpr hds hdef hpre hfree;clear hL hpr hds hdef
     match i,ho,hr with
     |0,ho,hr=>?_
     |1,ho,hr=>?_
     |2,ho,hr=>?_
     |3,ho,hr=>?_
     |4,ho,hr=>obtain rfl:=Option.some.inj ho;obtain rfl:=Option.some.inj hr;have e1:=ev_tmp (show fr.eval (.tmp 68)= .agg #[.int .i64 (2), .int .i64 (4)] from hpre 1 (by decide) _ rfl);have e2:=ev_tmp (show fr.eval (.tmp 69)= .slice (some ⟨bp,op,none⟩) (2) (cp)from hpre 2 (by decide) _ rfl);have e3:=ev_tmp (show fr.eval (.tmp 70)=u from hpre 3 (by decide) _ rfl);clear hpre hfree;refine stpK rfl rfl fun K hK=>?_;go_simp;refine(product_sr wx 2 4 _ _ [1,1] [1,1] ((HS16.out.view).below hW) ((HSU16.out.view).below hW) (by decide) (by decide) bd11 bd11 (by decide) (by decide)).mono ?_;rintro e wy ⟨v1,zp,rfl,hSp,hbp,hz1,hz2,hz3⟩;exact hK _ _ ⟨(.mk zp (hSp.mono hW.size) (hW.trans (hbp.mono hW.size)) hz2 (by simp at hz1;omega) hz3),hW.trans (hbp.mono hW.size),hbp,fun h=>(List.not_mem_nil h).elim⟩
     |5,ho,hr=>?_
     |n+6,ho,hr=>exact absurd hr (by simp)
     all_goals
      obtain rfl:=Option.some.inj ho;obtain rfl:=Option.some.inj hr;simp only[List.mem_cons,List.not_mem_nil,or_false,false_imp_iff,implies_true,forall_eq_or_imp,forall_eq,List.getElem?_cons_zero,List.getElem?_cons_succ,Option.some.injEq,forall_eq',evt]at hpre hfree;have c0:=(hW.cell (p:=⟨b4,0,none⟩) l4).trans k40;have c1:=(hW.cell (p:=⟨b4,1,none⟩) l4).trans k41;refine stpK rfl rfl fun K hK=>?_ <;> (go_simp;exact hK _ _ ⟨rfl,hW,Below.refl _ _,fun h=>(List.not_mem_nil h).elim⟩)
    ·intro vs w17 hvs hW1 hap0;clear hap0;have e0:vs 0= .agg #[.int .i64 (2), .int .i64 (4)]:=hvs 0 (by decide);have e1:vs 1= .agg #[.int .i64 (2), .int .i64 (4)]:=hvs 1 (by decide);have e2:vs 2= .slice (some ⟨bp,op,none⟩) (2) (cp):=hvs 2 (by decide);have e3:vs 3=u:=hvs 3 (by decide);obtain⟨u4,e4⟩:∃u,vs 4=u:=⟨_,rfl⟩;have p4:PRD w16 (row (pmul [1,1] [1,1])) u4 w17:=(by rw[←e4];exact hvs 4 (by decide));have e5:vs 5= .slice (some ⟨b2,o2,none⟩) (3) (c2):=hvs 5 (by decide);simp only[puts,Nat.reduceAdd,e0,e1,e2,e3,e4,e5,Act.put,List.setIfInBounds_toArray,List.set_cons_zero,List.set_cons_succ,List.drop_succ_cons,List.drop_zero,List.length_cons,List.length_nil];clear hvs e0 e1 e2 e3 e4 e5;obtain⟨zp,hSp,hBp,hqp,hlp,htp⟩:=p4;have CR:=rest_sr w17 2 4 w16.heap.size _ zp b2 o2 2 c2 y hSp hBp.size (HM16.out.below hBp) HL16.out.2 (by decide) (by decide) hqp (by omega);have HBp:Hid (Below w16.heap.size w16 w17):=hBp;obtain⟨n4,k42,k43,z6,z7⟩:=HX16.out.h4.below hBp;clear hSp hBp hqp hlp htp hW1 l4 k40 k41 z4 z5;go_wp2_with (go_at_call 60;fail);refine CR.mono ?_;rintro e w18 ⟨u9,g,rfl,hS,hb,hR⟩;have HB18:Hid (Below w16.heap.size w16 w18):=HBp.out.trans hb;clear hS hb hR CR n4 k42 k43 z6 z7;go_wp2;rw[rounds_succ];go_wp2;refine bodyPost_ret (v:= .slice (some ⟨R,0,none⟩) 2 2) (by simp[results,go_sem,loadVar]) rfl ?_;have HF:MW w1 w18 R r0 r1 b4 2 1 0 2:=HX16.out.below HB18.out;have h1:=HB1.out.size;have h2:=HNE.out;refine .mk R r0 r1 rfl ⟨HF.hR,HF.h0,HF.h1,⟨h2.n0,h2.n1,h2.n2⟩,by have:=h2.g0;have:=h2.g1;have:=h2.g2;omega⟩ (HB1.out.trans (HF.hB.mono h1))
end Go.Proofs.YtffdemplaodbcaaDoor
