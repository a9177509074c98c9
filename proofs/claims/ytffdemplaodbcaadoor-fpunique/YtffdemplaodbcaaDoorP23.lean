/- A part of the proof: QK, QL. -/
import Derived.Test.YtffdemplaodbcaaDoorP22
set_option linter.all false
namespace Go.Proofs.YtffdemplaodbcaaDoor
open Go Go.Proofs Go.RowKit Go.Rad
attribute [local go_sem] Oper.semAt_some
theorem MD.kept {S:Nat→Prop} {w w':World} {p:Int} {b o n c:Nat} {y:Nat→Int} (h:MD w p b o n c y) (hk:Kept S w w') (hs:¬S b) (hb:b<w.heap.size):MD w' p b o n c y:=⟨fun i hi=>(hk.cell hb hs).trans (h.row i hi),h.cap,h.bd,h.g,h.ne,h.small⟩
theorem info45:(Tryd.prog.info? 45).map (fun i=>(i.zero,i.size,i.bytes))=some (some (.agg #[.slice none 0 0, .int .i64 0]),2,32):=by kernel_rfl
theorem wpListIn_appendP {F:Fence} {n:Nat} {w:World} {ops:Array Oper} {rest:List Oper} {o:Oper} {a:Act} {Q:Exit→Act→World→Prop} (hgd:o.guard=none) (s x:Operand)
 (ho:o.op= .call {callee:= .builtin .append,args:=#[s,x],argTypes:=#[38,38]}) (hs:a.eval s= .slice none 0 0) (g7 m7:Nat) (a1:Option Addr) (n1 c1:Nat) (t:Int)
 (hx:a.eval x= .slice (some ⟨g7,0,none⟩) 1 m7) (hc:w.cell? ⟨g7,0,none⟩=some (.slice a1 n1 c1)) (hc2:w.cell? ⟨g7,1,none⟩=some (.int .i64 t))
 (h:∀g cap w',w.heap.size≤g→FB w' g (.slice a1 n1 c1) (.int .i64 t)→Below w.heap.size w w'→wpListIn F n Tryd.prog ops Q rest (a.put o.dst (.slice (some ⟨g,0,none⟩) 1 cap)) w'):wpListIn F n Tryd.prog ops Q (o::rest) a w:=by
 obtain⟨i,hi0,hi1⟩:=Option.map_eq_some_iff.1 info45;simp only[Prod.mk.injEq]at hi1;obtain⟨z0,z1,z2⟩:=hi1;obtain⟨g,cap,w',hrun,hrow,hgr,hg,hlt⟩:=run_append_lies (P:=Tryd.prog) w 38 o.type w.heap.size 45 i (.agg #[.slice none 0 0, .int .i64 0]) 2 32 Tryd.underlying38 hi0 z0 z1 z2 (by simp[Value.cells]) (by omega) (.slice none 0 0) 0 [] ⟨rfl, .inl ⟨rfl,rfl⟩⟩ ⟨g7,0,none⟩ 1 m7 [.slice a1 n1 c1, .int .i64 t] rfl
  (fun j u hj=>by
   match j with
   |0=>simp at hj;subst hj;exact hc
   |1=>simp at hj;subst hj;exact hc2
   |j+2=>simp at hj) (fun u hu=>by
   simp at hu;rcases hu with rfl|rfl <;> rfl) (by omega) (by unfold maxLen;omega) (by omega) (Nat.le_refl _) w.heap.size rfl
 have hgg:w.heap.size≤g:=by
  rcases hg with h9|h9
  ·simp[Value.ownBlock]at h9
  ·omega
 refine wpListIn_plain hgd fun K hK'=>?_;unfold Oper.wpIn;refine⟨by simp[Oper.about,ho,resolve,Target.leads,Sem.run_pure],?_⟩;rw[Oper.semAt_plain F _ _ (by rw[ho];intro c hc';cases hc')];unfold execOp;simp only[ho,resolve,invoke,builtin,Sem.run_bind,Sem.run_pure,Result.andThen_ok,List.map_toArray,List.map_cons,List.map_nil,hs,hx,hrun];refine hK' _ _ (h g cap w' hgg ⟨hlt,?_,?_,?_,?_⟩ ?_)
 ·have:=World.ownsRow.cellAt hrow 0 (by omega);simpa using this
 ·have:=World.ownsRow.cellAt hrow 1 (by omega);simpa using this
 ·exact World.ownsRow.frozenAt hrow 0
 ·exact World.ownsRow.frozenAt hrow 1
 ·refine⟨hgr.os,hgr.tape,hgr.output,hgr.size,fun k hk=>hgr.block k (by omega) (fun he=>?_)⟩;simp[Value.ownBlock]at he
inductive PRT (wa:World) (v:Value) (wx:World):Prop
 |mk (bf bk:Nat) (a:Option Addr) (c:Nat) (hv:v= .func (.func 64) #[] #[.pointer (some ⟨bf,0,none⟩), .pointer (some ⟨bk,0,none⟩)]) (hk:FB wx bk (.int .i64 2) (.int .i64 4)) (hf:F1 wx bf (.slice a 5 c))
  (hS:SR wx 0 (.slice a 5 c) [1,0,1,0,1]) (hb:Below wa.heap.size wa wx) (hne:bk≠bf) (hge:wa.heap.size≤bk∧wa.heap.size≤bf)
theorem PRT.below {wa wx wy:World} {v:Value} (h:PRT wa v wx) (hb:Below wx.heap.size wx wy):PRT wa v wy:=by obtain⟨bf,bk,a,c,hv,hk,hf,hS,hB,hne,hge⟩:=h;exact⟨bf,bk,a,c,hv,hk.below hb,hf.below hb,hS.below hb,hB.trans (hb.mono hB.size),hne,hge⟩
theorem PRT.lift {wa wb wx:World} {v:Value} (h:PRT wb v wx) (hb:Below wa.heap.size wa wb):PRT wa v wx:=by obtain⟨bf,bk,a,c,hv,hk,hf,hS,hB,hne,hge⟩:=h;have:=hb.size;exact⟨bf,bk,a,c,hv,hk,hf,hS,hb.trans (hB.mono hb.size),hne,by omega⟩
set_option maxRecDepth 10000 in
theorem parts_begun (w:World) (v:Value) (hv:SR w 0 v [1,0,1,0,1]):Calls Tryd.prog 44 #[FV 2 4,v] w fun e w'=>∃u,e= .returned u∧PRT w u w'∧Below w.heap.size w w':=by
 have HVF:Hid (∃a c,v= .slice a 5 c):=by
  cases hv with
  |nil a c hv hx=>cases hx
  |row b o c hv h0 hc hb hl hA hz=>exact⟨_,c,hv⟩
 have HV:Hid (SR w 0 v [1,0,1,0,1]):=hv;clear hv;obtain⟨a,c,rfl⟩:=HVF.out;go_enter Tryd.func44,Tryd.ntmps44;go_wp2;refine bodyPost_ret (v:= .func (.func 64) #[] #[.pointer (some ⟨w.heap.size+1,0,none⟩), .pointer (some ⟨w.heap.size,0,none⟩)]) (by simp[results,go_sem,loadVar]) rfl ?_;refine⟨_,rfl, .mk (w.heap.size+1) w.heap.size a c rfl ((FB.mk0 w _ _ _).alloc _) ⟨by simp,by simp[go_sem],by simp[go_sem]⟩ (HV.out.below (bel2 _ _ _)) (bel2 _ _ _) (by omega) (by omega),bel2 _ _ _⟩
inductive FactPost (w:World) (e:Ending) (w':World):Prop
 |mk (g cap b2 o2 c2:Nat) (he:e= .returned (.tuple #[.int .i64 1, .slice (some ⟨g,0,none⟩) 1 cap,Flt 0 0])) (hF:FB w' g (.slice (some ⟨b2,o2,none⟩) 3 c2) (.int .i64 2)) (hV:VW w' (.slice (some ⟨b2,o2,none⟩) 3 c2) [1,1,1]) (hb:Below w.heap.size w w')
set_option maxRecDepth 10000 in
set_option maxHeartbeats 4000000 in
theorem factor_begun (w:World) (vf:Value) (hv:IL w vf [1,0,1,0,1]) (ht:TabB w):Calls Tryd.prog 21 #[vf, .int .i64 2] w fun e w'=>FactPost w e w':=by
 have CC:=fun wx (hb:Below w.heap.size w wx)=>checkSome_begun wx vf (hv.below hb) (ht.below hb);have HV:Hid (VW w vf [1,0,1,0,1]):=hv.vw;have HVF:Hid (∃b o c,vf= .slice (some ⟨b,o,none⟩) 5 c∧w.cell? ⟨b,o+4,none⟩=some (.int .i64 1)):=(by obtain⟨a,b,o,n,c,hv,hn,ha,hc,hm⟩:=hv;have h5:n=5:=hn.symm;subst h5;obtain rfl:=ha (by decide);exact⟨b,o,c,hv,hc 4 (by decide)⟩);clear hv ht;obtain⟨b,o,c,rfl,hlast⟩:=HVF.out;have HLA:Hid (w.cell? ⟨b,o+4,none⟩=some (.int .i64 1)):=hlast;clear hlast;refine(callsIn_wide (n:=5)).1 ?_;refine callsIn_of_wp_marks Tryd.func21 rfl trivial ?_ rfl;simp only[Tryd.ntmps21,List.size_toArray,List.length_cons,List.length_nil,Nat.reduceAdd,Nat.reduceSub,Array.replicate_succ,Array.replicate_zero,List.push_toArray,List.append_toArray,List.nil_append,List.cons_append];refine wpIn_wide.2 ?_;go_wp2_with (go_at_call 43;fail);refine(CC _ (bel1 _ _)).mono ?_;rintro e w1 ⟨rfl,hb1⟩;have hB1:Below w.heap.size w w1:=(bel1 w _).trans (hb1.mono (by simp));have hF:=(FB.mk0 w (.int .i64 0) (.int .i64 0) 24).below hb1;obtain⟨b6,hb6⟩:∃x,x=w.heap.size:=⟨_,rfl⟩;rw[←hb6]at hF⊢;have HB1:Hid (Below w.heap.size w w1):=hB1;have HF1:Hid (FB w1 b6 (.int .i64 0) (.int .i64 0)):=hF;have HB6:Hid (b6=w.heap.size):=hb6;clear hb1 hB1 hF hb6 CC;go_wp2_with (go_at_call 31;fail);refine(fieldOf_any _ 2 4 (by decide) (by decide) (by decide)).mono ?_;rintro e w2 ⟨rfl,hb2⟩;have HB2:Hid (Below w1.heap.size w1 w2):=(bel1 w1 _).trans (hb2.mono (by simp));clear hb2;go_upto_region 6 with fail;refine wp_world (fun w3=>FB w3 w2.heap.size (.int .i64 2) (.int .i64 4)∧F1 w3 (w2.heap.size+1) (.slice none 0 0)∧Below w2.heap.size w2 w3∧w3.heap.size=w2.heap.size+2)
  ⟨(FB.mk0 w2 _ _ _).alloc _,⟨by simp,by simp[go_sem],by simp[go_sem]⟩,bel2 _ _ _,by simp⟩ ?_
 rintro w3 ⟨hK3,hS3,hB3,hs3⟩;obtain⟨b8,hb8⟩:∃x,x=w2.heap.size:=⟨_,rfl⟩;obtain⟨bs,hbs⟩:∃x,x=w2.heap.size+1:=⟨_,rfl⟩;rw[←hbs]at hS3;rw[←hb8]at hK3;rw[←hbs,←hb8];have HK3:Hid (FB w3 b8 (.int .i64 2) (.int .i64 4)):=hK3;have HS3:Hid (F1 w3 bs (.slice none 0 0)):=hS3;have HB3:Hid (Below w1.heap.size w1 w3):=HB2.out.trans (hB3.mono HB2.out.size);have HN3:Hid (b8=w2.heap.size∧bs=b8+1∧b6<b8∧w1.heap.size≤b8):=(by have h1:=HF1.out.lt;have h2:=HB2.out.size;show _∧_∧_∧_;omega);clear hS3 hB3 hs3 hb8 hbs;obtain⟨l4,k40,k41,z4,z5⟩:=hK3;refine wp_drawn mixed [⟨23,[],[],[8]⟩,⟨24,[],[],[8]⟩,⟨25,[],[],[0]⟩,⟨26,[1,2],[1,2],[]⟩,⟨27,[0,3],[0,1,2,3],[]⟩] [] (by kernel_rfl) 55 rfl (by kernel_rfl) (fun (i:Nat) (v:Value) (wq:World)=>match i with|0=>v= .agg #[.int .i64 (2), .int .i64 (4)]|1=>v= .agg #[.int .i64 (2), .int .i64 (4)]|2=>v= .slice (some ⟨b,o,none⟩) (5) (c)|3=>PV w3 [1,0,1,0,1] v wq|4=>PRT w3 v wq|_=>True) (fun _ wq=>Below w3.heap.size w3 wq) (fun wx wy=>Below wx.heap.size wx wy) (Below.refl _ _).drew (fun i v wx wy h hx=>match i,h with|0,h=>h|1,h=>h|2,h=>h|3,h=>h.below hx|4,h=>h.below hx|n+5,_=>trivial) ?_ ?_
 ·intro i o r ho hr L fr wx hW hL hpr hds hdef hpre hfree;clear hL hpr hds hdef
  match i,ho,hr with
  |0,ho,hr=>?_
  |1,ho,hr=>?_
  |2,ho,hr=>?_
  |3,ho,hr=>obtain rfl:=Option.some.inj ho;obtain rfl:=Option.some.inj hr;have e1:=ev_tmp (show fr.eval (.tmp 24)= .agg #[.int .i64 (2), .int .i64 (4)] from hpre 1 (by decide) _ rfl);have e2:=ev_tmp (show fr.eval (.tmp 25)= .slice (some ⟨b,o,none⟩) (5) (c)from hpre 2 (by decide) _ rfl);clear hpre hfree;refine stpK rfl rfl fun K hK=>?_;go_simp;refine(monic_any wx 2 4 _ _ (((HV.out.below HB1.out).below HB3.out).below hW) (by decide) (by decide) isP_f.bd (fun _=>by decide) (fun _=>by decide) (by decide)).mono ?_;rintro e wy ⟨v1,zm,rfl,hSm,hbm,hmm⟩;exact hK _ _ ⟨(by obtain rfl:=isMon2 isP_f (by decide) hmm;exact⟨hSm.mono hW.size,hW.trans (hbm.mono hW.size)⟩),hW.trans (hbm.mono hW.size),hbm,fun h=>(List.not_mem_nil h).elim⟩
  |4,ho,hr=>obtain rfl:=Option.some.inj ho;obtain rfl:=Option.some.inj hr;have e0:=ev_tmp (show fr.eval (.tmp 23)= .agg #[.int .i64 (2), .int .i64 (4)] from hpre 0 (by decide) _ rfl);obtain⟨u3,q3⟩:∃u,fr.eval (.tmp 26)=u:=⟨_,rfl⟩;have p3:PV w3 [1,0,1,0,1] u3 wx:=(by rw[←q3];exact hpre 3 (by decide) _ rfl);have e3:=ev_tmp q3;clear q3;clear hpre hfree;refine stpK rfl rfl fun K hK=>?_;go_simp;refine(parts_begun wx _ (p3.1.mono (Nat.zero_le _))).mono ?_;rintro e wy ⟨v1,rfl,hP,hb⟩;exact hK _ _ ⟨(hP.lift hW),hW.trans (hb.mono hW.size),hb,fun h=>(List.not_mem_nil h).elim⟩
  |n+5,ho,hr=>exact absurd hr (by simp)
  all_goals
   obtain rfl:=Option.some.inj ho;obtain rfl:=Option.some.inj hr;simp only[List.mem_cons,List.not_mem_nil,or_false,false_imp_iff,implies_true,forall_eq_or_imp,forall_eq,List.getElem?_cons_zero,List.getElem?_cons_succ,Option.some.injEq,forall_eq',evt]at hpre hfree;have c0:=(hW.cell (p:=⟨b8,0,none⟩) l4).trans k40;have c1:=(hW.cell (p:=⟨b8,1,none⟩) l4).trans k41;refine stpK rfl rfl fun K hK=>?_ <;> (go_simp;exact hK _ _ ⟨rfl,hW,Below.refl _ _,fun h=>(List.not_mem_nil h).elim⟩)
 ·intro vs w4 hvs hW1 hap0;clear hap0;have e0:vs 0= .agg #[.int .i64 (2), .int .i64 (4)]:=hvs 0 (by decide);have e1:vs 1= .agg #[.int .i64 (2), .int .i64 (4)]:=hvs 1 (by decide);have e2:vs 2= .slice (some ⟨b,o,none⟩) (5) (c):=hvs 2 (by decide);obtain⟨u3,e3⟩:∃u,vs 3=u:=⟨_,rfl⟩;have p3:PV w3 [1,0,1,0,1] u3 w4:=(by rw[←e3];exact hvs 3 (by decide));obtain⟨u4,e4⟩:∃u,vs 4=u:=⟨_,rfl⟩;have p4:PRT w3 u4 w4:=(by rw[←e4];exact hvs 4 (by decide));simp only[puts,Nat.reduceAdd,e0,e1,e2,e3,e4,Act.put,List.setIfInBounds_toArray,List.set_cons_zero,List.set_cons_succ,List.drop_succ_cons,List.drop_zero,List.length_cons,List.length_nil];clear hvs e0 e1 e2 e3 e4;obtain⟨bf,bk,a,cm,rfl,hkf,hff,hSf,hbf,hnef,hgef⟩:=p4;clear p3 l4 k40 k41 z4 z5;have HKF:Hid (FB w4 bk (.int .i64 2) (.int .i64 4)):=hkf;have HFF:Hid (F1 w4 bf (.slice a 5 cm)):=hff;have HSF:Hid (SR w4 0 (.slice a 5 cm) [1,0,1,0,1]):=hSf;have HNF:Hid (bk≠bf∧w3.heap.size≤bk∧w3.heap.size≤bf):=⟨hnef,hgef⟩;have HB4:Hid (Below w3.heap.size w3 w4):=hbf;have HBS4:Hid (bs<w4.heap.size∧b6<w4.heap.size):=(by have:=HS3.out.lt;have:=HB4.out.size;have:=HN3.out;show _∧_;omega);clear hkf hff hSf hnef hgef hbf hW1;go_wp2;refine wp_range1 (gf:=64) (lb:=#[.pointer (some ⟨bf,0,none⟩), .pointer (some ⟨bk,0,none⟩)]) rfl (enters_of Tryd.func64 (by kernel_rfl) rfl) rfl bf bs HFF.out.lt (Nat.lt_of_lt_of_le HS3.out.lt HB4.out.size) (by have:=HNF.out;have:=HS3.out.lt;omega)
   (fun W u=>∃b2 o2 c2 y,u= .slice (some ⟨b2,o2,none⟩) 3 c2∧MD W 2 b2 o2 2 c2 y∧w4.heap.size+2≤b2∧b2<W.heap.size∧lst y 3=[1,1,1]) ?hG ?hIt
   (fun W=>FB W b6 (.int .i64 0) (.int .i64 0)∧FB W b8 (.int .i64 2) (.int .i64 4)∧F1 W bs (.slice none 0 0)∧Below w.heap.size w W)
   (fun W=>FB W b6 (.int .i64 0) (.int .i64 0)∧(∃g cap b2 o2 c2 y,F1 W bs (.slice (some ⟨g,0,none⟩) 1 cap)∧FB W g (.slice (some ⟨b2,o2,none⟩) 3 c2) (.int .i64 2)∧AR W b2 o2 3 y∧lst y 3=[1,1,1]∧w4.heap.size+2≤g∧w4.heap.size+2≤b2∧b2<W.heap.size)∧Below w.heap.size w W) ?hI ?hI' ?h0
   (fun u=>{tmps:=#[.slice (some ⟨b,o,none⟩) 5 c, .int .i64 2,undef,undef, .int .i64 0, .slice none 0 0, .pointer (some ⟨b6,0,none⟩), .pointer (some ⟨w1.heap.size,0,none⟩), .pointer (some ⟨b8,0,none⟩), .pointer (some ⟨bs,0,none⟩),u, .int .i64 2,undef,undef, .slice (some ⟨b,o,none⟩) 5 c, .int .i64 2,Flt 0 0, .pointer (some ⟨w1.heap.size,0,none⟩), .int .i64 0, .bool false,undef, .int .i64 2,FV 2 4, .agg #[.int .i64 2, .int .i64 4], .agg #[.int .i64 2, .int .i64 4], .slice (some ⟨b,o,none⟩) 5 c,u3, .func (.func 64) #[] #[.pointer (some ⟨bf,0,none⟩), .pointer (some ⟨bk,0,none⟩)],u, .int .i64 2,undef,undef,undef,undef,undef,undef,undef,undef,undef,undef,undef,undef,undef,undef,undef,undef,undef,undef,undef,undef,undef,undef,undef,undef,undef],defers:=[]}) ?assign ?body ?done
  case hG=>rintro A C u ⟨b2,o2,c2,y,rfl,hM,h1,h2,h3⟩ hk;exact⟨b2,o2,c2,y,rfl,hM.kept hk (by omega) h2,h1,Nat.lt_of_lt_of_le h2 hk.size,h3⟩
  case hIt=>
   intro l W S J J' hB hs hJ' hJ hS hY hj;have h1:=HNF.out;have h2:=HS3.out.lt;have h3:=HFF.out.lt;have h4:=HKF.out.lt;refine parts1_begun W l bf bk _ S J J' (HKF.out.below hB) (HFF.out.below hB) (HSF.out.below hB) h1.1 hJ' hJ (fun h=>by have:=hS _ h;omega) (fun h=>by have:=hS _ h;omega) (fun k hk h=>by have:=hS _ h;omega)
    (fun m W1 b2 o2 c2 y hJ1 hM hb2 hlt hy _=>hY m W1 _ hJ1 ⟨b2,o2,c2,y,rfl,hM,by omega,hlt,hy⟩) hj
  case hI=>rintro A C ⟨h6,h8,hs,hb⟩ hk;have h1:=HNF.out;have h2:=HS3.out.lt;have h3:=HN3.out;have h4:=HB4.out.size;have h5:=HB6.out;have h9:=hb.size;exact⟨h6.kept hk (by omega),h8.kept hk (by omega),hs.kept hk (by omega),hb.trans (hk.below h9 (fun k hk=>by omega))⟩
  case hI'=>rintro A C ⟨h6,⟨g,cap,b2,o2,c2,y,hs,hg,hA,hy,hgg,hbb,hbl⟩,hb⟩ hk;have h1:=HNF.out;have h2:=HS3.out.lt;have h3:=HN3.out;have h4:=HB4.out.size;have h5:=HB6.out;have h7:=HFF.out.lt;have h9:=hb.size;exact⟨h6.kept hk (by omega),⟨g,cap,b2,o2,c2,y,hs.kept hk (by omega),hg.kept hk (by omega),fun i hi=>(hk.cell hbl (by omega)).trans (hA i hi),hy,hgg,hbb,Nat.lt_of_lt_of_le hbl hk.size⟩,hb.trans (hk.below h9 (fun k hk=>by omega))⟩
  case h0=>exact⟨(HF1.out.below HB3.out).below HB4.out,HK3.out.below HB4.out,HS3.out.below HB4.out,HB1.out.trans ((HB3.out.mono HB1.out.size).trans (HB4.out.mono (Nat.le_trans HB1.out.size HB3.out.size)))⟩
  case assign=>
   intro l m u W K hK
   gi_wp2
   exact hK
  case body=>
   rintro l m u W ⟨h6,h8,hs,hb⟩ ⟨b2,o2,c2,y,rfl,hM,hb2,hlt,hy⟩;have H6:Hid (FB W b6 (.int .i64 0) (.int .i64 0)):=h6;have HS:Hid (F1 W bs (.slice none 0 0)):=hs;have HB:Hid (Below w.heap.size w W):=hb;have HM:Hid (MD W 2 b2 o2 2 c2 y):=hM;have HBB:Hid (w4.heap.size+2≤b2∧b2<W.heap.size):=⟨hb2,hlt⟩;have HY:Hid (lst y 3=[1,1,1]):=hy;clear h6 hs hb hM hb2 hlt hy;obtain⟨l4,k40,k41,z4,z5⟩:=h8
   gi_wp2_with fail
   refine⟨trivial,fun h=>absurd h (by decide),(CallsIn.inRound l (callsIn_wide.2 (factors_begun W b2 o2 c2 y HM.out HBB.out.2 HY.out))).mono ?_⟩;rintro e W2 ⟨g,rfl,hlg,hgg,hcg,hb5⟩;have H62:Hid (FB W2 b6 (.int .i64 0) (.int .i64 0)):=H6.out.below hb5;have HS2:Hid (F1 W2 bs (.slice none 0 0)):=HS.out.below hb5;have HB2:Hid (Below W.heap.size W W2):=hb5;have HM2:Hid (MD W2 2 b2 o2 2 c2 y):=HM.out.below hb5;clear l4 k40 k41 z4 z5 hb5;have hcg':W2.cell? ⟨g,0,none⟩=some (.slice (some ⟨b2,o2,none⟩) 3 c2):=hcg;clear hcg
   gi_wp2
   refine wpIn_loop_rounds 2 ?_;rw[roundsIn_succ];obtain⟨ls,s0,zs⟩:=HS2.out;have hlz:∀X,bs<(W2.alloc X).heap.size:=fun X=>by rw[World.size_alloc];exact Nat.lt_succ_of_lt ls
   gi_wp2_with (gi_at_builtin;refine wpListIn_appendP (by rfl) _ _ (by rfl) (by rfl) _ _ (some ⟨b2,o2,none⟩) 3 c2 2 (by rfl) (by simp[go_sem]) (by simp[go_sem]) ?_;intro gn cap W3 hgn hFn hb3;have s3:W3.cell? ⟨bs,0,none⟩=some (.slice none 0 0):=(hb3.cell (p:=⟨bs,0,none⟩) (hlz _)).trans (((bel1 W2 _).cell (p:=⟨bs,0,none⟩) ls).trans s0);have z3:W3.frozen? ⟨bs,0,none⟩=false:=(hb3.frozen (p:=⟨bs,0,none⟩) (hlz _)).trans (((bel1 W2 _).frozen (p:=⟨bs,0,none⟩) ls).trans zs))
   have HB3:Hid (Below W2.heap.size W2 W3):=(bel1 W2 _).trans (hb3.mono (by simp));have HS3:Hid (F1 W3 bs (.slice none 0 0)):=HS2.out.below HB3.out;have HG3:Hid (FB W3 gn (.slice (some ⟨b2,o2,none⟩) 3 c2) (.int .i64 2)):=hFn;have HGN:Hid (W2.heap.size≤gn):=(by rw[World.size_alloc]at hgn;show _≤_;omega);clear hgn hFn hb3 s3 z3 ls s0 zs hlz hcg' hlg hgg;rw[roundsIn_succ]
   gi_wp2
   have h1:=HBB.out;have h2:=HB2.out.size;have h3:=HB3.out.size;have h4:=HS.out.lt;have h5:=H6.out.lt;have h7:=HGN.out;have h8:=HN3.out;refine⟨⟨((H62.out.below HB3.out).keep _ (by omega)),⟨gn,cap,b2,o2,c2,y,HS3.out.set _,HG3.out.keep _ (by omega),fun i hi=>?_,HY.out,by omega,h1.1,by simp[World.setCell];omega⟩,?_⟩,?_⟩
   ·rw[cell_other (.inl (by have:=HBS4.out;omega))];exact(HM2.out.below HB3.out).row i hi
   ·exact(HB.out.trans ((HB2.out.trans (HB3.out.mono h2)).mono HB.out.size)).setCell (p:=⟨bs,0,none⟩) (by have:=HB6.out;show _≤bs;omega) _
   ·exact(Kept.of_below (HB2.out.trans (HB3.out.mono h2))).set (S:=fun k=>k=bs) (b:=bs) (i:=0) rfl _
  case done=>
   rintro W ⟨h6,⟨g,cap,b2,o2,c2,y,hs,hg,hA,hy,hgg,hbb,hbl⟩,hb⟩ hD;have H6:Hid (FB W b6 (.int .i64 0) (.int .i64 0)):=h6;have HS:Hid (F1 W bs (.slice (some ⟨g,0,none⟩) 1 cap)):=hs;have HGG:Hid (FB W g (.slice (some ⟨b2,o2,none⟩) 3 c2) (.int .i64 2)):=hg;have HA:Hid (AR W b2 o2 3 y):=hA;have HY:Hid (lst y 3=[1,1,1]):=hy;have HBB:Hid (w4.heap.size+2≤g∧w4.heap.size+2≤b2∧b2<W.heap.size):=⟨hgg,hbb,hbl⟩;have HB:Hid (Below w.heap.size w W):=hb;have HD:Hid (W.heap[w4.heap.size]? =some (.deferred (some []))):=hD;obtain⟨D,hDD⟩:∃D,D=w4.heap.size:=⟨_,rfl⟩;rw[←hDD]at HD⊢;have HDD:Hid (D=w4.heap.size):=hDD;clear h6 hg hA hy hgg hbb hbl hb hD hDD;obtain⟨ls,s0,zs⟩:=hs;go_wp2_with (go_at_call 47;fail);refine(sort_one W g cap _).mono ?_;rintro e W1 ⟨rfl,hb1⟩;have H61:Hid (FB W1 b6 (.int .i64 0) (.int .i64 0)):=H6.out.below hb1;have HS1:Hid (F1 W1 bs (.slice (some ⟨g,0,none⟩) 1 cap)):=HS.out.below hb1;have HG1:Hid (FB W1 g (.slice (some ⟨b2,o2,none⟩) 3 c2) (.int .i64 2)):=HGG.out.below hb1;have HA1:Hid (AR W1 b2 o2 3 y):=HA.out.below hb1;have HBW:Hid (Below w.heap.size w W1):=HB.out.trans (hb1.mono HB.out.size);have HD1:Hid (W1.heap[D]? =some (.deferred (some []))):=(hb1.block D (Array.getElem?_eq_some_iff.1 HD.out).1).trans HD.out;have hLB:W1.cell? ⟨b,o+4,none⟩=some (.int .i64 1):=(HBW.out.cell (p:=⟨b,o+4,none⟩) (block_lt HLA.out)).trans HLA.out;have lb:b<W1.heap.size:=block_lt hLB;have hw4:IntKind.i64.wrap 4=4:=(by decide);clear ls s0 zs hb1;obtain⟨ls,s0,zs⟩:=HS1.out;go_upto_region 15 with fail;refine wp_drawn mixed [⟨47,[],[],[0]⟩,⟨48,[],[],[0]⟩,⟨49,[1],[1],[]⟩,⟨50,[2],[1,2],[]⟩,⟨51,[0,3],[0,1,2,3],[]⟩,⟨52,[4],[0,1,2,3,4],[]⟩,⟨53,[],[],[9]⟩,⟨54,[],[],[]⟩,⟨4,[0,1,2,3,4,5],[0,1,2,3,4,5],[]⟩,⟨5,[0,1,2,3,4,5,6,8],[0,1,2,3,4,5,6,8],[]⟩] [] (by kernel_rfl) 55 rfl (by kernel_rfl) (fun (i:Nat) (v:Value) (wq:World)=>match i with|0=>v= .slice (some ⟨b,o,none⟩) (5) (c)|1=>v= .slice (some ⟨b,o,none⟩) (5) (c)|2=>v= .int .i64 (((5:Nat):Int))|3=>v= .int .i64 (4)|4=>v= .pointer (some ⟨b,o+4,none⟩)|5=>v= .int .i64 (1)|6=>v= .slice (some ⟨g,0,none⟩) (1) (cap)|7=>v= .agg #[.int .i64 (0), .int .i64 (0)]|8=>v= .int .i64 (1)|9=>v= .slice (some ⟨g,0,none⟩) (1) (cap)|_=>True) (fun _ wq=>Below W1.heap.size W1 wq) (fun wx wy=>Below wx.heap.size wx wy) (Below.refl _ _).drew (fun i v wx wy h hx=>match i,h with|0,h=>h|1,h=>h|2,h=>h|3,h=>h|4,h=>h|5,h=>h|6,h=>h|7,h=>h|8,h=>h|9,h=>h|n+10,_=>trivial) ?_ ?_
   ·intro i o r ho hr L fr wx hW hL hpr hds hdef hpre hfree;clear hL hpr hds hdef
    match i,ho,hr with
    |0,ho,hr=>?_
    |1,ho,hr=>?_
    |2,ho,hr=>?_
    |3,ho,hr=>obtain rfl:=Option.some.inj ho;obtain rfl:=Option.some.inj hr;have e2:=ev_tmp (show fr.eval (.tmp 49)= .int .i64 (((5:Nat):Int))from hpre 2 (by decide) _ rfl);clear hpre hfree;refine stpK rfl rfl fun K hK=>?_;go_simp;exact hK _ _ ⟨(by first|(show Value.int _ (IntKind.i64.wrap _)=_;rw[hw4])|rfl),hW,Below.refl _ _,fun h=>(List.not_mem_nil h).elim⟩
    |4,ho,hr=>?_
    |5,ho,hr=>?_
    |6,ho,hr=>?_
    |7,ho,hr=>?_
    |8,ho,hr=>?_
    |9,ho,hr=>?_
    |n+10,ho,hr=>exact absurd hr (by simp)
    all_goals
     obtain rfl:=Option.some.inj ho;obtain rfl:=Option.some.inj hr;simp only[List.mem_cons,List.not_mem_nil,or_false,false_imp_iff,implies_true,forall_eq_or_imp,forall_eq,List.getElem?_cons_zero,List.getElem?_cons_succ,Option.some.injEq,forall_eq',evt]at hpre hfree;have c0:=(hW.cell (p:=⟨b,o+4,none⟩) lb).trans hLB;have c1:=(hW.cell (p:=⟨bs,0,none⟩) ls).trans s0;refine stpK rfl rfl fun K hK=>?_ <;> (go_simp;exact hK _ _ ⟨rfl,hW,Below.refl _ _,fun h=>(List.not_mem_nil h).elim⟩)
   ·intro vs W2 hvs hW1 hap0;clear hap0;have e0:vs 0= .slice (some ⟨b,o,none⟩) (5) (c):=hvs 0 (by decide);have e1:vs 1= .slice (some ⟨b,o,none⟩) (5) (c):=hvs 1 (by decide);have e2:vs 2= .int .i64 (((5:Nat):Int)):=hvs 2 (by decide);have e3:vs 3= .int .i64 (4):=hvs 3 (by decide);have e4:vs 4= .pointer (some ⟨b,o+4,none⟩):=hvs 4 (by decide);have e5:vs 5= .int .i64 (1):=hvs 5 (by decide);have e6:vs 6= .slice (some ⟨g,0,none⟩) (1) (cap):=hvs 6 (by decide);have e7:vs 7= .agg #[.int .i64 (0), .int .i64 (0)]:=hvs 7 (by decide);have e8:vs 8= .int .i64 (1):=hvs 8 (by decide);have e9:vs 9= .slice (some ⟨g,0,none⟩) (1) (cap):=hvs 9 (by decide);simp only[puts,Nat.reduceAdd,e0,e1,e2,e3,e4,e5,e6,e7,e8,e9,Act.put,List.setIfInBounds_toArray,List.set_cons_zero,List.set_cons_succ,List.drop_succ_cons,List.drop_zero,List.length_cons,List.length_nil];clear hvs e0 e1 e2 e3 e4 e5 e6 e7 e8 e9;have HW2:Hid (Below W1.heap.size W1 W2):=hW1;have HD2:Hid (W2.heap[D]? =some (.deferred (some []))):=(hW1.block D (Array.getElem?_eq_some_iff.1 HD1.out).1).trans HD1.out;clear hW1 ls s0 zs hLB lb;obtain⟨l6,c60,c61,f60,f61⟩:=H61.out.below HW2.out;go_wp2;have hDb:D≠b6:=(by have:=HDD.out;have:=HBS4.out;omega);have hD5:((W2.setCell ⟨b6,0,none⟩ (.int .i64 0)).setCell ⟨b6,1,none⟩ (.int .i64 0)).heap[D]? =some (.deferred (some [])):=(by rw[Below.heap_setCell _ _ _ _ (show D≠b6 from hDb),Below.heap_setCell _ _ _ _ (show D≠b6 from hDb)];exact HD2.out);refine⟨by simp, .inl ⟨_,_,rfl,run_takeDeferred hD5,?_⟩⟩;have h5:=(H61.out.below HW2.out).set (.int .i64 0) (.int .i64 0);have hk6:Kept (fun k=>k=b6∨k=D) W2 (((W2.setCell ⟨b6,0,none⟩ (.int .i64 0)).setCell ⟨b6,1,none⟩ (.int .i64 0)).putObj D (.deferred none)):=(((Kept.refl _ W2).set (S:=fun k=>k=b6∨k=D) (b:=b6) (i:=0) (.inl rfl) _).set (S:=fun k=>k=b6∨k=D) (b:=b6) (i:=1) (.inl rfl) _).put _ (.inr rfl);have h6:=h5.kept ((Kept.refl (fun k=>k=D) _).put (.deferred none) rfl) (fun e=>hDb e.symm);obtain⟨W6,hW6⟩:∃W6,W6=((W2.setCell ⟨b6,0,none⟩ (.int .i64 0)).setCell ⟨b6,1,none⟩ (.int .i64 0)).putObj D (.deferred none):=⟨_,rfl⟩;rw[←hW6]at hk6 h6⊢;clear hW6 h5 hD5 l6 c60 c61 f60 f61;have h7:=HBB.out;have h8:=HW2.out.size;have h9:=HDD.out;have h10:=HB6.out;have h11:=HBS4.out;have h12:=HB.out.size;have hF:FB W6 g (.slice (some ⟨b2,o2,none⟩) 3 c2) (.int .i64 2):=(HG1.out.below HW2.out).kept hk6 (by omega);have hA6:AR W6 b2 o2 3 y:=fun i hi=>(hk6.cell (Nat.lt_of_lt_of_le (block_lt (HA1.out i hi)) h8) (by omega)).trans ((HA1.out.below HW2.out) i hi);have R:Hid (FactPost w (.returned (.tuple #[.int .i64 1, .slice (some ⟨g,0,none⟩) 1 cap,Flt 0 0])) W6):=(by refine .mk g cap b2 o2 c2 rfl hF ⟨_,b2,o2,c2,rfl,fun _=>rfl,fun i hi=>?_⟩ ((HBW.out.trans (HW2.out.mono HBW.out.size)).trans (hk6.below (by have:=HBW.out.size;omega) (fun k hk=>by omega)));have hi3:i<3:=hi;rw[hA6 i hi3];have:=lst_getD y 3 i;rw[HY.out]at this;unfold cut at this;rw[if_pos hi3]at this;show some (Value.int _ (y i))=some (Value.int _ (([1,1,1]:List Int).getD i 0));rw[this]);obtain⟨l6,c60,c61,f60,f61⟩:=h6;clear hF hA6 h7 h8 h9 h10 h11 h12 hk6;refine⟨.tuple #[.int .i64 1, .slice (some ⟨g,0,none⟩) 1 cap,Flt 0 0],by simp[results,go_sem,loadVar,World.cell?_setCell_same,World.cell?_setCell_other, *];try rfl,?_⟩;exact R.out
end Go.Proofs.YtffdemplaodbcaaDoor
namespace Go.Proofs.YtffdemplaodbcaaDoor
open Go Go.Proofs Go.RowKit Go.Rad
set_option maxRecDepth 10000 in
set_option maxHeartbeats 2000000 in
theorem begun_any (w:World) (ht:TabB w):Calls Tryd.prog 12 #[] w fun e w'=>e= .returned (.bool true)∧Below w.heap.size w w':=by
 have HT:Hid (TabB w):=ht;clear ht;go_enter Tryd.func12,Tryd.ntmps12;go_wp2_with (go_at_call 21;fail);have HI:IL (w.alloc (Obj.cells #[Value.int IntKind.i64 1,Value.int IntKind.i64 0,Value.int IntKind.i64 1,Value.int IntKind.i64 0,Value.int IntKind.i64 1] 3)) (.slice (some ⟨w.heap.size,0,none⟩) 5 5) [1,0,1,0,1]:=
  ⟨_,w.heap.size,0,5,5,rfl,rfl,fun _=>rfl,fun i hi=>by
   match i,hi with
   |0,_=>simp[go_sem]
   |1,_=>simp[go_sem]
   |2,_=>simp[go_sem]
   |3,_=>simp[go_sem]
   |4,_=>simp[go_sem],by decide⟩
 refine(factor_begun _ _ HI (HT.out.below (bel1 _ _))).mono ?_;rintro e w1 ⟨g,cap,b2,o2,c2,rfl,hF,hV,hb⟩;have HB1:Hid (Below w.heap.size w w1):=(bel1 w _).trans (hb.mono (by simp));have HV1:Hid (VW w1 (.slice (some ⟨b2,o2,none⟩) 3 c2) [1,1,1]):=hV;have HF1:Hid (FB w1 g (.slice (some ⟨b2,o2,none⟩) 3 c2) (.int .i64 2)):=hF;clear hb hV hF HI;go_upto_region 2 with fail;refine wp_world (fun w2=>FB w2 w1.heap.size (.int .i64 0) (.int .i64 0)∧FB w2 g (.slice (some ⟨b2,o2,none⟩) 3 c2) (.int .i64 2)∧VW w2 (.slice (some ⟨b2,o2,none⟩) 3 c2) [1,1,1]∧Below w.heap.size w w2)
  ⟨FB.mk0 w1 _ _ _,HF1.out.alloc _,HV1.out.below (bel1 _ _),HB1.out.alloc HB1.out.size _⟩ ?_
 rintro w2 ⟨hE2,hF2,hV2,hB2⟩;obtain⟨be,hbe⟩:∃x,x=w1.heap.size:=⟨_,rfl⟩;rw[←hbe]at hE2⊢;have HB2:Hid (Below w.heap.size w w2):=hB2;have HV2:Hid (VW w2 (.slice (some ⟨b2,o2,none⟩) 3 c2) [1,1,1]):=hV2;clear hbe hV2 hB2;obtain⟨lE,e00,e01,zE0,zE1⟩:=hE2;obtain⟨lG,g00,g01,zG0,zG1⟩:=hF2;go_wp2_with (go_at_call 14;fail);refine(same_any _ _ _ [1,1,1] [1,1,1] (HV2.out.below (bel1 _ _)) (?_) (by decide) (by decide)).mono ?_
 ·exact⟨_,w2.heap.size,0,3,rfl,fun _=>rfl,fun i hi=>by
   match i,hi with
   |0,_=>simp[go_sem]
   |1,_=>simp[go_sem]
   |2,_=>simp[go_sem]⟩
 rintro e w3 ⟨r,rfl,hr,hb3⟩;obtain rfl:r=true:=hr.2 rfl;have HB3:Hid (Below w.heap.size w w3):=(HB2.out.alloc HB2.out.size _).trans (hb3.mono (by have:=HB2.out.size;simp;omega));clear hr hb3;go_wp2;refine bodyPost_ret (v:= .bool true) (by simp[results,go_sem,loadVar]) rfl ?_;exact⟨rfl,HB3.out⟩
end Go.Proofs.YtffdemplaodbcaaDoor
