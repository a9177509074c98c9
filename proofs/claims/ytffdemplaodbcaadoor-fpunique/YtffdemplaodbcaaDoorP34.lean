/- A part of the proof: IU, ME. -/
import Derived.Test.YtffdemplaodbcaaDoorP24
import Derived.Test.YtffdemplaodbcaaDoorP25
import Derived.Test.YtffdemplaodbcaaDoorP26
import Derived.Test.YtffdemplaodbcaaDoorP33
import Derived.Test.YtffdemplaodbcaaDoorP19
set_option linter.all false
namespace Go.Proofs.YtffdemplaodbcaaDoor
open Go Go.Proofs Go.RowKit Go.Rad
open _root_.Rad (CR Prm PD Dv Irr Vl)
attribute [local go_sem] Oper.semAt_some
theorem wrapI {x:Int} (h0:0≤x) (h:x<9223372036854775808):IntKind.i64.wrap x=x:=by rw[IntKind.wrap_i64];omega
inductive TrT (w:World) (p q:Int) (vv fv:Value) (e:Ending) (w':World):Prop
 |mk (bv bk bf:Nat) (he:e= .returned (.func (.func 102) #[] #[.pointer (some ⟨bv,0,none⟩), .pointer (some ⟨bk,0,none⟩), .pointer (some ⟨bf,0,none⟩)])) (hk:FB w' bk (.int .i64 p) (.int .i64 q)) (hv:F1 w' bv vv) (hf:F1 w' bf fv)
  (h1:bv≠bk) (h2:bv≠bf) (hge:w.heap.size≤bk∧w.heap.size≤bv∧w.heap.size≤bf) (hb:Below w.heap.size w w')
theorem f1_new (w:World) (v:Value) (T:TypeId):F1 (w.alloc (Obj.cells #[v] T)) w.heap.size v:=⟨by simp,by simp[go_sem],by simp[go_sem]⟩
set_option maxRecDepth 10000 in
theorem trials_any (w:World) (p q:Int) (vv fv:Value) (hvs:∃a k c,vv= .slice a k c) (hfs:∃a k c,fv= .slice a k c):Calls Tryd.prog 80 #[FV p q,vv,fv] w fun e w'=>TrT w p q vv fv e w':=by
 obtain⟨a1,k1,c1,rfl⟩:=hvs;obtain⟨a2,k2,c2,rfl⟩:=hfs;go_enter Tryd.func80,Tryd.ntmps80;go_upto_region 1 with fail;refine wp_world (fun w1=>Below w.heap.size w w1∧FB w1 w.heap.size (.int .i64 p) (.int .i64 q)∧F1 w1 (w.heap.size+1) (.slice a1 k1 c1)∧F1 w1 (w.heap.size+2) (.slice a2 k2 c2)) ⟨bel3 _ _ _ _,((FB.mk0 w (.int .i64 p) (.int .i64 q) 53).alloc _).alloc _,?_,?_⟩ ?_
 ·have h:=(f1_new (w.alloc (Obj.cells #[.int .i64 p, .int .i64 q] 53)) (.slice a1 k1 c1) 22).below (bel1 _ (Obj.cells #[.slice a2 k2 c2] 22))
  rwa [World.size_alloc]at h
 ·have h:=f1_new ((w.alloc (Obj.cells #[.int .i64 p, .int .i64 q] 53)).alloc (Obj.cells #[.slice a1 k1 c1] 22)) (.slice a2 k2 c2) 22
  rwa [World.size_alloc,World.size_alloc]at h
 rintro w1 ⟨hB1,hK1,hV1,hF1⟩;have R:Hid (TrT w p q (.slice a1 k1 c1) (.slice a2 k2 c2) (.returned (.func (.func 102) #[] #[.pointer (some ⟨w.heap.size+1,0,none⟩), .pointer (some ⟨w.heap.size,0,none⟩), .pointer (some ⟨w.heap.size+2,0,none⟩)])) w1):= .mk _ _ _ rfl hK1 hV1 hF1 (by omega) (by omega) (by omega) hB1;clear hB1 hK1 hV1 hF1;go_wp2;refine bodyPost_ret (v:= .func (.func 102) #[] #[.pointer (some ⟨w.heap.size+1,0,none⟩), .pointer (some ⟨w.heap.size,0,none⟩), .pointer (some ⟨w.heap.size+2,0,none⟩)]) (by simp[results,go_sem,loadVar]) rfl ?_;exact R.out
inductive TrY (P:Nat) (fl:List Int) (v:Ap P) (s:Nat) (args:Array Value) (s':Nat) (O:Nat→Prop) (A:World):Prop
 |mk (u:Value) (t:List Int) (ha:args= #[u]) (hs:s'=s+1) (hsP:s<P) (hV:VW A u t) (hP:IsP (P:Int) t) (hl:t.length≤1000) (hd:Dv (mq fl:Ap P) (mq t+ -(CR.pw (v+mq [(s:Int)]) (P / 2)+ -1)))
theorem cell_putObj {A:World} {b i l:Nat} {o:Obj} {u:Value} (h:A.cell? ⟨b,i,none⟩=some u) (hl:∃r,A.heap[l]? =some (.loop r)):(A.putObj l o).cell? ⟨b,i,none⟩=some u:=by
 obtain⟨r,hr⟩:=hl;have hne:b≠l:=fun e=>by subst e;unfold World.cell? at h;rw[hr]at h;simp at h
 rw[World.cell?_of_block (World.putObj_heap_other hne)];exact h
theorem VW.putObj {A:World} {l:Nat} {o:Obj} {u:Value} {x:List Int} (h:VW A u x) (hl:∃r,A.heap[l]? =some (.loop r)):VW (A.putObj l o) u x:=by obtain⟨a,b,o',c,hv,ha,hA⟩:=h;exact⟨a,b,o',c,hv,ha,fun i hi=>cell_putObj (hA i hi) hl⟩
theorem TrY.putObj {P:Nat} {fl:List Int} {v:Ap P} {s s':Nat} {args:Array Value} {O:Nat→Prop} {A:World} {l:Nat} {o:Obj} (h:TrY P fl v s args s' O A) (hl:∃r,A.heap[l]? =some (.loop r)):TrY P fl v s args s' O (A.putObj l o):=by obtain⟨u,t,ha,hs,hsP,hV,hP,hl2,hd⟩:=h;exact⟨u,t,ha,hs,hsP,hV.putObj hl,hP,hl2,hd⟩
theorem MD.kept9 {S:Nat→Prop} {w w':World} {p:Int} {b o n c:Nat} {y:Nat→Int} (h:MD w p b o n c y) (hk:Kept S w w') (hs:¬S b) (hb:b<w.heap.size):MD w' p b o n c y:=⟨fun i hi=>(hk.cell hb hs).trans (h.row i hi),h.cap,h.bd,h.g,h.ne,h.small⟩
structure TS (wr:World) (P:Nat) (q:Int) (bv bk bf bc oc cc L b2 o2 n c2:Nat) (y X:Nat→Int):Prop where
 hv:F1 wr bv (.slice (some ⟨bc,oc,none⟩) L cc)
 hk:FB wr bk (.int .i64 P) (.int .i64 q)
 hf:F1 wr bf (.slice (some ⟨b2,o2,none⟩) (n+1:Nat) c2)
 hM:MD wr P b2 o2 n c2 y
 l2:b2<wr.heap.size
 lc:bc<wr.heap.size
 hX:AR wr bc oc L X
 hz:Free wr bc oc L
theorem TS.kept {wr w':World} {P:Nat} {q:Int} {bv bk bf bc oc cc L b2 o2 n c2:Nat} {y X:Nat→Int} {S:Nat→Prop} (h:TS wr P q bv bk bf bc oc cc L b2 o2 n c2 y X) (hk:Kept S wr w') (hs:∀k,k=bv∨k=bk∨k=bf∨k=bc∨k=b2→¬S k):TS w' P q bv bk bf bc oc cc L b2 o2 n c2 y X:=⟨h.hv.kept hk (hs _ (by simp)),h.hk.kept hk (hs _ (by simp)),h.hf.kept hk (hs _ (by simp)),MD.kept9 h.hM hk (hs _ (by simp)) h.l2,Nat.lt_of_lt_of_le h.l2 hk.size,Nat.lt_of_lt_of_le h.lc hk.size,fun i hi=>(hk.cell h.lc (hs _ (by simp))).trans (h.hX i hi),fun i hi=>(hk.froz h.lc (hs _ (by simp))).trans (h.hz i hi)⟩
theorem TS.below {wr w':World} {P:Nat} {q:Int} {bv bk bf bc oc cc L b2 o2 n c2:Nat} {y X:Nat→Int} (h:TS wr P q bv bk bf bc oc cc L b2 o2 n c2 y X) (hb:Below wr.heap.size wr w'):TS w' P q bv bk bf bc oc cc L b2 o2 n c2 y X:=h.kept (.of_below (S:=fun _=>False) hb) fun _ _ h=>h
theorem TS.step {wr:World} {P:Nat} {q:Int} {bv bk bf bc oc cc L b2 o2 n c2:Nat} {y X:Nat→Int} (h:TS wr P q bv bk bf bc oc cc L b2 o2 n c2 y X) (hL:0<L) (hne:bc≠bv∧bc≠bk∧bc≠bf∧bc≠b2) (Z:Int):
 TS (wr.setCell ⟨bc,oc,none⟩ (.int .i64 Z)) P q bv bk bf bc oc cc L b2 o2 n c2 y (fun j=>if j=0 then Z else X j):=by
 have hk:=(Kept.refl (·= bc) wr).set (b:=bc) (i:=oc) rfl (.int .i64 Z);refine⟨h.hv.kept hk (fun e=>hne.1 e.symm),h.hk.kept hk (fun e=>hne.2.1 e.symm),h.hf.kept hk (fun e=>hne.2.2.1 e.symm),MD.kept9 h.hM hk (fun e=>hne.2.2.2 e.symm) h.l2,Nat.lt_of_lt_of_le h.l2 hk.size,Nat.lt_of_lt_of_le h.lc hk.size,fun i hi=>?_,fun i hi=>by rw[World.frozen?_setCell];exact h.hz i hi⟩;by_cases h0:i=0
 ·subst h0;rw[if_pos rfl];exact cell_same (h.hX 0 hL)
 ·rw[if_neg h0,cell_other (.inr (by omega))];exact h.hX i hi
theorem TS.vw {wr:World} {P:Nat} {q:Int} {bv bk bf bc oc cc L b2 o2 n c2:Nat} {y X:Nat→Int} (h:TS wr P q bv bk bf bc oc cc L b2 o2 n c2 y X):VW wr (.slice (some ⟨bc,oc,none⟩) L cc) (lst X L):=⟨some ⟨bc,oc,none⟩,bc,oc,cc,by rw[lst_length],fun _=>rfl,fun i hi=>by rw[lst_length]at hi;show _=some (Value.int .i64 ((lst X L).getD i 0));rw[lst_getD];unfold cut;rw[if_pos hi];exact h.hX i hi⟩
structure VX (P:Nat) (v:Ap P) (L s:Nat) (X:Nat→Int):Prop where
 bd:∀j,0≤X j∧X j<P
 eq:(mq (lst X L):Ap P)=v+mq [(s:Int)]
theorem VX.step {P:Nat} {v:Ap P} {L s:Nat} {X:Nat→Int} (hP:0<P) (hL:0<L) (h:VX P v L s X):VX P v L (s+1) (fun j=>if j=0 then (X 0+1)%P else X j):=by
 refine⟨fun j=>?_,?_⟩
 ·show 0≤(if j=0 then (X 0+1)%P else X j)∧(if j=0 then (X 0+1)%P else X j)<P
  split
  ·exact⟨Int.emod_nonneg _ (by omega),Int.emod_lt_of_pos _ (by omega)⟩
  ·exact h.bd j
 ·have e1:(mq (lst (fun j=>if j=0 then (X 0+1)%(P:Int) else X j) L):Ap P)=mq (lst X L)+mq [1]:=by
   rw[mk_add];refine mq_all.2 fun j=>?_;rw[row_padd,row_lst,row_lst];unfold cut;by_cases hj:j<L
   ·rw[if_pos hj,if_pos hj,row_getD];cases j with
    |zero=>show(X 0+1)%(P:Int)%P=(X 0+1)%P;rw[Int.emod_emod]
    |succ j=>show X (j+1)%(P:Int)=(X (j+1)+0)%P;rw[Int.add_zero]
   ·rw[if_neg hj,if_neg hj,row_ge [1] j (by simp;omega)];rfl
  have e2:(mq [((s+1:Nat):Int)]:Ap P)=mq [(s:Int)]+mq [1]:=(by rw[mk_add];show mq [((s+1:Nat):Int)]=mq [(s:Int)+1];rw[Int.natCast_add];rfl);rw[e1,h.eq,e2,CR.add_assoc]
inductive PWQ (wa:World) (P n:Nat) (y:Nat→Int) (xs:List Int) (v:Value) (wx:World):Prop
 |mk (z:List Int) (hS:SR wx wa.heap.size v z) (hR:Res (P:Int) (lst y (n+1)) (row (ppow xs (P / 2))) z)
theorem PWQ.below {wa wx wy:World} {P n:Nat} {y:Nat→Int} {xs:List Int} {v:Value} (h:PWQ wa P n y xs v wx) (hb:Below wx.heap.size wx wy):PWQ wa P n y xs v wy:=by obtain⟨z,hS,hR⟩:=h;exact⟨z,hS.below hb,hR⟩
inductive LSQ (wa:World) (P n:Nat) (y:Nat→Int) (xs:List Int) (v:Value) (wx:World):Prop
 |mk (z t:List Int) (hS:SR wx wa.heap.size v t) (hR:Res (P:Int) (lst y (n+1)) (row (ppow xs (P / 2))) z) (hN:Nrm (P:Int) (fun j=>row z j-row [1] j) t)
theorem LSQ.below {wa wx wy:World} {P n:Nat} {y:Nat→Int} {xs:List Int} {v:Value} (h:LSQ wa P n y xs v wx) (hb:Below wx.heap.size wx wy):LSQ wa P n y xs v wy:=by obtain⟨z,t,hS,hR,hN⟩:=h;exact⟨z,t,hS.below hb,hR,hN⟩
theorem LSQ.y {wa:World} {P n:Nat} {y:Nat→Int} {xs:List Int} {u:Value} {wx:World} (hP:PrC P) (hn:n≤999) (h:LSQ wa P n y xs u wx) {v:Ap P} {s:Nat} (hx:(mq xs:Ap P)=v+mq [(s:Int)]) (hs:s<P) (O:Nat→Prop):TrY P (lst y (n+1)) v s #[u] (s+1) O wx:=by
 obtain⟨z,t,hS,hR,hN⟩:=h;have h2:=hP.two;have hl:=hN.len (n:=n+1) fun j hj=>by rw[row_ge z j (by have:=hR.len;rw[lst_length]at this;omega),row_ge [1] j (by simp;omega)];rfl
 refine⟨u,t,rfl,rfl,hs,hS.view,hN.isP (by omega),by omega,?_⟩;have e1:(mq t:Ap P)=mq z+ -1:=(by rw[mk_one,mk_neg,mk_add];refine mq_all.2 fun j=>?_;rw[hN.eq,Int.emod_emod,row_padd,row_map,Int.neg_mul,Int.one_mul,←Int.sub_eq_add_neg]);have e2:Dv (mq (lst y (n+1)):Ap P) (mq z+ -(CR.pw (mq xs) (P / 2))):=(by rw[mk_pw,mk_neg,mk_add,dv_iff];have e3:(mq (padd z ((ppow xs (P / 2)).map (-1* ·))):Am (P:Int) (lst y (n+1)))=mq z+ -(mq (ppow xs (P / 2))):=rfl;rw[e3,mk_eq.2 hR.cg.symm,CR.add_neg]);rw[e1,←hx];have e4:mq z+ -1+ -(CR.pw (mq xs) (P / 2)+ -1:Ap P)=mq z+ -(CR.pw (mq xs) (P / 2)):=(by rw[CR.neg_add_rev,CR.neg_neg];have e5:mq z+ -1+(-(CR.pw (mq xs) (P / 2))+1:Ap P)=mq z+ -(CR.pw (mq xs) (P / 2))+(-1+1):=(by ac_rfl);rw[e5,CR.neg_add,CR.add_zero]);rw[e4];exact e2
set_option maxRecDepth 20000 in
set_option maxHeartbeats 4000000 in
theorem trials1_any (P:Nat) (hP:PrC P) (q:Int) (hq:q=(P:Int)*P) (hp2:(P:Int)<2147483648) (W:World) (bv bk bf b2 o2 n c2:Nat) (y:Nat→Int) (vl:List Int) (vv:Value)
 (hk:FB W bk (.int .i64 P) (.int .i64 q)) (hv:F1 W bv vv) (hV:VW W vv vl) (hvb:∀j,0≤vl.getD j 0∧vl.getD j 0<P) (hvl:1≤vl.length∧vl.length≤1000) (hf:F1 W bf (.slice (some ⟨b2,o2,none⟩) (n+1:Nat) c2)) (hM:MD W P b2 o2 n c2 y) (hb2:b2<W.heap.size)
 (h1:bv≠bk) (h2:bv≠bf) (h3:bv≠b2) (hn:n≤900):
 IterC 102 #[.pointer (some ⟨bv,0,none⟩), .pointer (some ⟨bk,0,none⟩), .pointer (some ⟨bf,0,none⟩)] (TrY P (lst y (n+1)) (mq vl)) (fun s=>s=P) 0 (·= bv) (fun k=>k=bk∨k=bf∨k=b2) W:=by
 intro l J XX hJ hX hY h0;have h2p:=hP.two;have HJ:Hid (∀s O O' A C,J s O A→Kept O A C→(∀k,O' k→O k∨A.heap.size≤k)→J s O' C):=hJ;have HX:Hid (∀O O' A C,XX O A→Kept O A C→(∀k,O' k→O k∨A.heap.size≤k)→XX O' C):=hX;have HY:Hid (∀m s args s' O A,J s O A→(∀k,O k→k<A.heap.size)→TrY P (lst y (n+1)) (mq vl) s args s' O A→YieldAt Fence.wide m Tryd.prog l args A fun e W'=>Kept (fun k=>¬O k∧¬(k=bk∨k=bf∨k=b2)) A W'∧((e= .returned (.bool true)∧J s' O W')∨(e= .returned (.bool false)∧XX O W'))):=hY;have HJ0:Hid (J 0 (·= bv) W):=h0;have HK:Hid (FB W bk (.int .i64 P) (.int .i64 q)):=hk;have HV:Hid (F1 W bv vv):=hv;have HVL:Hid ((∀j,0≤vl.getD j 0∧vl.getD j 0<P)∧1≤vl.length∧vl.length≤1000):=⟨hvb,hvl⟩;have HF:Hid (F1 W bf (.slice (some ⟨b2,o2,none⟩) (n+1:Nat) c2)):=hf;have HM:Hid (MD W P b2 o2 n c2 y):=hM;have HNE:Hid (bv≠bk∧bv≠bf∧bv≠b2∧b2<W.heap.size∧bk<W.heap.size∧bf<W.heap.size∧bv<W.heap.size):=⟨h1,h2,h3,hb2,hk.lt,hf.lt,hv.lt⟩;have HVW:Hid (VW W vv vl):=hV;have HQ:Hid (q=(P:Int)*P):=hq;have CC:=clone_sr W vv vl hV (by omega);obtain⟨av,ov,hvv⟩:∃a c,vv= .slice a vl.length c:=(by obtain⟨a,b,o,c,hv,_⟩:=hV;exact⟨a,c,hv⟩);subst hvv;clear hJ hX hY h0 hk hV hvb hvl hf hM hb2 h1 h2 h3 hq;go_enter Tryd.func102,Tryd.ntmps102;obtain⟨lv,cv,zv⟩:=hv;go_wp2_with (go_at_call 35;fail);refine CC.mono ?_;rintro e w1 ⟨u1,rfl,hS1,hb1⟩;have cv1:w1.cell? ⟨bv,0,none⟩=some (.slice av vl.length ov):=(hb1.cell (p:=⟨bv,0,none⟩) lv).trans cv;have zv1:w1.frozen? ⟨bv,0,none⟩=false:=(hb1.frozen (p:=⟨bv,0,none⟩) lv).trans zv;obtain⟨bc,oc,cc,rfl,hAc,hzc,hlc,hgc,hcc⟩:∃bc oc cc,u1= .slice (some ⟨bc,oc,none⟩) vl.length cc∧AR w1 bc oc vl.length (fun j=>vl.getD j 0)∧Free w1 bc oc vl.length∧bc<w1.heap.size∧W.heap.size≤bc∧vl.length≤cc:=by
  cases hS1 with
  |nil a c hv hx=>exfalso;have:=HVL.out.2.1;rw[hx]at this;simp at this
  |row b o c hv h0 hc hb hl hA hz=>exact⟨b,o,c,hv,hA,hz,hl,hb,hc⟩
 obtain⟨LN,hL⟩:∃LN,vl.length=LN:=⟨_,rfl⟩;obtain⟨KO,hKO⟩:∃KO:Nat→Prop,∀k,KO k↔(k=bv∨k=bc):=⟨fun k=>k=bv∨k=bc,fun _=>Iff.rfl⟩;have hne:=HNE.out;have HBC:Hid (bc≠bv∧bc≠bk∧bc≠bf∧bc≠b2):=(by show _∧_∧_∧_;omega);rw[hL]at hAc hzc hcc⊢;go_upto_region 1 with fail;refine wp_world (fun w2=>TS w2 P q bv bk bf bc oc cc LN b2 o2 n c2 y (fun j=>vl.getD j 0)∧J 0 KO w2) ⟨?_,?_⟩ ?_
 ·have hk2:=(Kept.refl (·= bv) w1).set (b:=bv) (i:=0) rfl (.slice (some ⟨bc,oc,none⟩) LN cc);exact⟨(F1.mk (Nat.lt_of_lt_of_le hne.2.2.2.2.2.2 hb1.size) cv1 zv1).set _,(HK.out.below hb1).kept hk2 (fun e=>hne.1 e.symm),(HF.out.below hb1).kept hk2 (fun e=>hne.2.1 e.symm),MD.kept9 (HM.out.below hb1) hk2 (fun e=>hne.2.2.1 e.symm) (Nat.lt_of_lt_of_le hne.2.2.2.1 hb1.size),
   Nat.lt_of_lt_of_le (Nat.lt_of_lt_of_le hne.2.2.2.1 hb1.size) hk2.size,Nat.lt_of_lt_of_le hlc hk2.size,fun i hi=>(hk2.cell hlc (fun e=>HBC.out.1 e)).trans (hAc i hi),fun i hi=>(hk2.froz hlc (fun e=>HBC.out.1 e)).trans (hzc i hi)⟩
 ·refine HJ.out 0 (·= bv) KO W _ HJ0.out (Kept.set (S:=(·= bv)) (Kept.of_below hb1) rfl _) fun k hk=>?_;rcases(hKO k).1 hk with h|h
  ·exact .inl h
  ·exact .inr (by omega)
 rintro w2 ⟨hT2,hJ2⟩;have HT2:Hid (TS w2 P q bv bk bf bc oc cc LN b2 o2 n c2 y (fun j=>vl.getD j 0)):=hT2;have HJ2:Hid (J 0 KO w2):=hJ2;have HKO:Hid (∀k,KO k↔(k=bv∨k=bc)):=hKO;have HLV:Hid (vl.length=LN∧1≤LN∧LN≤1000):=(by have:=HVL.out.2;show _∧_∧_;omega);have HVX0:Hid (VX P (mq vl) LN 0 (fun j=>vl.getD j 0)):=(by refine⟨HVL.out.1,?_⟩;have e0:(mq [((0:Nat):Int)]:Ap P)=0:=(by rw[mk_zero];exact mk_row fun j=>by rw[row_getD,row_getD];cases j <;> rfl);rw[←HLV.out.1,lst_self,e0,CR.add_zero]);clear hT2 hJ2 hKO hb1 hAc hzc hlc hgc hcc cv1 zv1 CC hS1 hne lv cv zv hL;obtain⟨lk,k40,k41,z4,z5⟩:=HT2.out.hk;go_wp2;go_loopw [9] (fun i wr=>∃(s:Nat) (X:Nat→Int),i= .int .i64 s∧s≤P∧TS wr P q bv bk bf bc oc cc LN b2 o2 n c2 y X∧VX P (mq vl) LN s X∧J s KO wr) (fun i _=>P-(Lib.intOf i).toNat)
 case atStart=>exact⟨0,_,rfl,by omega,HT2.out,HVX0.out,HJ2.out⟩
 case round=>
  obtain⟨s,X,rfl,hsP,hT,hVX,hJs⟩:=hrel;have HT:Hid (TS wr P q bv bk bf bc oc cc LN b2 o2 n c2 y X):=hT;have HVX:Hid (VX P (mq vl) LN s X):=hVX;have HJs:Hid (J s KO wr):=hJs;clear hT hVX hJs lk k40 k41 z4 z5;by_cases hs:s<P
  ·have hsi:(s:Int)<(P:Int):=(by omega);obtain⟨lk,k40,k41,z4,z5⟩:=HT.out.hk;obtain⟨lv,cv,zv⟩:=HT.out.hv;obtain⟨lf,cf,zf⟩:=HT.out.hf;obtain⟨H,hH⟩:∃H,H=P / 2:=⟨_,rfl⟩;have hHb:H≤P:=(by rw[hH];exact Nat.div_le_self P 2);have hPn:P<2147483648:=(by omega);have HLT:Hid (H<9223372036854775808):=Nat.lt_of_le_of_lt hHb (Nat.lt_trans hPn (by decide));have hquo:(P:Int).tdiv 2=(H:Int):=(by rw[Int.tdiv_eq_ediv_of_nonneg (Int.natCast_nonneg P),hH];rfl);have hwH:wrap64 (H:Int)=(H:Int):=wrap_in (Int.natCast_nonneg H) (Int.ofNat_lt.2 HLT.out);have hiH:IntKind.i64.wrap (H:Int)=(H:Int):=wrapI (Int.natCast_nonneg H) (Int.ofNat_lt.2 HLT.out);have HHH:Hid (H=P / 2):=hH;clear hHb hPn;clear hH;go_upto_region 3 with fail;refine wpI_drawn 3 (by decide) (by kernel_rfl) mixed [⟨11,[],[],[0]⟩,⟨12,[],[],[2]⟩,⟨13,[],[],[2]⟩,⟨14,[],[],[1]⟩,⟨15,[],[],[2]⟩,⟨16,[4],[4],[]⟩,⟨17,[5],[4,5],[]⟩,⟨18,[],[],[3]⟩,⟨19,[2,3,6,7],[2,3,4,5,6,7],[]⟩,⟨20,[],[],[]⟩,⟨21,[1,8,9],[1,2,3,4,5,6,7,8,9],[]⟩] [] (by kernel_rfl) 33 rfl (by kernel_rfl) (fun (i:Nat) (v:Value) (wq:World)=>match i with|0=>v=(.func (.yield l) #[] #[])|1=>v= .agg #[.int .i64 ((P:Int)), .int .i64 (q)]|2=>v= .agg #[.int .i64 ((P:Int)), .int .i64 (q)]|3=>v= .slice (some ⟨bc,oc,none⟩) (LN) (cc)|4=>v= .pointer (some ⟨bk,0,none⟩)|5=>v= .int .i64 ((P:Int))|6=>v= .int .i64 ((H:Int))|7=>v= .slice (some ⟨b2,o2,none⟩) (n+1) (c2)|8=>PWQ wr P n y (lst X LN) v wq|9=>PV wr [1] v wq|10=>LSQ wr P n y (lst X LN) v wq|_=>True) (fun _ wq=>Below wr.heap.size wr wq) (fun wx wy=>Below wx.heap.size wx wy) (Below.refl _ _).drew (fun i v wx wy h hx=>match i,h with|0,h=>h|1,h=>h|2,h=>h|3,h=>h|4,h=>h|5,h=>h|6,h=>h|7,h=>h|8,h=>h.below hx|9,h=>h.below hx|10,h=>h.below hx|n+11,_=>trivial) ?_ ?_
   ·intro i o r ho hr L fr wx hW hL hpr hds hdef hpre hfree;clear hL hpr hds hdef
    match i,ho,hr with
    |0,ho,hr=>?_
    |1,ho,hr=>?_
    |2,ho,hr=>?_
    |3,ho,hr=>?_
    |4,ho,hr=>?_
    |5,ho,hr=>?_
    |6,ho,hr=>?_
    |7,ho,hr=>?_
    |8,ho,hr=>obtain rfl:=Option.some.inj ho;obtain rfl:=Option.some.inj hr;have e2:=ev_tmp (show fr.eval (.tmp 13)= .agg #[.int .i64 ((P:Int)), .int .i64 (q)] from hpre 2 (by decide) _ rfl);have e3:=ev_tmp (show fr.eval (.tmp 14)= .slice (some ⟨bc,oc,none⟩) (LN) (cc)from hpre 3 (by decide) _ rfl);have e6:=ev_tmp (show fr.eval (.tmp 17)= .int .i64 ((H:Int))from hpre 6 (by decide) _ rfl);have e7:=ev_tmp (show fr.eval (.tmp 18)= .slice (some ⟨b2,o2,none⟩) (n+1) (c2)from hpre 7 (by decide) _ rfl);clear hpre hfree;refine stpK rfl rfl fun K hK=>?_;go_simp;refine(power_any wx (P:Int) q _ (lst X LN) H b2 o2 n c2 y (HT.out.below hW).vw (HT.out.below hW).hM (HT.out.below hW).l2 HQ.out ⟨h2p,hp2⟩ (fun j=>by rw[lst_getD];unfold cut;have:=HVX.out.bd j;split <;> omega) (by rw[lst_length];have:=HLV.out;omega) (HLT.out)).mono ?_;rintro e wy ⟨v1,z,rfl,hSz,hbz,hRz⟩;exact hK _ _ ⟨(.mk z (hSz.mono hW.size) (by rw[←HHH.out];exact hRz)),hW.trans (hbz.mono hW.size),hbz,fun h=>(List.not_mem_nil h).elim⟩
    |9,ho,hr=>obtain rfl:=Option.some.inj ho;obtain rfl:=Option.some.inj hr;clear hpre hfree;refine stpK rfl rfl fun K hK=>?_;go_simp;exact hK _ _ ⟨⟨(sr_new1 wx 1).mono hW.size,hW.trans ((bel1 _ _).mono hW.size)⟩,hW.trans ((bel1 _ _).mono hW.size),bel1 _ _,fun h=>(List.not_mem_nil h).elim⟩
    |10,ho,hr=>obtain rfl:=Option.some.inj ho;obtain rfl:=Option.some.inj hr;have e1:=ev_tmp (show fr.eval (.tmp 12)= .agg #[.int .i64 ((P:Int)), .int .i64 (q)] from hpre 1 (by decide) _ rfl);obtain⟨u8,q8⟩:∃u,fr.eval (.tmp 19)=u:=⟨_,rfl⟩;have p8:PWQ wr P n y (lst X LN) u8 wx:=(by rw[←q8];exact hpre 8 (by decide) _ rfl);have e8:=ev_tmp q8;clear q8;obtain⟨u9,q9⟩:∃u,fr.eval (.tmp 20)=u:=⟨_,rfl⟩;have p9:PV wr [1] u9 wx:=(by rw[←q9];exact hpre 9 (by decide) _ rfl);have e9:=ev_tmp q9;clear q9;clear hpre hfree;refine stpK rfl rfl fun K hK=>?_;obtain⟨z,hSz,hRz⟩:=p8;obtain⟨h1S,h1B⟩:=p9;go_simp;refine(less_any wx (P:Int) q _ _ z [1] hSz.view h1S.view HQ.out ⟨h2p,hp2⟩ hRz.bd (isP_one h2p).bd (by have:=hRz.len;rw[lst_length]at this;omega) (by decide) (by decide)).mono ?_;rintro e wy ⟨v1,t,rfl,hSt,hbt,hNt⟩;exact hK _ _ ⟨(.mk z t (hSt.mono hW.size) hRz hNt),hW.trans (hbt.mono hW.size),hbt,fun h=>(List.not_mem_nil h).elim⟩
    |n+11,ho,hr=>exact absurd hr (by simp)
    all_goals
     obtain rfl:=Option.some.inj ho;obtain rfl:=Option.some.inj hr;simp only[List.mem_cons,List.not_mem_nil,or_false,false_imp_iff,implies_true,forall_eq_or_imp,forall_eq,List.getElem?_cons_zero,List.getElem?_cons_succ,Option.some.injEq,forall_eq',evt]at hpre hfree;have c0:=(hW.cell (p:=⟨bk,0,none⟩) lk).trans k40;have c1:=(hW.cell (p:=⟨bk,1,none⟩) lk).trans k41;have c2:=(hW.cell (p:=⟨bv,0,none⟩) lv).trans cv;have c3:=(hW.cell (p:=⟨bf,0,none⟩) lf).trans cf;refine stpK rfl rfl fun K hK=>?_ <;> (go_simp;exact hK _ _ ⟨(by first|rfl|exact(by first|rfl|(simp only[hquo,hwH,hiH];done)|(show Value.int _ (IntKind.i64.wrap _)=_;rw[hquo,hiH]))),hW,Below.refl _ _,fun h=>(List.not_mem_nil h).elim⟩)
   ·intro vs wm hvs hW1 hap0;clear hap0;have e0:vs 0=(.func (.yield l) #[] #[]):=hvs 0 (by decide);have e1:vs 1= .agg #[.int .i64 ((P:Int)), .int .i64 (q)]:=hvs 1 (by decide);have e2:vs 2= .agg #[.int .i64 ((P:Int)), .int .i64 (q)]:=hvs 2 (by decide);have e3:vs 3= .slice (some ⟨bc,oc,none⟩) (LN) (cc):=hvs 3 (by decide);have e4:vs 4= .pointer (some ⟨bk,0,none⟩):=hvs 4 (by decide);have e5:vs 5= .int .i64 ((P:Int)):=hvs 5 (by decide);have e6:vs 6= .int .i64 ((H:Int)):=hvs 6 (by decide);have e7:vs 7= .slice (some ⟨b2,o2,none⟩) (n+1) (c2):=hvs 7 (by decide);obtain⟨u8,e8⟩:∃u,vs 8=u:=⟨_,rfl⟩;have p8:PWQ wr P n y (lst X LN) u8 wm:=(by rw[←e8];exact hvs 8 (by decide));obtain⟨u9,e9⟩:∃u,vs 9=u:=⟨_,rfl⟩;have p9:PV wr [1] u9 wm:=(by rw[←e9];exact hvs 9 (by decide));obtain⟨u10,e10⟩:∃u,vs 10=u:=⟨_,rfl⟩;have p10:LSQ wr P n y (lst X LN) u10 wm:=(by rw[←e10];exact hvs 10 (by decide));simp only[puts,Nat.reduceAdd,e0,e1,e2,e3,e4,e5,e6,e7,e8,e9,e10,Act.put,List.setIfInBounds_toArray,List.set_cons_zero,List.set_cons_succ,List.drop_succ_cons,List.drop_zero,List.length_cons,List.length_nil];clear hvs e0 e1 e2 e3 e4 e5 e6 e7 e8 e9 e10;obtain⟨fn,tmps,assign,body,hy,hR⟩:=HY.out 2 s #[u10] (s+1) KO wm (HJ.out s KO KO wr wm HJs.out (.of_below hW1) fun k hk=> .inl hk) (fun k hk=>by have h1:=hW1.size;have h2:=HT.out.lc;rcases(HKO.out k).1 hk with h|h <;> omega) (p10.y hP (by omega) HVX.out.eq hs KO);have HTm:Hid (TS wm P q bv bk bf bc oc cc LN b2 o2 n c2 y X):=HT.out.below hW1;clear p8 p9 p10 hW1 lk k40 k41 z4 z5 lv cv zv lf cf zf hquo hwH hiH
    gi_wp2
    refine hR.mono ?_;rintro e w11 ⟨hk11,⟨rfl,hJ11⟩|⟨rfl,hX11⟩⟩
    ·have HT11:Hid (TS w11 P q bv bk bf bc oc cc LN b2 o2 n c2 y X):=HTm.out.kept hk11 fun k hk hn=>by
      rcases hk with h|h|h|h|h
      ·exact hn.1 ((HKO.out k).2 (.inl h))
      ·exact hn.2 (.inl h)
      ·exact hn.2 (.inr (.inl h))
      ·exact hn.1 ((HKO.out k).2 (.inr h))
      ·exact hn.2 (.inr (.inr h))
     have HJ11:Hid (J (s+1) KO w11):=hJ11;clear hk11 hJ11 hR hy HTm;obtain⟨lk,k40,k41,z4,z5⟩:=HT11.out.hk;obtain⟨lv,cv,zv⟩:=HT11.out.hv;have cx:w11.cell? ⟨bc,oc,none⟩=some (.int .i64 (X 0)):=HT11.out.hX 0 (by have:=HLV.out;omega);have zx:w11.frozen? ⟨bc,oc,none⟩=false:=HT11.out.hz 0 (by have:=HLV.out;omega);have lc:=HT11.out.lc;obtain⟨X0,hX0⟩:∃x,x=X 0:=⟨_,rfl⟩;have hXb:=HVX.out.bd 0;rw[←hX0]at cx hXb;obtain⟨Z,hZ⟩:∃z,z=(X0+1)%(P:Int):=⟨_,rfl⟩;have CL:=fun w=>least_any w (P:Int) q (X0+1) (by omega) hp2 (by omega) (by omega);rw[←hZ]at CL;have HZ:Hid (Z=(X 0+1)%(P:Int)):=(by show _=_;rw[hZ,hX0]);have hL0:(0:Int)<(LN:Int):=(by have:=HLV.out;omega);have hL1:0<LN:=(by have:=HLV.out;omega);have hwx:IntKind.i64.wrap (X0+1)=X0+1:=wrapI (by omega) (by omega);have hw4:wrap64 ((s:Int)+1)=(s:Int)+1:=wrap_in (by omega) (by omega);clear hZ hX0
     gi_wp2
     go_upto_region 4 with fail
     refine wp_drawn mixed [⟨24,[],[],[1]⟩,⟨25,[],[],[2]⟩,⟨26,[],[],[1]⟩,⟨27,[2],[2],[]⟩,⟨28,[3],[2,3],[]⟩,⟨29,[4],[2,3,4],[]⟩,⟨30,[1,5],[1,2,3,4,5],[]⟩] [] (by kernel_rfl) 33 rfl (by kernel_rfl) (fun (i:Nat) (v:Value) (wq:World)=>match i with|0=>v= .slice (some ⟨bc,oc,none⟩) (LN) (cc)|1=>v= .agg #[.int .i64 ((P:Int)), .int .i64 (q)]|2=>v= .slice (some ⟨bc,oc,none⟩) (LN) (cc)|3=>v= .pointer (some ⟨bc,oc,none⟩)|4=>v= .int .i64 (X0)|5=>v= .int .i64 (X0+1)|6=>v= .int .i64 (Z)|_=>True) (fun _ wq=>Below w11.heap.size w11 wq) (fun wx wy=>Below wx.heap.size wx wy) (Below.refl _ _).drew (fun i v wx wy h hx=>match i,h with|0,h=>h|1,h=>h|2,h=>h|3,h=>h|4,h=>h|5,h=>h|6,h=>h|n+7,_=>trivial) ?_ ?_
     ·intro i o r ho hr L fr wx hW hL hpr hds hdef hpre hfree;clear hL hpr hds hdef
      match i,ho,hr with
      |0,ho,hr=>?_
      |1,ho,hr=>?_
      |2,ho,hr=>?_
      |3,ho,hr=>?_
      |4,ho,hr=>?_
      |5,ho,hr=>obtain rfl:=Option.some.inj ho;obtain rfl:=Option.some.inj hr;have e4:=ev_tmp (show fr.eval (.tmp 28)= .int .i64 (X0)from hpre 4 (by decide) _ rfl);clear hpre hfree;refine stpK rfl rfl fun K hK=>?_;go_simp;exact hK _ _ ⟨(by first|(show Value.int _ (IntKind.i64.wrap _)=_;rw[hwx])|rfl),hW,Below.refl _ _,fun h=>(List.not_mem_nil h).elim⟩
      |6,ho,hr=>obtain rfl:=Option.some.inj ho;obtain rfl:=Option.some.inj hr;have e1:=ev_tmp (show fr.eval (.tmp 25)= .agg #[.int .i64 ((P:Int)), .int .i64 (q)] from hpre 1 (by decide) _ rfl);have e5:=ev_tmp (show fr.eval (.tmp 29)= .int .i64 (X0+1)from hpre 5 (by decide) _ rfl);clear hpre hfree;refine stpK rfl rfl fun K hK=>?_;go_simp;refine(CL wx).mono ?_;rintro e wy ⟨rfl,hb⟩;exact hK _ _ ⟨rfl,hW.trans (hb.mono hW.size),hb,fun h=>(List.not_mem_nil h).elim⟩
      |n+7,ho,hr=>exact absurd hr (by simp)
      all_goals
       obtain rfl:=Option.some.inj ho;obtain rfl:=Option.some.inj hr;simp only[List.mem_cons,List.not_mem_nil,or_false,false_imp_iff,implies_true,forall_eq_or_imp,forall_eq,List.getElem?_cons_zero,List.getElem?_cons_succ,Option.some.injEq,forall_eq',evt]at hpre hfree;have c0:=(hW.cell (p:=⟨bv,0,none⟩) lv).trans cv;have c1:=(hW.cell (p:=⟨bk,0,none⟩) lk).trans k40;have c2:=(hW.cell (p:=⟨bk,1,none⟩) lk).trans k41;have c3:=(hW.cell (p:=⟨bc,oc,none⟩) lc).trans cx;refine stpK rfl rfl fun K hK=>?_ <;> (go_simp;exact hK _ _ ⟨rfl,hW,Below.refl _ _,fun h=>(List.not_mem_nil h).elim⟩)
     ·intro vs w12 hvs hW1 hap0;clear hap0;have e0:vs 0= .slice (some ⟨bc,oc,none⟩) (LN) (cc):=hvs 0 (by decide);have e1:vs 1= .agg #[.int .i64 ((P:Int)), .int .i64 (q)]:=hvs 1 (by decide);have e2:vs 2= .slice (some ⟨bc,oc,none⟩) (LN) (cc):=hvs 2 (by decide);have e3:vs 3= .pointer (some ⟨bc,oc,none⟩):=hvs 3 (by decide);have e4:vs 4= .int .i64 (X0):=hvs 4 (by decide);have e5:vs 5= .int .i64 (X0+1):=hvs 5 (by decide);have e6:vs 6= .int .i64 (Z):=hvs 6 (by decide);simp only[puts,Nat.reduceAdd,e0,e1,e2,e3,e4,e5,e6,Act.put,List.setIfInBounds_toArray,List.set_cons_zero,List.set_cons_succ,List.drop_succ_cons,List.drop_zero,List.length_cons,List.length_nil];clear hvs e0 e1 e2 e3 e4 e5 e6;have cx5:w12.cell? ⟨bc,oc,none⟩=some (.int .i64 X0):=(hW1.cell (p:=⟨bc,oc,none⟩) lc).trans cx;have zx5:w12.frozen? ⟨bc,oc,none⟩=false:=(hW1.frozen (p:=⟨bc,oc,none⟩) lc).trans zx;have HREL:Hid (∃(s₁:Nat) (X:Nat→Int),Value.int .i64 ((s:Int)+1)= .int .i64 s₁∧s₁≤P∧TS (w12.setCell ⟨bc,oc,none⟩ (.int .i64 Z)) P q bv bk bf bc oc cc LN b2 o2 n c2 y X∧VX P (mq vl) LN s₁ X∧J s₁ KO (w12.setCell ⟨bc,oc,none⟩ (.int .i64 Z))):=(by refine⟨s+1,_,congrArg (Value.int .i64) (Int.natCast_add s 1).symm,hs,(HT11.out.below hW1).step (by have:=HLV.out;omega) HBC.out Z,?_,HJ.out (s+1) KO KO w11 _ HJ11.out (Kept.set (S:=KO) (.of_below hW1) ((HKO.out bc).2 (.inr rfl)) _) fun k hk=> .inl hk⟩;rw[HZ.out];exact HVX.out.step (by omega) (by have:=HLV.out;omega));clear hW1 cx zx CL lk k40 k41 z4 z5 lv cv zv;go_wp2
      try rw[hw4]
      exact⟨HREL.out,meas_up hs⟩
    ·have HX11:Hid (XX KO w11):=hX11;clear hk11 hX11 hR hy HTm
     gi_wp2
     go_wp2;refine bodyPost_ret (results_none rfl _ _ _) rfl ?_;exact⟨⟨_,rfl⟩, .inr ⟨KO,HX11.out⟩⟩
  ·obtain rfl:s=P:=(by omega);have hsi:¬((s:Int)<(s:Int)):=(by omega);go_wp2;go_end0;exact⟨⟨_,rfl⟩, .inl (by first|exact⟨s,KO,rfl,HJs.out⟩|exact⟨KO,HJs.out⟩)⟩
end Go.Proofs.YtffdemplaodbcaaDoor
namespace Go.Proofs.YtffdemplaodbcaaDoor
open Go Go.Proofs Go.RowKit Go.Rad
theorem wpList_makeR {w:World} {ops:Array Oper} {rest:List Oper} {o:Oper} {a:Act} {Q:Exit→Act→World→Prop}
 (hg:o.guard=none) (l c:Operand) (hop:o.op=Op.makeSlice 64 l c) (L:Int) (n:Nat) (hl:a.eval l= .int .i64 L) (hc:a.eval c= .int .i64 L) (hL:L=(n:Int)) (hn:n≤1048576)
 (hK:∀w',(∀i,i<n→w'.cell? ⟨w.heap.size,i,none⟩=some (.slice none 0 0))→(∀i,i<n→w'.frozen? ⟨w.heap.size,i,none⟩=false)→w.heap.size<w'.heap.size→Below w.heap.size w w'→wpList Tryd.prog ops Q rest (a.put o.dst (.slice (some ⟨w.heap.size,0,none⟩) n n)) w'):
 wpList Tryd.prog ops Q (o::rest) a w:=by
 obtain⟨i,hi0,hi1⟩:=Option.map_eq_some_iff.1 info22;simp only[Prod.mk.injEq]at hi1;obtain⟨z0,z1,z2⟩:=hi1;subst hL;refine wpList_plain hg fun K hK'=>?_;obtain⟨w',hrun,hrow,hgr⟩:=run_make_full (P:=Tryd.prog) w w.heap.size 64 22 i (.slice none 0 0) 1 Tryd.underlying64 hi0 z0 z1 .i64 .i64 n (by rw[z2];omega) (by unfold maxLen;omega) (Nat.le_refl _);unfold Oper.wp;simp[execOp,hop,hl,hc,hrun,Result.andThen];have hB:Below w.heap.size w w':=(Below.refl _ _).grown hgr (Nat.le_refl _) (fun k hk=>by cases hk);have e1:(madeCells (Value.slice none 0 0).cells (n*1)).toList=List.replicate n (Value.slice none 0 0):=(by rw[Nat.mul_one];exact toList_madeCells_one _ _);rw[e1]at hrow;have hlt:w.heap.size<w'.heap.size:=by
  rcases hrow.2 with⟨h,_⟩|⟨g,cap,cur,hv,_,hg,_⟩
  ·cases h
  ·have h2:=(Array.getElem?_eq_some_iff.1 hg).1;simp only[Value.slice.injEq,Option.some.injEq,Addr.mk.injEq]at hv;omega
 refine hK' _ _ (hK _ (fun j hj=>?_) (fun j hj=>?_) hlt hB)
 ·rw[World.ownsRow.cellAt hrow j (by omega)];simp[hj]
 ·exact World.ownsRow.frozenAt hrow j
structure MK (w:World) (B R n k:Nat) (rb:Nat→Nat) (M:Nat→Nat→Int):Prop where
 cR:∀i,i<k→w.cell? ⟨R,i,none⟩=some (.slice (some ⟨rb i,0,none⟩) n n)
 c0:∀i,k≤i→i<n→w.cell? ⟨R,i,none⟩=some (.slice none 0 0)
 zR:∀i,i<n→w.frozen? ⟨R,i,none⟩=false
 base:B≤R
 lt:R<w.heap.size
 row:∀i,i<k→OA w B (rb i) n (M i)
 ne:∀i,i<k→rb i≠R
 inj:∀i j,i<k→j<k→rb i=rb j→i=j
theorem MK.below {w w':World} {B R n k:Nat} {rb:Nat→Nat} {M:Nat→Nat→Int} (h:MK w B R n k rb M) (hb:Below w.heap.size w w'):MK w' B R n k rb M:=
 ⟨fun i hi=>(hb.cell (p:=⟨R,i,none⟩) h.lt).trans (h.cR i hi),fun i h1 h2=>(hb.cell (p:=⟨R,i,none⟩) h.lt).trans (h.c0 i h1 h2),fun i hi=>(hb.frozen (p:=⟨R,i,none⟩) h.lt).trans (h.zR i hi),h.base,Nat.lt_of_lt_of_le h.lt hb.size,
  fun i hi=>(h.row i hi).below hb,h.ne,h.inj⟩
theorem MK.mt {w:World} {B R n:Nat} {rb:Nat→Nat} {M:Nat→Nat→Int} (h:MK w B R n n rb M):MT w B R n rb M:=⟨h.cR,h.zR,h.base,h.lt,h.row,h.ne,h.inj⟩
theorem MK.put {w:World} {B R n k:Nat} {rb:Nat→Nat} {M:Nat→Nat→Int} (h:MK w B R n k rb M) (hk:k<n) {l:Nat} {y:Nat→Int} (hl:OA w B l n y) (hR:l≠R) (hne:∀i,i<k→rb i≠l):
 MK (w.setCell ⟨R,k,none⟩ (.slice (some ⟨l,0,none⟩) n n)) B R n (k+1) (fun i=>if i=k then l else rb i) (fun i j=>if i=k then y j else M i j):=by
 have keep:∀ {b:Nat} {f:Nat→Int},OA w B b n f→b≠R→OA (w.setCell ⟨R,k,none⟩ (.slice (some ⟨l,0,none⟩) n n)) B b n f:=fun {b f} ho hb=>⟨ho.base,by simpa [World.setCell]using ho.lt,fun i hi=>by rw[cell_other (.inl hb)];exact ho.c i hi,fun i hi=>by rw[World.frozen?_setCell];exact ho.z i hi⟩;refine⟨fun i hi=>?_,fun i h1 h2=>?_,fun i hi=>by rw[World.frozen?_setCell];exact h.zR i hi,h.base,by simpa [World.setCell]using h.lt,fun i hi=>?_,fun i hi=>?_,fun i j hi hj=>?_⟩
 ·by_cases hit:i=k
  ·subst hit;show _=some (Value.slice (some ⟨if i=i then l else rb i,0,none⟩) n n);rw[if_pos rfl];exact cell_same (h.c0 i (Nat.le_refl _) hk)
  ·show _=some (Value.slice (some ⟨if i=k then l else rb i,0,none⟩) n n);rw[if_neg hit,cell_other (.inr hit)];exact h.cR i (by omega)
 ·rw[cell_other (.inr (by omega))];exact h.c0 i (by omega) h2
 ·by_cases hit:i=k
  ·subst hit;show OA _ B (if i=i then l else rb i) n (fun j=>if i=i then y j else M i j);simp only[if_pos];exact keep hl hR
  ·show OA _ B (if i=k then l else rb i) n (fun j=>if i=k then y j else M i j);simp only[if_neg hit];exact keep (h.row i (by omega)) (h.ne i (by omega))
 ·show(if i=k then l else rb i)≠R
  split
  ·exact hR
  ·exact h.ne i (by omega)
 ·show(if i=k then l else rb i)=(if j=k then l else rb j)→i=j;by_cases hit:i=k
  ·by_cases hjt:j=k
   ·intro _;omega
   ·rw[if_pos hit,if_neg hjt];intro e;exact absurd e.symm (hne j (by omega))
  ·by_cases hjt:j=k
   ·rw[if_neg hit,if_pos hjt];intro e;exact absurd e (hne i (by omega))
   ·rw[if_neg hit,if_neg hjt];exact h.inj i j (by omega) (by omega)
theorem MK.num {w:World} {B R n k:Nat} {rb:Nat→Nat} {M:Nat→Nat→Int} (h:MK w B R n k rb M) {t s:Nat} (ht:t<k) (hs:s<n) (x:Int):
 MK (w.setCell ⟨rb t,s,none⟩ (.int .i64 x)) B R n k rb (fun i j=>if i=t∧j=s then x else M i j):=by
 refine⟨fun i hi=>by rw[cell_other (.inl (h.ne t ht).symm)];exact h.cR i hi,fun i h1 h2=>by rw[cell_other (.inl (h.ne t ht).symm)];exact h.c0 i h1 h2,fun i hi=>by rw[World.frozen?_setCell];exact h.zR i hi,h.base,by simpa [World.setCell]using h.lt,fun i hi=>?_,h.ne,h.inj⟩;by_cases hit:i=t
 ·subst hit;exact((h.row i hi).store hs x).fun fun j hj=>by
   by_cases hjs:j=s
   ·rw[if_pos hjs,if_pos ⟨rfl,hjs⟩]
   ·rw[if_neg hjs,if_neg (fun e=>hjs e.2)]
 ·have ho:=h.row i hi;have hne:rb i≠rb t:=fun e=>hit (h.inj i t hi ht e);exact⟨ho.base,by simpa [World.setCell]using ho.lt,fun j hj=>by rw[cell_other (.inl hne),if_neg (fun e=>hit e.1)];exact ho.c j hj,fun j hj=>by rw[World.frozen?_setCell];exact ho.z j hj⟩
theorem MT.toMK {w:World} {B R n:Nat} {rb:Nat→Nat} {M:Nat→Nat→Int} (h:MT w B R n rb M):MK w B R n n rb M:=⟨h.cR,fun i h1 h2=>by omega,h.zR,h.base,h.lt,h.row,h.ne,h.inj⟩
theorem MT.num {w:World} {B R n:Nat} {rb:Nat→Nat} {M:Nat→Nat→Int} (h:MT w B R n rb M) {t s:Nat} (ht:t<n) (hs:s<n) (x:Int):
 MT (w.setCell ⟨rb t,s,none⟩ (.int .i64 x)) B R n rb (fun i j=>if i=t∧j=s then x else M i j):=((MT.toMK h).num ht hs x).mt
end Go.Proofs.YtffdemplaodbcaaDoor
