/- A part of the proof: SF, IV. -/
import Derived.Test.YtffdemplaodbcaaDoorP39
import Derived.Test.YtffdemplaodbcaaDoorP24
set_option linter.all false
namespace Go.Proofs.YtffdemplaodbcaaDoor
open Go Go.Proofs Go.RowKit Go.Rad
open _root_.Rad (CR Prm PD Dv Irr Vl)
theorem OWS.cell {w:World} {B:Nat} {g k n:Nat} {xs:List Value} (h:OWS w B (.slice (some ⟨g,0,none⟩) n k) xs) (hn:n=xs.length) {i:Nat} {v:Value} (hi:xs[i]? =some v):w.cell? ⟨g,i,none⟩=some v:=by subst hn;have hil:i<xs.length:=(List.getElem?_eq_some_iff.1 hi).1;have h2:=World.ownsRow.cellAt h i (by omega);rw[h2,hi]
theorem wpList_appendSS {w:World} {ops:Array Oper} {rest:List Oper} {o:Oper} {a:Act} {Q:Exit→Act→World→Prop} (hgd:o.guard=none) (s x:Operand)
 (ho:o.op= .call {callee:= .builtin .append,args:=#[s,x],argTypes:=#[64,64]}) {B B2:Nat} {v v2:Value} {xs ys:List Value} (hs:a.eval s=v) (hown:OWS w B v xs) (hx:a.eval x=v2) (hown2:OWS w B2 v2 ys) (hy:0<ys.length) (hsl:∀u,u∈ys→u.oneCell'=true)
 (hl:xs.length+ys.length≤1048576) (hB:B≤w.heap.size)
 (h:∀v' w',OWS w' B v' (xs++ys)→Kept (fun g=>v.ownBlock=some g) w w'→(∀g,v'.ownBlock=some g→v.ownBlock=some g∨w.heap.size≤g)→wpList Tryd.prog ops Q rest (a.put o.dst v') w'):wpList Tryd.prog ops Q (o::rest) a w:=by
 obtain⟨i,hi0,hi1⟩:=Option.map_eq_some_iff.1 info22;simp only[Prod.mk.injEq]at hi1;obtain⟨z0,z1,z2⟩:=hi1;obtain⟨g7,m7,hv2⟩:∃g7 m7,v2= .slice (some ⟨g7,0,none⟩) ys.length m7:=by
  rcases hown2.2 with⟨hv,h0⟩|⟨g,cap,cur,hv,_⟩
  ·omega
  ·exact⟨g,cap,hv⟩
 have hc:∀j u,ys[j]? =some u→w.cell? ((⟨g7,0,none⟩:Addr).add j)=some u:=fun j u hj=>by
  have h1:=hown2;rw[hv2]at h1;have e:(⟨g7,0,none⟩:Addr).add j=⟨g7,j,none⟩:=by
   cases j with
   |zero=>rfl
   |succ j=>simp[Addr.add]
  rw[e];exact OWS.cell h1 rfl hj
 obtain⟨g,cap,w',hrun,hrow,hgr,hg,hlt⟩:=run_append_lies (P:=Tryd.prog) w 64 o.type B 22 i (.slice none 0 0) 1 24 Tryd.underlying64 hi0 z0 z1 z2 rfl (by omega) v xs.length _ hown ⟨g7,0,none⟩ ys.length m7 ys (by omega)
  hc hsl hy (by unfold maxLen;omega) (by omega) hB w.heap.size rfl
 refine wpList_plain hgd fun K hK=>?_;unfold Oper.wp execOp;simp only[ho,resolve,invoke,builtin,Sem.run_bind,Sem.run_pure,Result.andThen_ok,List.map_toArray,List.map_cons,List.map_nil,hs,hx,hv2,hrun];refine hK _ _ (h _ _ ?_ ⟨hgr.os,hgr.tape,hgr.output,hgr.size,fun k hk hne=>hgr.block k hk fun e=>hne e.symm⟩ fun g' hg'=>?_)
 ·unfold OWS;rw[List.length_append];exact hrow
 ·obtain rfl:g=g':=(by simpa [Value.ownBlock]using hg');exact hg.imp id fun h=>by omega
theorem OA.vw {w:World} {B b n:Nat} {f:Nat→Int} (h:OA w B b n f):VW w (.slice (some ⟨b,0,none⟩) n n) (lst f n):=by refine⟨some ⟨b,0,none⟩,b,0,n,by rw[lst_length],fun _=>rfl,fun i hi=>?_⟩;rw[lst_length]at hi;rw[h.c i hi];congr 2;show _=(lst f n).getD i 0;rw[lst_getD];unfold cut;rw[if_pos hi]
theorem FixP.eqF {P:Nat} {f:List Int} {n:Nat} {M0:Nat→Nat→Int} {s:List Int} {ql:Nat→List Int} (hn:f.length=n+1) (hs:Res (P:Int) f (row (ppow [0,1] (P:Int).toNat)) s) (hql:∀c,c<n→Res (P:Int) f (row (ppow s c)) (ql c))
 (hM0:∀r c,r<n→c<n→M0 r c%(P:Int)=((if r=c then (P:Int)-1 else 0)+row (ql c) r)%P):EqF P f n M0:=by
 refine⟨s,ql,?_,fun c hc=>⟨by have:=(hql c hc).len;omega,?_⟩,hM0⟩
 ·rw[mk_pw];rw[Int.toNat_natCast]at hs;exact(mk_eq.2 hs.cg).symm
 ·rw[mk_pw];exact(mk_eq.2 (hql c hc).cg).symm
def NumM (P:Nat) (g x:List Int):Prop:=∃k:Int,Dv (mq g:Ap P) (mq x+ -(mq [k]))
inductive FaP (w:World) (P:Nat) (fv:Value) (fl:List Int) (e:Ending) (w':World):Prop
 |mk (u:Value) (us:List Value) (gs:List (List Int)) (he:e= .returned u) (hb:Below w.heap.size w w') (hO:OWS w' w.heap.size u us) (hL:PcV w' us gs) (hg:Pcs P (mq fl) gs)
  (hp:∀g,g∈gs→Pm P (mq g)) (hbk:∀v,v∈us→∀b,v.ownBlock=some b→fv.ownBlock=some b∨w.heap.size≤b) (hnu:∀v,v∈us→∀b,v.ownBlock=some b→u.ownBlock≠some b)
inductive FO (P n:Nat) (fv:Value) (fl:List Int) (V:Nat→Nat→Int) (w2 wr:World) (pv i:Value) (c:Nat):Prop
 |mk (us:List Value) (gs:List (List Int)) (hi:i= .int .i64 c) (hB:Below w2.heap.size w2 wr) (hO:OWS wr w2.heap.size pv us) (hL:PcV wr us gs) (hg:Pcs P (mq fl) gs)
  (hc:∀g,g∈gs→∀i,i<c→NumM P g (lst (V i) n)) (hbk:∀v,v∈us→∀b,v.ownBlock=some b→(fv.ownBlock=some b∨w2.heap.size≤b)∧pv.ownBlock≠some b)
inductive FI (P n:Nat) (fv:Value) (gs0:List (List Int)) (V:Nat→Nat→Int) (c:Nat) (w2 wr wx:World) (nv j:Value) (d:Nat):Prop
 |mk (xs:List Value) (hs:List (List Int)) (hj:j= .int .i64 d) (hB:Below wr.heap.size wr wx) (hO:OWS wx wr.heap.size nv xs) (hL:PcV wx xs hs) (hg:Pcs P (CR.pr ((gs0.take d).map fun g=>(mq g:Ap P))) hs)
  (hc:∀g,g∈hs→∀i,i<c+1→NumM P g (lst (V i) n)) (hbk:∀v,v∈xs→∀b,v.ownBlock=some b→(fv.ownBlock=some b∨w2.heap.size≤b)∧nv.ownBlock≠some b)
theorem NumM.dv {P:Nat} {g h x:List Int} (k:NumM P g x) (hd:Dv (mq h:Ap P) (mq g)):NumM P h x:=by obtain⟨z,hz⟩:=k;exact⟨z,hd.trans hz⟩
theorem NumM.eq {P:Nat} {g x y:List Int} (k:NumM P g x) (he:(mq x:Ap P)=mq y):NumM P g y:=by obtain⟨z,hz⟩:=k;exact⟨z,by rw[←he];exact hz⟩
theorem take_next {α:Type} {l:List α} {d:Nat} {x:α} (h:l[d]? =some x):l.take (d+1)=l.take d++[x]:=by rw[List.take_add_one,h];rfl
theorem take_sz {P:Nat} (hP:PrC P) {gs:List (List Int)} (hm:∀g,g∈gs→Mon P g∧2≤g.length) (d:Nat):sz (CR.pr ((gs.take d).map fun g=>(mq g:Ap P)))≤sz (CR.pr (gs.map fun g=>(mq g:Ap P))):=by have h1:=pcs_len hP (gs.take d) fun g hg=>hm g (List.mem_of_mem_take hg);have h2:=pcs_len hP (gs.drop d) fun g hg=>hm g (List.mem_of_mem_drop hg);have h3:=(hP.pd.m _ _ h1.1 h2.1).2;rw[←pr_append,←List.map_append,List.take_append_drop]at h3;omega
theorem FI.bound {P:Nat} (hP:PrC P) {gs0:List (List Int)} {gd:List Int} {d:Nat} {hs gs:List (List Int)} {fl:List Int} (hM:Mon P fl) (hl:fl.length≤65) (h0:Pcs P (mq fl) gs0) (hd:gs0[d]? =some gd)
 (h1:Pcs P (CR.pr ((gs0.take d).map fun g=>(mq g:Ap P))) hs) (h2:Pcs P (mq gd) gs):Pcs P (CR.pr ((gs0.take (d+1)).map fun g=>(mq g:Ap P))) (hs++gs)∧hs.length+gs.length≤65:=by
 have e:(CR.pr ((gs0.take (d+1)).map fun g=>(mq g:Ap P)))=CR.pr ((gs0.take d).map fun g=>(mq g:Ap P))*mq gd:=(by rw[take_next hd,List.map_append,pr_append];show _*((mq gd:Ap P)*1)=_;rw[CR.mul_comm (mq gd:Ap P) 1,CR.one_mul]);have h3:=h1.append h2;rw[←e]at h3;refine⟨h3,?_⟩;have h4:=(pcs_len hP _ h3.mon).2;rw[←h3.pr]at h4;have h5:=take_sz hP h0.mon (d+1);rw[←h0.pr,hM.sz]at h5;rw[List.length_append]at h4;omega
theorem FI.start {P n:Nat} {fv:Value} {gs0:List (List Int)} {V:Nat→Nat→Int} {c:Nat} {w2 wr:World}: FI P n fv gs0 V c w2 wr wr (.slice none 0 0) (.int .i64 0) 0:= .mk [] [] rfl (Below.refl _ _) (OWS.nil _ _) .nil ⟨fun g hg=>by simp at hg,rfl⟩ (fun g hg=>by simp at hg) fun v hv=>by simp at hv
theorem FI.step {P n:Nat} (hP:PrC P) {fv gv nv nv':Value} {fl gd vl:List Int} {gs0 hs gs:List (List Int)} {xs us:List Value} {V:Nat→Nat→Int} {c d:Nat} {w2 wr wx wy wq:World} (hM:Mon P fl) (hl:fl.length≤65) (h0:Pcs P (mq fl) gs0) (hd:gs0[d]? =some gd)
 (hn0:∀i,i<c→NumM P gd (lst (V i) n)) (hgv:∀b,gv.ownBlock=some b→(fv.ownBlock=some b∨w2.heap.size≤b)∧b<wr.heap.size) (hve:(mq vl:Ap P)=mq (lst (V c) n)) (hw:w2.heap.size≤wr.heap.size)
 (hB:Below wr.heap.size wr wx) (hO:OWS wx wr.heap.size nv xs) (hL:PcV wx xs hs) (hg:Pcs P (CR.pr ((gs0.take d).map fun g=>(mq g:Ap P))) hs) (hc:∀g,g∈hs→∀i,i<c+1→NumM P g (lst (V i) n))
 (hbk:∀v,v∈xs→∀b,v.ownBlock=some b→(fv.ownBlock=some b∨w2.heap.size≤b)∧nv.ownBlock≠some b)
 (kb:Below wx.heap.size wx wy) (kL:PcV wy us gs) (kg:Pcs P (mq gd) gs) (kc:∀g,g∈gs→∃k:Int,Dv (mq g:Ap P) (mq vl+ -(mq [k]))) (kbk:∀v,v∈us→∀b,v.ownBlock=some b→gv.ownBlock=some b∨wx.heap.size≤b)
 (ho:OWS wq wr.heap.size nv' (xs++us)) (hk:Kept (fun g=>nv.ownBlock=some g) wy wq) (hg':∀g,nv'.ownBlock=some g→nv.ownBlock=some g∨wy.heap.size≤g):
 FI P n fv gs0 V c w2 wr wq nv' (.int .i64 ((d:Int)+1)) (d+1):=by
 have hns:∀b,nv.ownBlock=some b→wr.heap.size≤b∧b<wx.heap.size:=fun b hb=>⟨(ownsRow_at hO hb).1,(ownsRow_at hO hb).2.1⟩;have hsz:=hB.size;have hsz2:=kb.size;have hu:∀v,v∈us→∀b,v.ownBlock=some b→nv.ownBlock≠some b:=fun v hv b hb h=>by
  have h1:=hns b h;rcases kbk v hv b hb with h2|h2
  ·have:=(hgv b h2).2;omega
  ·omega
 refine .mk (xs++us) (hs++gs) rfl (hB.trans ((kb.mono hB.size).trans (hk.below (by omega) fun k hk h=>by have:=(hns k h).1;omega))) ho ((hL.under kb).kept hk (fun v hv b hb=>(hbk v hv b hb).2) |>.append (kL.kept hk hu))
  (FI.bound hP hM hl h0 hd hg kg).1 (fun g hg1 i hi=>?_) fun v hv b hb=>⟨?_,fun h=>?_⟩
 ·rcases List.mem_append.1 hg1 with h|h
  ·exact hc g h i hi
  ·by_cases hic:i=c
   ·rw[hic];exact NumM.eq (kc g h) hve
   ·exact(hn0 i (by omega)).dv (kg.dv h)
 ·rcases List.mem_append.1 hv with h|h
  ·exact(hbk v h b hb).1
  ·rcases kbk v h b hb with h2|h2
   ·exact(hgv b h2).1
   ·exact .inr (by omega)
 ·rcases hg' b h with h1|h1
  ·rcases List.mem_append.1 hv with h2|h2
   ·exact(hbk v h2 b hb).2 h1
   ·exact hu v h2 b hb h1
  ·rcases List.mem_append.1 hv with h2|h2
   ·have:=(hL.under kb).lt v h2 b hb;omega
   ·have:=kL.lt v h2 b hb;omega
theorem FI.fo {P n:Nat} {fv nv j:Value} {fl:List Int} {gs0:List (List Int)} {V:Nat→Nat→Int} {c d:Nat} {w2 wr wx:World} (h:FI P n fv gs0 V c w2 wr wx nv j d) (h0:Pcs P (mq fl) gs0) (hd:d=gs0.length) (hB:Below w2.heap.size w2 wr):
 FO P n fv fl V w2 wx nv (.int .i64 ((c:Int)+1)) (c+1):=by
 obtain⟨xs,hs,hj,hB1,hO,hL,hg,hc,hbk⟩:=h;rw[hd,List.take_length,←h0.pr]at hg;exact .mk xs hs rfl (hB.trans (hB1.mono hB.size)) (OWS.mono hO hB.size) hL hg hc hbk
theorem FO.done {P n:Nat} (hP:PrC P) {fv u:Value} {fl:List Int} {V:Nat→Nat→Int} {c:Nat} {w w2 wr:World} {M0 N:Nat→Nat→Int} {k m:Nat} {pv fr:Nat→Nat} (hM:Mon P fl) (hn:fl.length=n+1) (hq:SqF (mq fl:Ap P)) (hE:EqF P fl n M0) (hX:FX P n M0 n k N pv m fr V)
 (hB0:Below w.heap.size w w2) {us:List Value} {gs:List (List Int)} (hB:Below w2.heap.size w2 wr) (hO:OWS wr w2.heap.size u us) (hL:PcV wr us gs) (hg:Pcs P (mq fl) gs)
 (hc:∀g,g∈gs→∀i,i<c→NumM P g (lst (V i) n)) (hbk:∀v,v∈us→∀b,v.ownBlock=some b→(fv.ownBlock=some b∨w2.heap.size≤b)∧u.ownBlock≠some b) (hd:c=m∨us.length=m):FaP w P fv fl (.returned u) wr:=by
 refine .mk u us gs rfl (hB0.trans (hB.mono hB0.size)) (OWS.mono hO hB0.size) hL hg (fun g hgm=>?_) (fun v hv b hb=>(hbk v hv b hb).1.imp id fun h=>by have:=hB0.size;omega) fun v hv b hb=>(hbk v hv b hb).2;obtain⟨h,hh⟩:=hg.dv hgm;have h2:=hg.mon g hgm;refine irr_piece hP hq hh (by rw[h2.1.sz];exact h2.2) fun v hv=>?_;rcases hd with hd|hd
 ·exact all_num hP hM hn hE hX ⟨h,hh⟩ (fun i hi=>hc g hgm i (by omega)) v hv
 ·obtain⟨i,hi,hgi⟩:=List.getElem_of_mem hgm;have hlen:=hL.len;have e:∀j,j<m→((gs.map fun g=>(mq g:Ap P)).getD j 1)=mq (gs.getD j [])∧gs.getD j []∈gs:=fun j hj=>by have hj2:j<gs.length:=(by omega);refine⟨by simp[List.getD_eq_getElem?_getD,hj2],?_⟩;rw[List.getD_eq_getElem?_getD,List.getElem?_eq_getElem hj2];exact List.getElem_mem hj2
  have h3:=all_count hP hM hn hE hX (gs:=gs.map fun g=>(mq g:Ap P)) (by rw[List.length_map];omega) hg.pr hq (fun j hj=>by rw[(e j hj).1,(hg.mon _ (e j hj).2).1.sz];exact(hg.mon _ (e j hj).2).2) v hv i (by omega);rw[(e i (by omega)).1,List.getD_eq_getElem?_getD,List.getElem?_eq_getElem hi]at h3;rw[←hgi];exact h3
set_option maxRecDepth 20000 in
set_option maxHeartbeats 4000000 in
theorem factors_any (P:Nat) (hP:PrC P) (q:Int) (hq:q=(P:Int)*P) (hp2:(P:Int)<2147483648) (w:World) (fv:Value) (fl:List Int) (hf:VC w fv fl) (hM:Mon P fl) (hl2:2≤fl.length) (hl:fl.length≤65) (hsq:SqF (mq fl:Ap P)):
 Calls Tryd.prog 46 #[FV P q,fv] w fun e w'=>FaP w P fv fl e w':=by
 have h2p:=hP.two;obtain⟨n,hn⟩:∃n,fl.length=n+1:=⟨fl.length-1,by omega⟩;have HF0:Hid (VC w fv fl):=hf;obtain⟨b2,o2,c2,hfv,hMD,hb2,hly⟩:=hf.md hP hM (by omega) hn;subst hfv;obtain⟨y,hy⟩:∃y:Nat→Int,y=fun j=>fl.getD j 0:=⟨_,rfl⟩;rw[←hy]at hMD hly;have HQ:Hid (q=(P:Int)*P):=hq;have HM:Hid (Mon P fl):=hM;have HSQ:Hid (SqF (mq fl:Ap P)):=hsq;have HMD:Hid (MD w (P:Int) b2 o2 n c2 y):=hMD;have HLY:Hid (lst y (n+1)=fl):=hly;have HN:Hid (fl.length=n+1∧1≤n∧n≤64∧b2<w.heap.size):=(by show _∧_∧_∧_;omega);clear hf hM hl2 hl hsq hq hn hMD hb2 hly hy;go_enter Tryd.func46,Tryd.ntmps46;go_upto_region 1 with fail;refine wp_world (fun w1=>Below w.heap.size w w1∧FB w1 w.heap.size (.int .i64 P) (.int .i64 q)) ⟨bel1 _ _,FB.mk0 _ _ _ _⟩ ?_;rintro w1 ⟨hB1,hF1⟩;obtain⟨bk,hbk⟩:∃x,x=w.heap.size:=⟨_,rfl⟩;rw[←hbk]at hF1⊢;have HBK:Hid (bk=w.heap.size):=hbk;have HB1:Hid (Below w.heap.size w w1):=hB1;have HF1:Hid (FB w1 bk (.int .i64 P) (.int .i64 q)):=hF1;clear hB1 hbk;obtain⟨lk,k40,k41,z4,z5⟩:=hF1;go_wp2_with (go_at_call 51;fail);refine(fixed_any w1 P q b2 o2 n c2 y (HMD.out.below HB1.out) (Nat.lt_of_lt_of_le HN.out.2.2.2 HB1.out.size) HQ.out hP.pr (by have:=HN.out;omega) (by have:=HN.out;omega)).mono ?_;rintro e w2 ⟨M0,s,ql,k,m,N,pv,fr,vb,V,v,vs,rfl,hb,hs,hql,hM0,hX,hO,hl,hi,ha,-⟩;rw[HLY.out]at hs hql;have HE:Hid (EqF P fl n M0):=FixP.eqF HN.out.1 hs hql hM0;have HX:Hid (FX P n M0 n k N pv m fr V):=hX;have HB2:Hid (Below w1.heap.size w1 w2):=hb;have HB02:Hid (Below w.heap.size w w2):=HB1.out.trans (hb.mono HB1.out.size);have HF2:Hid (FB w2 bk (.int .i64 P) (.int .i64 q)):=HF1.out.below hb;obtain⟨a5,c5,rfl⟩:∃a c,v= .slice a m c:=by
  rcases hO.2 with⟨hv,h0⟩|⟨g,cap,cur,hv,_⟩
  ·exact⟨none,0,by rw[hv,←hl,h0]⟩
  ·exact⟨_,cap,by rw[hv,hl]⟩
 have HV:Hid (OWS w2 w1.heap.size (.slice a5 m c5) vs∧vs.length=m∧(∀i,i<m→vs[i]? =some (.slice (some ⟨vb i,0,none⟩) (fr i+1:Nat) (fr i+1:Nat)))∧∀i,i<m→OA w2 w1.heap.size (vb i) (fr i+1) (V i)):=⟨hO,hl,hi,ha⟩;have hmn:(m:Int)≤64:=(by have:=hX.cnt;have:=HN.out;omega);clear lk k40 k41 z4 z5 hb hs hql hM0 hX hO hl hi ha;have HS0:Hid (FO P n (.slice (some ⟨b2,o2,none⟩) (n+1:Nat) c2) fl V w2 (w2.alloc (.cells #[.slice (some ⟨b2,o2,none⟩) (n+1:Nat) c2] 22)) (.slice (some ⟨w2.heap.size,0,none⟩) 1 1) (.int .i64 0) 0):=by
  have hv:∀v,v∈[Value.slice (some ⟨b2,o2,none⟩) (n+1:Nat) c2]→∀b,v.ownBlock=some b→b=b2:=fun v hv b hb=>by rw[List.mem_singleton]at hv;subst hv;have:b2=b:=(by simpa [Value.ownBlock]using hb);omega
  refine .mk [.slice (some ⟨b2,o2,none⟩) (n+1:Nat) c2] [fl] rfl (bel1 _ _) (ows_new _ _) (.cons (HF0.out.below (HB02.out.trans ((bel1 _ _).mono HB02.out.size))) .nil) ⟨fun g hg=>?_,?_⟩ (fun g hg i hi=>by omega) fun v hv1 b hb=>⟨.inl ?_,fun h=>?_⟩
  ·rw[List.mem_singleton]at hg;subst hg;exact⟨HM.out,by have:=HN.out;omega⟩
  ·show _=(mq fl:Ap P)*1;rw[CR.mul_comm,CR.one_mul]
  ·rw[hv v hv1 b hb];rfl
  ·have h1:w2.heap.size=b:=(by simpa [Value.ownBlock]using h);have h2:=hv v hv1 b hb;have h3:=HN.out;have h4:=HB02.out.size;omega
 go_wp2;go_loopw [6,19] (fun pv i wr=>∃c,c≤m∧FO P n (.slice (some ⟨b2,o2,none⟩) (n+1:Nat) c2) fl V w2 wr pv i c) (fun _ i _=>m-(Lib.intOf i).toNat)
 case atStart=>exact⟨0,by omega,HS0.out⟩
 case round=>
  rename World=>wa
  obtain⟨c,hcm,hFO⟩:=hrel;obtain⟨us,gs,rfl,hB,hO,hL,hg,hc,hbk⟩:=hFO;obtain⟨GL,hGL⟩:∃G,G=us.length:=⟨_,rfl⟩;obtain⟨a6,k6,hu6,ha6⟩:∃a k,u6= .slice a GL k∧(0<GL→∃g,a=some ⟨g,0,none⟩):=by
   rcases hO.2 with⟨hv,h0⟩|⟨g,cap,cur,hv,_⟩
   ·exact⟨none,0,by rw[hv,hGL,h0],fun h=>by omega⟩
   ·exact⟨_,cap,by rw[hv,hGL],fun _=>⟨g,rfl⟩⟩
  subst hu6;have hgl:=pcs_len hP gs hg.mon;rw[←hg.pr,HM.out.sz]at hgl;have hGn:(GL:Int)≤64:=(by have:=hL.len;have:=HN.out;omega);have HGL:Hid (GL=us.length∧us.length=gs.length∧∀v,v∈us→v.oneCell'=true):=⟨hGL,hL.len,hL.one⟩;have HA6:Hid (0<GL→∃g,a6=some ⟨g,0,none⟩):=ha6;have HB:Hid (Below w2.heap.size w2 wa):=hB;have HO:Hid (OWS wa w2.heap.size (.slice a6 GL k6) us):=hO;have HL:Hid (PcV wa us gs):=hL;have HG:Hid (Pcs P (mq fl) gs):=hg;have HC:Hid (∀g,g∈gs→∀i,i<c→NumM P g (lst (V i) n)):=hc;have HBK2:Hid (∀v,v∈us→∀b,v.ownBlock=some b→((Value.slice (some ⟨b2,o2,none⟩) (n+1:Nat) c2).ownBlock=some b∨w2.heap.size≤b)∧(Value.slice a6 GL k6).ownBlock≠some b):=hbk;have HFr:Hid (FB wa bk (.int .i64 P) (.int .i64 q)):=HF2.out.below hB;clear hB hO hL hg hc hbk hGL ha6 hgl;have RR:Hid ((c=m∨us.length=m)→FaP w P (.slice (some ⟨b2,o2,none⟩) (n+1:Nat) c2) fl (.returned (.slice a6 GL k6)) wa):=fun hd=>FO.done hP HM.out HN.out.1 HSQ.out HE.out HX.out HB02.out HB.out HO.out HL.out HG.out HC.out HBK2.out hd;by_cases hc:c<m
  ·have hci:(c:Int)<(m:Int):=(by omega);have hw4:wrap64 ((c:Int)+1)=(c:Int)+1:=wrap_in (by omega) (by omega);obtain⟨g5,hg5⟩:∃g5,a5=some ⟨g5,0,none⟩:=by
    have h1:=HV.out.1;rcases h1.2 with⟨hv,h0⟩|⟨g,cap,cur,hv,_⟩
    ·have:=HV.out.2.1;omega
    ·exact⟨g,by injection hv⟩
   subst hg5;have cv5:wa.cell? ⟨g5,c,none⟩=some (.slice (some ⟨vb c,0,none⟩) (fr c+1:Nat) (fr c+1:Nat)):=(by have h1:=(HV.out.1.cell HV.out.2.1.symm (HV.out.2.2.1 c hc));exact(HB.out.cell (p:=⟨g5,c,none⟩) (block_lt h1)).trans h1);by_cases hgm:GL=m
   ·have hgmi:(GL:Int)=(m:Int):=(by omega);go_wp2;refine bodyPost_ret (v:= .slice a6 GL k6) (by simp[results,go_sem,loadVar]) rfl ?_;exact RR.out (.inr (by have:=HGL.out;omega))
   ·have hgmi:decide ((GL:Int)=(m:Int))=false:=decide_eq_false (by omega);have hgmb:((GL:Int)==(m:Int))=false:=beq_eq_false_iff_ne.2 (by omega);have hgmn:decide (GL=m)=false:=decide_eq_false (by omega);have HGM:Hid (¬GL=m):=hgm;clear hgm;go_upto_region 7 with fail;clear cv5;go_wp2;go_loopw [9,30] (fun nv j wx=>∃d,d≤GL∧FI P n (.slice (some ⟨b2,o2,none⟩) (n+1:Nat) c2) gs V c w2 wa wx nv j d) (fun _ j _=>GL-(Lib.intOf j).toNat)
    case atStart=>exact⟨0,by omega,FI.start⟩
    case round=>
     obtain⟨d,hdG,hFI⟩:=hrel;by_cases hd:d<GL
     ·have hdi:(d:Int)<(GL:Int):=(by omega);have hw5:wrap64 ((d:Int)+1)=(d:Int)+1:=wrap_in (by omega) (by omega);obtain⟨g6,hg6⟩:=HA6.out (by omega);subst hg6;obtain⟨xs,hs,rfl,hBx,hOx,hLx,hgx,hcx,hbkx⟩:=hFI;obtain⟨gv,gd,hgv,hgd,hVC⟩:=HL.out.get d (by have:=HGL.out;omega);have hgm:gd∈gs:=List.mem_of_getElem? hgd;have hvm:gv∈us:=List.mem_of_getElem? hgv;have hVC0:=hVC;obtain⟨bg,og,cg,hgve,-⟩:=hVC0;obtain⟨DL,hDL⟩:∃D,D=gd.length:=⟨_,rfl⟩;rw[←hDL]at hgve;subst hgve;have cg6:wr.cell? ⟨g6,d,none⟩=some (.slice (some ⟨bg,og,none⟩) DL cg):=(by have h1:=HO.out.cell HGL.out.1 hgv;exact(hBx.cell (p:=⟨g6,d,none⟩) (block_lt h1)).trans h1);have hml:=HG.out.mon gd hgm;have hdl:gd.length≤65:=(by obtain⟨h,hh⟩:=HG.out.dv hgm;have hz:h≠0:=fun e=>HM.out.ne hP (by rw[hh,e,CR.mul_zero]);have h1:=(hP.pd.m _ h (hml.1.ne hP) hz).2;rw[←hh,HM.out.sz,hml.1.sz]at h1;have h2:=hP.pd.pos hz;have:=HN.out;omega);have hve:(mq (lst (V c) (fr c+1)):Ap P)=mq (lst (V c) n):=mk_row fun j=>by
       have h1:=HX.out.flt c hc;rw[row_lst,row_lst];unfold cut;by_cases h2:j<fr c+1
       ·rw[if_pos h2,if_pos (by omega)]
       ·rw[if_neg h2]
        split
        ·exact(HX.out.top c j hc (by omega)).symm
        ·rfl
      have hfx:Dv (mq gd:Ap P) (CR.pw (mq (lst (V c) (fr c+1))) P+ -(mq (lst (V c) (fr c+1)))):=(by rw[hve];exact(HG.out.dv hgm).trans (dv_fix.2 (HE.out.fix hP (HX.out.bwd _ (HX.out.sol hc)))));have hvb:∀j,0≤(lst (V c) (fr c+1)).getD j 0∧(lst (V c) (fr c+1)).getD j 0<P:=fun j=>by
       rw[lst_getD];unfold cut
       split
       ·exact HX.out.bd c j hc
       ·omega
      have hvw:VW wr (.slice (some ⟨vb c,0,none⟩) (fr c+1:Nat) (fr c+1:Nat)) (lst (V c) (fr c+1)):=(((HV.out.2.2.2 c hc).below HB.out).below hBx).vw;have CS:=split_any P hP q HQ.out hp2 gd.length gd rfl hml.1 hml.2 hdl wr _ _ (lst (V c) (fr c+1)) (hVC.below hBx) hvw hvb (by rw[lst_length];have:=HX.out.flt c hc;have:=HN.out;omega) hfx;have HNS:Hid (FI P n (.slice (some ⟨b2,o2,none⟩) (n+1:Nat) c2) gs V c w2 wa wr u9 (.int .i64 d) d):= .mk xs hs rfl hBx hOx hLx hgx hcx hbkx;have HBx:Hid (Below wa.heap.size wa wr):=hBx;have HOx:Hid (OWS wr wa.heap.size u9 xs):=hOx;have HLx:Hid (PcV wr xs hs):=hLx;have HGx:Hid (Pcs P (CR.pr ((gs.take d).map fun g=>(mq g:Ap P))) hs):=hgx;have HCx:Hid (∀g,g∈hs→∀i,i<c+1→NumM P g (lst (V i) n)):=hcx;have HBKx:Hid (∀v,v∈xs→∀b,v.ownBlock=some b→((Value.slice (some ⟨b2,o2,none⟩) (n+1:Nat) c2).ownBlock=some b∨w2.heap.size≤b)∧u9.ownBlock≠some b):=hbkx;have HGV:Hid ((∀b,(Value.slice (some ⟨bg,og,none⟩) DL cg).ownBlock=some b→((Value.slice (some ⟨b2,o2,none⟩) (n+1:Nat) c2).ownBlock=some b∨w2.heap.size≤b)∧b<wa.heap.size)∧gs[d]? =some gd∧∀i,i<c→NumM P gd (lst (V i) n)):=⟨fun b hb=>⟨(HBK2.out _ hvm b hb).1,hVC.lt hb⟩,hgd,HC.out gd hgm⟩;have HML:Hid (Mon P gd∧2≤gd.length):=hml;have HVE:Hid ((mq (lst (V c) (fr c+1)):Ap P)=mq (lst (V c) n)):=hve;obtain⟨lk,k40,k41,z4,z5⟩:=HFr.out.below hBx;clear hBx hOx hLx hgx hcx hbkx hgv hgd hVC hgm hvm hml hdl hve hfx hvb hvw hDL hgmi hgmb hgmn;go_wp2_with (go_at_call 67;fail);refine CS.mono ?_;rintro e wy ⟨u,us',gs',rfl,kb,kO,kL,kg,kc,kbk,-⟩;have HBD:=FI.bound hP HM.out (by have:=HN.out;omega) HG.out HGV.out.2.1 HGx.out kg;have hpos:0<us'.length:=by
       rcases Nat.eq_zero_or_pos us'.length with h|h
       ·exfalso;have h5:gs'=[]:=List.length_eq_zero_iff.1 (by have:=kL.len;omega);have h6:=kg.pr;rw[h5]at h6;have h8:sz (CR.pr (([]:List (List Int)).map fun g=>(mq g:Ap P)))=1:=hP.pd.one;rw[←h6,HML.out.1.sz]at h8;have:=HML.out.2;omega
       ·exact h
      have HOy:Hid (OWS wy wa.heap.size u9 xs):=ownsRow_kept HOx.out (.of_below (S:=fun _=>False) kb) fun _ _ h=>h;have KO:Hid (OWS wy wr.heap.size u us'):=kO;have KK:Hid (Below wr.heap.size wr wy∧PcV wy us' gs'∧Pcs P (mq gd) gs'∧(∀g,g∈gs'→∃k:Int,Dv (mq g:Ap P) (mq (lst (V c) (fr c+1))+ -(mq [k])))∧∀v,v∈us'→∀b,v.ownBlock=some b→(Value.slice (some ⟨bg,og,none⟩) DL cg).ownBlock=some b∨wr.heap.size≤b):=⟨kb,kL,kg,kc,kbk⟩;have HPZ:Hid (0<us'.length∧xs.length+us'.length≤1048576∧wa.heap.size≤wy.heap.size):=⟨hpos,by have:=HBD.2;have:=HLx.out.len;have:=kL.len;omega,Nat.le_trans HBx.out.size kb.size⟩;clear lk k40 k41 z4 z5 kb kO kL kg kc kbk hpos HBD CS;go_wp2_with (refine wpList_appendSS (by rfl) _ _ (by rfl) (by rfl) HOy.out (by rfl) KO.out HPZ.out.1 KK.out.2.1.one HPZ.out.2.1 HPZ.out.2.2 ?_;intro v' wq ho hk hg9);have HNEW:Hid (∃d₁,d₁≤GL∧FI P n (.slice (some ⟨b2,o2,none⟩) (n+1:Nat) c2) gs V c w2 wa wq v' (.int .i64 ((d:Int)+1)) d₁):=⟨d+1,hd,FI.step hP HM.out (by have:=HN.out;omega) HG.out HGV.out.2.1 HGV.out.2.2 HGV.out.1 HVE.out HB.out.size HBx.out HOx.out HLx.out HGx.out HCx.out HBKx.out KK.out.1 KK.out.2.1 KK.out.2.2.1 KK.out.2.2.2.1 KK.out.2.2.2.2 ho hk hg9⟩;clear ho hk hg9;go_wp2
      try rw[hw5]
      exact⟨HNEW.out,meas_up hd⟩
     ·obtain rfl:d=GL:=(by omega);have hdi:¬((d:Int)<(d:Int)):=(by omega);have HNEW:Hid (∃c₁,c₁≤m∧FO P n (.slice (some ⟨b2,o2,none⟩) (n+1:Nat) c2) fl V w2 wr u9 (.int .i64 ((c:Int)+1)) c₁):=⟨c+1,hc,hFI.fo HG.out (by have:=HGL.out;omega) HB.out⟩;have HFI:Hid (FI P n (.slice (some ⟨b2,o2,none⟩) (n+1:Nat) c2) gs V c w2 wa wr u9 u30 d):=hFI;obtain⟨_,_,rfl,-⟩:=hFI;clear hgmi hgmb hgmn;go_wp2
      try rw[hw4]
      exact⟨HNEW.out,meas_up hc⟩
  ·obtain rfl:c=m:=(by omega);have hki:¬((c:Int)<(c:Int)):=(by omega);go_wp2;refine bodyPost_ret (v:= .slice a6 GL k6) (by simp[results,go_sem,loadVar]) rfl ?_;exact RR.out (.inl (by first|rfl|trivial))
end Go.Proofs.YtffdemplaodbcaaDoor
namespace Go.Proofs.YtffdemplaodbcaaDoor
open Go Go.Proofs Go.RowKit Go.Rad
def IterD {γ:Type} (gf:Nat) (lb:Array Value) (Y:γ→Array Value→γ→(Nat→Prop)→(Nat→Prop)→World→Prop) (Fin:γ→Prop) (s0:γ) (O0 Rd:Nat→Prop) (W:World):Prop:=
 ∀(l:Nat) (J:γ→(Nat→Prop)→World→Prop) (X:(Nat→Prop)→World→Prop),
  (∀s O O' A C,J s O A→Kept O A C→(∀k,O' k→O k∨A.heap.size≤k)→J s O' C)→
  (∀O O' A C,X O A→Kept O A C→(∀k,O' k→O k∨A.heap.size≤k)→X O' C)→
  (∀m s args s' O O1 A,J s O A→(∀k,O k→k<A.heap.size)→(∀k,O1 k→O k)→Y s args s' O O1 A→YieldAt Fence.wide m Tryd.prog l args A fun e W'=>Kept (fun k=>¬O k∧¬Rd k) A W'∧((e= .returned (.bool true)∧J s' O1 W')∨(e= .returned (.bool false)∧X O1 W')))→
  J s0 O0 W→
  Calls Tryd.prog gf (#[.func (.yield l) #[] #[]]++lb) W fun e W'=>(∃u,e= .returned u)∧((∃s O,Fin s∧J s O W')∨∃O,X O W')
theorem wp_rangeM {γ:Type} {g:Operand} {ps:Array Tmp} {assign body:Code} {Q:Exit→Act→World→Prop} {a:Act} {w:World} {gf:Nat} {lb:Array Value} (hg:a.eval g= .func (.func gf) #[] lb)
 (eg:∀args w,(callFunc gf args).run Tryd.prog w= .ok (.enter gf args) w) {Y:γ→Array Value→γ→(Nat→Prop)→(Nat→Prop)→World→Prop} {Fin:γ→Prop} {s0:γ} {O0 Rd:Nat→Prop}
 (hps:∀s args s' O O1 A,Y s args s' O O1 A→args.size=ps.size) (hO0:∀k,O0 k→k<w.heap.size) (hRd:∀k,Rd k→k<w.heap.size)
 (hYs:∀s args s' O O1 A l o,Y s args s' O O1 A→(∃r,A.heap[l]? =some (.loop r))→Y s args s' O O1 (A.putObj l o))
 (hIt:∀W,Below w.heap.size w W→IterD gf lb Y Fin s0 O0 Rd W)
 (J:γ→(Nat→Prop)→World→Prop) (X:(Nat→Prop)→World→Prop)
 (hJ:∀s O O' A C,J s O A→Kept O A C→(∀k,O' k→O k∨A.heap.size≤k)→J s O' C)
 (hX:∀O O' A C,X O A→Kept O A C→(∀k,O' k→O k∨A.heap.size≤k)→X O' C) (h0:J s0 O0 w) (a₁:Array Value→Act)
 (hassign:∀(l m:Nat) s args s' O O1 (A W:World) (K:Act→World→Prop),Y s args s' O O1 A→K (a₁ args) W→
  assign.wpIn (Fence.wide.inRound l) m Tryd.prog (Exit.then K (fun _ _ _=>False)) {tmps:=(ps.zip args).foldl (fun t (p,v)=>t.setIfInBounds p v) a.tmps,defers:=[]} W)
 (hbody:∀(l m:Nat) s args s' (O O1 pO pO1:Nat→Prop) (W:World),J s pO W→(∀k,O k→pO k)→(∀k,pO1 k→pO k)→(∀k,pO1 k→O k→O1 k)→(∀k,pO k→k<W.heap.size)→Y s args s' O O1 W→
  body.wpIn (Fence.wide.inRound l) m Tryd.prog (fun e _ W'=>Kept (fun k=>¬pO k∧¬Rd k) W W'∧((e= .normal∧J s' pO1 W')∨(e= .ret∧X pO1 W'))) (a₁ args) W)
 (hdone:∀s O W,Fin s→J s O W→O w.heap.size→W.heap[w.heap.size]? =some (.deferred (some []))→Q .normal {a with defers:={target:= .collected w.heap.size,args:=#[]}:: a.defers} W)
 (hstop:∀O W,X O W→O w.heap.size→W.heap[w.heap.size]? =some (.deferred (some []))→Q .ret {a with defers:={target:= .collected w.heap.size,args:=#[]}:: a.defers} W):
 (Code.rangeFunc g ps assign body).wp Tryd.prog Q a w:=by
 refine(wpIn_wide (n:=3)).1 (wpIn_rangeFunc ?_);intro fn hfn;obtain⟨rec,hrec⟩:∃rec:LoopState→Option Code→Loop,rec=fun st pe=>{state:=st,pending:=pe,fn,tmps:=a.tmps,params:=ps,assign,body,defers:=w.heap.size} :=⟨_,rfl⟩;obtain⟨W1,hW1⟩:∃W1,(w.alloc (.deferred (some []))).alloc (.loop (rec .ready none))=W1:=⟨_,rfl⟩;have hL1:W1.heap[w.heap.size+1]? =some (.loop (rec .ready none)):=(by rw[←hW1];have:=World.alloc_heap_new (w.alloc (.deferred (some []))) (.loop (rec .ready none));rwa [World.size_alloc]at this);have hK1:W1.heap[w.heap.size]? =some (.deferred (some [])):=(by rw[←hW1];exact(Below.heap_alloc _ _ _ (by simp)).trans (World.alloc_heap_new w _));have hB1:Below w.heap.size w W1:=(by rw[←hW1];exact bel2 _ _ _);obtain⟨h,hh⟩:∃h,h=w.heap.size:=⟨_,rfl⟩;rw[←hh]at hrec hL1 hK1 hB1 hdone hstop;obtain⟨pl,hpl⟩:∃pl:(Nat→Prop)→Nat→Prop,∀O k,pl O k↔(O k∨k=h∨k=h+1):=⟨fun O k=>O k∨k=h∨k=h+1,fun _ _=>Iff.rfl⟩;have hO0':∀k,O0 k→k<h:=fun k hk=>by rw[hh];exact hO0 k hk
 have hr1:¬Rd (h+1):=fun e=>by have:=hRd _ e;omega
 have hJ1:J s0 (pl O0) W1:=hJ s0 O0 (pl O0) w W1 h0 (.of_below (by rw[hh]at hB1;exact hB1)) fun k hk=>by
  rcases(hpl _ _).1 hk with h1|h1
  ·exact .inl h1
  ·exact .inr (by omega)
 have hput:∀ {s O A} (o:Obj),J s (pl O) A→J s (pl O) (A.putObj (h+1) o):=fun {s O A} o hj=>hJ s (pl O) (pl O) A _ hj ((Kept.refl _ A).put o ((hpl _ _).2 (.inr (.inr rfl)))) fun k hk=> .inl hk;have hputX:∀ {O A} (o:Obj),X (pl O) A→X (pl O) (A.putObj (h+1) o):=fun {O A} o hj=>hX (pl O) (pl O) A _ hj ((Kept.refl _ A).put o ((hpl _ _).2 (.inr (.inr rfl)))) fun k hk=> .inl hk;refine⟨h+1,[{target:= .collected h,args:=#[]}],W1,{target:= .fn (.func gf) lb,args:=#[.func (.yield (h+1)) #[] #[]]},W1,gf,
  #[.func (.yield (h+1)) #[] #[]]++lb,W1,?_,?_,?_,?_,fun _=>by decide,?_⟩
 ·rw[←hW1,hrec,hh];exact run_enterLoop_outer _ _ _ _ _
 ·simp only[resolve,hg];simp[go_sem]
 ·intro f' _;trivial
 ·simp[invoke,go_sem,eg]
 ·refine(callsIn_wide.2 (hIt W1 (by rw[hh]at hB1;exact hB1) (h+1)
   (fun s O W=>J s (pl O) W∧W.heap[h+1]? =some (.loop (rec .ready none))∧W.heap[h]? =some (.deferred (some []))∧¬O h∧¬O (h+1))
   (fun O W=>X (pl O) W∧W.heap[h+1]? =some (.loop (rec .done (some .ret)))∧W.heap[h]? =some (.deferred (some []))∧¬O h∧¬O (h+1))
   (fun s O O' A C hj hk ho=>?_) (fun O O' A C hj hk ho=>?_) ?_ ⟨hJ1,hL1,hK1,fun h1=>by have:=hO0' _ h1;omega,fun h1=>by have:=hO0' _ h1;omega⟩)).mono ?_
  ·obtain⟨h1,h2,h3,h4,h5⟩:=hj;have hs:h+1<A.heap.size:=(Array.getElem?_eq_some_iff.1 h2).1;refine⟨hJ s _ _ A C h1 (hk.mono fun k hk=>(hpl _ _).2 (.inl hk)) fun k hk=>?_,hk.obj h2 h5,hk.obj h3 h4,fun h6=>?_,fun h6=>?_⟩
   ·rcases(hpl _ _).1 hk with h6|h6
    ·rcases ho k h6 with h7|h7
     ·exact .inl ((hpl _ _).2 (.inl h7))
     ·exact .inr h7
    ·exact .inl ((hpl _ _).2 (.inr h6))
   ·rcases ho _ h6 with h7|h7
    ·exact h4 h7
    ·omega
   ·rcases ho _ h6 with h7|h7
    ·exact h5 h7
    ·omega
  ·obtain⟨h1,h2,h3,h4,h5⟩:=hj;have hs:h+1<A.heap.size:=(Array.getElem?_eq_some_iff.1 h2).1;refine⟨hX _ _ A C h1 (hk.mono fun k hk=>(hpl _ _).2 (.inl hk)) fun k hk=>?_,hk.obj h2 h5,hk.obj h3 h4,fun h6=>?_,fun h6=>?_⟩
   ·rcases(hpl _ _).1 hk with h6|h6
    ·rcases ho k h6 with h7|h7
     ·exact .inl ((hpl _ _).2 (.inl h7))
     ·exact .inr h7
    ·exact .inl ((hpl _ _).2 (.inr h6))
   ·rcases ho _ h6 with h7|h7
    ·exact h4 h7
    ·omega
   ·rcases ho _ h6 with h7|h7
    ·exact h5 h7
    ·omega
  ·rintro m s args s' O O1 W ⟨hj,hl,hk,hn0,hn1⟩ hOlt hO1 hYA;have hlt:h+1<W.heap.size:=(Array.getElem?_eq_some_iff.1 hl).1;have hy:=run_yield (P:=Tryd.prog) (args:=args) hl (by rw[hrec];exact hps _ _ _ _ _ _ hYA);rw[hrec]at hy;refine⟨fn,_,assign,body,hy,roundIn_of_wpIn hfn (hassign _ m s args s' O O1 W W _ hYA ⟨_,run_beginRound hl (by rw[hrec]),?_⟩)⟩;have hk0:Kept (fun k=>k=h+1) W (W.putObj (h+1) (.loop {rec .ready none with state:= .busy})):=(Kept.refl _ W).put _ rfl;have hl2:(W.putObj (h+1) (.loop {rec .ready none with state:= .busy})).heap[h+1]? =some (.loop {rec .ready none with state:= .busy}):=World.putObj_heap_same hlt;have hk2:(W.putObj (h+1) (.loop {rec .ready none with state:= .busy})).heap[h]? =some (.deferred (some [])):=(World.putObj_heap_other (by omega)).trans hk;refine wpIn_mono (hbody _ m s args s' O O1 (pl O) (pl O1) _ (hput _ hj) (fun k hk=>(hpl _ _).2 (.inl hk)) (fun k hk=>(hpl _ _).2 (((hpl _ _).1 hk).imp (hO1 k) id)) (fun k hk hok=>by
    rcases(hpl _ _).1 hk with h6|h6|h6
    ·exact h6
    ·rw[h6]at hok;exact absurd hok hn0
    ·rw[h6]at hok;exact absurd hok hn1) (fun k hk=>?_) (hYs _ _ _ _ _ _ _ _ hYA ⟨_,hl⟩)) ?_
   ·have e:(W.putObj (h+1) (.loop {rec .ready none with state:= .busy})).heap.size=W.heap.size:=(by simp[World.putObj]);rw[e];rcases(hpl _ _).1 hk with h6|h6
    ·exact hOlt k h6
    ·omega
   ·intro e a3 W3 hp;have fin:∀(jump:Option Code),Kept (fun k=>¬pl O k∧¬Rd k) (W.putObj (h+1) (.loop {rec .ready none with state:= .busy})) W3→
     (Instr.endRound (h+1) jump).run Tryd.prog W3= .ok (.bool jump.isNone) (W3.putObj (h+1) (.loop (rec (if jump.isNone then .ready else .done) jump)))∧
     (W3.putObj (h+1) (.loop (rec (if jump.isNone then .ready else .done) jump))).heap[h+1]? =some (.loop (rec (if jump.isNone then .ready else .done) jump))∧
     (W3.putObj (h+1) (.loop (rec (if jump.isNone then .ready else .done) jump))).heap[h]? =some (.deferred (some []))∧
     Kept (fun k=>¬O k∧¬Rd k) W (W3.putObj (h+1) (.loop (rec (if jump.isNone then .ready else .done) jump))):=fun jump hk3=>by
     have hl3:=hk3.obj hl2 (fun hn=>hn.1 ((hpl _ _).2 (.inr (.inr rfl))));have hd3:=hk3.obj hk2 (fun hn=>hn.1 ((hpl _ _).2 (.inr (.inl rfl))));have:=run_endRound (P:=Tryd.prog) jump hl3;rw[hrec]at this⊢;exact⟨this,World.putObj_heap_same (Array.getElem?_eq_some_iff.1 hl3).1,(World.putObj_heap_other (by omega)).trans hd3,
      ((hk0.mono fun k e=>by rw[e];exact⟨hn1,hr1⟩).trans (hk3.mono fun k hn=>⟨fun ho=>hn.1 ((hpl _ _).2 (.inl ho)),hn.2⟩)).put _ ⟨hn1,hr1⟩⟩
    obtain⟨hkp,⟨rfl,hj3⟩|⟨rfl,hx3⟩⟩:=hp
    ·obtain⟨hr,hl4,hd4,hk4⟩:=fin none hkp;exact⟨_,_,hr,hk4, .inl ⟨rfl,hput _ hj3,hl4,hd4,fun h9=>hn0 (hO1 _ h9),fun h9=>hn1 (hO1 _ h9)⟩⟩
    ·obtain⟨hr,hl4,hd4,hk4⟩:=fin (some .ret) hkp;exact⟨_,_,hr,hk4, .inr ⟨rfl,hputX _ hx3,hl4,hd4,fun h9=>hn0 (hO1 _ h9),fun h9=>hn1 (hO1 _ h9)⟩⟩
  ·rintro e W2 ⟨⟨v,rfl⟩,(⟨s,O,hF,hj,hl,hk,hn0,hn1⟩|⟨O,hx,hl,hk,hn0,hn1⟩)⟩
   ·exact⟨none,_,by have:=run_endLoop (P:=Tryd.prog) hl (by rw[hrec];simp);rw[hrec]at this;exact this,hdone s _ _ hF (hput _ hj) ((hpl _ _).2 (.inr (.inl rfl))) ((World.putObj_heap_other (by omega)).trans hk)⟩
   ·exact⟨some .ret,_,by have:=run_endLoop (P:=Tryd.prog) hl (by rw[hrec];simp);rw[hrec]at this;exact this,wpIn_ret (hstop _ _ (hputX _ hx) ((hpl _ _).2 (.inr (.inl rfl))) ((World.putObj_heap_other (by omega)).trans hk))⟩
end Go.Proofs.YtffdemplaodbcaaDoor
