/- A part of the proof: PY, CP, CS. -/
import Derived.Test.YtffdemplaodbcaaDoorP41
import Derived.Test.YtffdemplaodbcaaDoorP42
import Derived.Test.YtffdemplaodbcaaDoorP40
import Derived.Test.YtffdemplaodbcaaDoorP37
import Derived.Test.YtffdemplaodbcaaDoorP22
set_option linter.all false
namespace Go.Proofs.YtffdemplaodbcaaDoor
open Go Go.Proofs Go.RowKit Go.Rad
open _root_.Rad (CR Prm PD Dv Irr Vl)
attribute [local go_sem] Oper.semAt_some
structure SV (P:Nat) (KO:Nat→Prop) (b2:Nat) (w:World) (v:Value) (x:List Int):Prop where
 vc:VC w v x
 mon:Mon P x
 len:x.length≤65
 safe:∀b,v.ownBlock=some b→KO b∨b=b2
theorem SV.kept {P b2:Nat} {KO KO' S:Nat→Prop} {w w':World} {v:Value} {x:List Int} (h:SV P KO b2 w v x) (hk:Kept S w w') (hs:∀b,v.ownBlock=some b→¬S b∧(KO b→KO' b)):SV P KO' b2 w' v x:=⟨h.vc.kept hk fun b hb=>(hs b hb).1,h.mon,h.len,fun b hb=>(h.safe b hb).imp (hs b hb).2 id⟩
structure PZ (P:Nat) (q:Int) (bf bk b2:Nat) (J:List (List Int×Nat)→(Nat→Prop)→World→Prop) (E:List (List Int×Nat)) (KO:Nat→Prop) (fv:Value) (w:World):Prop where
 j:J E KO w
 k:FB w bk (.int .i64 P) (.int .i64 q)
 f:F1 w bf fv
 o:KO bf
 lt:∀k,KO k→k<w.heap.size
 nk:¬KO bk
 l2:b2<w.heap.size
def Gr (KO:Nat→Prop) (w w':World) (k:Nat):Prop:=KO k∨(w.heap.size≤k∧k<w'.heap.size)
theorem PZ.grow {P:Nat} {q:Int} {bf bk b2:Nat} {J:List (List Int×Nat)→(Nat→Prop)→World→Prop} {E:List (List Int×Nat)} {KO:Nat→Prop} {fv:Value} {w w':World} (hJ:∀s O O' A C,J s O A→Kept O A C→(∀k,O' k→O k∨A.heap.size≤k)→J s O' C)
 (h:PZ P q bf bk b2 J E KO fv w) (hb:Below w.heap.size w w'):PZ P q bf bk b2 J E (Gr KO w w') fv w':=
 ⟨hJ E KO _ w w' h.j (.of_below hb) fun k hk=>hk.imp id And.left,h.k.below hb,h.f.below hb, .inl h.o,fun k hk=>by
  have:=hb.size;rcases hk with h1|h1
  ·have:=h.lt k h1;omega
  ·exact h1.2,fun hk=>by
  rcases hk with h1|h1
  ·exact h.nk h1
  ·have:=h.k.lt;omega,Nat.lt_of_lt_of_le h.l2 hb.size⟩
theorem SV.grow {P b2:Nat} {KO:Nat→Prop} {w w':World} {v:Value} {x:List Int} (h:SV P KO b2 w v x) (hb:Below w.heap.size w w'):SV P (Gr KO w w') b2 w' v x:=h.kept (S:=fun _=>False) (.of_below hb) fun b _=>⟨fun h=>h, .inl⟩
theorem SV.new {P b2:Nat} {KO:Nat→Prop} {w w':World} {v:Value} {x:List Int} (hV:VC w' v x) (hM:Mon P x) (hl:x.length≤65) (hb:∀b,v.ownBlock=some b→w.heap.size≤b):SV P (Gr KO w w') b2 w' v x:=⟨hV,hM,hl,fun b h=> .inl (.inr ⟨hb b h,hV.lt h⟩)⟩
inductive PO (P:Nat) (q:Int) (bf bk b2:Nat) (J:List (List Int×Nat)→(Nat→Prop)→World→Prop) (f0:List Int) (uv:Value) (w:World):Prop
 |mk (E:List (List Int×Nat)) (KO:Nat→Prop) (fv:Value) (fs:List Int) (u:Nat) (hu:uv= .int .i64 u) (h0:0<u) (hZ:PZ P q bf bk b2 J E KO fv w) (hV:SV P KO b2 w fv fs) (hE:EM P (mq f0) E (cvA P u 1)) (hO:OS (mq f0:Ap P) u (mq fs))
inductive PI (P:Nat) (q:Int) (bf bk b2:Nat) (J:List (List Int×Nat)→(Nat→Prop)→World→Prop) (f0 fs:List Int) (u:Nat) (fv mv ov nv:Value) (w:World):Prop
 |mk (E:List (List Int×Nat)) (KO:Nat→Prop) (mo on:List Int) (k N:Nat) (hn:nv= .int .i64 N) (hN:N=k*u) (hk:0<k) (hZ:PZ P q bf bk b2 J E KO fv w) (hm:SV P KO b2 w mv mo) (ho:SV P KO b2 w ov on) (hE:EM P (mq f0) E (cvA P u k)) (hp:PtS (mq fs:Ap P) (mq on) (mq mo) k)
inductive GQ (wa:World) (P:Nat) (xs:List Int) (v:Value) (wx:World):Prop
 |mk (g z:List Int) (hS:SR wx wa.heap.size v z) (hG:GcdR (P:Int) xs g z) (hg:Nrm (P:Int) (fun j=>((j+1:Nat):Int)*row xs (j+1)) g)
theorem GQ.below {wa wx wy:World} {P:Nat} {xs:List Int} {v:Value} (h:GQ wa P xs v wx) (hb:Below wx.heap.size wx wy):GQ wa P xs v wy:=by obtain⟨g,z,hS,hG,hg⟩:=h;exact⟨g,z,hS.below hb,hG,hg⟩
theorem wpListIn_pass {n:Nat} {p:Program} {ops:Array Oper} {Q:Exit→Act→World→Prop} {a:Act} {w:World} {rest:List Oper} {o:Oper} (hw:Region.wanted o (yielded ops a.tmps)=false) (h:wpListIn Fence.wide n p ops Q rest (a.put o.dst undef) w):wpListIn Fence.wide n p ops Q (o::rest) a w:=by simp only[wpListIn,hw];exact⟨fun _ _=>trivial,h⟩
set_option maxRecDepth 20000 in
set_option maxHeartbeats 4000000 in
theorem parts1_any (P:Nat) (hP:PrC P) (q:Int) (hq:q=(P:Int)*P) (hp2:(P:Int)<2147483648) (W:World) (bf bk b2:Nat) (fv0:Value) (f0:List Int) (hk:FB W bk (.int .i64 P) (.int .i64 q)) (hf:F1 W bf fv0) (hV:VC W fv0 f0) (hM:Mon P f0) (hl:f0.length≤65)
 (hb:∀b,fv0.ownBlock=some b→b=b2) (hb2:b2<W.heap.size) (hkf:bk≠bf) (hf2:bf≠b2):
 IterD 64 #[.pointer (some ⟨bf,0,none⟩), .pointer (some ⟨bk,0,none⟩)] (PaY P (mq f0)) (fun E=>EM P (mq f0:Ap P) E (fun _=>True)) [] (·= bf) (fun k=>k=bk∨k=b2) W:=by
 intro l J XX hJ hX hY h0;have h2p:=hP.two;have HJ:Hid (∀s O O' A C,J s O A→Kept O A C→(∀k,O' k→O k∨A.heap.size≤k)→J s O' C):=hJ;have HY:Hid (∀m s args s' O O1 A,J s O A→(∀k,O k→k<A.heap.size)→(∀k,O1 k→O k)→PaY P (mq f0) s args s' O O1 A→YieldAt Fence.wide m Tryd.prog l args A fun e W'=>Kept (fun k=>¬O k∧¬(k=bk∨k=b2)) A W'∧((e= .returned (.bool true)∧J s' O1 W')∨(e= .returned (.bool false)∧XX O1 W'))):=hY;have HS0:Hid (PO P q bf bk b2 J f0 (.int .i64 1) W):= .mk [] (·= bf) fv0 f0 1 rfl (by omega) ⟨h0,hk,hf,rfl,fun k h=>by rw[h];exact hf.lt,fun h=>hkf h,hb2⟩ ⟨hV,hM,hl,fun b h=> .inr (hb b h)⟩ (EM.start _) (OS.start _);have HM:Hid (Mon P f0∧f0.length≤65):=⟨hM,hl⟩;have HNE:Hid (bk≠bf∧bf≠b2):=⟨hkf,hf2⟩;have HQ:Hid (q=(P:Int)*P):=hq;clear hJ hX hY h0 hk hf hV hM hl hb hb2 hkf hf2 hq;go_enter Tryd.func64,Tryd.ntmps64;go_wp2;go_loopw [4] (fun uv wr=>PO P q bf bk b2 J f0 uv wr) (fun uv _=>65-(Lib.intOf uv).toNat)
 case atStart=>exact HS0.out
 case round=>
  rename World=>wa
  obtain⟨E,KO,fv,fs,u,rfl,hu0,hZ,hSV,hEM,hOS⟩:=hrel;have HZ:Hid (PZ P q bf bk b2 J E KO fv wa):=hZ;have HSV:Hid (SV P KO b2 wa fv fs):=hSV;have HEM:Hid (EM P (mq f0) E (cvA P u 1)):=hEM;have HOS:Hid (OS (mq f0:Ap P) u (mq fs)):=hOS;obtain⟨lf,cf,zf⟩:=hZ.f;obtain⟨bF,oF,cF,hfv,-⟩:=hSV.vc;obtain⟨FL,hFL⟩:∃L,L=fs.length:=⟨_,rfl⟩;rw[←hFL]at hfv;subst hfv;have HFL:Hid (FL=fs.length∧0<fs.length∧fs.length≤65):=⟨hFL,hSV.mon.pos,hSV.len⟩;clear hZ hSV hEM hOS hFL;by_cases hfl:1<FL
  ·have hfi:(1:Int)<(FL:Int):=(by omega);have hu64:u≤64:=(by have h1:=HOS.out.small hP (HM.out.1.ne hP) (HSV.out.mon.ne hP) (by rw[HSV.out.mon.sz];have:=HFL.out;omega);rw[HM.out.1.sz]at h1;have:=HM.out.2;omega);obtain⟨lk,k40,k41,z4,z5⟩:=HZ.out.k;go_upto_region 3 with fail;refine wp_drawn mixed [⟨17,[],[],[2]⟩,⟨18,[],[],[1]⟩,⟨19,[],[],[2]⟩,⟨20,[],[],[1]⟩,⟨21,[2,3],[2,3],[]⟩,⟨22,[0,1,4],[0,1,2,3,4],[]⟩] [] (by kernel_rfl) 60 rfl (by kernel_rfl) (fun (i:Nat) (v:Value) (wq:World)=>match i with|0=>v= .agg #[.int .i64 ((P:Int)), .int .i64 (q)]|1=>v= .slice (some ⟨bF,oF,none⟩) (FL) (cF)|2=>v= .agg #[.int .i64 ((P:Int)), .int .i64 (q)]|3=>v= .slice (some ⟨bF,oF,none⟩) (FL) (cF)|4=>DRQ wa P fs v wq|5=>GQ wa P fs v wq|_=>True) (fun _ wq=>Below wa.heap.size wa wq) (fun wx wy=>Below wx.heap.size wx wy) (Below.refl _ _).drew (fun i v wx wy h hx=>match i,h with|0,h=>h|1,h=>h|2,h=>h|3,h=>h|4,h=>h.below hx|5,h=>h.below hx|n+6,_=>trivial) ?_ ?_
   ·intro i o r ho hr L fr wx hW hL hpr hds hdef hpre hfree;clear hL hpr hds hdef
    match i,ho,hr with
    |0,ho,hr=>?_
    |1,ho,hr=>?_
    |2,ho,hr=>?_
    |3,ho,hr=>?_
    |4,ho,hr=>obtain rfl:=Option.some.inj ho;obtain rfl:=Option.some.inj hr;have e2:=ev_tmp (show fr.eval (.tmp 19)= .agg #[.int .i64 ((P:Int)), .int .i64 (q)] from hpre 2 (by decide) _ rfl);have e3:=ev_tmp (show fr.eval (.tmp 20)= .slice (some ⟨bF,oF,none⟩) (FL) (cF)from hpre 3 (by decide) _ rfl);clear hpre hfree;refine stpK rfl rfl fun K hK=>?_;go_simp;refine(derivative_any wx P q _ fs (fs.length-1) (HSV.out.vc.below hW).vw HQ.out ⟨h2p,hp2⟩ HSV.out.mon.isP.bd (by have:=HFL.out;omega) (by have:=HFL.out;omega)).mono ?_;rintro e wy ⟨v1,g,rfl,hSg,hbg,hNg⟩;exact hK _ _ ⟨(.mk g (hSg.mono hW.size) hNg),hW.trans (hbg.mono hW.size),hbg,fun h=>(List.not_mem_nil h).elim⟩
    |5,ho,hr=>obtain rfl:=Option.some.inj ho;obtain rfl:=Option.some.inj hr;have e0:=ev_tmp (show fr.eval (.tmp 17)= .agg #[.int .i64 ((P:Int)), .int .i64 (q)] from hpre 0 (by decide) _ rfl);have e1:=ev_tmp (show fr.eval (.tmp 18)= .slice (some ⟨bF,oF,none⟩) (FL) (cF)from hpre 1 (by decide) _ rfl);obtain⟨u4,q4⟩:∃u,fr.eval (.tmp 21)=u:=⟨_,rfl⟩;have p4:DRQ wa P fs u4 wx:=(by rw[←q4];exact hpre 4 (by decide) _ rfl);have e4:=ev_tmp q4;clear q4;clear hpre hfree;refine stpK rfl rfl fun K hK=>?_;obtain⟨g,hSg,hNg⟩:=p4;go_simp;refine(gcd_any wx P q _ _ fs g (HSV.out.vc.below hW).vw hSg.view HQ.out hP.pr HSV.out.mon.isP (hNg.isP (by omega)) (by have:=HFL.out;omega) (drq_len hNg (n:=fs.length-1) (by have:=HFL.out;omega) (by have:=HFL.out;omega))).mono ?_;rintro e wy ⟨v1,z,rfl,hSz,hbz,hGz⟩;exact hK _ _ ⟨(.mk g z (hSz.mono hW.size) hGz hNg),hW.trans (hbz.mono hW.size),hbz,fun h=>(List.not_mem_nil h).elim⟩
    |n+6,ho,hr=>exact absurd hr (by simp)
    all_goals
     obtain rfl:=Option.some.inj ho;obtain rfl:=Option.some.inj hr;simp only[List.mem_cons,List.not_mem_nil,or_false,false_imp_iff,implies_true,forall_eq_or_imp,forall_eq,List.getElem?_cons_zero,List.getElem?_cons_succ,Option.some.injEq,forall_eq',evt]at hpre hfree;have c0:=(hW.cell (p:=⟨bk,0,none⟩) lk).trans k40;have c1:=(hW.cell (p:=⟨bk,1,none⟩) lk).trans k41;have c2:=(hW.cell (p:=⟨bf,0,none⟩) lf).trans cf;refine stpK rfl rfl fun K hK=>?_ <;> (go_simp;exact hK _ _ ⟨rfl,hW,Below.refl _ _,fun h=>(List.not_mem_nil h).elim⟩)
   ·intro vs wm hvs hW1 hap0;clear hap0;have e0:vs 0= .agg #[.int .i64 ((P:Int)), .int .i64 (q)]:=hvs 0 (by decide);have e1:vs 1= .slice (some ⟨bF,oF,none⟩) (FL) (cF):=hvs 1 (by decide);have e2:vs 2= .agg #[.int .i64 ((P:Int)), .int .i64 (q)]:=hvs 2 (by decide);have e3:vs 3= .slice (some ⟨bF,oF,none⟩) (FL) (cF):=hvs 3 (by decide);obtain⟨u4,e4⟩:∃u,vs 4=u:=⟨_,rfl⟩;have p4:DRQ wa P fs u4 wm:=(by rw[←e4];exact hvs 4 (by decide));obtain⟨u5,e5⟩:∃u,vs 5=u:=⟨_,rfl⟩;have p5:GQ wa P fs u5 wm:=(by rw[←e5];exact hvs 5 (by decide));simp only[puts,Nat.reduceAdd,e0,e1,e2,e3,e4,e5,Act.put,List.setIfInBounds_toArray,List.set_cons_zero,List.set_cons_succ,List.drop_succ_cons,List.drop_zero,List.length_cons,List.length_nil];clear hvs e0 e1 e2 e3 e4 e5;obtain⟨d3,m3,hS3,hG3,hd3⟩:=p5;have hM3:Mon P m3:=hG3.mon hP (.inl HFL.out.2.1);obtain⟨⟨c3,hx3⟩,-⟩:=hG3.dv;have HV3:Hid (VC wm u5 m3∧∀b,u5.ownBlock=some b→wa.heap.size≤b):=hS3.vc hM3.pos;have hl3:m3.length≤fs.length:=by
     have h1:=hP.pd.dv_sz (show Dv (mq m3:Ap P) (mq fs)from⟨c3,hx3⟩) (HSV.out.mon.ne hP)
     rwa [hM3.sz,HSV.out.mon.sz]at h1
    have HM3:Hid (Mon P m3∧m3.length≤65∧(mq fs:Ap P)=mq m3*c3∧GcdR (P:Int) fs d3 m3∧(mq d3:Ap P)=Dr (mq fs)):=⟨hM3,by have:=HFL.out;omega,hx3,hG3,der_nrm hd3⟩;have HBm:Hid (Below wa.heap.size wa wm):=hW1;clear hS3 hG3 hd3 hM3 hx3 hl3 hW1 lf cf zf lk k40 k41 z4 z5;obtain⟨lf,cf,zf⟩:=HZ.out.f.below HBm.out;obtain⟨lk,k40,k41,z4,z5⟩:=HZ.out.k.below HBm.out;have CQ:=quo_vc P hP q HQ.out hp2 wm (.slice (some ⟨bF,oF,none⟩) FL cF) u5 fs m3 (HSV.out.vc.below HBm.out) HV3.out.1 HSV.out.mon HM3.out.1 (by have:=HFL.out;omega) (by have:=HM3.out.2.1;omega) HM3.out.2.2.1;go_wp2_with (go_at_call 65;fail);refine CQ.mono ?_;rintro e w4 ⟨u6',on,rfl,hV4,hM4,hc4,hl4,hb4,hB4⟩;have HI0:Hid (PI P q bf bk b2 J f0 fs u (.slice (some ⟨bF,oF,none⟩) FL cF) u5 u6' (.int .i64 u) w4):=(by have hz:=(HZ.out.grow HJ.out HBm.out).grow HJ.out hB4;have hm:=(SV.new (KO:=KO) (b2:=b2) HV3.out.1 HM3.out.1 HM3.out.2.1 HV3.out.2).grow hB4;exact .mk E _ m3 on 1 u rfl (by rw[Nat.one_mul]) (by omega) hz hm (SV.new hV4 hM4 (by have:=HFL.out;have:=HM3.out.1.pos;omega) hb4) HEM.out (PtS.start hP HM3.out.2.2.2.2 HM3.out.2.2.2.1 (by rw[HM3.out.2.2.1,hc4,CR.mul_comm])));have HFS:Hid (Mon P fs∧fs.length≤65∧2≤fs.length):=⟨HSV.out.mon,HSV.out.len,by have:=HFL.out;omega⟩;clear lf cf zf lk k40 k41 z4 z5 hV4 hM4 hc4 hl4 hb4 hB4 CQ;go_wp2;go_loopw [5,6,7] (fun mv ov nv wx=>PI P q bf bk b2 J f0 fs u (.slice (some ⟨bF,oF,none⟩) FL cF) mv ov nv wx) (fun _ _ nv _=>65-(Lib.intOf nv).toNat)
    case atStart=>exact HI0.out
    case round=>
     rename World=>wb
     obtain⟨E1,KO1,mo,on,k,N,rfl,hN,hk,hZ,hm,ho,hE,hp⟩:=hrel;have HZ1:Hid (PZ P q bf bk b2 J E1 KO1 (.slice (some ⟨bF,oF,none⟩) FL cF) wb):=hZ;have HM1:Hid (SV P KO1 b2 wb u5 mo):=hm;have HE1:Hid (EM P (mq f0) E1 (cvA P u k)):=hE;have HP1:Hid (PtS (mq fs:Ap P) (mq on) (mq mo) k):=hp;have HNK:Hid (N=k*u∧0<k):=⟨hN,hk⟩;obtain⟨bo,oo,co,hov,-⟩:=ho.vc;obtain⟨OL,hOL⟩:∃L,L=on.length:=⟨_,rfl⟩;rw[←hOL]at hov;subst hov;have HO1:Hid (SV P KO1 b2 wb (.slice (some ⟨bo,oo,none⟩) OL co) on):=ho;have HOL:Hid (OL=on.length∧0<on.length):=⟨hOL,ho.mon.pos⟩;obtain⟨lf,cf,zf⟩:=HZ1.out.f;obtain⟨lk,k40,k41,z4,z5⟩:=HZ1.out.k;clear hZ hm hE hp hN hk ho hOL;by_cases hol:1<OL
     ·have hoi:(1:Int)<(OL:Int):=(by omega);have hN64:N≤64:=(by have h1:=HP1.out.small hP HOS.out (HM.out.1.ne hP) (HFS.out.1.ne hP) (by rw[HO1.out.mon.sz];have:=HOL.out;omega);rw[HM.out.1.sz,←HNK.out.1]at h1;have:=HM.out.2;omega);have hw7:wrap64 ((N:Int)+(u:Int))=(N:Int)+(u:Int):=wrap_in (by omega) (by omega);have CG:=gcd_any wb (P:Int) q (.slice (some ⟨bo,oo,none⟩) OL co) u5 on mo HO1.out.vc.vw HM1.out.vc.vw HQ.out hP.pr HO1.out.mon.isP HM1.out.mon.isP (by have:=HO1.out.len;omega) (by have:=HM1.out.len;omega);go_wp2_with (go_at_call 42;fail);refine CG.mono ?_;rintro e w5 ⟨u8',ag,rfl,hS5,hB5,hG5⟩;have hM5:Mon P ag:=hG5.mon hP (.inl HO1.out.mon.pos);obtain⟨⟨c5,hx5⟩,⟨d5,hy5⟩⟩:=hG5.dv;obtain⟨hV5,hb5⟩:=hS5.vc hM5.pos;have hl5:ag.length≤on.length:=by
       have h1:=hP.pd.dv_sz (show Dv (mq ag:Ap P) (mq on)from⟨c5,hx5⟩) (HO1.out.mon.ne hP)
       rwa [hM5.sz,HO1.out.mon.sz]at h1
      have HZ5:Hid (PZ P q bf bk b2 J E1 (Gr KO1 wb w5) (.slice (some ⟨bF,oF,none⟩) FL cF) w5):=HZ1.out.grow HJ.out hB5;have HM5:Hid (SV P (Gr KO1 wb w5) b2 w5 u5 mo):=HM1.out.grow hB5;have HO5:Hid (SV P (Gr KO1 wb w5) b2 w5 (.slice (some ⟨bo,oo,none⟩) OL co) on):=HO1.out.grow hB5;have HA5:Hid (SV P (Gr KO1 wb w5) b2 w5 u8' ag):=SV.new hV5 hM5 (by have:=HO1.out.len;omega) hb5;have HX5:Hid ((mq on:Ap P)=mq ag*c5∧(mq mo:Ap P)=mq ag*d5∧GcdR (P:Int) on mo ag):=⟨hx5,hy5,hG5⟩;clear lf cf zf lk k40 k41 z4 z5 hS5 hB5 hG5 hM5 hx5 hy5 hV5 hb5 hl5 CG;obtain⟨KO5,hKO5⟩:∃K,K=Gr KO1 wb w5:=⟨_,rfl⟩;rw[←hKO5]at HZ5 HM5 HO5 HA5;have HZ1L:Hid (b2<w5.heap.size):=HZ5.out.l2;clear hKO5 HZ1 HM1 HO1;obtain⟨lk,k40,k41,z4,z5⟩:=HZ5.out.k;have CQ:=quo_vc P hP q HQ.out hp2 w5 (.slice (some ⟨bo,oo,none⟩) OL co) u8' on ag HO5.out.vc HA5.out.vc HO5.out.mon HA5.out.mon (by have:=HO5.out.len;omega) (by have:=HA5.out.len;omega) HX5.out.1;go_wp2_with (go_at_call 65;fail);refine CQ.mono ?_;rintro e w6 ⟨u9',part,rfl,hV6,hM6,hc6,hl6,hb6,hB6⟩;have HZ6:Hid (PZ P q bf bk b2 J E1 (Gr KO5 w5 w6) (.slice (some ⟨bF,oF,none⟩) FL cF) w6):=HZ5.out.grow HJ.out hB6;have HM6:Hid (SV P (Gr KO5 w5 w6) b2 w6 u5 mo):=HM5.out.grow hB6;have HA6:Hid (SV P (Gr KO5 w5 w6) b2 w6 u8' ag):=HA5.out.grow hB6;have HQ6:Hid (SV P (Gr KO5 w5 w6) b2 w6 u9' part):=SV.new hV6 hM6 (by have:=HO5.out.len;have:=HA5.out.mon.pos;omega) hb6;have HST:Hid (PtS (mq fs:Ap P) (mq ag) d5 (k+1)∧∀g,Pm P g→∀e,Vl g (mq fs:Ap P) e→Vl g (mq part:Ap P) (if ¬P ∣ e∧e=k then 1 else 0)):=HP1.out.step hP HX5.out.2.2 (by rw[HX5.out.1,hc6,CR.mul_comm]) (by rw[HX5.out.2.1,CR.mul_comm]);have HBP:Hid (w5.heap.size≤w6.heap.size∧(∀b,u9'.ownBlock=some b→w5.heap.size≤b)∧(∀b,u8'.ownBlock=some b→b<w5.heap.size)∧(∀b,u5.ownBlock=some b→b<w5.heap.size)∧bf<w5.heap.size):=⟨hB6.size,hb6,fun b hb=>HA5.out.vc.lt hb,fun b hb=>HM5.out.vc.lt hb,HZ5.out.f.lt⟩;obtain⟨bp,op,cp,hpv,-⟩:=hV6;obtain⟨PL,hPL⟩:∃L,L=part.length:=⟨_,rfl⟩;rw[←hPL]at hpv;subst hpv;have HPL:Hid (PL=part.length):=hPL;obtain⟨KO6,hKO6⟩:∃K,K=Gr KO5 w5 w6:=⟨_,rfl⟩;rw[←hKO6]at HZ6 HM6 HA6 HQ6;clear lk k40 k41 z4 z5 hM6 hc6 hl6 hb6 hB6 CQ hPL hKO6 HZ5 HM5 HO5 HA5;by_cases hpl:1<PL
      ·have hpi:(1:Int)<(PL:Int):=(by omega);have hpd:decide ((1:Int)<(PL:Int))=true:=decide_eq_true hpi;have HE7:Hid (EM P (mq f0) (E1++[(part,N)]) (cvA P u (k+1))):=(by have h:=HE1.out.add hP hu0 HNK.out.2 (HM.out.1.ne hP) HOS.out HST.out.2 HQ6.out.mon (by have:=HPL.out;omega);rw[←HNK.out.1]at h;exact h);obtain⟨KO7,hKO7⟩:∃K:Nat→Prop,∀k,K k↔(KO6 k∧k≠bp):=⟨fun k=>KO6 k∧k≠bp,fun _=>Iff.rfl⟩;have hbp:w5.heap.size≤bp:=HBP.out.2.1 bp rfl;have hbp2:bp<w6.heap.size:=HQ6.out.vc.lt rfl;have HYR:Hid (YieldAt Fence.wide 2 Tryd.prog l #[.slice (some ⟨bp,op,none⟩) PL cp, .int .i64 N] w6 fun e W'=>Kept (fun k=>¬KO6 k∧¬(k=bk∨k=b2)) w6 W'∧((e= .returned (.bool true)∧J (E1++[(part,N)]) KO7 W')∨(e= .returned (.bool false)∧XX KO7 W'))):=by
        refine HY.out 2 E1 _ (E1++[(part,N)]) KO6 KO7 w6 HZ6.out.j HZ6.out.lt (fun k hk=>((hKO7 k).1 hk).1) ?_;refine⟨_,part,N,bp,rfl,rfl,HQ6.out.vc,HQ6.out.mon,by have:=HPL.out;omega,HQ6.out.len,HE7.out.sqf hP (List.mem_append_right _ (List.mem_singleton.2 rfl)),hN64,rfl,?_,fun h=>((hKO7 bp).1 h).2 rfl,_,HE7.out⟩;rcases HQ6.out.safe bp rfl with h|h
        ·exact h
        ·have:=HZ1L.out;omega
       have HK7:Hid (∀k,KO7 k↔(KO6 k∧k≠bp)):=hKO7;have HBB:Hid (w5.heap.size≤bp∧bp<w6.heap.size):=⟨hbp,hbp2⟩;obtain⟨fn,tmps,assign,body,hy,hR⟩:=HYR.out;clear hKO7 hbp hbp2 hpl;go_upto_region 10 with fail;refine(wpIn_wide (n:=3)).1 ?_
       gi_wp2
       refine hR.mono ?_;rintro e w7 ⟨hk7,⟨rfl,hJ7⟩|⟨rfl,hX7⟩⟩
       ·have hS:∀b,b<w5.heap.size→(KO6 b∨b=b2)→¬(¬KO6 b∧¬(b=bk∨b=b2))∧(KO6 b→KO7 b):=fun b hb h=>⟨fun hn=>by
         rcases h with h|h
         ·exact hn.1 h
         ·exact hn.2 (.inr h),fun h=>(HK7.out b).2 ⟨h,by have:=HBB.out;omega⟩⟩
        have HZ7:Hid (PZ P q bf bk b2 J (E1++[(part,N)]) KO7 (.slice (some ⟨bF,oF,none⟩) FL cF) w7):=
         ⟨hJ7,HZ6.out.k.kept hk7 fun h=>h.2 (.inl rfl),HZ6.out.f.kept hk7 fun h=>h.1 HZ6.out.o,(HK7.out bf).2 ⟨HZ6.out.o,by have:=HBB.out;have:=HBP.out.2.2.2.2;omega⟩,
          fun k hk=>Nat.lt_of_lt_of_le (HZ6.out.lt k ((HK7.out k).1 hk).1) hk7.size,fun h=>HZ6.out.nk ((HK7.out bk).1 h).1,Nat.lt_of_lt_of_le HZ6.out.l2 hk7.size⟩
        have HA7:Hid (SV P KO7 b2 w7 u8' ag):=HA6.out.kept hk7 fun b hb=>hS b (HBP.out.2.2.1 b hb) (HA6.out.safe b hb);have HM7:Hid (SV P KO7 b2 w7 u5 mo):=HM6.out.kept hk7 fun b hb=>hS b (HBP.out.2.2.2.1 b hb) (HM6.out.safe b hb);clear hk7 hJ7 hR hy hS
        gi_wp2
        obtain⟨lk,k40,k41,z4,z5⟩:=HZ7.out.k;have CQ7:=quo_vc P hP q HQ.out hp2 w7 u5 u8' mo ag HM7.out.vc HA7.out.vc HM7.out.mon HA7.out.mon (by have:=HM7.out.len;omega) (by have:=HA7.out.len;omega) HX5.out.2.1;go_wp2_with (go_at_call 65;fail);refine CQ7.mono ?_;rintro e w8 ⟨u10',mo',rfl,hV8,hM8,hc8,hl8,hb8,hB8⟩;have HNEW:Hid (PI P q bf bk b2 J f0 fs u (.slice (some ⟨bF,oF,none⟩) FL cF) u10' u8' (.int .i64 ((N:Int)+(u:Int))) w8):= .mk (E1++[(part,N)]) _ mo' ag (k+1) (N+u) (by rw[Int.natCast_add]) (by rw[HNK.out.1,Nat.succ_mul]) (by omega) (HZ7.out.grow HJ.out hB8) (SV.new hV8 hM8 (by have:=HM7.out.len;have:=HA7.out.mon.pos;omega) hb8) (HA7.out.grow hB8) HE7.out (by rw[hc8];exact HST.out.1);clear lk k40 k41 z4 z5 hV8 hM8 hc8 hl8 hb8 hB8 CQ7;go_wp2
        try rw[hw7]
        exact⟨HNEW.out,by simp only[Lib.intOf];omega⟩
       ·have HX7:Hid (XX KO7 w7):=hX7;clear hk7 hX7 hR hy
        gi_wp2
        go_wp2;refine bodyPost_ret (results_none rfl _ _ _) rfl ?_;exact⟨⟨_,rfl⟩, .inr ⟨KO7,HX7.out⟩⟩
      ·have hpi:¬((1:Int)<(PL:Int)):=(by omega);have HE7:Hid (EM P (mq f0) E1 (cvA P u (k+1))):=HE1.out.skip hP hu0 HOS.out HST.out.2 (by rw[HQ6.out.mon.sz];have:=HPL.out;omega);have HZ7:Hid (PZ P q bf bk b2 J E1 KO6 (.slice (some ⟨bF,oF,none⟩) FL cF) w6):=HZ6.out;have HA7:Hid (SV P KO6 b2 w6 u8' ag):=HA6.out;have HM7:Hid (SV P KO6 b2 w6 u5 mo):=HM6.out;have hpd:decide ((1:Int)<(PL:Int))=false:=decide_eq_false hpi;have hpd2:decide (1<PL)=false:=decide_eq_false hpl;clear hpi hpl;go_upto_region 10 with fail;refine(wpIn_wide (n:=3)).1 ?_
       gi_wp2_with (refine wpListIn_pass (by rfl) ?_)
       obtain⟨lk,k40,k41,z4,z5⟩:=HZ7.out.k;have CQ7:=quo_vc P hP q HQ.out hp2 w6 u5 u8' mo ag HM7.out.vc HA7.out.vc HM7.out.mon HA7.out.mon (by have:=HM7.out.len;omega) (by have:=HA7.out.len;omega) HX5.out.2.1;go_wp2_with (go_at_call 65;fail);refine CQ7.mono ?_;rintro e w8 ⟨u10',mo',rfl,hV8,hM8,hc8,hl8,hb8,hB8⟩;have HNEW:Hid (PI P q bf bk b2 J f0 fs u (.slice (some ⟨bF,oF,none⟩) FL cF) u10' u8' (.int .i64 ((N:Int)+(u:Int))) w8):= .mk E1 _ mo' ag (k+1) (N+u) (by rw[Int.natCast_add]) (by rw[HNK.out.1,Nat.succ_mul]) (by omega) (HZ7.out.grow HJ.out hB8) (SV.new hV8 hM8 (by have:=HM7.out.len;have:=HA7.out.mon.pos;omega) hb8) (HA7.out.grow hB8) HE7.out (by rw[hc8];exact HST.out.1);clear lk k40 k41 z4 z5 hV8 hM8 hc8 hl8 hb8 hB8 CQ7;go_wp2
       try rw[hw7]
       exact⟨HNEW.out,by simp only[Lib.intOf];omega⟩
     ·have hoi:¬((1:Int)<(OL:Int)):=(by omega);have hstop:=HP1.out.stop hP (by rw[HO1.out.mon.sz];have:=HOL.out;omega);have HSTP:Hid ((∀g,Pm P g→∀e,Vl g (mq fs:Ap P) e→¬P ∣ e→e<k)∧∀g,Pm P g→∀e,Vl g (mq fs:Ap P) e→Vl g (mq mo:Ap P) (if P ∣ e then e else 0)):=⟨fun g hg e hv=>(hstop g hg e hv).1,fun g hg e hv=>(hstop g hg e hv).2⟩;have CR9:=root_any wb P q u5 mo HM1.out.vc.vw ⟨by omega,by omega⟩ (by have:=HM1.out.len;omega);obtain⟨U2,hU2⟩:∃U,U=u*P:=⟨_,rfl⟩;have hU3:U2≤64*P:=(by rw[hU2];exact Nat.mul_le_mul_right P hu64);have hU4:2*u≤U2:=(by rw[hU2,Nat.mul_comm u P];exact Nat.mul_le_mul_right u (by omega));have hmul:(u:Int)*(P:Int)=(U2:Int):=(by rw[hU2,Int.natCast_mul]);have hw9:IntKind.i64.wrap (U2:Int)=(U2:Int):=wrapI (by omega) (by omega);have hw9b:wrap64 (U2:Int)=(U2:Int):=wrap_in (by omega) (by omega);have HU2:Hid (U2=u*P):=hU2;clear hstop hU2 hU3 lf cf zf;go_wp2_with (go_at_call 66;fail);refine CR9.mono ?_;rintro e w8 ⟨u12,z,rfl,hS8,hB8,hz8,h81,h82⟩;obtain⟨hMz,hmz,hlz⟩:=HM1.out.mon.root hP (fun g hg e hv=>by
       obtain⟨e',he'⟩:=hP.pd.vl hg (HFS.out.1.ne hP);have h1:=hP.pd.vl_uniq hg hv (HSTP.out.2 g hg e' he');rw[h1]
       split
       ·assumption
       ·exact Nat.dvd_zero P) hz8 h81 h82
      obtain⟨hV8,hb8⟩:=hS8.vc hMz.pos;have hzl:z.length≤65:=(by have h1:=HM1.out.len;have h2:z.length-1≤P*(z.length-1):=Nat.le_mul_of_pos_left _ (by omega);omega);have HZ8:Hid (PZ P q bf bk b2 J E1 (Gr KO1 wb w8) (.slice (some ⟨bF,oF,none⟩) FL cF) w8):=HZ1.out.grow HJ.out hB8;have HS8:Hid (SV P (Gr KO1 wb w8) b2 w8 u12 z):=SV.new hV8 hMz hzl hb8;have HB8:Hid (∀b,u12.ownBlock=some b→b≠bf):=fun b hb h=>by have:=hb8 b hb;have:=HZ1.out.f.lt;omega
      have HE8:Hid (EM P (mq f0) E1 (cvA P U2 1)):=(by have h:=HE1.out.stage hP hu0 HOS.out HSTP.out.1;rw[←HU2.out]at h;exact h);have HO8:Hid (OS (mq f0:Ap P) U2 (mq z)):=(by have h:=HOS.out.next hP hu0 HSTP.out.2 hmz (hMz.ne hP);rw[←HU2.out]at h;exact h);obtain⟨bz,oz,cz,hzv,-⟩:=hV8;obtain⟨ZL,hZL⟩:∃L,L=z.length:=⟨_,rfl⟩;rw[←hZL]at hzv;subst hzv;clear hZL hb8 hzl hS8 hB8 hz8 h81 h82 hMz hmz hlz CR9 lk k40 k41 z4 z5;obtain⟨lk,k40,k41,z4,z5⟩:=HZ8.out.k;obtain⟨lf,cf,zf⟩:=HZ8.out.f;have HNEW:Hid (PO P q bf bk b2 J f0 (.int .i64 (U2:Int)) (w8.setCell ⟨bf,0,none⟩ (.slice (some ⟨bz,oz,none⟩) ZL cz))):=by
       have hk9:Kept (fun k=>k=bf) w8 (w8.setCell ⟨bf,0,none⟩ (.slice (some ⟨bz,oz,none⟩) ZL cz)):=Kept.set (S:=fun k=>k=bf) (Kept.refl _ _) rfl _;refine .mk E1 (Gr KO1 wb w8) _ z U2 rfl (by omega) ⟨HJ.out E1 _ _ w8 _ HZ8.out.j (hk9.mono fun k hk=>by rw[hk];exact HZ8.out.o) fun k hk=> .inl hk,HZ8.out.k.kept hk9 fun h=>HNE.out.1 h,HZ8.out.f.set _,HZ8.out.o,fun k hk=>Nat.lt_of_lt_of_le (HZ8.out.lt k hk) hk9.size,HZ8.out.nk,Nat.lt_of_lt_of_le HZ8.out.l2 hk9.size⟩
        (HS8.out.kept hk9 fun b hb=>⟨HB8.out b hb,fun h=>h⟩) HE8.out HO8.out
      go_upto_region 2 with fail
      refine wp_world (fun w9=>PO P q bf bk b2 J f0 (.int .i64 (U2:Int)) w9∧FB w9 bk (.int .i64 P) (.int .i64 q)) ⟨HNEW.out,HZ8.out.k.kept (Kept.set (S:=fun k=>k=bf) (Kept.refl _ _) rfl _) fun h=>HNE.out.1 h⟩ ?_;rintro w9 ⟨hN9,hK9⟩;have HN9:Hid (PO P q bf bk b2 J f0 (.int .i64 (U2:Int)) w9):=hN9;clear hN9 lk k40 k41 z4 z5 lf cf zf;obtain⟨lk,k40,k41,z4,z5⟩:=hK9;go_wp2
      try rw[hmul]
      try rw[hw9]
      try rw[hw9b]
      exact⟨HN9.out,by simp only[Lib.intOf];omega⟩
  ·have hfi:¬((1:Int)<(FL:Int)):=(by omega);have HEND:Hid (EM P (mq f0) E (fun _=>True)):=HEM.out.done hP hu0 HOS.out (by rw[HSV.out.mon.sz];have:=HFL.out;omega);go_wp2;go_end0;exact⟨⟨_,rfl⟩, .inl (by first|exact⟨E,KO,HEND.out,HZ.out.j⟩|exact⟨E,HEND.out,KO,HZ.out.j⟩)⟩
end Go.Proofs.YtffdemplaodbcaaDoor
namespace Go.Proofs.YtffdemplaodbcaaDoor
open Go Go.Proofs Go.RowKit Go.Rad
open _root_.Rad (CR Prm PD Dv Irr Vl)
def fl2 (T:List (Value×Int)):List Value:=T.flatMap fun t=>[t.1, .int .i64 t.2]
theorem fl2_append (T S:List (Value×Int)):fl2 (T++S)=fl2 T++fl2 S:=by simp[fl2]
theorem fl2_len (T:List (Value×Int)):(fl2 T).length=T.length*2:=by
 induction T with
 |nil=>rfl
 |cons t T ih=>show([t.1,Value.int .i64 t.2]++fl2 T).length=_;simp[ih];omega
def OWP (w:World) (B:Nat) (v:Value) (T:List (Value×Int)):Prop:=w.ownsRow B 45 2 v T.length (fl2 T)
theorem OWP.nil (w:World) (B:Nat):OWP w B (.slice none 0 0) []:=⟨rfl, .inl ⟨rfl,rfl⟩⟩
theorem OWP.mono {w:World} {B C:Nat} {v:Value} {T:List (Value×Int)} (h:OWP w B v T) (hc:C≤B):OWP w C v T:=by
 refine⟨h.1,?_⟩;rcases h.2 with h1|⟨g,cap,cur,hv,hb,hr⟩
 ·exact .inl h1
 ·exact .inr ⟨g,cap,cur,hv,by omega,hr⟩
theorem OWP.kept {w w':World} {B:Nat} {v:Value} {T:List (Value×Int)} {S:Nat→Prop} (h:OWP w B v T) (hk:Kept S w w') (hs:∀g,v.ownBlock=some g→¬S g):OWP w' B v T:=by
 refine⟨h.1,?_⟩;rcases h.2 with h1|⟨g,cap,cur,hv,hb,hc,hr⟩
 ·exact .inl h1
 ·exact .inr ⟨g,cap,cur,hv,hb,hk.obj hc (hs g (by rw[hv];rfl)),hr⟩
theorem OWP.at {w:World} {B:Nat} {v:Value} {T:List (Value×Int)} (h:OWP w B v T) {g:Nat} (hg:v.ownBlock=some g):B≤g∧g<w.heap.size:=by
 rcases h.2 with⟨hv,_⟩|⟨g',cap,cur,hv,hb,hc,hr⟩
 ·rw[hv]at hg;cases hg
 ·rw[hv]at hg;obtain rfl:g'=g:=(by simpa [Value.ownBlock]using hg);exact⟨hb,(Array.getElem?_eq_some_iff.1 hc).1⟩
theorem wpListIn_appendPs {F:Fence} {m:Nat} {w:World} {ops:Array Oper} {rest:List Oper} {o:Oper} {a:Act} {Q:Exit→Act→World→Prop} (hgd:o.guard=none) (s x:Operand)
 (ho:o.op= .call {callee:= .builtin .append,args:=#[s,x],argTypes:=#[38,38]}) {B:Nat} {v:Value} {T:List (Value×Int)} (hs:a.eval s=v) (hown:OWP w B v T) (g7 m7:Nat) (u:Value) (n:Int) (hu:u.oneCell'=true)
 (hx:a.eval x= .slice (some ⟨g7,0,none⟩) 1 m7) (hc0:w.cell? ⟨g7,0,none⟩=some u) (hc1:w.cell? ⟨g7,1,none⟩=some (.int .i64 n)) (hl:T.length≤1048576) (hB:B≤w.heap.size)
 (h:∀v' w',OWP w' B v' (T++[(u,n)])→Kept (fun g=>v.ownBlock=some g) w w'→(∀g,v'.ownBlock=some g→v.ownBlock=some g∨w.heap.size≤g)→wpListIn F m Tryd.prog ops Q rest (a.put o.dst v') w'):wpListIn F m Tryd.prog ops Q (o::rest) a w:=by
 obtain⟨i,hi0,hi1⟩:=Option.map_eq_some_iff.1 info45;simp only[Prod.mk.injEq]at hi1;obtain⟨z0,z1,z2⟩:=hi1;obtain⟨g,cap,w',hrun,hrow,hgr,hg,hlt⟩:=run_append_lies (P:=Tryd.prog) w 38 o.type B 45 i (.agg #[.slice none 0 0, .int .i64 0]) 2 32 Tryd.underlying38 hi0 z0 z1 z2 rfl (by omega) v T.length _ hown ⟨g7,0,none⟩ 1 m7 [u, .int .i64 n] rfl
  (fun j u' hj=>by
   match j with
   |0=>simp at hj;subst hj;exact hc0
   |1=>simp at hj;subst hj;exact hc1
   |j+2=>simp at hj) (fun u' hu'=>by
   simp at hu';rcases hu' with rfl|rfl
   ·exact hu
   ·rfl) (by omega) (by unfold maxLen;omega) (by omega) hB w.heap.size rfl
 refine wpListIn_plain hgd fun K hK=>?_;refine⟨by simp[Oper.about,ho,resolve,Target.leads,Sem.run_pure],?_⟩;rw[Oper.semAt_plain F _ _ (by rw[ho];intro c hc';cases hc')];unfold execOp;simp only[ho,resolve,invoke,builtin,Sem.run_bind,Sem.run_pure,Result.andThen_ok,List.map_toArray,List.map_cons,List.map_nil,hs,hx,hrun];refine hK _ _ (h _ _ ?_ ⟨hgr.os,hgr.tape,hgr.output,hgr.size,fun k hk hne=>hgr.block k hk fun e=>hne e.symm⟩ fun g' hg'=>?_)
 ·unfold OWP;rw[List.length_append,fl2_append];exact hrow
 ·obtain rfl:g=g':=(by simpa [Value.ownBlock]using hg');exact hg.imp id fun h=>by omega
end Go.Proofs.YtffdemplaodbcaaDoor
namespace Go.Proofs.YtffdemplaodbcaaDoor
open Go Go.Proofs Go.RowKit Go.Rad
open _root_.Rad (CR Prm PD Dv Irr Vl)
noncomputable def csC (p:Int) (xs:List Int):Int:=if ckC p xs≠0 then ckC p xs else if xs.length=0 then 4 else 0
noncomputable def csA (p:Int) (xs:List Int):Int:=if ckC p xs≠0 then ckA p xs else if xs.length=0 then 0 else ckA p xs
theorem csC_zero {p:Int} {xs:List Int} (h:csC p xs=0):IsF p xs∧0<xs.length:=by
 unfold csC at h
 split at h
 ·rename_i h1;exact absurd h h1
 ·rename_i h1
  split at h
  ·omega
  ·exact⟨ck_isF (Classical.not_not.1 h1),by omega⟩
set_option maxRecDepth 20000 in
set_option maxHeartbeats 4000000 in
theorem checkSome_any (w:World) (v:Value) (xs:List Int) (p:Int) (hv:IL w v xs) (ht:TabB w):Calls Tryd.prog 43 #[v, .int .i64 p] w fun e w'=>e= .returned (Flt (csC p xs) (csA p xs))∧Below w.heap.size w w':=by
 have CC:=fun wx (hb:Below w.heap.size w wx)=>check_any wx v xs p (hv.below hb) (ht.below hb);obtain⟨cB,hcB⟩:∃c,ckC p xs=c:=⟨_,rfl⟩;obtain⟨aB,haB⟩:∃c,ckA p xs=c:=⟨_,rfl⟩;obtain⟨L,hL⟩:∃L,L=xs.length:=⟨_,rfl⟩;have HC:Hid (csC p xs=(if cB≠0 then cB else if L=0 then 4 else 0)∧csA p xs=if cB≠0 then aB else if L=0 then 0 else aB):=(by show _∧_;unfold csC csA;rw[hcB,haB,hL];exact⟨rfl,rfl⟩);simp only[hcB,haB]at CC;have HV:Hid (∃a c,v= .slice a L c):=(by obtain⟨a,b,o,n,c,hv,hn,ha,hc,hm⟩:=hv;exact⟨a,c,by rw[hv,hL,←hn]⟩);clear hv ht hL hcB haB;obtain⟨a,c,rfl⟩:=HV.out;go_enter Tryd.func43,Tryd.ntmps43;go_wp2_with (go_at_call 13;fail);refine(CC _ (bel1 _ _)).mono ?_;rintro e w1 ⟨rfl,hb1⟩;have hB1:Below w.heap.size w w1:=(bel1 w _).trans (hb1.mono (by simp));have hF:=(FB.mk0 w (.int .i64 0) (.int .i64 0) 24).below hb1;have HB1:Hid (Below w.heap.size w w1):=hB1;obtain⟨b4,hb4⟩:∃x,x=w.heap.size:=⟨_,rfl⟩;rw[←hb4]at hF⊢;have HG:Hid (w.heap.size≤b4):=(by show _≤_;omega);have HR:Hid (∀x y X,Below w.heap.size w (((w1.setCell ⟨b4,0,none⟩ (.int .i64 x)).setCell ⟨b4,1,none⟩ (.int .i64 y)).alloc X)):=fun x y X=>(below_set2 HB1.out HG.out _ _).alloc (by have:=HB1.out.size;simp;omega) X;have HRD:Hid (∀x y X,Below w.heap.size w (((w1.alloc X).setCell ⟨b4,0,none⟩ (.int .i64 x)).setCell ⟨b4,1,none⟩ (.int .i64 y))):=fun x y X=>below_set2 (HB1.out.alloc HB1.out.size X) HG.out _ _;clear hb1 hB1 hb4 CC;obtain⟨l4,d0,d1,f0,f1⟩:=hF;by_cases h0:cB=0
 ·subst h0;by_cases hl:L=0
  ·subst hl;have HC2:Hid (csC p xs=4∧csA p xs=0):=HC.out;go_wp2;refine bodyPost_ret (v:=Flt 4 0) (by simp[results,go_sem,loadVar,World.cell?_setCell_same,World.cell?_setCell_other, *];try rfl) rfl ?_;exact⟨by rw[HC2.out.1,HC2.out.2],by first|exact HR.out _ _ _|exact HRD.out _ _ _⟩
  ·have hli:(0:Int)<(L:Int):=(by omega);have HC2:Hid (csC p xs=0∧csA p xs=aB):=(by have h:=HC.out;rw[if_neg (by simp),if_neg hl,if_neg (by simp),if_neg hl]at h;exact h);clear hl;go_wp2;refine bodyPost_ret (v:=Flt 0 aB) (by simp[results,go_sem,loadVar,World.cell?_setCell_same,World.cell?_setCell_other, *];try rfl) rfl ?_;exact⟨by rw[HC2.out.1,HC2.out.2],by first|exact HR.out _ _ _|exact HRD.out _ _ _⟩
 ·have h0b:(cB !=0)=true:=(by simpa using h0);have HC2:Hid (csC p xs=cB∧csA p xs=aB):=(by have h:=HC.out;rw[if_pos h0,if_pos h0]at h;exact h);go_wp2;refine bodyPost_ret (v:=Flt cB aB) (by simp[results,go_sem,loadVar,World.cell?_setCell_same,World.cell?_setCell_other, *];try rfl) rfl ?_;exact⟨by rw[HC2.out.1,HC2.out.2],by first|exact HR.out _ _ _|exact HRD.out _ _ _⟩
end Go.Proofs.YtffdemplaodbcaaDoor
