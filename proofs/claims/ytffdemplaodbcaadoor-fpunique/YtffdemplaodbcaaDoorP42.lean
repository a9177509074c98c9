/- A part of the proof: QMC, MG, ML. -/
import Derived.Test.YtffdemplaodbcaaDoorP16
import Derived.Test.YtffdemplaodbcaaDoorP17
import Derived.Test.YtffdemplaodbcaaDoorP28
import Derived.Test.YtffdemplaodbcaaDoorP23
import Derived.Test.YtffdemplaodbcaaDoorP36
set_option linter.all false
namespace Go.Proofs.YtffdemplaodbcaaDoor
open Go Go.Proofs Go.RowKit Go.Rad
theorem run_append_none (w:World) (ty:TypeId) (a:Option Addr) (c:Nat):(Builtin.append_ #[22,22] ty #[.slice none 0 0, .slice a 0 c]).run Tryd.prog w= .ok (.slice none 0 0) w:=by cases a <;> simp[Builtin.append_,go_sem]
theorem run_copy (w:World) (ty:TypeId) (v:Value) (xs:List Int) (h:IL w v xs):∃v' w',(Builtin.append_ #[22,22] ty #[.slice none 0 0,v]).run Tryd.prog w= .ok v' w'∧SR w' w.heap.size v' xs∧Below w.heap.size w w':=by
 obtain⟨a,b,of,n,c,rfl,hxl,ha,hc,hm⟩:=h;by_cases h0:n=0
 ·subst h0;obtain rfl:=List.length_eq_zero_iff.1 hxl;exact⟨_,w,run_append_none w ty a c, .nil none 0 rfl rfl,Below.refl _ _⟩
 ·obtain rfl:=ha (by omega);obtain⟨i,hi0,hi1⟩:=Option.map_eq_some_iff.1 info3;simp only[Prod.mk.injEq]at hi1;obtain⟨z0,z1,z2⟩:=hi1;obtain⟨g,cap,w',hrun,hrow,hgr,hg,hlt⟩:=run_append_lies (P:=Tryd.prog) w 22 ty w.heap.size 3 i (.int .i64 0) 1 8 Tryd.underlying22 hi0 z0 z1 z2 rfl (by omega) (.slice none 0 0) 0 [] ⟨rfl, .inl ⟨rfl,rfl⟩⟩ ⟨b,of,none⟩ n c (xs.map (Value.int .i64)) (by simp[hxl])
   (fun j u hj=>by
    rw[List.getElem?_map]at hj;have hjm:j<n:=by
     rcases Nat.lt_or_ge j n with h9|h9
     ·exact h9
     ·rw[List.getElem?_eq_none (by omega)]at hj;cases hj
    have h9:=hc j hjm;rw[List.getD_eq_getElem?_getD]at h9;cases h8:xs[j]? with
    |none=>rw[h8]at hj;cases hj
    |some t=>rw[h8]at hj h9;cases hj;rw[Addr.add_lit];exact h9) (fun u hu=>by
    obtain⟨t,_,rfl⟩:=List.mem_map.1 hu;rfl) (by omega) (by unfold maxLen;omega) (by omega) (Nat.le_refl _) w.heap.size rfl
  refine⟨_,w',hrun,sr_of_row ?_,⟨hgr.os,hgr.tape,hgr.output,hgr.size,fun k hk=>hgr.block k (by omega) (fun he=>by cases he)⟩⟩;rw[hxl,Nat.zero_add]at *;simpa using hrow
theorem wpList_copy {w:World} {ops:Array Oper} {rest:List Oper} {o:Oper} {a:Act} {Q:Exit→Act→World→Prop} (hgd:o.guard=none) (s x:Operand)
 (ho:o.op= .call {callee:= .builtin .append,args:=#[s,x],argTypes:=#[22,22]}) (hs:a.eval s= .slice none 0 0) (v:Value) (xs:List Int) (hx:a.eval x=v) (hv:IL w v xs)
 (h:∀v' w',SR w' w.heap.size v' xs→Below w.heap.size w w'→wpList Tryd.prog ops Q rest (a.put o.dst v') w'):wpList Tryd.prog ops Q (o::rest) a w:=by
 obtain⟨v',w',hrun,h1,h2⟩:=run_copy w o.type v xs hv;refine wpList_plain hgd fun K hK=>?_;unfold Oper.wp execOp;simp only[ho,resolve,invoke,builtin,Sem.run_bind,Sem.run_pure,Result.andThen_ok,List.map_toArray,List.map_cons,List.map_nil,hs,hx,hrun];exact hK _ _ (h _ _ h1 h2)
theorem SR.cap {w:World} {B:Nat} {v:Value} {x:List Int} (h:SR w B v x):∀a k c,v= .slice a k c→k≤c:=by
 intro a k c hv;cases h with
 |nil a' c' hv' hx=>rw[hv']at hv;simp only[Value.slice.injEq]at hv;omega
 |row b o c' hv' h0 hc hb hl hA hz=>rw[hv']at hv;simp only[Value.slice.injEq]at hv;omega
theorem SR.il {w:World} {B:Nat} {v:Value} {x:List Int} (h:SR w B v x) (hl:x.length≤17592186044416):IL w v x:=by
 cases h with
 |nil a c hv hx=>subst hv hx;exact IL.nil _ _ _
 |row b o c hv h0 hc hb hl' hA hz=>exact⟨_,b,o,x.length,c,hv,rfl,fun _=>rfl,hA,hl⟩
theorem IL.len {w:World} {v:Value} {x:List Int} (h:IL w v x):x.length≤17592186044416:=by obtain⟨a,b,o,n,c,hv,hn,ha,hc,hm⟩:=h;omega
end Go.Proofs.YtffdemplaodbcaaDoor
namespace Go.Proofs.YtffdemplaodbcaaDoor
open Go Go.Proofs Go.RowKit Go.Rad
open _root_.Rad (CR Prm)
def Fer (p:Int) (xs:List Int):Prop:=∀N:Nat,CR.pw (mq [0,1]:Am p xs) (p.toNat^N)=mq [0,1]↔N%(xs.length-1)=0
inductive IrPost (w:World) (p:Int) (xs:List Int) (e:Ending) (w':World):Prop
 |mk (b:Bool) (c a:Int) (he:e= .returned (.tuple #[.bool b,Flt c a])) (hb:Below w.heap.size w w') (hI:b=true→IsF p xs∧2≤xs.length∧Fer p xs)
structure XP (p:Int) (xs:List Int) (N:Nat) (z:List Int):Prop where
 len:z.length<xs.length
 bd:∀j,0≤z.getD j 0∧z.getD j 0<p
 top:0<z.length→z.getD (z.length-1) 0≠0
 eq:(mq z:Am p xs)=CR.pw (mq [0,1]) (p.toNat^N)
theorem XP.isF {p:Int} {xs z:List Int} {N:Nat} (h:XP p xs N z) (hx:IsF p xs):IsF p z:=⟨hx.pr,by have:=h.len;have:=hx.len;omega,fun j _=>h.bd j,h.top⟩
theorem XP.step {p:Int} {xs z y:List Int} {N:Nat} (h:XP p xs N z) (hr:Res p xs (row (ppow z p.toNat)) y):XP p xs (N+1) y:=⟨hr.len,hr.bd,hr.top,by rw[Nat.pow_succ,CR.pw_mul,←h.eq,mk_pw];exact(mk_eq.2 hr.cg).symm⟩
theorem XP.start {p:Int} {xs y:List Int} (hr:Res p xs (row (ppow [0,1] 1)) y):XP p xs 0 y:=⟨hr.len,hr.bd,hr.top,by rw[Nat.pow_zero,mk_pw];exact(mk_eq.2 hr.cg).symm⟩
theorem XP.same {p:Int} {xs z y:List Int} {N:Nat} (hx:IsF p xs) (h2:2≤xs.length) (hF:Fer p xs) (h:XP p xs N z) (k:XP p xs 0 y):z=y↔N%(xs.length-1)=0:=by
 rw[←hF N];have hk:=k.eq;rw[Nat.pow_zero,CR.pw_one]at hk;constructor
 ·intro e;rw[←h.eq,e,hk]
 ·intro e;have e1:(mq z:Am p xs)=mq y:=(by rw[h.eq,e,hk]);have hg:=hx.pr.gcd (hx.all (xs.length-1)).1 (hx.last (by omega)) (hx.all _).2;exact Res.eq (by omega) hg (u:=row z) (v:=row y) ⟨h.len,h.bd,h.top, .refl _ _ _⟩ ⟨k.len,k.bd,k.top, .refl _ _ _⟩ (mk_eq.1 e1)
theorem isF_x {p:Int} (hp:PrI p):IsF p [0,1]:=⟨hp,by decide,fun j hj=>by
 obtain⟨P,h1,h2,h3⟩:=hp;have:=h2.1
 match j,hj with
 |0,_=>show 0≤(0:Int)∧(0:Int)<p;omega
 |1,_=>show 0≤(1:Int)∧(1:Int)<p;omega,fun _=>by decide⟩
theorem ckBC_ok {p:Int} {xs ys:List Int} (hx:IsF p xs) (hy:IsF p ys):ckBC p xs ys=0:=by unfold ckBC;rw[if_pos hx.ck.1];exact hy.ck.1
theorem pow_ok {p:Int} {xs ys:List Int} {n:Int} (hx:IsF p xs) (hy:IsF p ys) (hn:0≤n) (h0:0<ys.length):powC p xs n ys=0∧powA p xs ys=0:=by unfold powC powA;rw[if_pos (ckBC_ok hx hy),if_pos (ckBC_ok hx hy),if_neg (by omega),if_neg (by omega)];exact⟨rfl,rfl⟩
end Go.Proofs.YtffdemplaodbcaaDoor
namespace Go.Proofs.YtffdemplaodbcaaDoor
open Go Go.Proofs Go.RowKit Go.Rad
open _root_.Rad (CR Prm)
theorem IsF.mo {p:Int} {xs:List Int} {n:Nat} (h:IsF p xs) (hn:xs.length=n+1):Mo p xs n:=by have h1:=h.last (by omega);have h2:=h.all n;rw[hn,Nat.add_sub_cancel]at h1;obtain⟨r,_,_,hr⟩:=h.pr.inv (a:=xs.getD n 0) (by omega) h2.2;refine⟨hn,r,?_⟩;rw[row_getD,hr];obtain⟨P,h4,h5,h6⟩:=h.pr;have:=h5.1;rw[Int.emod_eq_of_lt (by omega) (by omega)]
theorem FixP.fer {w w':World} {p:Int} {xs:List Int} {n:Nat} {e:Ending} (h:FixP w p xs n e w') (hx:IsF p xs) (hn:xs.length=n+1) (hn0:0<n) {g z:List Int} (hG:GcdR p xs g z) (hg:Nrm p (fun j=>((j+1:Nat):Int)*row xs (j+1)) g) (hz:z.length≤1):
 ∃a k c b,e= .returned (.slice a k c)∧Below w.heap.size w w'∧b=decide ((k:Int)=1)∧(b=true→Fer p xs):=by
 obtain⟨M0,s,ql,k,m,N,pv,fr,vb,V,v,vs,he,hb,hs,hql,hM0,hX,hO,hl,-,-,-⟩:=h;obtain⟨cap,a,hv⟩:∃cap a,v= .slice a m cap:=by
  rcases hO.2 with⟨hv,h0⟩|⟨g,cap,cur,hv,_⟩
  ·exact⟨0,none,by rw[hv,←hl,h0]⟩
  ·exact⟨cap,_,by rw[hv,hl]⟩
 refine⟨a,m,cap,_,by rw[he,hv],hb,rfl,fun hm=>?_⟩;have hm1:m=1:=(by have:=of_decide_eq_true hm;omega);have hpr:=hx.pr;obtain⟨P,hP,hpm,hlt⟩:=hx.pr;subst hP;have hMo:=hx.mo hn;have hk:=hX.cnt;intro Nn;rw[hn,Nat.add_sub_cancel,Int.toNat_natCast];refine hMo.irreducible hpm hpr hn0 hG ?_ hz (fun a ha=>?_) Nn
 ·refine mk_eq.2 (.of fun j=>?_);rw[hg.eq,row_der,Int.emod_emod]
 ·refine hMo.const hpm s ?_ ql (fun c hc=>by have:=(hql c hc).len;omega) (fun c hc=>?_) M0 N hM0 hX.fwd (k:=k) (by omega) pv hX.el a ha
  ·rw[mk_pw];rw[Int.toNat_natCast]at hs;exact(mk_eq.2 hs.cg).symm
  ·rw[mk_pw];exact(mk_eq.2 (hql c hc).cg).symm
inductive GRQ (wa:World) (p:Int) (xs:List Int) (v:Value) (wx:World):Prop
 |mk (a:Option Addr) (c:Nat) (g z:List Int) (hv:v= .slice a z.length c) (hG:GcdR p xs g z) (hg:Nrm p (fun j=>((j+1:Nat):Int)*row xs (j+1)) g)
inductive DRQ (wa:World) (p:Int) (xs:List Int) (v:Value) (wx:World):Prop
 |mk (g:List Int) (hS:SR wx wa.heap.size v g) (hg:Nrm p (fun j=>((j+1:Nat):Int)*row xs (j+1)) g)
theorem DRQ.below {wa wx wy:World} {p:Int} {xs:List Int} {v:Value} (h:DRQ wa p xs v wx) (hb:Below wx.heap.size wx wy):DRQ wa p xs v wy:=by obtain⟨g,hS,hg⟩:=h;exact⟨g,hS.below hb,hg⟩
theorem GRQ.below {wa wx wy:World} {p:Int} {xs:List Int} {v:Value} (h:GRQ wa p xs v wx) (hb:Below wx.heap.size wx wy):GRQ wa p xs v wy:=by obtain⟨a,c,g,z,hv,hG,hg⟩:=h;exact⟨a,c,g,z,hv,hG,hg⟩
theorem drq_len {p:Int} {xs g:List Int} {n:Nat} (h:Nrm p (fun j=>((j+1:Nat):Int)*row xs (j+1)) g) (hn:xs.length=n+1) (h2:n≤64):g.length≤1000:=by have:=h.len (n:=64) (fun j hj=>by rw[row_ge xs (j+1) (by omega),Int.mul_zero];rfl);omega
set_option maxRecDepth 20000 in
set_option maxHeartbeats 4000000 in
theorem irreducible_any (w:World) (v:Value) (xs:List Int) (p:Int) (hv:IL w v xs) (ht:TabB w) (hcap:∀a k c,v= .slice a k c→k≤c):
 Calls Tryd.prog 22 #[v, .int .i64 p] w fun e w'=>IrPost w p xs e w':=by
 have CC:=fun wx (hb:Below w.heap.size w wx)=>check_any wx v xs p (hv.below hb) (ht.below hb);obtain⟨cB,hcB⟩:∃c,ckC p xs=c:=⟨_,rfl⟩;obtain⟨aB,haB⟩:∃c,ckA p xs=c:=⟨_,rfl⟩;have HC:Hid (ckC p xs=cB∧ckA p xs=aB):=⟨hcB,haB⟩;simp only[hcB,haB]at CC;have HV:Hid (IL w v xs):=hv;obtain⟨a0,b0,o0,n0,c0,rfl,hn0,ha0,hA0,hm0⟩:=hv;have hcap0:=hcap _ _ _ rfl;have HA0:Hid ((0<n0→a0=some ⟨b0,o0,none⟩)∧n0=xs.length∧n0≤c0):=⟨ha0,by omega,hcap0⟩;have HA1:Hid (∀i,i<n0→w.cell? ⟨b0,o0+i,none⟩=some (.int .i64 (xs.getD i 0))):=hA0;clear ht hcap hcB haB hn0 ha0 hA0 hm0 hcap0;go_enter Tryd.func22,Tryd.ntmps22;go_wp2_with (go_at_call 13;fail);refine(CC _ (bel1 _ _)).mono ?_;rintro e w1 ⟨rfl,hb1⟩;have hB1:Below w.heap.size w w1:=(bel1 w _).trans (hb1.mono (by simp));have hF:=(FB.mk0 w (.int .i64 0) (.int .i64 0) 24).below hb1;have HB1:Hid (Below w.heap.size w w1):=hB1;obtain⟨b5,hb5⟩:∃x,x=w.heap.size:=⟨_,rfl⟩;rw[←hb5]at hF⊢;have HG:Hid (w.heap.size≤b5):=(by show _≤_;omega);clear hb1 hB1 hb5 CC;by_cases h0:cB=0
 ·subst h0;have HFX:Hid (IsF p xs):=ck_isF HC.out.1;have hpp:1<p∧p<2147483648:=(by obtain⟨P,h1,h2,h3⟩:=HFX.out.pr;have:=h2.1;omega);by_cases h2:n0<2
  ·have h2i:(n0:Int)<2:=(by omega);have HR:Hid (∀W,Below w.heap.size w W→IrPost w p xs (.returned (.tuple #[.bool false,Flt 0 0])) W):=fun W hW=> .mk false 0 0 rfl hW fun h=>by cases h
   obtain⟨l5,d0,d1,f0,f1⟩:=hF;go_wp2;refine bodyPost_ret (v:= .tuple #[.bool false,Flt 0 0]) (by simp[results,go_sem,loadVar,World.cell?_setCell_same,World.cell?_setCell_other, *];try rfl) rfl ?_;exact HR.out _ ((below_set2 HB1.out HG.out _ _).alloc (by have:=HB1.out.size;simp;omega) _)
  ·have h2i:¬((n0:Int)<2):=(by omega);go_wp2_with (go_at_call 31;fail);refine(fieldOf_any _ p (p*p) (by omega) hpp.2 rfl).mono ?_;rintro e w2 ⟨rfl,hb2⟩;have hF2:=(hF.alloc (Obj.cells #[Value.int IntKind.i64 0,Value.int IntKind.i64 aB] 24)).below hb2;have HB2w:Hid (Below w.heap.size w w2):=(HB1.out.alloc HB1.out.size (Obj.cells #[Value.int IntKind.i64 0,Value.int IntKind.i64 aB] 24)).trans (hb2.mono (by have:=HB1.out.size;simp;omega));clear hb2 hF;obtain⟨n,hn⟩:∃n,n0=n+1:=⟨n0-1,by omega⟩;have hne:=HA0.out.1 (by omega);subst hne;subst hn;have HN:Hid (xs.length=n+1∧1≤n∧n≤64):=(by have h1:=HA0.out.2.1;have h2:=HFX.out.len;show _∧_∧_;omega);go_upto_region 7 with fail;refine wp_world (fun w3=>Below w.heap.size w w3∧FB w3 b5 (.int .i64 0) (.int .i64 0)∧FB w3 w2.heap.size (.int .i64 p) (.int .i64 (p*p))) ⟨HB2w.out.alloc HB2w.out.size _,hF2.alloc _,FB.mk0 _ _ _ _⟩ ?_;rintro w3 ⟨hB3,hF3,hK3⟩;obtain⟨b7,hb7⟩:∃x,x=w2.heap.size:=⟨_,rfl⟩;rw[←hb7]at hK3⊢;have HB3:Hid (Below w.heap.size w w3):=hB3;have HF3:Hid (FB w3 b5 (.int .i64 0) (.int .i64 0)):=hF3;have HK3:Hid (FB w3 b7 (.int .i64 p) (.int .i64 (p*p))):=hK3;have HV3:Hid (VW w3 (.slice (some ⟨b0,o0,none⟩) (n+1:Nat) c0) xs):=(HV.out.below hB3).vw;clear hB3 hF3 hb7 hF2 h2 h2i;obtain⟨l7,k70,k71,z74,z75⟩:=hK3;refine wp_drawn mixed [⟨21,[],[],[7]⟩,⟨22,[],[],[0]⟩,⟨23,[],[],[7]⟩,⟨24,[],[],[0]⟩,⟨25,[2,3],[2,3],[]⟩,⟨26,[0,1,4],[0,1,2,3,4],[]⟩] [] (by kernel_rfl) 36 rfl (by kernel_rfl) (fun (i:Nat) (v:Value) (wq:World)=>match i with|0=>v= .agg #[.int .i64 (p), .int .i64 (p*p)]|1=>v= .slice (some ⟨b0,o0,none⟩) (n+1) (c0)|2=>v= .agg #[.int .i64 (p), .int .i64 (p*p)]|3=>v= .slice (some ⟨b0,o0,none⟩) (n+1) (c0)|4=>DRQ w3 p xs v wq|5=>GRQ w3 p xs v wq|_=>True) (fun _ wq=>Below w3.heap.size w3 wq) (fun wx wy=>Below wx.heap.size wx wy) (Below.refl _ _).drew (fun i v wx wy h hx=>match i,h with|0,h=>h|1,h=>h|2,h=>h|3,h=>h|4,h=>h.below hx|5,h=>h.below hx|n+6,_=>trivial) ?_ ?_
   ·intro i o r ho hr L fr wx hW hL hpr hds hdef hpre hfree;clear hL hpr hds hdef
    match i,ho,hr with
    |0,ho,hr=>?_
    |1,ho,hr=>?_
    |2,ho,hr=>?_
    |3,ho,hr=>?_
    |4,ho,hr=>obtain rfl:=Option.some.inj ho;obtain rfl:=Option.some.inj hr;have e2:=ev_tmp (show fr.eval (.tmp 23)= .agg #[.int .i64 (p), .int .i64 (p*p)] from hpre 2 (by decide) _ rfl);have e3:=ev_tmp (show fr.eval (.tmp 24)= .slice (some ⟨b0,o0,none⟩) (n+1) (c0)from hpre 3 (by decide) _ rfl);clear hpre hfree;refine stpK rfl rfl fun K hK=>?_;go_simp;refine(derivative_any wx p (p*p) _ xs n (HV3.out.below hW) rfl hpp HFX.out.all HN.out.1 (by have:=HN.out;omega)).mono ?_;rintro e wy ⟨v1,g,rfl,hSg,hbg,hNg⟩;exact hK _ _ ⟨(.mk g (hSg.mono hW.size) hNg),hW.trans (hbg.mono hW.size),hbg,fun h=>(List.not_mem_nil h).elim⟩
    |5,ho,hr=>obtain rfl:=Option.some.inj ho;obtain rfl:=Option.some.inj hr;have e0:=ev_tmp (show fr.eval (.tmp 21)= .agg #[.int .i64 (p), .int .i64 (p*p)] from hpre 0 (by decide) _ rfl);have e1:=ev_tmp (show fr.eval (.tmp 22)= .slice (some ⟨b0,o0,none⟩) (n+1) (c0)from hpre 1 (by decide) _ rfl);obtain⟨u4,q4⟩:∃u,fr.eval (.tmp 25)=u:=⟨_,rfl⟩;have p4:DRQ w3 p xs u4 wx:=(by rw[←q4];exact hpre 4 (by decide) _ rfl);have e4:=ev_tmp q4;clear q4;clear hpre hfree;refine stpK rfl rfl fun K hK=>?_;obtain⟨g,hSg,hNg⟩:=p4;go_simp;refine(gcd_any wx p (p*p) _ _ xs g (HV3.out.below hW) hSg.view rfl HFX.out.pr ⟨HFX.out.all,HFX.out.last⟩ (hNg.isP (by omega)) (by have:=HN.out;omega) (drq_len hNg HN.out.1 HN.out.2.2)).mono ?_;rintro e wy ⟨v1,z,rfl,hSz,hbz,hGz⟩;exact hK _ _ ⟨(let ⟨a,b,o,c,hv,_,_⟩:=hSz.view; .mk a c g z hv hGz hNg),hW.trans (hbz.mono hW.size),hbz,fun h=>(List.not_mem_nil h).elim⟩
    |n+6,ho,hr=>exact absurd hr (by simp)
    all_goals
     obtain rfl:=Option.some.inj ho;obtain rfl:=Option.some.inj hr;simp only[List.mem_cons,List.not_mem_nil,or_false,false_imp_iff,implies_true,forall_eq_or_imp,forall_eq,List.getElem?_cons_zero,List.getElem?_cons_succ,Option.some.injEq,forall_eq',evt]at hpre hfree;have c0:=(hW.cell (p:=⟨b7,0,none⟩) l7).trans k70;have c1:=(hW.cell (p:=⟨b7,1,none⟩) l7).trans k71;refine stpK rfl rfl fun K hK=>?_ <;> (go_simp;exact hK _ _ ⟨rfl,hW,Below.refl _ _,fun h=>(List.not_mem_nil h).elim⟩)
   ·intro vs wm hvs hW1 hap0;clear hap0;have e0:vs 0= .agg #[.int .i64 (p), .int .i64 (p*p)]:=hvs 0 (by decide);have e1:vs 1= .slice (some ⟨b0,o0,none⟩) (n+1) (c0):=hvs 1 (by decide);have e2:vs 2= .agg #[.int .i64 (p), .int .i64 (p*p)]:=hvs 2 (by decide);have e3:vs 3= .slice (some ⟨b0,o0,none⟩) (n+1) (c0):=hvs 3 (by decide);obtain⟨u4,e4⟩:∃u,vs 4=u:=⟨_,rfl⟩;have p4:DRQ w3 p xs u4 wm:=(by rw[←e4];exact hvs 4 (by decide));obtain⟨u5,e5⟩:∃u,vs 5=u:=⟨_,rfl⟩;have p5:GRQ w3 p xs u5 wm:=(by rw[←e5];exact hvs 5 (by decide));simp only[puts,Nat.reduceAdd,e0,e1,e2,e3,e4,e5,Act.put,List.setIfInBounds_toArray,List.set_cons_zero,List.set_cons_succ,List.drop_succ_cons,List.drop_zero,List.length_cons,List.length_nil];clear hvs e0 e1 e2 e3 e4 e5;obtain⟨a9,c9,g,z,rfl,hG9,hg9⟩:=p5;have HGC:Hid (GcdR p xs g z∧Nrm p (fun j=>((j+1:Nat):Int)*row xs (j+1)) g):=⟨hG9,hg9⟩;obtain⟨L,hL⟩:∃L,z.length=L:=⟨_,rfl⟩;have HZL:Hid (z.length=L):=hL;have HW:Hid (Below w3.heap.size w3 wm):=hW1;rw[hL];clear l7 k70 k71 z74 z75 hG9 hg9 hW1 hL;have HFm:Hid (FB wm b5 (.int .i64 0) (.int .i64 0)):=HF3.out.below HW.out;have HKm:Hid (FB wm b7 (.int .i64 p) (.int .i64 (p*p))):=HK3.out.below HW.out;have HBm:Hid (Below w.heap.size w wm):=HB3.out.trans (HW.out.mono HB3.out.size);obtain⟨l5,d0,d1,f0,f1⟩:=HFm.out;by_cases hz:1<L
    ·have hzi:(1:Int)<(L:Int):=(by omega);have HR:Hid (∀W,Below w.heap.size w W→IrPost w p xs (.returned (.tuple #[.bool false,Flt 0 0])) W):=fun W hW=> .mk false 0 0 rfl hW fun h=>by cases h
     go_wp2;refine bodyPost_ret (v:= .tuple #[.bool false,Flt 0 0]) (by simp[results,go_sem,loadVar,World.cell?_setCell_same,World.cell?_setCell_other, *];try rfl) rfl ?_;exact HR.out _ (below_set2 HBm.out HG.out _ _)
    ·have hzi:¬((1:Int)<(L:Int)):=(by omega);obtain⟨l7,k70,k71,z74,z75⟩:=HKm.out;have hMD:MD wm p b0 o0 n c0 (fun j=>xs.getD j 0):=(by have h1:=HFX.out.last (by have:=HN.out;omega);rw[HN.out.1,Nat.add_sub_cancel]at h1;exact⟨fun i hi=>(HBm.out.cell (p:=⟨b0,o0+i,none⟩) (block_lt (HA1.out i hi))).trans (HA1.out i hi),HA0.out.2.2,fun i hi=>HFX.out.all i,HFX.out.pr.gcd (HFX.out.all n).1 h1 (HFX.out.all n).2,h1,by have:=HN.out;omega⟩);have CF:=fixed_any wm p (p*p) b0 o0 n c0 (fun j=>xs.getD j 0) hMD (Nat.lt_of_lt_of_le (block_lt (HA1.out 0 (by omega))) HBm.out.size) rfl HFX.out.pr (by have:=HN.out;omega) (by have:=HN.out;omega);have HLX:Hid (lst (fun j=>xs.getD j 0) (n+1)=xs):=(by show _=_;rw[←HN.out.1];exact lst_self xs);rw[HLX.out]at CF;clear hMD;go_wp2_with (go_at_call 51;fail);refine CF.mono ?_;rintro e w9 hfx;obtain⟨a,k,c,b,rfl,hb9,hbk,hfer⟩:=hfx.fer HFX.out HN.out.1 HN.out.2.1 HGC.out.1 HGC.out.2 (by rw[HZL.out];omega);have HFER:Hid (b=true→Fer p xs):=hfer;have HBK:Hid (((k:Int)==1)=b):=(by rw[hbk];rfl);have HB9:Hid (Below w.heap.size w w9):=HBm.out.trans (hb9.mono HBm.out.size);have HF9:Hid (FB w9 b5 (.int .i64 0) (.int .i64 0)):=HFm.out.below hb9;clear hfer hbk hb9 CF hfx l5 d0 d1 f0 f1 l7 k70 k71 z74 z75;obtain⟨l5,d0,d1,f0,f1⟩:=HF9.out;have hbk:=HBK.out;go_wp2;refine bodyPost_ret (v:= .tuple #[.bool b,Flt 0 0]) (by simp[results,go_sem,loadVar,World.cell?_setCell_same,World.cell?_setCell_other, *];try rfl) rfl ?_;exact .mk b 0 0 rfl (below_set2 HB9.out HG.out _ _) fun h=>⟨HFX.out,by have:=HN.out;omega,HFER.out h⟩
 ·have h0b:(cB !=0)=true:=(by simpa using h0);have HR:Hid (∀W,Below w.heap.size w W→IrPost w p xs (.returned (.tuple #[.bool false,Flt cB aB])) W):=fun W hW=> .mk false _ _ rfl hW fun h=>by cases h
  have HRX:Hid (∀X,Below w.heap.size w (((w1.setCell ⟨b5,0,none⟩ (.int .i64 cB)).setCell ⟨b5,1,none⟩ (.int .i64 aB)).alloc X)):=fun X=>(below_set2 HB1.out HG.out _ _).alloc (by have:=HB1.out.size;simp;omega) X;obtain⟨l5,d0,d1,f0,f1⟩:=hF;go_wp2;go_region
  all_goals
   go_wp2;refine bodyPost_ret (v:= .tuple #[.bool false,Flt cB aB]) (by simp[results,go_sem,loadVar,World.cell?_setCell_same,World.cell?_setCell_other, *];try rfl) rfl ?_;exact HR.out _ (by first|exact HRX.out _|exact(HRX.out _).drew)
end Go.Proofs.YtffdemplaodbcaaDoor
