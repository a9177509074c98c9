/- A part of the proof: QI, QJ, QRL. -/
import Derived.Test.YtffdemplaodbcaaDoorP21
import Derived.Test.YtffdemplaodbcaaDoorP14
import Derived.Test.YtffdemplaodbcaaDoorShelf
import Derived.RangeFuncNested
import Derived.RangeFuncBound
import Derived.RangeFuncCalls
import Derived.RangeFuncLeaves
import Derived.RangeFuncIn
import Derived.Shelf.Abstract
import Derived.Shelf.RegionOpen
import Derived.OwnWalkIn
import Derived.TacticsInMore
import Derived.LoopNIn
import Derived.LoopIn
set_option linter.all false
namespace Go.Proofs.YtffdemplaodbcaaDoor
open Go Go.Proofs Go.RowKit Go.Rad
theorem pr2:PrI 2:=⟨2,rfl,⟨by decide,fun d hd=>by
 have h1:=Nat.le_of_dvd (by decide) hd;have h2:d≠0:=fun h=>by rw[h]at hd;have:=Nat.eq_zero_of_zero_dvd hd;omega
 omega⟩,by decide⟩
theorem isF_f:IsF 2 [1,0,1,0,1]:=⟨pr2,by decide,fun j hj=>by
 match j,hj with
 |0,_=>decide
 |1,_=>decide
 |2,_=>decide
 |3,_=>decide
 |4,_=>decide,fun _=>by decide⟩
theorem isP_f:IsP 2 [1,0,1,0,1]:=⟨isF_f.all,isF_f.last⟩
theorem isP_g:IsP 2 [1,1,1]:=⟨fun j=>by
 match j with
 |0=>decide
 |1=>decide
 |2=>decide
 |j+3=>rw[getD_of_ge _ _ (by simp)];omega,fun _=>by decide⟩
theorem isP_1:IsP 2 [1]:=⟨bd1,fun _=>by decide⟩
theorem IsP.nrm {p:Int} {x:List Int} (h:IsP p x):Nrm p (row x) x:=⟨fun j=>by rw[row_getD];exact(Int.emod_eq_of_lt (h.bd j).1 (h.bd j).2).symm,h.top⟩
theorem isMon2 {x z:List Int} (hx:IsP 2 x) (hl:0<x.length) (h:IsMon 2 x z):z=x:=by
 cases h with
 |nil h1 h2=>rw[h1]at hl;simp at hl
 |mk r h0 hr hr2 h1 hz=>obtain rfl:r=1:=(by omega);exact hz.uniq hx.nrm (fun j=>by rw[Int.one_mul])
theorem gcd_f {z:List Int} (h:GcdR 2 [1,0,1,0,1] [] z):z=[1,0,1,0,1]:=by
 cases h with
 |nil f z h=>exact isMon2 isP_f (by decide) h
 |step f g r z h0=>simp at h0
theorem gcd_g {z:List Int} (h:GcdR 2 [1,1,1] [1] z):z=[1]:=by
 cases h with
 |step f g r z h0 hr h=>
  have hl:=hr.len;obtain rfl:r=[]:=List.length_eq_zero_iff.1 (by have:r.length<1:=hl;omega);cases h with
  |nil f z h=>exact isMon2 isP_1 (by decide) h
  |step f g r z h0=>simp at h0
theorem der_f {z:List Int} (h:Nrm 2 (fun j=>((j+1:Nat):Int)*row [1,0,1,0,1] (j+1)) z):z=[]:=by
 refine List.length_eq_zero_iff.1 (Nat.le_zero.1 (h.len (n:=0) fun j _=>?_));rw[row_getD]
 match j with
 |0=>decide
 |1=>decide
 |2=>decide
 |3=>decide
 |j+4=>rw[getD_of_ge _ _ (by simp)];simp
theorem der_g {z:List Int} (h:Nrm 2 (fun j=>((j+1:Nat):Int)*row [1,1,1] (j+1)) z):z=[1]:=by
 refine h.uniq isP_1.nrm (fun j=>?_);rw[row_getD,row_getD]
 match j with
 |0=>decide
 |1=>decide
 |j+2=>rw[getD_of_ge _ _ (by simp),getD_of_ge _ _ (by simp)];simp
theorem act1 (a:Int) (u:Nat→Int) (j:Nat):act [a] u j=a*u j:=by show a*u j+sft (fun _=>0) j=_;cases j <;> simp[sft]
theorem quo_ff {Q z:List Int} (h:Dvd 2 [1,0,1,0,1] [1,0,1,0,1] Q z):Q=[1]:=by have hl:Q.length=1:=h.len;obtain⟨a,rfl⟩:=List.length_eq_one_iff.1 hl;have hb:=h.bd 0;have hz:z.length≤4:=(by have:=h.rl;simp at this;omega);have he:=h.eq 4;rw[act1,row_getD,row_getD,getD_of_ge z 4 hz]at he;have hb':0≤a∧a<2:=hb;have he':(1:Int)%2=(0+a*1)%2:=he;have:a=1:=(by omega);rw[this]
theorem row1 (j:Nat):row [1] j=one0 j:=row_one j
theorem act_one (x:List Int) (j:Nat):act x (row [1]) j=row x j:=act_congr x row_one j
theorem quo_1 {x Q z:List Int} (hx:IsP 2 x) (h:Dvd 2 [1] x Q z):Q=x:=by
 have hl:Q.length=x.length:=h.len;have hz:z=[]:=List.length_eq_zero_iff.1 (by have:z.length<1:=h.rl;omega);subst hz;have e:∀j,x.getD j 0=Q.getD j 0:=fun j=>by have he:=h.eq j;rw[act_one,row_getD,row_getD,row_getD,getD_of_ge [] j (Nat.zero_le _),Int.zero_add,Int.emod_eq_of_lt (hx.bd j).1 (hx.bd j).2,Int.emod_eq_of_lt (h.bd j).1 (h.bd j).2]at he;exact he
 refine List.ext_getElem hl fun i h1 h2=>?_;have h3:=e i;simpa [List.getD_eq_getElem?_getD,h1,h2]using h3.symm
theorem root_f {z:List Int} (hz:∀j,j<z.length→z.getD j 0=([1,0,1,0,1]:List Int).getD (2*j) 0) (h1:([1,0,1,0,1]:List Int).length≤2*z.length) (h2:0<z.length→2*(z.length-1)<([1,0,1,0,1]:List Int).length):z=[1,1,1]:=by
 have hl:z.length=3:=(by simp at h1 h2;omega);refine List.ext_getElem hl fun i h3 h4=>?_;have h5:=hz i h3;rw[hl]at h3;have h6:z.getD i 0=z[i]:=(by simp[List.getD_eq_getElem?_getD,hl,h3]);rw[←h6,h5]
 match i,h3 with
 |0,_=>rfl
 |1,_=>rfl
 |2,_=>rfl
theorem root_1 {z:List Int} (hz:∀j,j<z.length→z.getD j 0=([1]:List Int).getD (2*j) 0) (h1:([1]:List Int).length≤2*z.length) (h2:0<z.length→2*(z.length-1)<([1]:List Int).length):z=[1]:=by have hl:z.length=1:=(by simp at h1 h2;omega);obtain⟨a,rfl⟩:=List.length_eq_one_iff.1 hl;have h5:=hz 0 (Nat.succ_pos _);have:a=1:=h5;rw[this]
set_option maxRecDepth 10000 in
theorem ins_one (w:World) (g c:Nat) (v:Value):Calls Tryd.prog 81 #[.slice (some ⟨g,0,none⟩) 1 c, .int .i64 0, .int .i64 1,v] w fun e w'=>e= .returned (.tuple #[])∧Below w.heap.size w w':=by go_enter Tryd.func81,Tryd.ntmps81;have hw1:wrap64 1=1:=wrap_in (by decide) (by decide);go_wp2;refine wp_loop_rounds 1 ?_;rw[rounds_succ];go_wp2;go_end0;exact⟨rfl,Below.refl _ _⟩
set_option maxRecDepth 10000 in
theorem pdq_one (w:World) (g c:Nat) (v:Value) (k:Int):Calls Tryd.prog 68 #[.slice (some ⟨g,0,none⟩) 1 c, .int .i64 0, .int .i64 1, .int .i64 k,v] w fun e w'=>e= .returned (.tuple #[])∧Below w.heap.size w w':=by go_enter Tryd.func68,Tryd.ntmps68;have hw1:wrap64 1=1:=wrap_in (by decide) (by decide);go_wp2;refine wp_loop_rounds 1 ?_;rw[rounds_succ];go_wp2_with (go_at_call 81;fail);refine(ins_one w g c v).mono ?_;rintro e w1 ⟨rfl,hb1⟩;have HB:Hid (Below w.heap.size w w1):=hb1;clear hb1;go_wp2;refine bodyPost_ret (results_none rfl _ _ _) rfl ?_;exact⟨rfl,HB.out⟩
set_option maxRecDepth 10000 in
theorem sort_one (w:World) (g c:Nat) (v:Value):Calls Tryd.prog 47 #[.slice (some ⟨g,0,none⟩) 1 c,v] w fun e w'=>e= .returned (.tuple #[])∧Below w.heap.size w w':=by have CL:=fun w=>Tryd.bits_Len 1 w (by decide) (by decide);go_enter Tryd.func47,Tryd.ntmps47;go_wp2_with (go_at_call 61;fail);refine(CL w).mono ?_;rintro e w1 ⟨rfl,rfl⟩;go_wp2_with (go_at_call 68;fail);refine(pdq_one _ g c v _).mono ?_;rintro e w2 ⟨rfl,hb2⟩;have HB:Hid (Below w1.heap.size w1 w2):=hb2;clear hb2;go_wp2;go_end0;exact⟨rfl,HB.out⟩
set_option maxRecDepth 10000 in
theorem checkSome_begun (w:World) (v:Value) (hv:IL w v [1,0,1,0,1]) (ht:TabB w):Calls Tryd.prog 43 #[v, .int .i64 2] w fun e w'=>e= .returned (Flt 0 0)∧Below w.heap.size w w':=by have CB:=fun wx (hb:Below w.heap.size w wx)=>check_any wx v _ 2 (hv.below hb) (ht.below hb);rw[isF_f.ck.1,isF_f.ck.2]at CB;have HV:Hid (∃a c,v= .slice a 5 c):=(by obtain⟨a,b,o,n,c,hv,hn,ha,hc,hm⟩:=hv;exact⟨a,c,by rw[hv,←hn];rfl⟩);clear hv ht;obtain⟨a,c,rfl⟩:=HV.out;go_enter Tryd.func43,Tryd.ntmps43;go_wp2_with (go_at_call 13;fail);refine(CB _ (bel1 _ _)).mono ?_;rintro e w1 ⟨rfl,hb1⟩;have hB1:Below w.heap.size w w1:=(bel1 w _).trans (hb1.mono (by simp));have hF:=(FB.mk0 w (.int .i64 0) (.int .i64 0) 24).below hb1;have HB1:Hid (Below w.heap.size w w1):=hB1;obtain⟨b4,hb4⟩:∃x,x=w.heap.size:=⟨_,rfl⟩;rw[←hb4]at hF⊢;have HG:Hid (w.heap.size≤b4):=(by show _≤_;omega);have HR:Hid (∀X,Below w.heap.size w (((w1.setCell ⟨b4,0,none⟩ (.int .i64 0)).setCell ⟨b4,1,none⟩ (.int .i64 0)).alloc X)):=fun X=>(below_set2 HB1.out HG.out _ _).alloc (by have:=HB1.out.size;simp;omega) X;clear hb1 hB1 hb4 CB;obtain⟨l4,d0,d1,f0,f1⟩:=hF;go_wp2;refine bodyPost_ret (v:=Flt 0 0) (by simp[results,go_sem,loadVar,World.cell?_setCell_same,World.cell?_setCell_other, *];try rfl) rfl ?_;exact⟨rfl,HR.out _⟩
end Go.Proofs.YtffdemplaodbcaaDoor
namespace Go.Proofs.YtffdemplaodbcaaDoor
open Go Go.Proofs Go.RowKit Go.Rad
attribute [local go_sem] Oper.semAt_some
inductive PV (wa:World) (x:List Int) (v:Value) (wx:World):Prop
 |mk (hS:SR wx wa.heap.size v x) (hB:Below wa.heap.size wa wx)
theorem PV.below {wa wx wy:World} {x:List Int} {v:Value} (h:PV wa x v wx) (hb:Below wx.heap.size wx wy):PV wa x v wy:=⟨h.1.below hb,h.2.trans (hb.mono h.2.size)⟩
theorem SR.md {w:World} {p:Int} {B N:Nat} {v:Value} {x:List Int} (h:SR w B v x) (hp:PrI p) (hx:IsP p x) (hl:x.length≤1000) (n:Nat) (hn:x.length=n+1) (hN:N=n+1):
 ∃b o c,v= .slice (some ⟨b,o,none⟩) N c∧MD w p b o n c (fun j=>x.getD j 0)∧B≤b∧b<w.heap.size∧lst (fun j=>x.getD j 0) (n+1)=x:=by
 cases h with
 |nil a c hv hx'=>subst hx';simp at hn
 |row b o c hv h0 hc hb hbl hA hz=>have ht:=hx.top h0;rw[hn,Nat.add_sub_cancel]at ht;refine⟨b,o,c,by rw[hv,hn,hN],⟨by rw[←hn];exact hA,by omega,fun i _=>hx.bd i,hp.gcd (hx.bd n).1 ht (hx.bd n).2,ht,by omega⟩,hb,hbl,?_⟩;rw[←hn];exact lst_self x
theorem FB.kept {S:Nat→Prop} {w w':World} {b:Nat} {u0 u1:Value} (h:FB w b u0 u1) (hk:Kept S w w') (hs:¬S b):FB w' b u0 u1:=⟨Nat.lt_of_lt_of_le h.lt hk.size,(hk.cell h.lt hs).trans h.c0,(hk.cell h.lt hs).trans h.c1,(hk.froz h.lt hs).trans h.f0,(hk.froz h.lt hs).trans h.f1⟩
theorem SR.kept {S:Nat→Prop} {w w':World} {B:Nat} {v:Value} {x:List Int} (h:SR w B v x) (hk:Kept S w w') (hs:∀k,B≤k→¬S k):SR w' B v x:=by
 cases h with
 |nil a c hv hx=>exact .nil a c hv hx
 |row b o c hv h0 hc hb hl hA hz=>exact .row b o c hv h0 hc hb (Nat.lt_of_lt_of_le hl hk.size) (fun i hi=>(hk.cell hl (hs b hb)).trans (hA i hi)) (fun i hi=>(hk.froz hl (hs b hb)).trans (hz i hi))
structure F1 (w:World) (b:Nat) (u:Value):Prop where
 lt:b<w.heap.size
 c:w.cell? ⟨b,0,none⟩=some u
 f:w.frozen? ⟨b,0,none⟩=false
theorem F1.below {w w':World} {b:Nat} {u:Value} (h:F1 w b u) (hb:Below w.heap.size w w'):F1 w' b u:=⟨Nat.lt_of_lt_of_le h.lt hb.size,(hb.cell (p:=⟨b,0,none⟩) h.lt).trans h.c,(hb.frozen (p:=⟨b,0,none⟩) h.lt).trans h.f⟩
theorem F1.kept {S:Nat→Prop} {w w':World} {b:Nat} {u:Value} (h:F1 w b u) (hk:Kept S w w') (hs:¬S b):F1 w' b u:=⟨Nat.lt_of_lt_of_le h.lt hk.size,(hk.cell h.lt hs).trans h.c,(hk.froz h.lt hs).trans h.f⟩
theorem F1.set {w:World} {b:Nat} {u:Value} (h:F1 w b u) (v:Value):F1 (w.setCell ⟨b,0,none⟩ v) b v:=⟨by simpa [World.setCell]using h.lt,cell_same h.c,by rw[World.frozen?_setCell];exact h.f⟩
set_option maxRecDepth 10000 in
set_option maxHeartbeats 4000000 in
theorem parts1_begun (W:World) (l bf bk:Nat) (vf:Value) (S:Nat→Prop) (J J':World→Prop) (hk:FB W bk (.int .i64 2) (.int .i64 4)) (hf:F1 W bf vf) (hv:SR W 0 vf [1,0,1,0,1]) (hne:bk≠bf)
 (hJ':∀A C,J' A→Kept (·= bf) A C→J' C) (hJ:∀A C,J A→Kept (·= bf) A C→J C) (hS1:¬S bf) (hS2:¬S bk) (hS3:∀k,W.heap.size≤k→¬S k)
 (hY:∀m W1 b2 o2 c2 y,J W1→MD W1 2 b2 o2 2 c2 y→W.heap.size≤b2→b2<W1.heap.size→lst y 3=[1,1,1]→Kept (·= bf) W W1→
  YieldAt Fence.wide m Tryd.prog l #[.slice (some ⟨b2,o2,none⟩) 3 c2, .int .i64 2] W1 fun e W'=>e= .returned (.bool true)∧J' W'∧Kept S W1 W')
 (h0:J W):Calls Tryd.prog 64 #[.func (.yield l) #[] #[], .pointer (some ⟨bf,0,none⟩), .pointer (some ⟨bk,0,none⟩)] W fun e W'=>(∃u,e= .returned u)∧J' W':=by
 have HK:Hid (FB W bk (.int .i64 2) (.int .i64 4)):=hk;have HF:Hid (F1 W bf vf):=hf;have HV:Hid (SR W 0 vf [1,0,1,0,1]):=hv;have HBB:Hid (bf<W.heap.size∧bk≠bf):=⟨hf.lt,hne⟩;have HJ:Hid (∀A C,J A→Kept (·= bf) A C→J C):=hJ;have HJ':Hid (∀A C,J' A→Kept (·= bf) A C→J' C):=hJ';have HS:Hid (¬S bf∧¬S bk∧∀k,W.heap.size≤k→¬S k):=⟨hS1,hS2,hS3⟩;have HY:Hid _:=hY;have HJ0:Hid (J W):=h0;clear hv hne hJ hJ' hS1 hS2 hS3 hY h0;go_enter Tryd.func64,Tryd.ntmps64;obtain⟨l4,k40,k41,z4,z5⟩:=hk;obtain⟨lf,f0,zf⟩:=hf;have HVF:Hid (∃a c,vf= .slice a 5 c):=by
  cases HV.out with
  |nil a c hv hx=>cases hx
  |row b o c hv h0 hc hb hl hA hz=>exact⟨_,c,hv⟩
 obtain⟨a,c,rfl⟩:=HVF.out;go_wp2;refine wp_loop_rounds 3 ?_;rw[rounds_succ];go_upto_region 3 with fail;refine wp_drawn mixed [⟨17,[],[],[2]⟩,⟨18,[],[],[1]⟩,⟨19,[],[],[2]⟩,⟨20,[],[],[1]⟩,⟨21,[2,3],[2,3],[]⟩] [] (by kernel_rfl) 60 rfl (by kernel_rfl) (fun (i:Nat) (v:Value) (wq:World)=>match i with|0=>v= .agg #[.int .i64 (2), .int .i64 (4)]|1=>v= .slice a (5) (c)|2=>v= .agg #[.int .i64 (2), .int .i64 (4)]|3=>v= .slice a (5) (c)|4=>PV W [] v wq|_=>True) (fun _ wq=>Below W.heap.size W wq) (fun wx wy=>Below wx.heap.size wx wy) (Below.refl _ _).drew (fun i v wx wy h hx=>match i,h with|0,h=>h|1,h=>h|2,h=>h|3,h=>h|4,h=>h.below hx|n+5,_=>trivial) ?_ ?_
 ·intro i o r ho hr L fr wx hW hL hpr hds hdef hpre hfree;clear hL hpr hds hdef
  match i,ho,hr with
  |0,ho,hr=>?_
  |1,ho,hr=>?_
  |2,ho,hr=>?_
  |3,ho,hr=>?_
  |4,ho,hr=>obtain rfl:=Option.some.inj ho;obtain rfl:=Option.some.inj hr;have e2:=ev_tmp (show fr.eval (.tmp 19)= .agg #[.int .i64 (2), .int .i64 (4)] from hpre 2 (by decide) _ rfl);have e3:=ev_tmp (show fr.eval (.tmp 20)= .slice a (5) (c)from hpre 3 (by decide) _ rfl);clear hpre hfree;refine stpK rfl rfl fun K hK=>?_;go_simp;refine(derivative_any wx 2 4 _ [1,0,1,0,1] 4 (HV.out.view.below hW) (by decide) (by decide) isP_f.bd (by decide) (by decide)).mono ?_;rintro e wy ⟨v1,zd,rfl,hSd,hbd,hNd⟩;exact hK _ _ ⟨(by obtain rfl:=der_f hNd;exact⟨hSd.mono hW.size,hW.trans (hbd.mono hW.size)⟩),hW.trans (hbd.mono hW.size),hbd,fun h=>(List.not_mem_nil h).elim⟩
  |n+5,ho,hr=>exact absurd hr (by simp)
  all_goals
   obtain rfl:=Option.some.inj ho;obtain rfl:=Option.some.inj hr;simp only[List.mem_cons,List.not_mem_nil,or_false,false_imp_iff,implies_true,forall_eq_or_imp,forall_eq,List.getElem?_cons_zero,List.getElem?_cons_succ,Option.some.injEq,forall_eq',evt]at hpre hfree;have c0:=(hW.cell (p:=⟨bk,0,none⟩) l4).trans k40;have c1:=(hW.cell (p:=⟨bk,1,none⟩) l4).trans k41;have c2:=(hW.cell (p:=⟨bf,0,none⟩) lf).trans f0;refine stpK rfl rfl fun K hK=>?_ <;> (go_simp;exact hK _ _ ⟨rfl,hW,Below.refl _ _,fun h=>(List.not_mem_nil h).elim⟩)
 ·intro vs w1 hvs hW1 hap0;clear hap0;have e0:vs 0= .agg #[.int .i64 (2), .int .i64 (4)]:=hvs 0 (by decide);have e1:vs 1= .slice a (5) (c):=hvs 1 (by decide);have e2:vs 2= .agg #[.int .i64 (2), .int .i64 (4)]:=hvs 2 (by decide);have e3:vs 3= .slice a (5) (c):=hvs 3 (by decide);obtain⟨u4,e4⟩:∃u,vs 4=u:=⟨_,rfl⟩;have p4:PV W [] u4 w1:=(by rw[←e4];exact hvs 4 (by decide));simp only[puts,Nat.reduceAdd,e0,e1,e2,e3,e4,Act.put,List.setIfInBounds_toArray,List.set_cons_zero,List.set_cons_succ,List.drop_succ_cons,List.drop_zero,List.length_cons,List.length_nil];clear hvs e0 e1 e2 e3 e4;have HB1:Hid (Below W.heap.size W w1):=hW1;obtain⟨hS4,hB4⟩:=p4;have CG:=gcd_any w1 2 4 (.slice a 5 c) u4 [1,0,1,0,1] [] (HV.out.below hW1).view hS4.view (by decide) pr2 isP_f ⟨fun j=>by rw[getD_of_ge [] j (Nat.zero_le _)];decide,fun h=>by simp at h⟩ (by decide) (by decide);clear l4 k40 k41 z4 z5 lf f0 zf hW1 hS4 hB4;go_wp2_with (go_at_call 42;fail);refine CG.mono ?_;rintro e w2 ⟨u5,z,rfl,hS5,hb5,hG5⟩;obtain rfl:=gcd_f hG5;have HB2:Hid (Below W.heap.size W w2):=HB1.out.trans (hb5.mono HB1.out.size);have HS2:Hid (SR w2 W.heap.size u5 [1,0,1,0,1]):=hS5.mono HB1.out.size;clear hS5 hb5 hG5 CG;obtain⟨bm,om,cm,rfl,hMm,hbm,hlm,hym⟩:=HS2.out.md (N:=5) pr2 isP_f (by decide) 4 (by decide) rfl;obtain⟨l4,k40,k41,z4,z5⟩:=HK.out.below HB2.out;obtain⟨lf,f0,zf⟩:=HF.out.below HB2.out;have CQ:=quotient_any w2 2 4 (.slice a 5 c) [1,0,1,0,1] _ bm om 4 cm _ (HV.out.below HB2.out).view hMm hlm hym (by decide) (by decide) isP_f.bd (by decide);clear hMm hbm hlm hym;go_wp2_with (go_at_call 65;fail);refine CQ.mono ?_;rintro e w3 ⟨u6,Q,z,rfl,hS6,hb6,hD6⟩;obtain rfl:=quo_ff hD6;have HB3:Hid (Below W.heap.size W w3):=HB2.out.trans (hb6.mono HB2.out.size);have HS3:Hid (SR w3 W.heap.size (.slice (some ⟨bm,om,none⟩) 5 cm) [1,0,1,0,1]):=HS2.out.below hb6;have HO3:Hid (SR w3 W.heap.size u6 [1]):=hS6.mono HB2.out.size;clear hS6 hb6 hD6 CQ l4 k40 k41 z4 z5 lf f0 zf HS2;obtain⟨bo,oo,co,rfl,-,-,-,-⟩:=HO3.out.md (N:=1) pr2 isP_1 (by decide) 0 (by decide) rfl;go_wp2;refine wp_loop_rounds 1 ?_;rw[rounds_succ];obtain⟨l4,k40,k41,z4,z5⟩:=HK.out.below HB3.out;obtain⟨lf,f0,zf⟩:=HF.out.below HB3.out;go_wp2_with (go_at_call 66;fail);refine(root_any w3 2 4 _ [1,0,1,0,1] HS3.out.view (by decide) (by decide)).mono ?_;rintro e w4 ⟨u7,z,rfl,hS7,hb7,hz7,h17,h27⟩;obtain rfl:=root_f hz7 h17 h27;have HB4:Hid (Below W.heap.size W w4):=HB3.out.trans (hb7.mono HB3.out.size);have HS4:Hid (SR w4 W.heap.size u7 [1,1,1]):=hS7.mono HB3.out.size;clear hS7 hb7 hz7 h17 h27 l4 k40 k41 z4 z5 lf f0 zf HS3 HO3;obtain⟨l4,k40,k41,z4,z5⟩:=HK.out.below HB4.out;obtain⟨lf,f0,zf⟩:=HF.out.below HB4.out;have hw2:wrap64 2=2:=wrap_in (by decide) (by decide);obtain⟨bg,og,cg,rfl,-,hbg,-,-⟩:=HS4.out.md (N:=3) pr2 isP_g (by decide) 2 (by decide) rfl;have HBG:Hid (W.heap.size≤bg):=hbg;clear hbg;go_upto_region 2 with fail;refine wp_world (fun w5=>F1 w5 bf (.slice (some ⟨bg,og,none⟩) 3 cg)∧FB w5 bk (.int .i64 2) (.int .i64 4)∧SR w5 W.heap.size (.slice (some ⟨bg,og,none⟩) 3 cg) [1,1,1]∧Kept (·= bf) W w5)
   ⟨(HF.out.below HB4.out).set _,(HK.out.below HB4.out).keep _ HBB.out.2,sr_set HS4.out HBB.out.1 _,(Kept.of_below HB4.out).set (S:=fun k=>k=bf) (b:=bf) (i:=0) rfl _⟩ ?_
  rintro w5 ⟨hF5,hK5,hS5,hKK5⟩;have HF5:Hid (F1 w5 bf (.slice (some ⟨bg,og,none⟩) 3 cg)):=hF5;have HK5:Hid (FB w5 bk (.int .i64 2) (.int .i64 4)):=hK5;have HS5:Hid (SR w5 W.heap.size (.slice (some ⟨bg,og,none⟩) 3 cg) [1,1,1]):=hS5;have HKK5:Hid (Kept (·= bf) W w5):=hKK5;have HWW:Hid (W.heap.size≤w5.heap.size):=hKK5.size;clear hS5 hKK5 l4 k40 k41 z4 z5 lf f0 zf HS4;obtain⟨l4,k40,k41,z4,z5⟩:=hK5;obtain⟨lf,f0,zf⟩:=hF5;go_wp2;rw[rounds_succ];go_upto_region 3 with fail;refine wp_drawn mixed [⟨17,[],[],[2]⟩,⟨18,[],[],[1]⟩,⟨19,[],[],[2]⟩,⟨20,[],[],[1]⟩,⟨21,[2,3],[2,3],[]⟩] [] (by kernel_rfl) 60 rfl (by kernel_rfl) (fun (i:Nat) (v:Value) (wq:World)=>match i with|0=>v= .agg #[.int .i64 (2), .int .i64 (4)]|1=>v= .slice (some ⟨bg,og,none⟩) (3) (cg)|2=>v= .agg #[.int .i64 (2), .int .i64 (4)]|3=>v= .slice (some ⟨bg,og,none⟩) (3) (cg)|4=>PV w5 [1] v wq|_=>True) (fun _ wq=>Below w5.heap.size w5 wq) (fun wx wy=>Below wx.heap.size wx wy) (Below.refl _ _).drew (fun i v wx wy h hx=>match i,h with|0,h=>h|1,h=>h|2,h=>h|3,h=>h|4,h=>h.below hx|n+5,_=>trivial) ?_ ?_
  ·intro i o r ho hr L fr wx hW hL hpr hds hdef hpre hfree;clear hL hpr hds hdef
   match i,ho,hr with
   |0,ho,hr=>?_
   |1,ho,hr=>?_
   |2,ho,hr=>?_
   |3,ho,hr=>?_
   |4,ho,hr=>obtain rfl:=Option.some.inj ho;obtain rfl:=Option.some.inj hr;have e2:=ev_tmp (show fr.eval (.tmp 19)= .agg #[.int .i64 (2), .int .i64 (4)] from hpre 2 (by decide) _ rfl);have e3:=ev_tmp (show fr.eval (.tmp 20)= .slice (some ⟨bg,og,none⟩) (3) (cg)from hpre 3 (by decide) _ rfl);clear hpre hfree;refine stpK rfl rfl fun K hK=>?_;go_simp;refine(derivative_any wx 2 4 _ [1,1,1] 2 (HS5.out.view.below hW) (by decide) (by decide) isP_g.bd (by decide) (by decide)).mono ?_;rintro e wy ⟨v1,zd,rfl,hSd,hbd,hNd⟩;exact hK _ _ ⟨(by obtain rfl:=der_g hNd;exact⟨hSd.mono hW.size,hW.trans (hbd.mono hW.size)⟩),hW.trans (hbd.mono hW.size),hbd,fun h=>(List.not_mem_nil h).elim⟩
   |n+5,ho,hr=>exact absurd hr (by simp)
   all_goals
    obtain rfl:=Option.some.inj ho;obtain rfl:=Option.some.inj hr;simp only[List.mem_cons,List.not_mem_nil,or_false,false_imp_iff,implies_true,forall_eq_or_imp,forall_eq,List.getElem?_cons_zero,List.getElem?_cons_succ,Option.some.injEq,forall_eq',evt]at hpre hfree;have c0:=(hW.cell (p:=⟨bk,0,none⟩) l4).trans k40;have c1:=(hW.cell (p:=⟨bk,1,none⟩) l4).trans k41;have c2:=(hW.cell (p:=⟨bf,0,none⟩) lf).trans f0;refine stpK rfl rfl fun K hK=>?_ <;> (go_simp;exact hK _ _ ⟨rfl,hW,Below.refl _ _,fun h=>(List.not_mem_nil h).elim⟩)
  ·intro vs w6 hvs hW1 hap0;clear hap0;have e0:vs 0= .agg #[.int .i64 (2), .int .i64 (4)]:=hvs 0 (by decide);have e1:vs 1= .slice (some ⟨bg,og,none⟩) (3) (cg):=hvs 1 (by decide);have e2:vs 2= .agg #[.int .i64 (2), .int .i64 (4)]:=hvs 2 (by decide);have e3:vs 3= .slice (some ⟨bg,og,none⟩) (3) (cg):=hvs 3 (by decide);obtain⟨u4,e4⟩:∃u,vs 4=u:=⟨_,rfl⟩;have p4:PV w5 [1] u4 w6:=(by rw[←e4];exact hvs 4 (by decide));simp only[puts,Nat.reduceAdd,e0,e1,e2,e3,e4,Act.put,List.setIfInBounds_toArray,List.set_cons_zero,List.set_cons_succ,List.drop_succ_cons,List.drop_zero,List.length_cons,List.length_nil];clear hvs e0 e1 e2 e3 e4;have HB6:Hid (Below w5.heap.size w5 w6):=hW1;obtain⟨hS4,hB4⟩:=p4;have CG:=gcd_any w6 2 4 _ u4 [1,1,1] [1] (HS5.out.below hW1).view hS4.view (by decide) pr2 isP_g isP_1 (by decide) (by decide);clear l4 k40 k41 z4 z5 lf f0 zf hW1 hS4 hB4;go_wp2_with (go_at_call 42;fail);refine CG.mono ?_;rintro e w7 ⟨u5,z,rfl,hS5,hb5,hG5⟩;obtain rfl:=gcd_g hG5;have HB7:Hid (Below w5.heap.size w5 w7):=HB6.out.trans (hb5.mono HB6.out.size);have HM7:Hid (SR w7 W.heap.size u5 [1]):=hS5.mono (by have:=HWW.out;have:=HB6.out.size;omega);clear hS5 hb5 hG5 CG;obtain⟨bm,om,cm,rfl,hMm,hbm,hlm,hym⟩:=HM7.out.md (N:=1) pr2 isP_1 (by decide) 0 (by decide) rfl;obtain⟨l4,k40,k41,z4,z5⟩:=HK5.out.below HB7.out;obtain⟨lf,f0,zf⟩:=HF5.out.below HB7.out;have CQ:=quotient_any w7 2 4 _ [1,1,1] _ bm om 0 cm _ (HS5.out.below HB7.out).view hMm hlm hym (by decide) (by decide) isP_g.bd (by decide);clear hMm hbm hlm hym;go_wp2_with (go_at_call 65;fail);refine CQ.mono ?_;rintro e w8 ⟨u6,Q,z,rfl,hS6,hb6,hD6⟩;obtain rfl:=quo_1 isP_g hD6;have HB8:Hid (Below w5.heap.size w5 w8):=HB7.out.trans (hb6.mono HB7.out.size);have HM8:Hid (SR w8 W.heap.size (.slice (some ⟨bm,om,none⟩) 1 cm) [1]):=HM7.out.below hb6;have HO8:Hid (SR w8 W.heap.size u6 [1,1,1]):=hS6.mono (by have:=HWW.out;have:=HB7.out.size;omega);clear hS6 hb6 hD6 CQ l4 k40 k41 z4 z5 lf f0 zf HM7;obtain⟨bo,oo,co,rfl,-,-,-,-⟩:=HO8.out.md (N:=3) pr2 isP_g (by decide) 2 (by decide) rfl;go_wp2;refine wp_loop_rounds 2 ?_;rw[rounds_succ];obtain⟨l4,k40,k41,z4,z5⟩:=HK5.out.below HB8.out;have CG:=gcd_any w8 2 4 _ _ [1,1,1] [1] HO8.out.view HM8.out.view (by decide) pr2 isP_g isP_1 (by decide) (by decide);go_wp2_with (go_at_call 42;fail);refine CG.mono ?_;rintro e w9 ⟨u8,z,rfl,hS9,hb9,hG9⟩;obtain rfl:=gcd_g hG9;have HB9:Hid (Below w5.heap.size w5 w9):=HB8.out.trans (hb9.mono HB8.out.size);have HM9:Hid (SR w9 W.heap.size (.slice (some ⟨bm,om,none⟩) 1 cm) [1]):=HM8.out.below hb9;have HO9:Hid (SR w9 W.heap.size (.slice (some ⟨bo,oo,none⟩) 3 co) [1,1,1]):=HO8.out.below hb9;have HA9:Hid (SR w9 W.heap.size u8 [1]):=hS9.mono (by have:=HWW.out;have:=HB8.out.size;omega);clear hS9 hb9 hG9 CG l4 k40 k41 z4 z5 HM8 HO8;obtain⟨ba,oa,ca,rfl,hMa,-,hla,hya⟩:=HA9.out.md (N:=1) pr2 isP_1 (by decide) 0 (by decide) rfl;obtain⟨l4,k40,k41,z4,z5⟩:=HK5.out.below HB9.out;have CQ:=quotient_any w9 2 4 _ [1,1,1] _ ba oa 0 ca _ HO9.out.view hMa hla hya (by decide) (by decide) isP_g.bd (by decide);clear hMa hla hya;go_wp2_with (go_at_call 65;fail);refine CQ.mono ?_;rintro e w10 ⟨u9,Q,z,rfl,hS10,hb10,hD10⟩;obtain rfl:=quo_1 isP_g hD10;have HB10:Hid (Below w5.heap.size w5 w10):=HB9.out.trans (hb10.mono HB9.out.size);have HM10:Hid (SR w10 W.heap.size (.slice (some ⟨bm,om,none⟩) 1 cm) [1]):=HM9.out.below hb10;have HA10:Hid (SR w10 W.heap.size (.slice (some ⟨ba,oa,none⟩) 1 ca) [1]):=HA9.out.below hb10;have HP10:Hid (SR w10 W.heap.size u9 [1,1,1]):=hS10.mono (by have:=HWW.out;have:=HB9.out.size;omega);clear hS10 hb10 hD10 CQ l4 k40 k41 z4 z5 HM9 HA9 HO9;obtain⟨bp,op,cp,rfl,hMp,hbp,hlp,hyp⟩:=HP10.out.md (N:=3) pr2 isP_g (by decide) 2 (by decide) rfl;have HKK10:Hid (Kept (·= bf) W w10):=HKK5.out.trans (.of_below HB10.out);obtain⟨fn,tmps,assign,body,hy,hR⟩:=HY.out 2 w10 bp op cp _ (HJ.out _ _ HJ0.out HKK10.out) hMp hbp hlp hyp HKK10.out;clear hMp hbp hlp hyp;go_upto_region 10 with fail;refine(wpIn_wide (n:=3)).1 ?_
   gi_wp2
   refine hR.mono ?_;rintro e w11 ⟨rfl,hJ11,hK11⟩;have HJ11:Hid (J' w11):=hJ11;have HK11:Hid (FB w11 bk (.int .i64 2) (.int .i64 4)):=(HK5.out.below HB10.out).kept hK11 HS.out.2.1;have HF11:Hid (F1 w11 bf (.slice (some ⟨bg,og,none⟩) 3 cg)):=(HF5.out.below HB10.out).kept hK11 HS.out.1;have HM11:Hid (SR w11 W.heap.size (.slice (some ⟨bm,om,none⟩) 1 cm) [1]):=HM10.out.kept hK11 HS.out.2.2;have HA11:Hid (SR w11 W.heap.size (.slice (some ⟨ba,oa,none⟩) 1 ca) [1]):=HA10.out.kept hK11 HS.out.2.2;have HW11:Hid (W.heap.size≤w11.heap.size):=(by have:=HWW.out;have:=HB10.out.size;have:=hK11.size;show _≤_;omega);clear hJ11 hK11 hR hy HM10 HA10 HP10
   gi_wp2
   obtain⟨ba',oa',ca',hva,hMa,-,hla,hya⟩:=HA11.out.md (N:=1) pr2 isP_1 (by decide) 0 (by decide) rfl;obtain⟨rfl,rfl,rfl⟩:ba'=ba∧oa'=oa∧ca'=ca:=(by simp only[Value.slice.injEq,Option.some.injEq,Addr.mk.injEq]at hva;omega);clear hva;obtain⟨l4,k40,k41,z4,z5⟩:=HK11.out;have CQ:=quotient_any w11 2 4 _ [1] _ ba' oa' 0 ca' _ HM11.out.view hMa hla hya (by decide) (by decide) isP_1.bd (by decide);clear hMa hla hya;go_wp2_with (go_at_call 65;fail);refine CQ.mono ?_;rintro e w12 ⟨u12,Q,z,rfl,hS12,hb12,hD12⟩;obtain rfl:=quo_1 isP_1 hD12;have HB12:Hid (Below w11.heap.size w11 w12):=hb12;have HM12:Hid (SR w12 W.heap.size u12 [1]):=hS12.mono HW11.out;clear hS12 hb12 hD12 CQ l4 k40 k41 z4 z5 HM11;obtain⟨l4,k40,k41,z4,z5⟩:=HK11.out.below HB12.out;obtain⟨lf,f0,zf⟩:=HF11.out.below HB12.out;have hw4:wrap64 4=4:=wrap_in (by decide) (by decide);go_wp2;rw[rounds_succ];go_wp2_with (go_at_call 66;fail);refine(root_any w12 2 4 _ [1] HM12.out.view (by decide) (by decide)).mono ?_;rintro e w13 ⟨u13,z,rfl,hS13,hb13,hz13,h113,h213⟩;obtain rfl:=root_1 hz13 h113 h213;have HB13:Hid (Below w11.heap.size w11 w13):=HB12.out.trans (hb13.mono HB12.out.size);have HS13:Hid (SR w13 W.heap.size u13 [1]):=hS13.mono (by have:=HW11.out;have:=HB12.out.size;omega);clear hS13 hb13 hz13 h113 h213 l4 k40 k41 z4 z5 lf f0 zf;obtain⟨b1,o1,c1,rfl,-,-,-,-⟩:=HS13.out.md (N:=1) pr2 isP_1 (by decide) 0 (by decide) rfl;obtain⟨l4,k40,k41,z4,z5⟩:=HK11.out.below HB13.out;obtain⟨lf,f0,zf⟩:=HF11.out.below HB13.out;go_upto_region 2 with fail;refine wp_world (fun w14=>F1 w14 bf (.slice (some ⟨b1,o1,none⟩) 1 c1)∧FB w14 bk (.int .i64 2) (.int .i64 4)∧J' w14)
    ⟨(HF11.out.below HB13.out).set _,(HK11.out.below HB13.out).keep _ HBB.out.2,HJ'.out _ _ HJ11.out ((Kept.of_below HB13.out).set (S:=fun k=>k=bf) (b:=bf) (i:=0) rfl _)⟩ ?_
   rintro w14 ⟨hF14,hK14,hJ14⟩;have HJ14:Hid (J' w14):=hJ14;clear hJ14 l4 k40 k41 z4 z5 lf f0 zf;obtain⟨l4,k40,k41,z4,z5⟩:=hK14;obtain⟨lf,f0,zf⟩:=hF14;go_wp2;rw[rounds_succ];go_wp2;go_end0;exact⟨⟨_,rfl⟩,HJ14.out⟩
end Go.Proofs.YtffdemplaodbcaaDoor
namespace Go.Proofs.YtffdemplaodbcaaDoor
open Go Go.Proofs Go.RowKit Go.Rad
theorem Kept.put {S:Nat→Prop} {a w:World} (h:Kept S a w) {l:Nat} (o:Obj) (hl:S l):Kept S a (w.putObj l o):=h.trans ⟨rfl,rfl,rfl,by simp,fun k _ hs=>World.putObj_heap_other (fun e=>hs (e▸hl))⟩
theorem Kept.obj {S:Nat→Prop} {w w':World} (h:Kept S w w') {k:Nat} {o:Obj} (hk:w.heap[k]? =some o) (hs:¬S k):w'.heap[k]? =some o:=(h.block k (Array.getElem?_eq_some_iff.1 hk).1 hs).trans hk
theorem wp_range1 {g:Operand} {ps:Array Tmp} {assign body:Code} {Q:Exit→Act→World→Prop} {a:Act} {w:World} {gf:Nat} {lb:Array Value} (hg:a.eval g= .func (.func gf) #[] lb)
 (eg:∀args w,(callFunc gf args).run Tryd.prog w= .ok (.enter gf args) w) (hps:ps.size=2) (bf bs:Nat) (hbf:bf<w.heap.size) (hbs:bs<w.heap.size) (hne:bf≠bs) (G:World→Value→Prop)
 (hG:∀A C u,G A u→Kept (fun k=>k=w.heap.size+1) A C→G C u)
 (hIt:∀(l:Nat) (W:World) (S:Nat→Prop) (J J':World→Prop),Below w.heap.size w W→W.heap.size=w.heap.size+2→(∀A C,J' A→Kept (·= bf) A C→J' C)→(∀A C,J A→Kept (·= bf) A C→J C)→
  (∀k,S k→k=bs∨(w.heap.size≤k∧k<W.heap.size))→
  (∀m W1 u,J W1→G W1 u→YieldAt Fence.wide m Tryd.prog l #[u, .int .i64 2] W1 fun e W'=>e= .returned (.bool true)∧J' W'∧Kept S W1 W')→J W→
  Calls Tryd.prog gf (#[.func (.yield l) #[] #[]]++lb) W fun e W'=>(∃u,e= .returned u)∧J' W')
 (I I':World→Prop) (hI:∀A C,I A→Kept (fun k=>k=bf∨k=w.heap.size+1) A C→I C) (hI':∀A C,I' A→Kept (fun k=>k=bf∨k=w.heap.size+1) A C→I' C) (h0:I w) (a₁:Value→Act)
 (hassign:∀(l m:Nat) (u:Value) (W:World) (K:Act→World→Prop),K (a₁ u) W→
  assign.wpIn (Fence.wide.inRound l) m Tryd.prog (Exit.then K (fun _ _ _=>False)) {tmps:=(ps.zip #[u, .int .i64 2]).foldl (fun t (p,v)=>t.setIfInBounds p v) a.tmps,defers:=[]} W)
 (hbody:∀(l m:Nat) (u:Value) (W:World),I W→G W u→body.wpIn (Fence.wide.inRound l) m Tryd.prog (Exit.then (fun _ W'=>I' W'∧Kept (·= bs) W W') (fun _ _ _=>False)) (a₁ u) W)
 (hdone:∀W,I' W→W.heap[w.heap.size]? =some (.deferred (some []))→Q .normal {a with defers:={target:= .collected w.heap.size,args:=#[]}:: a.defers} W):
 (Code.rangeFunc g ps assign body).wp Tryd.prog Q a w:=by
 refine(wpIn_wide (n:=3)).1 (wpIn_rangeFunc ?_);intro fn hfn;obtain⟨rec,hrec⟩:∃rec:LoopState→Option Code→Loop,rec=fun st pe=>{state:=st,pending:=pe,fn,tmps:=a.tmps,params:=ps,assign,body,defers:=w.heap.size} :=⟨_,rfl⟩;obtain⟨W1,hW1⟩:∃W1,(w.alloc (.deferred (some []))).alloc (.loop (rec .ready none))=W1:=⟨_,rfl⟩;have hL1:W1.heap[w.heap.size+1]? =some (.loop (rec .ready none)):=(by rw[←hW1];have:=World.alloc_heap_new (w.alloc (.deferred (some []))) (.loop (rec .ready none));rwa [World.size_alloc]at this);have hK1:W1.heap[w.heap.size]? =some (.deferred (some [])):=(by rw[←hW1];exact(Below.heap_alloc _ _ _ (by simp)).trans (World.alloc_heap_new w _));have hB1:Below w.heap.size w W1:=(by rw[←hW1];exact bel2 _ _ _);have hs1:W1.heap.size=w.heap.size+2:=(by rw[←hW1];simp);have hI1:I W1:=hI _ _ h0 (.of_below hB1);refine⟨w.heap.size+1,[{target:= .collected w.heap.size,args:=#[]}],W1,{target:= .fn (.func gf) lb,args:=#[.func (.yield (w.heap.size+1)) #[] #[]]},W1,gf,
  #[.func (.yield (w.heap.size+1)) #[] #[]]++lb,W1,?_,?_,?_,?_,fun _=>by decide,?_⟩
 ·rw[←hW1,hrec];exact run_enterLoop_outer _ _ _ _ _
 ·simp only[resolve,hg];simp[go_sem]
 ·intro f' _;trivial
 ·simp[invoke,go_sem,eg]
 ·refine(callsIn_wide.2 (hIt (w.heap.size+1) W1 (fun k=>k=bs∨k=w.heap.size+1)
   (fun W=>I W∧W.heap[w.heap.size+1]? =some (.loop (rec .ready none))∧W.heap[w.heap.size]? =some (.deferred (some [])))
   (fun W=>I' W∧W.heap[w.heap.size+1]? =some (.loop (rec .ready none))∧W.heap[w.heap.size]? =some (.deferred (some [])))
   hB1 hs1
   (fun A C h k=>⟨hI' _ _ h.1 (k.mono fun _ e=> .inl e),k.obj h.2.1 (by omega),k.obj h.2.2 (by omega)⟩)
   (fun A C h k=>⟨hI _ _ h.1 (k.mono fun _ e=> .inl e),k.obj h.2.1 (by omega),k.obj h.2.2 (by omega)⟩)
   (fun k hk=>by omega) ?_ ⟨hI1,hL1,hK1⟩)).mono ?_
  ·rintro m W u ⟨hi,hl,hk⟩ hGu;have hlt:w.heap.size+1<W.heap.size:=(Array.getElem?_eq_some_iff.1 hl).1;have hy:=run_yield (P:=Tryd.prog) (args:=#[u, .int .i64 2]) hl (by rw[hrec];exact hps.symm);rw[hrec]at hy;refine⟨fn,_,assign,body,hy,roundIn_of_wpIn hfn (hassign _ _ u W _ ⟨_,run_beginRound hl (by rw[hrec]),?_⟩)⟩;have hk0:Kept (fun k=>k=w.heap.size+1) W (W.putObj (w.heap.size+1) (.loop {rec .ready none with state:= .busy})):=(Kept.refl _ W).put _ rfl;have hl2:(W.putObj (w.heap.size+1) (.loop {rec .ready none with state:= .busy})).heap[w.heap.size+1]? =some (.loop {rec .ready none with state:= .busy}):=World.putObj_heap_same hlt;have hk2:(W.putObj (w.heap.size+1) (.loop {rec .ready none with state:= .busy})).heap[w.heap.size]? =some (.deferred (some [])):=(World.putObj_heap_other (by omega)).trans hk;refine wpIn_mono (hbody _ m u _ (hI _ _ hi (hk0.mono fun _ e=> .inr e)) (hG _ _ _ hGu hk0)) ?_;intro e a3 W3 hp;cases e with
   |normal=>
    obtain⟨hi3,hk3⟩:=hp;have hl3:=hk3.obj hl2 (by omega);have hd3:=hk3.obj hk2 (by omega);have hr:=run_endRound (P:=Tryd.prog) none hl3;rw[hrec]at hr;refine⟨_,_,hr,rfl,⟨hI' _ _ hi3 ((Kept.refl _ W3).put _ (.inr rfl)),?_,(World.putObj_heap_other (by omega)).trans hd3⟩,?_⟩
    ·rw[hrec];exact World.putObj_heap_same (Array.getElem?_eq_some_iff.1 hl3).1
    ·exact((hk0.mono fun _ e=> .inr e).trans (hk3.mono fun _ e=> .inl e)).put _ (.inr rfl)
   |ret=>exact hp.elim
   |exit id=>exact hp.elim
   |goto t=>exact hp.elim
   |panic ch=>exact hp.elim
   |outgrown=>exact hp.elim
  ·rintro e W2 ⟨⟨v,rfl⟩,hi,hl,hk⟩;refine⟨none,_,by have:=run_endLoop (P:=Tryd.prog) hl (by rw[hrec];simp);rw[hrec]at this;exact this,hdone _ (hI' _ _ hi ((Kept.refl _ W2).put _ (.inr rfl))) ((World.putObj_heap_other (by omega)).trans hk)⟩
end Go.Proofs.YtffdemplaodbcaaDoor
