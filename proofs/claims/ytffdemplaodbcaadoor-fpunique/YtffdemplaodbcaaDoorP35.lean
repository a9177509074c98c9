/- A part of the proof: MF. -/
import Derived.Test.YtffdemplaodbcaaDoorP34
import Derived.Test.YtffdemplaodbcaaDoorP25
set_option linter.all false
namespace Go.Proofs.YtffdemplaodbcaaDoor
open Go Go.Proofs Go.RowKit Go.Rad
inductive PRQ (wa:World) (p q:Int) (L:Nat) (t:Nat→Int) (v:Value) (wx:World):Prop
 |mk (z:List Int) (hS:SR wx wa.heap.size v z) (hB:Below wa.heap.size wa wx) (hq:∀j,0≤z.getD j 0∧z.getD j 0<q) (hl:z.length≤L) (ht:∀j,row z j%p=t j%p)
theorem PRQ.below {wa wx wy:World} {p q:Int} {L:Nat} {t:Nat→Int} {v:Value} (h:PRQ wa p q L t v wx) (hb:Below wx.heap.size wx wy):PRQ wa p q L t v wy:=by obtain⟨z,hS,hB,hq,hl,ht⟩:=h;exact⟨z,hS.below hb,hB.trans (hb.mono hB.size),hq,hl,ht⟩
inductive EqP (w:World) (p q:Int) (f:List Int) (n:Nat) (e:Ending) (w':World):Prop
 |mk (R:Nat) (rb:Nat→Nat) (M:Nat→Nat→Int) (s:List Int) (pl:Nat→List Int) (he:e= .returned (.slice (some ⟨R,0,none⟩) n n)) (hM:MT w' w.heap.size R n rb M) (hb:Below w.heap.size w w') (hbd:∀i j,i<n→j<n→0≤M i j∧M i j<q)
  (hs:Res p f (row (ppow [0,1] p.toNat)) s) (hpl:∀c,c<n→Res p f (row (ppow s c)) (pl c)) (h:∀r c,r<n→c<n→M r c%p=((if r=c then p-1 else 0)+row (pl c) r)%p)
set_option maxRecDepth 20000 in
set_option maxHeartbeats 4000000 in
theorem equations_any (w:World) (p q:Int) (b2 o2 n c2:Nat) (y:Nat→Int) (hM:MD w p b2 o2 n c2 y) (hb2:b2<w.heap.size) (hq:q=p*p) (hp:1<p∧p<2147483648) (hn:n≤1000) (hn0:0<n):
 Calls Tryd.prog 70 #[FV p q, .slice (some ⟨b2,o2,none⟩) (n+1:Nat) c2] w fun e w'=>EqP w p q (lst y (n+1)) n e w':=by
 have HM:Hid (MD w p b2 o2 n c2 y):=hM;have HB2:Hid (b2<w.heap.size):=hb2;have HQ:Hid (q=p*p):=hq;have hni:(n:Int)≤1000:=(by omega);clear hM hb2 hq;go_enter Tryd.func70,Tryd.ntmps70;go_upto_region 1 with fail;refine wp_world (fun w1=>Below w.heap.size w w1∧FB w1 w.heap.size (.int .i64 p) (.int .i64 q)) ⟨bel1 _ _,FB.mk0 _ _ _ _⟩ ?_;rintro w1 ⟨hB1,hF1⟩;obtain⟨b4,hb4⟩:∃x,x=w.heap.size:=⟨_,rfl⟩;rw[←hb4]at hF1⊢;have H4:Hid (b4=w.heap.size):=hb4;have HB1:Hid (Below w.heap.size w w1):=hB1;have HF1:Hid (FB w1 b4 (.int .i64 p) (.int .i64 q)):=hF1;clear hB1 hF1 hb4;have hwn:wrap64 (n:Int)=(n:Int):=wrap_in (by omega) (by omega);go_wp2_with (at_make;refine wpList_makeR rfl _ _ rfl _ n rfl rfl (by first|rfl|omega) (by omega) ?_;intro w3 hc3 hz3 hl3 hb3);obtain⟨R,hR⟩:∃x,x=w1.heap.size:=⟨_,rfl⟩;rw[←hR]at hc3 hz3 hl3⊢;have HR:Hid (R=w1.heap.size∧b4<R∧w.heap.size≤R):=(by have h1:=HF1.out.lt;have h2:=HB1.out.size;show _∧_∧_;omega);have HK3:Hid (MK w3 w.heap.size R n 0 (fun _=>0) (fun _ _=>0)):=⟨fun i hi=>by omega,fun i _ hi=>hc3 i hi,hz3,HR.out.2.2,hl3,fun i hi=>by omega,fun i hi=>by omega,fun i j hi=>by omega⟩;have HF3:Hid (FB w3 b4 (.int .i64 p) (.int .i64 q)):=HF1.out.below hb3;have HB3:Hid (Below w.heap.size w w3):=HB1.out.trans (hb3.mono HB1.out.size);clear hc3 hz3 hl3 hb3 hR HF1;go_loopw [20] (fun i wr=>∃(k:Nat) (rb:Nat→Nat) (M:Nat→Nat→Int),i= .int .i64 k∧k≤n∧MK wr w.heap.size R n k rb M∧(∀i j,i<k→j<n→M i j=if j=i then p-1 else 0)∧(∀i,i<k→rb i≠b4)∧FB wr b4 (.int .i64 p) (.int .i64 q)∧Below w.heap.size w wr) (fun i _=>n-(Lib.intOf i).toNat)
 case atStart=>exact⟨0,_,_,rfl,by omega,HK3.out,fun i j hi=>by omega,fun i hi=>by omega,HF3.out,HB3.out⟩
 case round=>
  obtain⟨k,rb,M,rfl,hkn,hK,hMM,hr4,hF,hB⟩:=hrel;have HK:Hid (MK wr w.heap.size R n k rb M):=hK;have HMM:Hid ((∀i j,i<k→j<n→M i j=if j=i then p-1 else 0)∧∀i,i<k→rb i≠b4):=⟨hMM,hr4⟩;have HF:Hid (FB wr b4 (.int .i64 p) (.int .i64 q)):=hF;have HB:Hid (Below w.heap.size w wr):=hB;clear hK hMM hr4 hF hB;by_cases hk:k<n
  ·have hki:(k:Int)<(n:Int):=(by omega);have ck:=HK.out.c0 k (Nat.le_refl _) hk;have zk:=HK.out.zR k hk;have lR:=HK.out.lt;go_upto_region 7 with (at_make;refine wpList_makeI rfl _ _ rfl _ n rfl rfl (by rfl) (by omega) ?_;intro w5 ho5 hb5;have ck5:w5.cell? ⟨R,k,none⟩=some (.slice none 0 0):=(hb5.cell (p:=⟨R,k,none⟩) lR).trans ck;have zk5:w5.frozen? ⟨R,k,none⟩=false:=(hb5.frozen (p:=⟨R,k,none⟩) lR).trans zk);obtain⟨l,hl⟩:∃x,x=wr.heap.size:=⟨_,rfl⟩;rw[←hl]at ho5⊢;have HLL:Hid (l≠R∧l≠b4∧w.heap.size≤l∧∀i,i<k→rb i≠l):=(by refine⟨by omega,by have:=HF.out.lt;omega,by have:=HB.out.size;omega,fun i hi e=>by have:=(HK.out.row i hi).lt;omega⟩);refine wp_world (fun w6=>MK w6 w.heap.size R n (k+1) (fun i=>if i=k then l else rb i) (fun i j=>if i=k then 0 else M i j)∧FB w6 b4 (.int .i64 p) (.int .i64 q)∧Below w.heap.size w w6)
    ⟨(HK.out.below hb5).put hk (ho5.mono HLL.out.2.2.1) HLL.out.1 HLL.out.2.2.2,(HF.out.below hb5).off _ (by have:=HR.out;omega),(HB.out.trans (hb5.mono HB.out.size)).setCell (p:=⟨R,k,none⟩) HR.out.2.2 _⟩ ?_
   rintro w6 ⟨hK6,hF6,hB6⟩;have HK6:Hid (MK w6 w.heap.size R n (k+1) (fun i=>if i=k then l else rb i) (fun i j=>if i=k then 0 else M i j)):=hK6;have HF6:Hid (FB w6 b4 (.int .i64 p) (.int .i64 q)):=hF6;have HB6:Hid (Below w.heap.size w w6):=hB6;clear hl ho5 hb5 ck5 zk5 ck zk lR;have ck:=hK6.cR k (Nat.lt_succ_self _);rw[if_pos rfl]at ck;have lR:=hK6.lt;have hrow:=hK6.row k (Nat.lt_succ_self _);simp only[if_pos]at hrow;have cl:w6.cell? ⟨l,k,none⟩=some (.int .i64 0):=by
    have:=hrow.c k hk
    rwa [Nat.zero_add]at this
   have zl:w6.frozen? ⟨l,k,none⟩=false:=by
    have:=hrow.z k hk
    rwa [Nat.zero_add]at this
   have lbl:=hrow.lt;obtain⟨l4,k40,k41,z4,z5⟩:=hF6;have hw1:IntKind.i64.wrap (p-1)=p-1:=(by rw[IntKind.wrap_i64];omega);have HFIN:Hid (∀w7,Below w6.heap.size w6 w7→∃(k₁:Nat) (rb:Nat→Nat) (M:Nat→Nat→Int),Value.int .i64 ((k:Int)+1)= .int .i64 k₁∧k₁≤n∧MK (w7.setCell ⟨l,k,none⟩ (.int .i64 (p-1))) w.heap.size R n k₁ rb M∧(∀i j,i<k₁→j<n→M i j=if j=i then p-1 else 0)∧(∀i,i<k₁→rb i≠b4)∧FB (w7.setCell ⟨l,k,none⟩ (.int .i64 (p-1))) b4 (.int .i64 p) (.int .i64 q)∧Below w.heap.size w (w7.setCell ⟨l,k,none⟩ (.int .i64 (p-1)))):=by
    intro w7 hb7;have h9:=(HK6.out.below hb7).num (Nat.lt_succ_self k) hk (p-1);simp only[if_pos]at h9;refine⟨k+1,_,_,congrArg (Value.int .i64) (Int.natCast_add k 1).symm,hk,h9,fun i j hi hj=>?_,fun i hi=>?_,(HF6.out.below hb7).off _ HLL.out.2.1.symm,(HB6.out.trans (hb7.mono HB6.out.size)).setCell (p:=⟨l,k,none⟩) HLL.out.2.2.1 _⟩
    ·show(if i=k∧j=k then p-1 else if i=k then 0 else M i j)=_;by_cases hik:i=k
     ·by_cases hjk:j=k
      ·rw[if_pos ⟨hik,hjk⟩,if_pos (by omega)]
      ·rw[if_neg (fun e=>hjk e.2),if_pos hik,if_neg (by omega)]
     ·rw[if_neg (fun e=>hik e.1),if_neg hik];exact HMM.out.1 i j (by omega) hj
    ·show(if i=k then l else rb i)≠b4
     split
     ·exact HLL.out.2.1
     ·exact HMM.out.2 i (by omega)
   clear hK6 hB6 hrow;refine wp_drawn mixed [⟨28,[],[],[6]⟩,⟨29,[],[],[7]⟩,⟨30,[0,1],[0,1],[]⟩,⟨31,[2],[0,1,2],[]⟩,⟨32,[],[],[7]⟩,⟨33,[],[],[2]⟩,⟨34,[5],[5],[]⟩,⟨35,[6],[5,6],[]⟩] [] (by kernel_rfl) 76 rfl (by kernel_rfl) (fun (i:Nat) (v:Value) (wq:World)=>match i with|0=>v= .slice (some ⟨R,0,none⟩) (n) (n)|1=>v= .int .i64 ((k:Int))|2=>v= .pointer (some ⟨R,k,none⟩)|3=>v= .slice (some ⟨l,0,none⟩) (n) (n)|4=>v= .int .i64 ((k:Int))|5=>v= .pointer (some ⟨b4,0,none⟩)|6=>v= .int .i64 (p)|7=>v= .int .i64 (p-1)|_=>True) (fun _ wq=>Below w6.heap.size w6 wq) (fun wx wy=>Below wx.heap.size wx wy) (Below.refl _ _).drew (fun i v wx wy h hx=>match i,h with|0,h=>h|1,h=>h|2,h=>h|3,h=>h|4,h=>h|5,h=>h|6,h=>h|7,h=>h|n+8,_=>trivial) ?_ ?_
   ·intro i o r ho hr L fr wx hW hL hpr hds hdef hpre hfree;clear hL hpr hds hdef
    match i,ho,hr with
    |0,ho,hr=>?_
    |1,ho,hr=>?_
    |2,ho,hr=>?_
    |3,ho,hr=>?_
    |4,ho,hr=>?_
    |5,ho,hr=>?_
    |6,ho,hr=>?_
    |7,ho,hr=>obtain rfl:=Option.some.inj ho;obtain rfl:=Option.some.inj hr;have e6:=ev_tmp (show fr.eval (.tmp 34)= .int .i64 (p)from hpre 6 (by decide) _ rfl);clear hpre hfree;refine stpK rfl rfl fun K hK=>?_;go_simp;exact hK _ _ ⟨(by first|(show Value.int _ (IntKind.i64.wrap _)=_;rw[hw1])|rfl),hW,Below.refl _ _,fun h=>(List.not_mem_nil h).elim⟩
    |n+8,ho,hr=>exact absurd hr (by simp)
    all_goals
     obtain rfl:=Option.some.inj ho;obtain rfl:=Option.some.inj hr;simp only[List.mem_cons,List.not_mem_nil,or_false,false_imp_iff,implies_true,forall_eq_or_imp,forall_eq,List.getElem?_cons_zero,List.getElem?_cons_succ,Option.some.injEq,forall_eq',evt]at hpre hfree;have c0:=(hW.cell (p:=⟨R,k,none⟩) lR).trans ck;have c1:=(hW.cell (p:=⟨b4,0,none⟩) l4).trans k40;refine stpK rfl rfl fun K hK=>?_ <;> (go_simp;exact hK _ _ ⟨rfl,hW,Below.refl _ _,fun h=>(List.not_mem_nil h).elim⟩)
   ·intro vs wm hvs hW1 hap0;clear hap0;have e0:vs 0= .slice (some ⟨R,0,none⟩) (n) (n):=hvs 0 (by decide);have e1:vs 1= .int .i64 ((k:Int)):=hvs 1 (by decide);have e2:vs 2= .pointer (some ⟨R,k,none⟩):=hvs 2 (by decide);have e3:vs 3= .slice (some ⟨l,0,none⟩) (n) (n):=hvs 3 (by decide);have e4:vs 4= .int .i64 ((k:Int)):=hvs 4 (by decide);have e5:vs 5= .pointer (some ⟨b4,0,none⟩):=hvs 5 (by decide);have e6:vs 6= .int .i64 (p):=hvs 6 (by decide);have e7:vs 7= .int .i64 (p-1):=hvs 7 (by decide);simp only[puts,Nat.reduceAdd,e0,e1,e2,e3,e4,e5,e6,e7,Act.put,List.setIfInBounds_toArray,List.set_cons_zero,List.set_cons_succ,List.drop_succ_cons,List.drop_zero,List.length_cons,List.length_nil];clear hvs e0 e1 e2 e3 e4 e5 e6 e7;have cl5:wm.cell? ⟨l,k,none⟩=some (.int .i64 0):=(hW1.cell (p:=⟨l,k,none⟩) lbl).trans cl;have zl5:wm.frozen? ⟨l,k,none⟩=false:=(hW1.frozen (p:=⟨l,k,none⟩) lbl).trans zl;have HREL:Hid _:=HFIN.out wm hW1;have hw4:wrap64 ((k:Int)+1)=(k:Int)+1:=wrap_in (by omega) (by omega);clear hW1 ck cl zl l4 k40 k41 z4 z5 lR;go_wp2
    try rw[hw4]
    exact⟨HREL.out,meas_up hk⟩
  ·obtain rfl:n=k:=(by omega);have hki:¬((n:Int)<(n:Int)):=(by omega);have HT:Hid (MT wr w.heap.size R n rb M):=HK.out.mt;obtain⟨B,hB0⟩:∃x,x=wr.heap.size:=⟨_,rfl⟩;have HLT:Hid (b4<B∧R<B∧b2<B∧(∀i,i<n→rb i<B)∧w.heap.size≤B):=(by have h1:=HF.out.lt;have h2:=HT.out.lt;have h3:=HB.out.size;have h4:=HB2.out;exact⟨by omega,by omega,by omega,fun i hi=>by have:=(HT.out.row i hi).lt;omega,by omega⟩);have HMM2:Hid (∀i j,i<n→j<n→M i j=if j=i then p-1 else 0):=HMM.out.1;have HR4:Hid (∀i,i<n→rb i≠b4):=HMM.out.2;have HBN:Hid (B=wr.heap.size):=hB0;clear hB0 HMM HK;obtain⟨P,hP⟩:∃P:Nat,p=P:=⟨p.toNat,by omega⟩;subst hP;have CPW:=power_any (wr.alloc (Obj.cells #[Value.int IntKind.i64 0,Value.int IntKind.i64 1] 3)) (P:Int) q _ [0,1] P b2 o2 n c2 y ((sr_new2 wr 0 1).view) ((HM.out.below HB.out).below (bel1 _ _)) (by have:=HLT.out.2.2.1;have:=HBN.out;simp;omega) HQ.out hp
    (fun j=>by
     match j with
     |0=>show 0≤(0:Int)∧(0:Int)<P;omega
     |1=>show 0≤(1:Int)∧(1:Int)<P;omega
     |j+2=>rw[getD_of_ge _ _ (by simp)];omega) (by decide) (by omega)
   obtain⟨l4,k40,k41,z4,z5⟩:=HF.out;go_wp2_with (go_at_call 36;fail);refine CPW.mono ?_;rintro e w8 ⟨u8,s,rfl,hS8,hB8,hR8⟩;have HB8:Hid (Below B wr w8):=(by show Below _ _ _;rw[HBN.out];exact(bel1 wr _).trans (hB8.mono (by simp)));have HS8:Hid (SR w8 B u8 s):=hS8.mono (by rw[HBN.out];simp);have HRS:Hid (Res (P:Int) (lst y (n+1)) (row (ppow [0,1] P)) s):=hR8;have HL8:Hid (B≤w8.heap.size):=(by have h1:=HB8.out.size;have h2:=HBN.out;show _≤_;omega);clear hS8 hB8 hR8 CPW l4 k40 k41 z4 z5;go_upto_region 11 with fail;refine wp_world (fun w9=>Below B wr w9∧SR w9 B (.slice (some ⟨w8.heap.size,0,none⟩) 1 1) [1]∧SR w9 B u8 s∧B≤w9.heap.size) ⟨HB8.out.trans ((bel1 _ _).mono HL8.out),(sr_new1 w8 1).mono HL8.out,HS8.out.below (bel1 _ _),by have:=HL8.out;simp;omega⟩ ?_;rintro w9 ⟨hB9,hS1,hSu,hl9⟩;obtain⟨g9,hg9⟩:∃x,x=w8.heap.size:=⟨_,rfl⟩;rw[←hg9]at hS1⊢;have HB9:Hid (Below B wr w9):=hB9;have HS1:Hid (SR w9 B (.slice (some ⟨g9,0,none⟩) 1 1) [1]):=hS1;have HSU:Hid (SR w9 B u8 s):=hSu;have HL9:Hid (B≤w9.heap.size):=hl9;clear hB9 hS1 hSu hl9 hg9 HS8 HB8 HL8;go_wp2;go_loopw [9,46] (fun o i wq=>∃(c:Nat) (N:Nat→Nat→Int) (x:List Int) (pl:Nat→List Int),i= .int .i64 c∧c≤n∧MT wq w.heap.size R n rb N∧SR wq B o x∧Res (P:Int) (lst y (n+1)) (row (ppow s c)) x∧SR wq B u8 s∧FB wq b4 (.int .i64 P) (.int .i64 q)∧Below w.heap.size w wq∧B≤wq.heap.size∧(∀d,d<c→Res (P:Int) (lst y (n+1)) (row (ppow s d)) (pl d))∧(∀i j,i<n→j<n→N i j=(if j=i then (P:Int)-1 else 0)+(if j<c then row (pl j) i else 0))) (fun _ i _=>n-(Lib.intOf i).toNat)
   case atStart=>
    refine⟨0,M,[1],fun _=>[],rfl,by omega,HT.out.below (by have:=HB9.out;rwa [HBN.out]at this),HS1.out,⟨by rw[lst_length];simp;omega,fun j=>?_,fun _=>by decide, .refl _ _ _⟩,HSU.out,HF.out.below (by have:=HB9.out;rwa [HBN.out]at this),HB.out.trans (HB9.out.mono HLT.out.2.2.2.2),HL9.out,fun d hd=>by omega,fun i j hi hj=>by rw[HMM2.out i j hi hj,if_neg (by omega:¬j<0),Int.add_zero]⟩;cases j with
    |zero=>show 0≤(1:Int)∧(1:Int)<P;omega
    |succ j=>rw[getD_of_ge _ _ (by simp)];omega
   case round=>
    obtain⟨c,N,x,pl,rfl,hcn,hN,hSx,hRx,hSu,hF,hB,hBs,hpl,hNN⟩:=hrel;have HN:Hid (MT wr w.heap.size R n rb N):=hN;have HSx:Hid (SR wr B u9 x):=hSx;have HRx:Hid (Res (P:Int) (lst y (n+1)) (row (ppow s c)) x):=hRx;have HSu:Hid (SR wr B u8 s):=hSu;have HFc:Hid (FB wr b4 (.int .i64 P) (.int .i64 q)):=hF;have HBc:Hid (Below w.heap.size w wr∧B≤wr.heap.size):=⟨hB,hBs⟩;have HPL:Hid ((∀d,d<c→Res (P:Int) (lst y (n+1)) (row (ppow s d)) (pl d))∧(∀i j,i<n→j<n→N i j=(if j=i then (P:Int)-1 else 0)+(if j<c then row (pl j) i else 0))):=⟨hpl,hNN⟩;clear hN hSx hRx hSu hF hB hBs hpl hNN;by_cases hc:c<n
    ·have hci:(c:Int)<(n:Int):=(by omega);obtain⟨a9,b9,o9,c9,rfl,ha9,-⟩:=HSx.out.view;have hxl:x.length≤n:=(by have:=HRx.out.len;rw[lst_length]at this;omega);obtain⟨X,hX⟩:∃X,X=x.length:=⟨_,rfl⟩;have HXL:Hid (X=x.length∧X≤n):=⟨hX,by omega⟩;rw[←hX];have hXn:(X:Int)≤(n:Int):=(by omega);have HSx2:Hid (SR wr B (.slice a9 X c9) x):=(by show SR _ _ _ _;rw[hX];exact HSx.out);rw[←hX]at ha9;clear hX hxl HSx;obtain⟨wo,hwo⟩:∃x,x=wr:=⟨_,rfl⟩;rw[←hwo]at HN HSx2 HSu HFc HBc;have HWO:Hid (wo=wr):=hwo;go_wp2;go_loopw [51] (fun i wq=>∃(r:Nat) (K:Nat→Nat→Int),i= .int .i64 r∧r≤X∧MT wq w.heap.size R n rb K∧SR wq B (.slice a9 X c9) x∧SR wq B u8 s∧FB wq b4 (.int .i64 P) (.int .i64 q)∧Below w.heap.size w wq∧B≤wq.heap.size∧(∀i j,i<n→j<n→K i j=if j=c∧i<r then N i j+row x i else N i j)) (fun i _=>X-(Lib.intOf i).toNat)
     case atStart=>exact⟨0,N,rfl,by omega,by rw[←hwo];exact HN.out,by rw[←hwo];exact HSx2.out,by rw[←hwo];exact HSu.out,by rw[←hwo];exact HFc.out,by rw[←hwo];exact HBc.out.1,by rw[←hwo];exact HBc.out.2,fun i j hi hj=>by rw[if_neg (by omega)]⟩
     case round=>
      obtain⟨r,K,rfl,hrX,hK,hSx,hSu,hF,hB,hBs,hKK⟩:=hrel;have HKt:Hid (MT wr w.heap.size R n rb K):=hK;have HSi:Hid (SR wr B (.slice a9 X c9) x):=hSx;have HSui:Hid (SR wr B u8 s):=hSu;have HFi:Hid (FB wr b4 (.int .i64 P) (.int .i64 q)):=hF;have HBi:Hid (Below w.heap.size w wr∧B≤wr.heap.size):=⟨hB,hBs⟩;have HKK:Hid (∀i j,i<n→j<n→K i j=if j=c∧i<r then N i j+row x i else N i j):=hKK;clear hK hSx hSu hF hB hBs hKK;by_cases hr:r<X
      ·have hri:(r:Int)<(X:Int):=(by omega);obtain rfl:=ha9 (by omega);have hXl:=HXL.out;have hrn:(r:Int)<(n:Int):=(by omega);have hrN:r<n:=(by omega);obtain⟨V,hV⟩:∃V,V=x.getD r 0:=⟨_,rfl⟩;have cv:wr.cell? ⟨b9,o9+r,none⟩=some (.int .i64 V):=by
        rw[hV];cases HSi.out with
        |nil a c hv hx=>simp at hv;omega
        |row b o c hv h0 hc hB hl hA hz=>simp only[Value.slice.injEq,Option.some.injEq,Addr.mk.injEq]at hv;obtain⟨⟨rfl,rfl,-⟩,-,-⟩:=hv;exact hA r (by omega)
       have hVb:=HRx.out.bd r;rw[←hV]at hVb;have ck:=HKt.out.cR r hrN;have cx:=HKt.out.at hrN hc;have zx:wr.frozen? ⟨rb r,c,none⟩=false:=by
        have:=(HKt.out.row r hrN).z c hc
        rwa [Nat.zero_add]at this
       obtain⟨Y,hY⟩:∃Y,Y=K r c:=⟨_,rfl⟩;rw[←hY]at cx;have hYb:0≤Y∧Y<P:=by
        rw[hY,HKK.out r c hrN hc,if_neg (by omega),HPL.out.2 r c hrN hc,if_neg (by omega:¬c<c)]
        split <;> omega
       have HREL:Hid (∃(r₁:Nat) (K:Nat→Nat→Int),Value.int .i64 ((r:Int)+1)= .int .i64 r₁∧r₁≤X∧MT (wr.setCell ⟨rb r,c,none⟩ (.int .i64 (Y+V))) w.heap.size R n rb K∧SR (wr.setCell ⟨rb r,c,none⟩ (.int .i64 (Y+V))) B (.slice (some ⟨b9,o9,none⟩) X c9) x∧SR (wr.setCell ⟨rb r,c,none⟩ (.int .i64 (Y+V))) B u8 s∧FB (wr.setCell ⟨rb r,c,none⟩ (.int .i64 (Y+V))) b4 (.int .i64 P) (.int .i64 q)∧Below w.heap.size w (wr.setCell ⟨rb r,c,none⟩ (.int .i64 (Y+V)))∧B≤(wr.setCell ⟨rb r,c,none⟩ (.int .i64 (Y+V))).heap.size∧(∀i j,i<n→j<n→K i j=if j=c∧i<r₁ then N i j+row x i else N i j)):=by
        have hrB:=HLT.out.2.2.2.1 r hrN;refine⟨r+1,_,congrArg (Value.int .i64) (Int.natCast_add r 1).symm,hr,HKt.out.num hrN hc (Y+V),sr_set HSi.out hrB _,sr_set HSui.out hrB _,HFi.out.off _ (HR4.out r hrN).symm,HBi.out.1.setCell (p:=⟨rb r,c,none⟩) (HKt.out.row r hrN).base _,by simp[World.setCell];exact HBi.out.2,fun i j hi hj=>?_⟩;show(if i=r∧j=c then Y+V else K i j)=_;by_cases hir:i=r
        ·by_cases hjc:j=c
         ·rw[if_pos ⟨hir,hjc⟩,if_pos ⟨hjc,by rw[hir];exact Nat.lt_succ_self r⟩,hY,hV,hir,hjc,HKK.out r c hrN hc,if_neg (by omega),row_getD]
         ·rw[if_neg (fun e=>hjc e.2),if_neg (fun e=>hjc e.1),HKK.out i j hi hj,if_neg (fun e=>hjc e.1)]
        ·rw[if_neg (fun e=>hir e.1),HKK.out i j hi hj];by_cases h5:j=c∧i<r
         ·rw[if_pos h5,if_pos ⟨h5.1,Nat.lt_succ_of_lt h5.2⟩]
         ·rw[if_neg h5,if_neg (fun e=>h5 ⟨e.1,Nat.lt_of_le_of_ne (Nat.le_of_lt_succ e.2) hir⟩)]
       clear hV hY hXl;have hwv:wrap64 (Y+V)=Y+V:=wrap_in (by omega) (by omega);have hw4:wrap64 ((r:Int)+1)=(r:Int)+1:=wrap_in (by omega) (by omega);go_wp2
       try rw[hw4]
       exact⟨HREL.out,meas_up hr⟩
      ·obtain rfl:X=r:=(by omega);have hri:¬((X:Int)<(X:Int)):=(by omega);obtain⟨l4,k40,k41,z4,z5⟩:=HFi.out;have HSL:Hid (s.length≤n):=(by have:=HRS.out.len;rw[lst_length]at this;show _≤_;omega);go_upto_region 19 with fail;refine wp_drawn mixed [⟨67,[],[],[2]⟩,⟨68,[],[],[2]⟩,⟨69,[],[],[9]⟩,⟨70,[],[],[8]⟩,⟨71,[1,2,3],[1,2,3],[]⟩,⟨72,[],[],[1]⟩] [] (by kernel_rfl) 76 rfl (by kernel_rfl) (fun (i:Nat) (v:Value) (wq:World)=>match i with|0=>v= .agg #[.int .i64 (P), .int .i64 (q)]|1=>v= .agg #[.int .i64 (P), .int .i64 (q)]|2=>v= .slice a9 (X) (c9)|3=>v=u8|4=>PRQ wr (P:Int) q (x.length+s.length) (row (pmul x s)) v wq|5=>v= .slice (some ⟨b2,o2,none⟩) (n+1) (c2)|_=>True) (fun _ wq=>Below wr.heap.size wr wq) (fun wx wy=>Below wx.heap.size wx wy) (Below.refl _ _).drew (fun i v wx wy h hx=>match i,h with|0,h=>h|1,h=>h|2,h=>h|3,h=>h|5,h=>h|4,h=>h.below hx|n+6,_=>trivial) ?_ ?_
       ·intro i o r ho hr L fr wx hW hL hpr hds hdef hpre hfree;clear hL hpr hds hdef
        match i,ho,hr with
        |0,ho,hr=>?_
        |1,ho,hr=>?_
        |2,ho,hr=>?_
        |3,ho,hr=>?_
        |4,ho,hr=>obtain rfl:=Option.some.inj ho;obtain rfl:=Option.some.inj hr;have e1:=ev_tmp (show fr.eval (.tmp 68)= .agg #[.int .i64 (P), .int .i64 (q)] from hpre 1 (by decide) _ rfl);have e2:=ev_tmp (show fr.eval (.tmp 69)= .slice a9 (X) (c9)from hpre 2 (by decide) _ rfl);have e3:=ev_tmp (show fr.eval (.tmp 70)=u8 from hpre 3 (by decide) _ rfl);clear hpre hfree;refine stpK rfl rfl fun K hK=>?_;go_simp;refine(product_sr wx (P:Int) q _ _ x s ((HSi.out.view).below hW) ((HSui.out.view).below hW) HQ.out hp HRx.out.bd HRS.out.bd (by have:=HXL.out;omega) (by have:=HSL.out;omega)).mono ?_;rintro e wy ⟨v1,zp,rfl,hSp,hbp,hz1,hz2,hz3⟩;exact hK _ _ ⟨(.mk zp (hSp.mono hW.size) (hW.trans (hbp.mono hW.size)) hz2 hz1 hz3),hW.trans (hbp.mono hW.size),hbp,fun h=>(List.not_mem_nil h).elim⟩
        |5,ho,hr=>?_
        |n+6,ho,hr=>exact absurd hr (by simp)
        all_goals
         obtain rfl:=Option.some.inj ho;obtain rfl:=Option.some.inj hr;simp only[List.mem_cons,List.not_mem_nil,or_false,false_imp_iff,implies_true,forall_eq_or_imp,forall_eq,List.getElem?_cons_zero,List.getElem?_cons_succ,Option.some.injEq,forall_eq',evt]at hpre hfree;have c0:=(hW.cell (p:=⟨b4,0,none⟩) l4).trans k40;have c1:=(hW.cell (p:=⟨b4,1,none⟩) l4).trans k41;refine stpK rfl rfl fun K hK=>?_ <;> (go_simp;exact hK _ _ ⟨rfl,hW,Below.refl _ _,fun h=>(List.not_mem_nil h).elim⟩)
       ·intro vs wm hvs hW1 hap0;clear hap0;have e0:vs 0= .agg #[.int .i64 (P), .int .i64 (q)]:=hvs 0 (by decide);have e1:vs 1= .agg #[.int .i64 (P), .int .i64 (q)]:=hvs 1 (by decide);have e2:vs 2= .slice a9 (X) (c9):=hvs 2 (by decide);have e3:vs 3=u8:=hvs 3 (by decide);obtain⟨u4,e4⟩:∃u,vs 4=u:=⟨_,rfl⟩;have p4:PRQ wr (P:Int) q (x.length+s.length) (row (pmul x s)) u4 wm:=(by rw[←e4];exact hvs 4 (by decide));have e5:vs 5= .slice (some ⟨b2,o2,none⟩) (n+1) (c2):=hvs 5 (by decide);simp only[puts,Nat.reduceAdd,e0,e1,e2,e3,e4,e5,Act.put,List.setIfInBounds_toArray,List.set_cons_zero,List.set_cons_succ,List.drop_succ_cons,List.drop_zero,List.length_cons,List.length_nil];clear hvs e0 e1 e2 e3 e4 e5;obtain⟨zp,hSp,hBp,hqp,hlp,htp⟩:=p4;have CR:=rest_sr wm (P:Int) q wr.heap.size _ zp b2 o2 n c2 y hSp hBp.size ((HM.out.below HBi.out.1).below hBp) (by have:=HB2.out;have:=HBi.out.1.size;omega) HQ.out hp hqp (by have:=HSL.out;have:=HXL.out;omega);have HF2:Hid (FB wm b4 (.int .i64 P) (.int .i64 q)):=HFi.out.below hBp;have HTP:Hid (∀j,row zp j%(P:Int)=row (pmul x s) j%(P:Int)):=htp;have HBp:Hid (Below wr.heap.size wr wm):=hBp;clear hSp hBp hqp hlp htp hW1 l4 k40 k41 z4 z5;go_wp2_with (go_at_call 60;fail);refine CR.mono ?_;rintro e w7 ⟨u7,z7,rfl,hS7,hB7,hR7⟩;have hb7:Below wr.heap.size wr w7:=HBp.out.trans hB7;have HREL:Hid (∃(c₁:Nat) (N:Nat→Nat→Int) (x:List Int) (pl:Nat→List Int),Value.int .i64 ((c:Int)+1)= .int .i64 c₁∧c₁≤n∧MT w7 w.heap.size R n rb N∧SR w7 B u7 x∧Res (P:Int) (lst y (n+1)) (row (ppow s c₁)) x∧SR w7 B u8 s∧FB w7 b4 (.int .i64 P) (.int .i64 q)∧Below w.heap.size w w7∧B≤w7.heap.size∧(∀d,d<c₁→Res (P:Int) (lst y (n+1)) (row (ppow s d)) (pl d))∧(∀i j,i<n→j<n→N i j=(if j=i then (P:Int)-1 else 0)+(if j<c₁ then row (pl j) i else 0))):=by
         refine⟨c+1,K,z7,fun d=>if d=c then x else pl d,congrArg (Value.int .i64) (Int.natCast_add c 1).symm,hc,HKt.out.below hb7,hS7.mono HBi.out.2,hR7.of ?_,HSui.out.below hb7,HFi.out.below hb7,HBi.out.1.trans (hb7.mono HBi.out.1.size),Nat.le_trans HBi.out.2 hb7.size,fun d hd=>?_,fun i j hi hj=>?_⟩
         ·exact(Cg.odd HRx.out.cg.symm (.refl _ _ _)).symm.trans (.of fun j=>(HTP.out j).symm)
         ·show Res _ _ _ (if d=c then x else pl d)
          split
          ·rename_i h5;rw[h5];exact HRx.out
          ·exact HPL.out.1 d (by omega)
         ·rw[HKK.out i j hi hj,HPL.out.2 i j hi hj];show _=_+(if j<c+1 then row (if j=c then x else pl j) i else 0);have hXl:=HXL.out;by_cases h5:j=c
          ·rw[if_neg (by omega:¬j<c),Int.add_zero,if_pos (by omega:j<c+1),if_pos h5];by_cases h6:i<X
           ·rw[if_pos ⟨h5,h6⟩]
           ·rw[if_neg (fun e=>h6 e.2),row_ge x i (by omega),Int.add_zero]
          ·rw[if_neg (fun e=>h5 e.1),if_neg h5];by_cases h6:j<c
           ·rw[if_pos h6,if_pos (show j<c+1 by omega)]
           ·rw[if_neg h6,if_neg (show ¬j<c+1 by omega)]
        clear hS7 hB7 hR7 hb7 CR;have hw4:wrap64 ((c:Int)+1)=(c:Int)+1:=wrap_in (by omega) (by omega);go_wp2
        try rw[hw4]
        exact⟨HREL.out,meas_up hc⟩
    ·obtain rfl:n=c:=(by omega);have hki2:¬((n:Int)<(n:Int)):=(by omega);have R9:Hid (EqP w (P:Int) q (lst y (n+1)) n (.returned (.slice (some ⟨R,0,none⟩) n n)) wr):=by
      have hsq:(P:Int)+P≤q+1:=(by have h9:=Int.mul_le_mul_of_nonneg_left (show(2:Int)≤P by omega) (show(0:Int)≤P by omega);rw[←HQ.out]at h9;omega);refine .mk R rb N s pl rfl HN.out HBc.out.1 (fun i j hi hj=>?_) (by rw[Int.toNat_natCast];exact HRS.out) HPL.out.1 fun i j hi hj=>?_
      ·rw[HPL.out.2 i j hi hj,if_pos hj,row_getD];have h1:=(HPL.out.1 j hj).bd i
       split <;> omega
      ·rw[HPL.out.2 i j hi hj,if_pos hj];by_cases h5:i=j
       ·rw[if_pos h5,if_pos h5.symm]
       ·rw[if_neg h5,if_neg (fun e=>h5 e.symm)]
     go_wp2;refine bodyPost_ret (v:= .slice (some ⟨R,0,none⟩) n n) (by simp[results,go_sem,loadVar]) rfl ?_;exact R9.out
end Go.Proofs.YtffdemplaodbcaaDoor
