/- A part of the proof: MD, ZH, ZP. -/
import Derived.Test.YtffdemplaodbcaaDoorP32
import Derived.Test.YtffdemplaodbcaaDoorP28
import Derived.Test.YtffdemplaodbcaaDoorP30
set_option linter.all false
namespace Go.Proofs.YtffdemplaodbcaaDoor
open Go Go.Proofs Go.RowKit Go.Rad
structure SolV (p:Int) (M:Nat→Nat→Int) (c:Nat) (pv:List Int) (k:Nat) (y:Nat→Int):Prop where
 one:y c=1
 piv:∀r,r<k→∀j:Nat,pv.getD r 0=j→y j= -(M r c%p)%p
 zero:∀j:Nat,j≠c→(∀r,r<k→pv.getD r 0≠j)→y j=0
 bd:∀j,0≤y j∧y j<p
theorem SolV.start {p:Int} (hp:1<p) (M:Nat→Nat→Int) (c:Nat) (pv:List Int):SolV p M c pv 0 (fun j=>if j=c then 1 else 0):=
 ⟨if_pos rfl,fun r hr=>by omega,fun j hj _=>if_neg hj,fun j=>by
  show 0≤(if j=c then (1:Int) else 0)∧(if j=c then (1:Int) else 0)<p
  split <;> omega⟩
theorem SolV.step {p:Int} (hp:1<p) {M:Nat→Nat→Int} {c:Nat} {pv:List Int} {k:Nat} {y:Nat→Int} (h:SolV p M c pv k y) {V:Nat} (hV:pv.getD k 0=V) (hc:V≠c) (hne:∀r,r<k→pv.getD r 0≠V) {O:Int} (hO:O= -(M k c%p)%p):
 SolV p M c pv (k+1) (fun j=>if j=V then O else y j):=by
 refine⟨?_,fun r hr j hj=>?_,fun j hj hz=>?_,fun j=>?_⟩
 ·show(if c=V then O else y c)=1;rw[if_neg (Ne.symm hc)];exact h.one
 ·show(if j=V then O else y j)=_;by_cases hrk:r=k
  ·subst hrk;rw[if_pos (by omega)];exact hO
  ·have h1:=hne r (by omega);rw[if_neg (by intro e;rw[e]at hj;exact h1 hj)];exact h.piv r (by omega) j hj
 ·show(if j=V then O else y j)=0;have h1:=hz k (Nat.lt_succ_self k);rw[if_neg (by intro e;rw[hV,e]at h1;exact h1 rfl)];exact h.zero j hj fun r hr=>hz r (by omega)
 ·show 0≤(if j=V then O else y j)∧(if j=V then O else y j)<p
  split
  ·rw[hO];exact⟨Int.emod_nonneg _ (by omega),Int.emod_lt_of_pos _ (by omega)⟩
  ·exact h.bd j
inductive SolPost (w:World) (p:Int) (M:Nat→Nat→Int) (pv:List Int) (c:Nat) (e:Ending) (w':World):Prop
 |mk (b:Nat) (y:Nat→Int) (he:e= .returned (.slice (some ⟨b,0,none⟩) (c+1:Nat) (c+1:Nat))) (hO:OA w' w.heap.size b (c+1) y) (hb:Below w.heap.size w w') (hy:SolV p M c pv pv.length y)
set_option maxRecDepth 10000 in
set_option maxHeartbeats 2000000 in
theorem solution_any (w:World) (p q:Int) (B R n c:Nat) (rb:Nat→Nat) (M:Nat→Nat→Int) (sp:Value) (pv:List Int) (hM:MT w B R n rb M) (hv:VW w sp pv) (hp:1<p∧p<2147483648) (hq:q<4611686018427387904) (hc:c<n) (hn:n≤1000)
 (hb:∀i j,i<n→j<n→0≤M i j∧M i j<q) (hk:pv.length≤n) (hpv:∀j,j<pv.length→0≤pv.getD j 0∧pv.getD j 0<c) (hinj:∀i j,i<j→j<pv.length→pv.getD i 0≠pv.getD j 0):
 Calls Tryd.prog 72 #[FV p q, .slice (some ⟨R,0,none⟩) n n,sp, .int .i64 c] w fun e w'=>SolPost w p M pv c e w':=by
 have HM:Hid (MT w B R n rb M):=hM;have HBD:Hid (∀i j,i<n→j<n→0≤M i j∧M i j<q):=hb;have HPV:Hid (∀j,j<pv.length→0≤pv.getD j 0∧pv.getD j 0<c):=hpv;have HINJ:Hid (∀i j,i<j→j<pv.length→pv.getD i 0≠pv.getD j 0):=hinj;have HCN:Hid (c<n):=hc;obtain⟨a0,b0,o0,c0,rfl,ha0,hA0⟩:=hv;obtain⟨K,hK⟩:∃K,K=pv.length:=⟨_,rfl⟩;rw[←hK]at ha0 hA0 hk⊢;have HKL:Hid (K=pv.length):=hK;have HA0:Hid (AR w b0 o0 K (fun j=>pv.getD j 0)):=hA0;have hci:(c:Int)<(n:Int):=(by omega);have hni:(n:Int)≤1000:=(by omega);obtain⟨m,hm⟩:∃m,m=c+1:=⟨_,rfl⟩;have HMC:Hid (m=c+1):=hm;have hcm:(c:Int)<(m:Int):=(by omega);have hmi:(m:Int)≤1000:=(by omega);have hwm:wrap64 ((c:Int)+1)=(m:Int):=(by rw[wrap_in (by omega) (by omega)];omega);have hcm1:(c:Int)+1=(m:Int):=(by omega);clear hM hb hpv hinj hK hA0 hm;go_enter Tryd.func72,Tryd.ntmps72;go_upto_region 2 with (at_make;refine wpList_makeI rfl _ _ rfl _ m rfl rfl (by first|rfl|exact hcm1|omega) (by omega) ?_;intro w3 ho3 hb3);have HB3:Hid (Below w.heap.size w w3):=(bel1 w _).trans (hb3.mono (by simp));have HF3:Hid (FB w3 w.heap.size (.int .i64 p) (.int .i64 q)):=(FB.mk0 w (.int .i64 p) (.int .i64 q) 53).below hb3;rw[World.size_alloc]at ho3;obtain⟨bl,hbl⟩:∃b,b=w.heap.size+1:=⟨_,rfl⟩;obtain⟨b4,hb4⟩:∃b,b=w.heap.size:=⟨_,rfl⟩;rw[←hbl]at ho3⊢;rw[←hb4]at HF3⊢;have HBL:Hid (bl=w.heap.size+1∧b4=w.heap.size):=⟨hbl,hb4⟩;have HL3:Hid (OA w3 bl bl m (fun _=>0)):=ho3;have HNE:Hid (b4≠bl∧w.heap.size≤bl):=(by show _∧_;omega);have cl:w3.cell? ⟨bl,c,none⟩=some (.int .i64 0):=by
  have:=ho3.c c (by omega)
  rwa [Nat.zero_add]at this
 have zl:w3.frozen? ⟨bl,c,none⟩=false:=by
  have:=ho3.z c (by omega)
  rwa [Nat.zero_add]at this
 clear ho3 hb3 hbl hb4;go_upto_region 3 with fail;refine wp_world (fun w4=>OA w4 bl bl m (fun j=>if j=c then 1 else 0)∧FB w4 b4 (.int .i64 p) (.int .i64 q)∧Below w.heap.size w w4)
  ⟨HL3.out.store (by have:=HMC.out;omega) 1,HF3.out.off _ (by have:=HBL.out;omega),HB3.out.setCell (p:=⟨bl,c,none⟩) (by have:=HBL.out;show _≤bl;omega) _⟩ ?_
 rintro w4 ⟨hL4,hF4,hB4⟩;have HL4:Hid (OA w4 bl bl m (fun j=>if j=c then 1 else 0)):=hL4;have HF4:Hid (FB w4 b4 (.int .i64 p) (.int .i64 q)):=hF4;have HB4w:Hid (Below w.heap.size w w4):=hB4;clear hL4 hF4 hB4 cl zl HL3 HF3 HB3;go_wp2;go_loopw [20] (fun i wr=>∃(k:Nat) (y:Nat→Int),k≤K∧i= .int .i64 k∧SolV p M c pv k y∧OA wr bl bl m y∧FB wr b4 (.int .i64 p) (.int .i64 q)∧Below w.heap.size w wr) (fun i _=>K-(Lib.intOf i).toNat)
 case atStart=>exact⟨0,_,by omega,rfl, .start hp.1 M c pv,HL4.out,HF4.out,HB4w.out⟩
 case round=>
  obtain⟨k,y,hkK,rfl,hY,hL,hF,hB⟩:=hrel;have HY:Hid (SolV p M c pv k y):=hY;have HL:Hid (OA wr bl bl m y):=hL;have HF:Hid (FB wr b4 (.int .i64 p) (.int .i64 q)):=hF;have HB:Hid (Below w.heap.size w wr):=hB;clear hY hL hF hB;by_cases hkk:k<K
  ·have hki:(k:Int)<(K:Int):=(by omega);have hkn:(k:Int)<(n:Int):=(by omega);have hkN:k<n:=(by omega);obtain rfl:=ha0 (by omega);have hMr:MT wr B R n rb M:=HM.out.below HB.out;have cp:=HA0.out.below HB.out k hkk;have lp:b0<wr.heap.size:=Nat.lt_of_lt_of_le (HA0.out.lt (by omega)) HB.out.size;have hpb:=HPV.out k (by rw[←HKL.out];exact hkk);obtain⟨V,hV⟩:∃V:Nat,pv.getD k 0=V:=⟨(pv.getD k 0).toNat,by omega⟩;have cp':wr.cell? ⟨b0,o0+k,none⟩=some (.int .i64 (V:Int)):=(by rw[←hV];exact cp);rw[hV]at hpb;have hVm:(V:Int)<(m:Int):=(by have:=HMC.out;omega);have HVM:Hid (V<m):=(by show _<_;omega);have ck:=hMr.cR k hkN;have cx:=hMr.at hkN hc;obtain⟨rk,hrk⟩:∃x,x=rb k:=⟨_,rfl⟩;rw[←hrk]at ck cx;have lk:rk<wr.heap.size:=(by rw[hrk];exact(hMr.row k hkN).lt);have lR:=hMr.lt;obtain⟨X,hX⟩:∃x,x=M k c:=⟨_,rfl⟩;rw[←hX]at cx;have hXb:=HBD.out k c hkN hc;rw[←hX]at hXb;obtain⟨S,hS⟩:∃s,s=X%p:=⟨_,rfl⟩;have hSb:0≤S∧S<p:=(by rw[hS];exact⟨Int.emod_nonneg _ (by omega),Int.emod_lt_of_pos _ (by omega)⟩);have CL:=fun w=>least_any w p q X (by omega) hp.2 hXb.1 (by omega);rw[←hS]at CL;obtain⟨O,hO⟩:∃s,s= -S%p:=⟨_,rfl⟩;have CO:=fun w=>opposite_any w p q S hp.2 hSb.1 hSb.2;rw[←hO]at CO;obtain⟨l4,k40,k41,z4,z5⟩:=HF.out;have hw4:wrap64 ((k:Int)+1)=(k:Int)+1:=wrap_in (by omega) (by omega);have cv:wr.cell? ⟨bl,V,none⟩=some (.int .i64 (y V)):=by
    have:=HL.out.c V HVM.out
    rwa [Nat.zero_add]at this
   have zv:wr.frozen? ⟨bl,V,none⟩=false:=by
    have:=HL.out.z V HVM.out
    rwa [Nat.zero_add]at this
   have lbl:bl<wr.heap.size:=HL.out.lt;have HFIN:Hid (∀w5,Below wr.heap.size wr w5→∃(k₁:Nat) (y:Nat→Int),k₁≤K∧Value.int .i64 ((k:Int)+1)= .int .i64 k₁∧SolV p M c pv k₁ y∧OA (w5.setCell ⟨bl,V,none⟩ (.int .i64 O)) bl bl m y∧FB (w5.setCell ⟨bl,V,none⟩ (.int .i64 O)) b4 (.int .i64 p) (.int .i64 q)∧Below w.heap.size w (w5.setCell ⟨bl,V,none⟩ (.int .i64 O))):=(by intro w5 hb5;exact⟨k+1,_,Nat.succ_le_of_lt hkk,congrArg (Value.int .i64) (Int.natCast_add k 1).symm,HY.out.step hp.1 hV (by omega) (fun r hr=>by rw[←hV];exact HINJ.out r k hr (by rw[←HKL.out];exact hkk)) (by rw[hO,hS,hX]),(HL.out.below hb5).store HVM.out O,(HF.out.below hb5).off _ HNE.out.1,(HB.out.trans (hb5.mono HB.out.size)).setCell (p:=⟨bl,V,none⟩) HNE.out.2 _⟩);clear hV cp hrk hX hS hO hMr;go_upto_region 6 with fail;refine wp_drawn mixed [⟨25,[],[],[9]⟩,⟨26,[],[],[11]⟩,⟨27,[],[],[4]⟩,⟨28,[],[],[4]⟩,⟨29,[],[],[1]⟩,⟨30,[],[],[10]⟩,⟨31,[4,5],[4,5],[]⟩,⟨32,[6],[4,5,6],[]⟩,⟨33,[],[],[3]⟩,⟨34,[7,8],[4,5,6,7,8],[]⟩,⟨35,[9],[4,5,6,7,8,9],[]⟩,⟨36,[3,10],[3,4,5,6,7,8,9,10],[]⟩,⟨37,[2,11],[2,3,4,5,6,7,8,9,10,11],[]⟩] [] (by kernel_rfl) 41 rfl (by kernel_rfl) (fun (i:Nat) (v:Value) (wq:World)=>match i with|0=>v= .slice (some ⟨bl,0,none⟩) (m) (m)|1=>v= .int .i64 ((V:Int))|2=>v= .agg #[.int .i64 (p), .int .i64 (q)]|3=>v= .agg #[.int .i64 (p), .int .i64 (q)]|4=>v= .slice (some ⟨R,0,none⟩) (n) (n)|5=>v= .int .i64 ((k:Int))|6=>v= .pointer (some ⟨R,k,none⟩)|7=>v= .slice (some ⟨rk,0,none⟩) (n) (n)|8=>v= .int .i64 ((c:Int))|9=>v= .pointer (some ⟨rk,c,none⟩)|10=>v= .int .i64 (X)|11=>v= .int .i64 (S)|12=>v= .int .i64 (O)|_=>True) (fun _ wq=>Below wr.heap.size wr wq) (fun wx wy=>Below wx.heap.size wx wy) (Below.refl _ _).drew (fun i v wx wy h hx=>match i,h with|0,h=>h|1,h=>h|2,h=>h|3,h=>h|4,h=>h|5,h=>h|6,h=>h|7,h=>h|8,h=>h|9,h=>h|10,h=>h|11,h=>h|12,h=>h|n+13,_=>trivial) ?_ ?_
   ·intro i o r ho hr L fr wx hW hL hpr hds hdef hpre hfree;clear hL hpr hds hdef
    match i,ho,hr with
    |0,ho,hr=>?_
    |1,ho,hr=>?_
    |2,ho,hr=>?_
    |3,ho,hr=>?_
    |4,ho,hr=>?_
    |5,ho,hr=>?_
    |6,ho,hr=>?_
    |7,ho,hr=>?_
    |8,ho,hr=>?_
    |9,ho,hr=>?_
    |10,ho,hr=>?_
    |11,ho,hr=>obtain rfl:=Option.some.inj ho;obtain rfl:=Option.some.inj hr;have e3:=ev_tmp (show fr.eval (.tmp 28)= .agg #[.int .i64 (p), .int .i64 (q)] from hpre 3 (by decide) _ rfl);have e10:=ev_tmp (show fr.eval (.tmp 35)= .int .i64 (X)from hpre 10 (by decide) _ rfl);clear hpre hfree;refine stpK rfl rfl fun K hK=>?_;go_simp;refine(CL wx).mono ?_;rintro e wy ⟨rfl,hb⟩;exact hK _ _ ⟨rfl,hW.trans (hb.mono hW.size),hb,fun h=>(List.not_mem_nil h).elim⟩
    |12,ho,hr=>obtain rfl:=Option.some.inj ho;obtain rfl:=Option.some.inj hr;have e2:=ev_tmp (show fr.eval (.tmp 27)= .agg #[.int .i64 (p), .int .i64 (q)] from hpre 2 (by decide) _ rfl);have e11:=ev_tmp (show fr.eval (.tmp 36)= .int .i64 (S)from hpre 11 (by decide) _ rfl);clear hpre hfree;refine stpK rfl rfl fun K hK=>?_;go_simp;refine(CO wx).mono ?_;rintro e wy ⟨rfl,hb⟩;exact hK _ _ ⟨rfl,hW.trans (hb.mono hW.size),hb,fun h=>(List.not_mem_nil h).elim⟩
    |n+13,ho,hr=>exact absurd hr (by simp)
    all_goals
     obtain rfl:=Option.some.inj ho;obtain rfl:=Option.some.inj hr;simp only[List.mem_cons,List.not_mem_nil,or_false,false_imp_iff,implies_true,forall_eq_or_imp,forall_eq,List.getElem?_cons_zero,List.getElem?_cons_succ,Option.some.injEq,forall_eq',evt]at hpre hfree;have c0:=(hW.cell (p:=⟨b4,0,none⟩) l4).trans k40;have c1:=(hW.cell (p:=⟨b4,1,none⟩) l4).trans k41;have c2:=(hW.cell (p:=⟨R,k,none⟩) lR).trans ck;have c3:=(hW.cell (p:=⟨rk,c,none⟩) lk).trans cx;refine stpK rfl rfl fun K hK=>?_ <;> (go_simp;exact hK _ _ ⟨rfl,hW,Below.refl _ _,fun h=>(List.not_mem_nil h).elim⟩)
   ·intro vs wm hvs hW1 hap0;clear hap0;have e0:vs 0= .slice (some ⟨bl,0,none⟩) (m) (m):=hvs 0 (by decide);have e1:vs 1= .int .i64 ((V:Int)):=hvs 1 (by decide);have e2:vs 2= .agg #[.int .i64 (p), .int .i64 (q)]:=hvs 2 (by decide);have e3:vs 3= .agg #[.int .i64 (p), .int .i64 (q)]:=hvs 3 (by decide);have e4:vs 4= .slice (some ⟨R,0,none⟩) (n) (n):=hvs 4 (by decide);have e5:vs 5= .int .i64 ((k:Int)):=hvs 5 (by decide);have e6:vs 6= .pointer (some ⟨R,k,none⟩):=hvs 6 (by decide);have e7:vs 7= .slice (some ⟨rk,0,none⟩) (n) (n):=hvs 7 (by decide);have e8:vs 8= .int .i64 ((c:Int)):=hvs 8 (by decide);have e9:vs 9= .pointer (some ⟨rk,c,none⟩):=hvs 9 (by decide);have e10:vs 10= .int .i64 (X):=hvs 10 (by decide);have e11:vs 11= .int .i64 (S):=hvs 11 (by decide);have e12:vs 12= .int .i64 (O):=hvs 12 (by decide);simp only[puts,Nat.reduceAdd,e0,e1,e2,e3,e4,e5,e6,e7,e8,e9,e10,e11,e12,Act.put,List.setIfInBounds_toArray,List.set_cons_zero,List.set_cons_succ,List.drop_succ_cons,List.drop_zero,List.length_cons,List.length_nil];clear hvs e0 e1 e2 e3 e4 e5 e6 e7 e8 e9 e10 e11 e12;have cv5:wm.cell? ⟨bl,V,none⟩=some (.int .i64 (y V)):=(hW1.cell (p:=⟨bl,V,none⟩) lbl).trans cv;have zv5:wm.frozen? ⟨bl,V,none⟩=false:=(hW1.frozen (p:=⟨bl,V,none⟩) lbl).trans zv;have HREL:Hid _:=HFIN.out wm hW1;clear hW1 ck cx cv zv cp' CL CO l4 k40 k41 z4 z5;go_wp2
    try rw[hw4]
    exact⟨HREL.out,meas_up hkk⟩
  ·obtain rfl:k=K:=(by omega);have hki:¬((k:Int)<(k:Int)):=(by omega);have R:Hid (SolPost w p M pv c (.returned (.slice (some ⟨bl,0,none⟩) m m)) wr):=(by have hm:=HMC.out;subst hm;exact .mk bl y rfl (HL.out.mono (by have:=HBL.out;omega)) HB.out (by rw[←HKL.out];exact HY.out));go_wp2;refine bodyPost_ret (v:= .slice (some ⟨bl,0,none⟩) m m) (by simp[results,go_sem,loadVar]) rfl ?_;exact R.out
end Go.Proofs.YtffdemplaodbcaaDoor
namespace Go.Proofs.YtffdemplaodbcaaDoor
open Go Go.Proofs Go.RowKit Go.Rad
theorem Elim.back {p:Int} {n c k:Nat} {M N:Nat→Nat→Int} {pv:Nat→Nat} {y:Nat→Int} {r:Int} (h:Elim p n c k M pv) (hk:k<n) (hr:r*M k c%p=1)
 (hy:∀j,j<n→y j%p=(if c≤j then M k j*r else 0)%p) (hN:∀i j,i<n→j<n→N i j%p=(if i=k then y j else M i j-M i c*y j)%p) (v:Nat→Int) (hv:Sol p n N v):Sol p n M v:=by
 have hyall:∀j,j<n→y j%p=M k j*r%p:=fun j hj=>by
  rw[hy j hj]
  split
  ·rfl
  ·rw[Int.mul_emod,h.done k j (Nat.le_refl _) hk (by omega),Int.zero_mul]
 have hyv:sI (fun j=>y j*v j) n%p=0:=by
  have h1:sI (fun j=>y j*v j) n%p=sI (fun j=>N k j*v j) n%p:=sI_cong fun j hj=>by rw[Int.mul_emod,Int.mul_emod (N k j),hN k j hk hj,if_pos rfl]
  rw[h1];exact hv k hk
 have hMk:∀j,j<n→M k j%p=M k c*y j%p:=fun j hj=>by rw[Int.mul_emod,hyall j hj,←Int.mul_emod,show M k c*(M k j*r)=M k j*(r*M k c)by ac_rfl,Int.mul_emod,hr,Int.mul_one,Int.emod_emod]
 intro i hi;by_cases hik:i=k
 ·subst hik;have h1:sI (fun j=>M i j*v j) n%p=sI (fun j=>M i c*(y j*v j)) n%p:=sI_cong fun j hj=>by rw[Int.mul_emod,hMk j hj,←Int.mul_emod,Int.mul_assoc]
  rw[h1,sI_smul,Int.mul_emod,hyv,Int.mul_zero];rfl
 ·have h1:sI (fun j=>M i j*v j) n%p=sI (fun j=>N i j*v j+M i c*(y j*v j)) n%p:=sI_cong fun j hj=>by have h2:=hN i j hi hj;rw[if_neg hik]at h2;have h3:M i j%p=(N i j+M i c*y j)%p:=(by rw[Int.add_emod,h2,←Int.add_emod];congr 1;omega);rw[Int.mul_emod,h3,←Int.mul_emod,Int.add_mul,Int.mul_assoc]
  rw[h1,sI_add,sI_smul,Int.add_emod,hv i hi,Int.mul_emod,hyv,Int.mul_zero];rfl
structure FX (p:Int) (n:Nat) (M0:Nat→Nat→Int) (c k:Nat) (N:Nat→Nat→Int) (pv:Nat→Nat) (m:Nat) (fr:Nat→Nat) (V:Nat→Nat→Int):Prop where
 el:Elim p n c k N pv
 fwd:∀v,Sol p n M0 v→Sol p n N v
 bwd:∀v,Sol p n N v→Sol p n M0 v
 cnt:c=k+m
 flt:∀i,i<m→fr i<c
 finc:∀i j,i<j→j<m→fr i<fr j
 fpv:∀i r,i<m→r<k→pv r≠fr i
 cov:∀j,j<c→(∃r,r<k∧pv r=j)∨∃i,i<m∧fr i=j
 one:∀i,i<m→V i (fr i)=1
 piv:∀i r,i<m→r<k→(V i (pv r)+N r (fr i))%p=0
 zero:∀i j,i<m→j≠fr i→(∀r,r<k→pv r≠j)→V i j=0
 bd:∀i j,i<m→0≤V i j∧V i j<p
 top:∀i j,i<m→fr i<j→V i j=0
theorem FX.start {p:Int} {n:Nat} (M:Nat→Nat→Int) (pv fr:Nat→Nat) (V:Nat→Nat→Int):FX p n M 0 0 M pv 0 fr V:=
 ⟨⟨fun i j _ h=>by omega,fun i h=>by omega,fun i h=>by omega,fun i r h=>by omega,fun r j _ _ h=>by omega⟩,fun v h=>h,fun v h=>h,rfl,fun i h=>by omega,fun i j _ h=>by omega,fun i r h=>by omega,fun j h=>by omega,
  fun i h=>by omega,fun i r h=>by omega,fun i j h=>by omega,fun i j h=>by omega,fun i j h=>by omega⟩
theorem negadd (p x:Int):(-(x%p)%p+x)%p=0:=by rw[Int.add_emod,Int.emod_emod,←Int.emod_emod x p,←Int.add_emod,Int.emod_emod];have: -(x%p)+x%p=0:=(by omega);rw[this];rfl
theorem FX.free {p:Int} (hp:1<p) {n:Nat} {M0:Nat→Nat→Int} {c k:Nat} {N:Nat→Nat→Int} {pv:Nat→Nat} {m:Nat} {fr:Nat→Nat} {V:Nat→Nat→Int} (h:FX p n M0 c k N pv m fr V)
 (h0:∀r,k≤r→r<n→N r c%p=0) {pl:List Int} (hpl:pl.length=k) (hpv:∀i,i<k→pl.getD i 0=pv i) {y:Nat→Int} (hy:SolV p N c pl pl.length y) (hyt:∀j,c<j→y j=0):
 FX p n M0 (c+1) k N pv (m+1) (fun i=>if i=m then c else fr i) (fun i j=>if i=m then y j else V i j):=by
 refine⟨h.el.skip h0,h.fwd,h.bwd,by have:=h.cnt;omega,fun i hi=>?_,fun i j hij hj=>?_,fun i r hi hr=>?_,fun j hj=>?_,fun i hi=>?_,fun i r hi hr=>?_,fun i j hi hj hz=>?_,fun i j hi=>?_,fun i j hi hj=>?_⟩
 ·show(if i=m then c else fr i)<c+1
  split
  ·omega
  ·have:=h.flt i (by omega);omega
 ·show(if i=m then c else fr i)<(if j=m then c else fr j);rw[if_neg (by omega)]
  split
  ·exact h.flt i (by omega)
  ·exact h.finc i j hij (by omega)
 ·show pv r≠(if i=m then c else fr i)
  split
  ·have:=h.el.lt r hr;omega
  ·exact h.fpv i r (by omega) hr
 ·by_cases hjc:j=c
  ·exact .inr ⟨m,Nat.lt_succ_self m,by simp[hjc]⟩
  ·rcases h.cov j (by omega)with h1|⟨i,hi,he⟩
   ·exact .inl h1
   ·exact .inr ⟨i,by omega,by rw[if_neg (by omega)];exact he⟩
 ·by_cases him:i=m
  ·simp only[him,if_true];exact hy.one
  ·simp only[if_neg him];exact h.one i (by omega)
 ·by_cases him:i=m
  ·simp only[him,if_true];rw[hy.piv r (by omega) (pv r) (hpv r hr)];exact negadd p (N r c)
  ·simp only[if_neg him];exact h.piv i r (by omega) hr
 ·by_cases him:i=m
  ·simp only[him,if_true]at hj⊢;exact hy.zero j hj fun r hr=>by rw[hpv r (by omega)];have:=hz r (by omega);omega
  ·simp only[if_neg him]at hj⊢;exact h.zero i j (by omega) hj hz
 ·by_cases him:i=m
  ·simp only[him,if_true];exact hy.bd j
  ·simp only[if_neg him];exact h.bd i j (by omega)
 ·by_cases him:i=m
  ·simp only[him,if_true]at hj⊢;exact hyt j hj
  ·simp only[if_neg him]at hj⊢;exact h.top i j (by omega) hj
def swp (k t:Nat) (M:Nat→Nat→Int):Nat→Nat→Int:=fun i j=>if i=k then M t j else if i=t then M k j else M i j
theorem swp_swp (k t:Nat) (M:Nat→Nat→Int):swp k t (swp k t M)=M:=by
 funext i j;unfold swp;by_cases h1:i=k
 ·subst h1;by_cases h2:t=i
  ·subst h2;simp
  ·simp[h2]
 ·by_cases h2:i=t
  ·subst h2;simp[h1]
  ·simp[h1,h2]
theorem sol_swp {p:Int} {n k t:Nat} {M:Nat→Nat→Int} (hk:k<n) (ht:t<n) {v:Nat→Int} (h:Sol p n M v):Sol p n (swp k t M) v:=fun r hr=>by
 unfold swp;by_cases h1:r=k
 ·simp only[if_pos h1];exact h t ht
 ·by_cases h2:r=t
  ·simp only[if_neg h1,if_pos h2];exact h k hk
  ·simp only[if_neg h1,if_neg h2];exact h r hr
theorem FX.swap {p:Int} {n:Nat} {M0:Nat→Nat→Int} {c k:Nat} {N:Nat→Nat→Int} {pv:Nat→Nat} {m:Nat} {fr:Nat→Nat} {V:Nat→Nat→Int} (h:FX p n M0 c k N pv m fr V) {t:Nat} (ht:k≤t) (htn:t<n):
 FX p n M0 c k (swp k t N) pv m fr V:=
 ⟨(h.el.swap ht htn).1,fun v hv=>sol_swp (by omega) htn (h.fwd v hv),fun v hv=>h.bwd v (by have h1:=sol_swp (k:=k) (t:=t) (by omega) htn hv;rwa [swp_swp]at h1),h.cnt,h.flt,h.finc,h.fpv,h.cov,h.one,fun i r hi hr=>by unfold swp;rw[if_neg (by omega),if_neg (by omega)];exact h.piv i r hi hr,h.zero,h.bd,h.top⟩
theorem FX.step {p:Int} (hp:1<p) {n:Nat} {M0:Nat→Nat→Int} {c k:Nat} {M N:Nat→Nat→Int} {pv:Nat→Nat} {m:Nat} {fr:Nat→Nat} {V:Nat→Nat→Int} (h:FX p n M0 c k M pv m fr V) (hk:k<n) (hc:c<n) {y:Nat→Int} {r:Int}
 (hr:r*M k c%p=1) (hy:∀j,j<n→y j=if c≤j then M k j*r%p else 0) (hN:∀i j,i<n→j<n→N i j%p=(if i=k then y j else M i j-M i c*y j)%p):
 FX p n M0 (c+1) (k+1) N (fun i=>if i=k then c else pv i) m fr V:=by
 have hy':∀j,j<n→y j%p=(if c≤j then M k j*r else 0)%p:=fun j hj=>by
  rw[hy j hj]
  split
  ·exact Int.emod_emod _ _
  ·rfl
 have h1:=h.el.step hp hk hc hr hy' hN;refine⟨h1.1,fun v hv=>h1.2 v (h.fwd v hv),fun v hv=>h.bwd v (h.el.back hk hr hy' hN v hv),by have:=h.cnt;omega,fun i hi=>by have:=h.flt i hi;omega,h.finc,fun i r' hi hr'=>?_,fun j hj=>?_,h.one,fun i r' hi hr'=>?_,fun i j hi hj hz=>?_,h.bd,h.top⟩
 ·show(if r'=k then c else pv r')≠fr i
  split
  ·have:=h.flt i hi;omega
  ·exact h.fpv i r' hi (by omega)
 ·by_cases hjc:j=c
  ·exact .inl ⟨k,Nat.lt_succ_self k,by simp[hjc]⟩
  ·rcases h.cov j (by omega)with⟨r',hr',he⟩|h2
   ·exact .inl ⟨r',by omega,by rw[if_neg (by omega)];exact he⟩
   ·exact .inr h2
 ·have hf:=h.flt i hi;by_cases hrk:r'=k
  ·simp only[hrk,if_true];rw[h.top i c hi hf,Int.zero_add,hN k (fr i) hk (by omega),if_pos rfl,hy (fr i) (by omega),if_neg (by omega)];rfl
  ·simp only[if_neg hrk];rw[Int.add_emod,hN r' (fr i) (by omega) (by omega),if_neg hrk,hy (fr i) (by omega),if_neg (by omega),Int.mul_zero,Int.sub_zero,←Int.add_emod];exact h.piv i r' hi (by omega)
 ·exact h.zero i j hi hj fun r' hr'=>by have:=hz r' (by omega);simpa [show r'≠k by omega]using this
end Go.Proofs.YtffdemplaodbcaaDoor
namespace Go.Proofs.YtffdemplaodbcaaDoor
open Go Go.Proofs Go.RowKit Go.Rad
open _root_.Rad (CR Prm PD Dv Irr Vl)
theorem dv_iff {P:Nat} {m x:List Int}: Dv (mq m:Ap P) (mq x)↔(mq x:Am (P:Int) m)=0:=by
 constructor
 ·rintro⟨c,hc⟩;obtain⟨q,rfl⟩:=mk_rep c;rw[mq_down hc,mk_self,CR.zero_mul]
 ·intro h;obtain⟨q,hq⟩:=mq_lift h;exact⟨mq q,by rw[hq,CR.mul_comm]⟩
theorem dv_fix {P:Nat} {m x:List Int}: Dv (mq m:Ap P) (CR.pw (mq x) P+ -(mq x))↔CR.pw (mq x:Am (P:Int) m) P=mq x:=by
 rw[mk_pw,mk_neg,mk_add,dv_iff];constructor
 ·intro h;rw[mk_pw];exact CR.sub_zero (by rw[mk_neg,mk_add];exact h)
 ·intro h;rw[mk_pw]at h;have e:(mq (padd (ppow x P) (x.map (-1* ·))):Am (P:Int) m)=mq (ppow x P)+ -(mq x):=rfl;rw[e,h,CR.add_neg]
theorem Mon.mo {P:Nat} {f:List Int} {n:Nat} (h:Mon P f) (hn:f.length=n+1):Mo P f n:=⟨hn,1,by have h1:=h.one;rw[hn,Nat.add_sub_cancel,←row_getD]at h1;rw[h1];rfl⟩
structure EqF (P:Nat) (f:List Int) (n:Nat) (M0:Nat→Nat→Int):Prop where
 ex:∃(s:List Int) (ql:Nat→List Int),(mq s:Am (P:Int) f)=CR.pw (mq [0,1]) P∧(∀c,c<n→(ql c).length≤n∧(mq (ql c):Am (P:Int) f)=CR.pw (mq s) c)∧∀r c,r<n→c<n→M0 r c%(P:Int)=((if r=c then (P:Int)-1 else 0)+row (ql c) r)%P
theorem EqF.fix {P:Nat} (hP:PrC P) {f:List Int} {n:Nat} {M0:Nat→Nat→Int} (h:EqF P f n M0) {v:Nat→Int} (hv:Sol P n M0 v):CR.pw (mq (lst v n):Am (P:Int) f) P=mq (lst v n):=by
 obtain⟨s,ql,hs,hq,hM⟩:=h.ex;have e1:CR.pw (mq (lst v n):Am (P:Int) f) P=mq (lst (fun r=>sI (fun c=>row (ql c) r*row (lst v n) c) n) n):=by
  rw[←sum_rows (row (lst v n)) ql (fun c hc=>(hq c hc).1) n (Nat.le_refl _)]
  conv=>lhs;rw[←mk_ev (p:=(P:Int)) (m:=f) (lst v n),ev_pw hP.pm,←hs,ev_sum,lst_length]
  exact CR.sA_congr fun c hc=>by rw[(hq c hc).2]
 rw[e1];refine mk_eq.2 (.of fun r=>?_);rw[row_lst,row_lst];unfold cut
 split
 ·rename_i hr
  have h1:=hv r hr;have h2:sI (fun j=>M0 r j*v j) n%(P:Int)=sI (fun j=>(if j=r then ((P:Int)-1)*v r else 0)+row (ql j) r*row (lst v n) j) n%(P:Int):=sI_cong fun j hj=>by
   rw[Int.mul_emod,hM r j hr hj,←Int.mul_emod,Int.add_mul,row_lst];unfold cut;rw[if_pos hj];congr 2;by_cases hj':j=r
   ·rw[if_pos hj'.symm,if_pos hj',hj']
   ·rw[if_neg (fun e=>hj' e.symm),if_neg hj',Int.zero_mul]
  rw[h2,sI_add,sI_one r _ n hr]at h1;have e5:sI (fun j=>row (ql j) r*row (lst v n) j) n=(((P:Int)-1)*v r+sI (fun j=>row (ql j) r*row (lst v n) j) n)+v r+(P:Int)*(-(v r)):=(by rw[Int.sub_mul,Int.one_mul,Int.mul_neg];omega);show sI (fun j=>row (ql j) r*row (lst v n) j) n%(P:Int)=v r%P;rw[e5,Int.add_mul_emod_self_left,Int.add_emod,h1,Int.zero_add,Int.emod_emod]
 ·rfl
theorem EqF.sol {P:Nat} (hP:PrC P) {f:List Int} {n:Nat} (hf:Mon P f) (hn:f.length=n+1) {M0:Nat→Nat→Int} (h:EqF P f n M0) {v:Ap P} (hv:Dv (mq f) (CR.pw v P+ -v)):∃x:Nat→Int,Dv (mq f) (v+ -(mq (lst x n)))∧Sol P n M0 x:=by
 obtain⟨s,ql,hs,hq,hM⟩:=h.ex;have hMo:=hf.mo hn;obtain⟨y,rfl⟩:=mk_rep v;obtain⟨z,hz,hc⟩:=hMo.rest _ y (Nat.le_refl _);have e0:(mq z:Am (P:Int) f)=mq (lst (row z) n):=mk_row fun j=>by
  rw[row_lst];unfold cut
  split
  ·rfl
  ·rw[row_ge z j (by omega)]
 have e1:(mq y:Am (P:Int) f)=mq (lst (row z) n):=(mk_eq.2 hc).trans e0;refine⟨row (lst (row z) n),?_,hMo.sol hP.pm s hs ql (fun c hc=>(hq c hc).1) (fun c hc=>(hq c hc).2) M0 hM (lst (row z) n) (lst_length _ _) ?_⟩
 ·have e2:(mq (lst (row (lst (row z) n)) n):Ap P)=mq (lst (row z) n):=mk_row fun j=>by
   rw[row_lst,row_lst];unfold cut
   split
   ·rw[row_lst];unfold cut;rename_i h;rw[if_pos h]
   ·rfl
  rw[e2,mk_neg,mk_add,dv_iff];have e3:(mq (padd y ((lst (row z) n).map (-1* ·))):Am (P:Int) f)=mq y+ -(mq (lst (row z) n)):=rfl;rw[e3,e1,CR.add_neg]
 ·rw[←e1];exact dv_fix.1 hv
theorem FX.zer {p:Int} {n:Nat} {M0:Nat→Nat→Int} {k:Nat} {N:Nat→Nat→Int} {pv:Nat→Nat} {m:Nat} {fr:Nat→Nat} {V:Nat→Nat→Int} (h:FX p n M0 n k N pv m fr V) {v:Nat→Int} (hv:Sol p n N v) (h0:∀i,i<m→v (fr i)%p=0):∀j,j<n→v j%p=0:=by
 intro j hj;rcases h.cov j hj with⟨r,hr,he⟩|⟨i,hi,he⟩
 ·have hrn:r<n:=(by have:=h.cnt;omega);have h1:=hv r hrn;have h2:sI (fun j=>N r j*v j) n%p=sI (fun j=>if j=pv r then v (pv r) else 0) n%p:=sI_cong fun i hi=>by
   by_cases hir:i=pv r
   ·rw[if_pos hir,hir,Int.mul_emod,h.el.one r hr,Int.one_mul,Int.emod_emod]
   ·rw[if_neg hir];rcases h.cov i hi with⟨r2,hr2,he2⟩|⟨i2,hi2,he2⟩
    ·rw[←he2,Int.mul_emod,h.el.zero r2 r hr2 hrn (fun e=>hir (by rw[e];exact he2.symm)),Int.zero_mul]
    ·rw[←he2,Int.mul_emod,h0 i2 hi2,Int.mul_zero]
  rw[h2,sI_one (pv r) _ n (by omega),he]at h1;exact h1
 ·rw[←he];exact h0 i hi
theorem sI_sub (f g:Nat→Int):∀n,sI (fun j=>f j-g j) n=sI f n-sI g n
 |0=>rfl
 |n+1=>by show sI (fun j=>f j-g j) n+(f n-g n)=sI f n+f n-(sI g n+g n);rw[sI_sub f g n];omega
theorem Sol.sub {p:Int} {n:Nat} {N:Nat→Nat→Int} {u v:Nat→Int} (hu:Sol p n N u) (hv:Sol p n N v) (c:Int):Sol p n N (fun j=>u j-c*v j):=fun r hr=>by have e:sI (fun j=>N r j*(u j-c*v j)) n=sI (fun j=>N r j*u j) n-c*sI (fun j=>N r j*v j) n:=(by rw[←sI_smul,←sI_sub];congr 1;funext j;rw[Int.mul_sub];congr 1;rw[←Int.mul_assoc,Int.mul_comm (N r j) c,Int.mul_assoc]);rw[e,Int.sub_emod,hu r hr,Int.mul_emod,hv r hr,Int.mul_zero];rfl
theorem FX.sol {p:Int} {n:Nat} {M0:Nat→Nat→Int} {k:Nat} {N:Nat→Nat→Int} {pv:Nat→Nat} {m:Nat} {fr:Nat→Nat} {V:Nat→Nat→Int} (h:FX p n M0 n k N pv m fr V) {i:Nat} (hi:i<m):Sol p n N (V i):=fun r hr=>by
 by_cases hrk:r<k
 ·have h2:sI (fun j=>N r j*V i j) n%p=sI (fun j=>(if j=pv r then V i (pv r) else 0)+(if j=fr i then N r (fr i) else 0)) n%p:=sI_cong fun j hj=>by
   by_cases hjf:j=fr i
   ·rw[if_pos hjf,if_neg (fun e=>h.fpv i r hi hrk (by omega)),Int.zero_add,hjf,h.one i hi,Int.mul_one]
   ·rw[if_neg hjf,Int.add_zero];by_cases hjr:j=pv r
    ·rw[if_pos hjr,hjr,Int.mul_emod,h.el.one r hrk,Int.one_mul,Int.emod_emod]
    ·rw[if_neg hjr];rcases h.cov j hj with⟨r2,hr2,he2⟩|⟨i2,hi2,he2⟩
     ·rw[←he2,Int.mul_emod,h.el.zero r2 r hr2 hr (fun e=>hjr (by rw[e];exact he2.symm)),Int.zero_mul]
     ·rw[h.zero i j hi hjf (fun r3 hr3 e=>h.fpv i2 r3 hi2 hr3 (by omega)),Int.mul_zero]
  rw[h2,sI_add,sI_one (pv r) _ n (h.el.lt r hrk),sI_one (fr i) _ n (h.flt i hi)];exact h.piv i r hi hrk
 ·have h2:sI (fun j=>N r j*V i j) n%p=sI (fun _=>0) n%p:=sI_cong fun j hj=>by rw[Int.mul_emod,h.el.done r j (by omega) hr hj,Int.zero_mul]
  rw[h2,sI_zero];rfl
def resd (x:Nat→Int) (fr:Nat→Nat) (V:Nat→Nat→Int):Nat→Nat→Int
 |0=>x
 |i+1=>fun j=>resd x fr V i j-x (fr i)*V i j
theorem FX.resd_sol {p:Int} {n:Nat} {M0:Nat→Nat→Int} {k:Nat} {N:Nat→Nat→Int} {pv:Nat→Nat} {m:Nat} {fr:Nat→Nat} {V:Nat→Nat→Int} (h:FX p n M0 n k N pv m fr V) {x:Nat→Int} (hx:Sol p n N x):∀i,i≤m→Sol p n N (resd x fr V i)
 |0,_=>hx
 |i+1,hi=>(resd_sol h hx i (by omega)).sub (h.sol (by omega)) _
theorem FX.resd_fr {p:Int} {n:Nat} {M0:Nat→Nat→Int} {k:Nat} {N:Nat→Nat→Int} {pv:Nat→Nat} {m:Nat} {fr:Nat→Nat} {V:Nat→Nat→Int} (h:FX p n M0 n k N pv m fr V) (x:Nat→Int) {a:Nat} (ha:a<m):∀i,i≤m→resd x fr V i (fr a)=if a<i then 0 else x (fr a)
 |0,_=>by rw[if_neg (by omega)];rfl
 |i+1,hi=>by
  show resd x fr V i (fr a)-x (fr i)*V i (fr a)=_;rw[resd_fr h x ha i (by omega)];by_cases hai:a=i
  ·subst hai;rw[if_neg (by omega),if_pos (by omega),h.one a ha];omega
  ·have hne:fr a≠fr i:=by
    rcases Nat.lt_or_gt_of_ne hai with h1|h1
    ·have:=h.finc a i h1 (by omega);omega
    ·have:=h.finc i a h1 ha;omega
   rw[h.zero i (fr a) (by omega) hne (fun r hr=>h.fpv a r ha hr),Int.mul_zero,Int.sub_zero];by_cases h2:a<i
   ·rw[if_pos h2,if_pos (by omega)]
   ·rw[if_neg h2,if_neg (by omega)]
theorem rearr {A:Type} [CR A] (a b c d e f:A):a+ -(b+ -(c*d))+ -(e+c*f)=(a+ -b+ -e)+c*(d+ -f):=by
 rw[CR.neg_add_rev,CR.neg_add_rev,CR.neg_neg,CR.mul_add,CR.mul_neg]
 ac_rfl
theorem all_num {P:Nat} (hP:PrC P) {f:List Int} {n:Nat} (hf:Mon P f) (hn:f.length=n+1) {M0:Nat→Nat→Int} (hE:EqF P f n M0) {k:Nat} {N:Nat→Nat→Int} {pv:Nat→Nat} {m:Nat} {fr:Nat→Nat} {V:Nat→Nat→Int} (h:FX P n M0 n k N pv m fr V)
 {g:Ap P} (hg:Dv g (mq f)) (hc:∀i,i<m→∃k:Int,Dv g (mq (lst (V i) n)+ -(mq [k]))) (v:Ap P) (hv:Dv (mq f) (CR.pw v P+ -v)):∃k:Int,Dv g (v+ -(mq [k])):=by
 obtain⟨x,hx1,hx2⟩:=hE.sol hP hf hn hv;have hxN:=h.fwd x hx2;have key:∀i,i≤m→∃k:Int,Dv g (mq (lst x n)+ -(mq (lst (resd x fr V i) n))+ -(mq [k])):=fun i=>by
  induction i with
  |zero=>intro _;refine⟨0,?_⟩;show Dv g (mq (lst x n)+ -(mq (lst x n))+ -(mq [0]));have e:(mq [0]:Ap P)=0:=(by rw[mk_zero];exact mk_row fun j=>by rw[row_getD,row_getD];cases j <;> rfl);rw[CR.add_neg,e,CR.neg_zero,CR.add_zero];exact .zero g
  |succ i ih=>
   intro hi;obtain⟨k1,h1⟩:=ih (by omega);obtain⟨k2,h2⟩:=hc i (by omega);refine⟨k1+x (fr i)*k2,?_⟩;have e1:(mq (lst (resd x fr V (i+1)) n):Ap P)=mq (lst (resd x fr V i) n)+ -(mq [x (fr i)]*mq (lst (V i) n)):=by
    rw[mk_mul,mk_neg,mk_add];refine mk_row fun j=>?_;rw[row_padd,row_map,row_pmul,row_lst,row_lst];show cut (fun j=>resd x fr V i j-x (fr i)*V i j) n j=cut (resd x fr V i) n j+ -1*(x (fr i)*row (lst (V i) n) j+sft (fun _=>0) j);have e:sft (fun _=>(0:Int)) j=0:=(by cases j <;> rfl);rw[e,row_lst];unfold cut
    split
    ·show resd x fr V i j-x (fr i)*V i j=resd x fr V i j+ -1*(x (fr i)*V i j+0);omega
    ·show(0:Int)=0+ -1*(x (fr i)*0+0);rw[Int.mul_zero];rfl
   have e2:(mq [k1+x (fr i)*k2]:Ap P)=mq [k1]+mq [x (fr i)]*mq [k2]:=(by rw[mk_mul,mk_add];refine mk_row fun j=>?_;rw[row_padd,pmul_one,row_getD,row_getD,row_getD];cases j <;> rfl);have h3:=h1.add (h2.lmul (mq [x (fr i)]));rw[e1,e2];rw[rearr];exact h3
 obtain⟨kk,hk⟩:=key m (Nat.le_refl _);have h0:(mq (lst (resd x fr V m) n):Ap P)=0:=by
  rw[mk_zero];refine mq_all.2 fun j=>?_;rw[row_lst,row_nil];unfold cut
  split
  ·rename_i hj
   exact h.zer (h.resd_sol hxN m (Nat.le_refl _)) (fun i hi=>by rw[h.resd_fr x hi m (Nat.le_refl _),if_pos hi];rfl) j hj
  ·rfl
 rw[h0,CR.neg_zero,CR.add_zero]at hk;exact⟨kk,dv_chain (hg.trans hx1) hk⟩
end Go.Proofs.YtffdemplaodbcaaDoor
