/- A part of the proof: MB. -/
import Derived.Test.YtffdemplaodbcaaDoorP30
set_option linter.all false
namespace Go.Proofs.YtffdemplaodbcaaDoor
open Go Go.Proofs Go.RowKit Go.Rad
theorem meas_up {k n:Nat} (h:k<n):n-(Lib.intOf (.int .i64 ((k:Int)+1))).toNat<n-(Lib.intOf (.int .i64 (k:Int))).toNat:=by simp only[Lib.intOf];omega
theorem OA.store {w:World} {B b n k:Nat} {f:Nat→Int} (h:OA w B b n f) (hk:k<n) (x:Int):OA (w.setCell ⟨b,k,none⟩ (.int .i64 x)) B b n (fun j=>if j=k then x else f j):=by
 refine⟨h.base,by simpa [World.setCell]using h.lt,fun i hi=>?_,fun i hi=>?_⟩
 ·rw[Nat.zero_add];have hc:=h.c k hk;rw[Nat.zero_add]at hc;by_cases h5:i=k
  ·subst h5;show _=some (Value.int .i64 (if i=i then x else f i));rw[if_pos rfl];exact cell_same (u:= .int .i64 (f i)) hc
  ·show _=some (Value.int .i64 (if i=k then x else f i));rw[if_neg h5,cell_other (.inr h5)];have:=h.c i hi
   rwa [Nat.zero_add]at this
 ·rw[World.frozen?_setCell];exact h.z i hi
theorem OA.fun {w:World} {B b n:Nat} {f g:Nat→Int} (h:OA w B b n f) (e:∀j,j<n→f j=g j):OA w B b n g:=⟨h.base,h.lt,fun i hi=>by rw[←e i hi];exact h.c i hi,h.z⟩
inductive MonRow (w:World) (p:Int) (x:Nat→Int) (c n:Nat) (e:Ending) (w':World):Prop
 |mk (l:Nat) (r:Int) (y:Nat→Int) (he:e= .returned (.slice (some ⟨l,0,none⟩) n n)) (hO:OA w' w.heap.size l n y) (hb:Below w.heap.size w w') (hr:0<r∧r<p) (hx:r*x c%p=1)
  (hy:∀j,j<n→y j=if c≤j then x j*r%p else 0)
set_option maxRecDepth 10000 in
set_option maxHeartbeats 2000000 in
theorem monicRow_any (w:World) (p q:Int) (r0 n c:Nat) (x:Nat→Int) (B:Nat) (hO:OA w B r0 n x) (hq:q=p*p) (hpr:PrI p) (hc:c<n) (hn:n≤1000) (hb:∀j,j<n→0≤x j∧x j<q) (hne:x c%p≠0):
 Calls Tryd.prog 90 #[FV p q, .slice (some ⟨r0,0,none⟩) n n, .int .i64 c] w fun e w'=>MonRow w p x c n e w':=by
 have hp:1<p∧p<2147483648:=(by obtain⟨P,h1,h2,h3⟩:=hpr;have:=h2.1;omega);have hqq:=sq_lt (by omega:(0:Int)≤p) hp.2 (by omega) hp.2;rw[←hq]at hqq;have HX:Hid (AR w r0 0 n x):=hO.c;have HL0:Hid (r0<w.heap.size):=hO.lt;have HBD:Hid (∀j,j<n→0≤x j∧x j<q):=hb;have HCN:Hid (c<n):=hc;have hci:(c:Int)<(n:Int):=(by omega);have hni:(n:Int)≤1000:=(by omega);have hcb:=hb c hc;obtain⟨T,hT⟩:∃t,t=x c%p:=⟨_,rfl⟩;have hTb:0<T∧T<p:=(by have h1:=Int.emod_nonneg (x c) (show p≠0 by omega);have h2:=Int.emod_lt_of_pos (x c) (show 0<p by omega);omega);have CL:=fun w=>least_any w p q (x c) (by omega) hp.2 hcb.1 (by omega);rw[←hT]at CL;have CI:=fun w=>inverse_any w p q T hp.2 (by omega) hTb.2 (hpr.gcd (by omega) (by omega) hTb.2);have HT:Hid (T=x c%p):=hT;clear hO hq hb hne hpr hT;go_enter Tryd.func90,Tryd.ntmps90;go_upto_region 1 with fail;refine wp_world (fun w1=>Below w.heap.size w w1∧FB w1 w.heap.size (.int .i64 p) (.int .i64 q)) ⟨bel1 _ _,FB.mk0 _ _ _ _⟩ ?_;rintro w1 ⟨hB1,hF1⟩;obtain⟨b4,hb4⟩:∃x,x=w.heap.size:=⟨_,rfl⟩;rw[←hb4]at hF1⊢;have HB1:Hid (Below w.heap.size w w1):=hB1;have HF1:Hid (FB w1 b4 (.int .i64 p) (.int .i64 q)):=hF1;have HB4:Hid (b4=w.heap.size):=hb4;have cx:w1.cell? ⟨r0,c,none⟩=some (.int .i64 (x c)):=by
  have:=(HX.out.below hB1) c hc
  rwa [Nat.zero_add]at this
 have l0:r0<w1.heap.size:=Nat.lt_of_lt_of_le HL0.out hB1.size;clear hB1 hb4;obtain⟨l4,k40,k41,z4,z5⟩:=hF1;refine wp_drawn mixed [⟨10,[],[],[3]⟩,⟨11,[],[],[3]⟩,⟨12,[],[],[1]⟩,⟨13,[],[],[2]⟩,⟨14,[2,3],[2,3],[]⟩,⟨15,[4],[2,3,4],[]⟩,⟨16,[1,5],[1,2,3,4,5],[]⟩,⟨17,[0,6],[0,1,2,3,4,5,6],[]⟩] [] (by kernel_rfl) 42 rfl (by kernel_rfl) (fun (i:Nat) (v:Value) (wq:World)=>match i with|0=>v= .agg #[.int .i64 (p), .int .i64 (q)]|1=>v= .agg #[.int .i64 (p), .int .i64 (q)]|2=>v= .slice (some ⟨r0,0,none⟩) (n) (n)|3=>v= .int .i64 ((c:Int))|4=>v= .pointer (some ⟨r0,c,none⟩)|5=>v= .int .i64 (x c)|6=>v= .int .i64 (T)|7=>∃r:Int,v= .int .i64 r∧0<r∧r<p∧∃k,T*r=1+k*p|_=>True) (fun _ wq=>Below w1.heap.size w1 wq) (fun wx wy=>Below wx.heap.size wx wy) (Below.refl _ _).drew (fun i v wx wy h hx=>match i,h with|0,h=>h|1,h=>h|2,h=>h|3,h=>h|4,h=>h|5,h=>h|6,h=>h|7,h=>h|n+8,_=>trivial) ?_ ?_
 ·intro i o r ho hr L fr wx hW hL hpr hds hdef hpre hfree;clear hL hpr hds hdef
  match i,ho,hr with
  |0,ho,hr=>?_
  |1,ho,hr=>?_
  |2,ho,hr=>?_
  |3,ho,hr=>?_
  |4,ho,hr=>?_
  |5,ho,hr=>?_
  |6,ho,hr=>obtain rfl:=Option.some.inj ho;obtain rfl:=Option.some.inj hr;have e1:=ev_tmp (show fr.eval (.tmp 11)= .agg #[.int .i64 (p), .int .i64 (q)] from hpre 1 (by decide) _ rfl);have e5:=ev_tmp (show fr.eval (.tmp 15)= .int .i64 (x c)from hpre 5 (by decide) _ rfl);clear hpre hfree;refine stpK rfl rfl fun K hK=>?_;go_simp;refine(CL wx).mono ?_;rintro e wy ⟨rfl,hb⟩;exact hK _ _ ⟨rfl,hW.trans (hb.mono hW.size),hb,fun h=>(List.not_mem_nil h).elim⟩
  |7,ho,hr=>obtain rfl:=Option.some.inj ho;obtain rfl:=Option.some.inj hr;have e0:=ev_tmp (show fr.eval (.tmp 10)= .agg #[.int .i64 (p), .int .i64 (q)] from hpre 0 (by decide) _ rfl);have e6:=ev_tmp (show fr.eval (.tmp 16)= .int .i64 (T)from hpre 6 (by decide) _ rfl);clear hpre hfree;refine stpK rfl rfl fun K hK=>?_;go_simp;refine(CI wx).mono ?_;rintro e wy ⟨r,rfl,h0,h1,hk,hb⟩;exact hK _ _ ⟨⟨r,rfl,h0,h1,hk⟩,hW.trans (hb.mono hW.size),hb,fun h=>(List.not_mem_nil h).elim⟩
  |n+8,ho,hr=>exact absurd hr (by simp)
  all_goals
   obtain rfl:=Option.some.inj ho;obtain rfl:=Option.some.inj hr;simp only[List.mem_cons,List.not_mem_nil,or_false,false_imp_iff,implies_true,forall_eq_or_imp,forall_eq,List.getElem?_cons_zero,List.getElem?_cons_succ,Option.some.injEq,forall_eq',evt]at hpre hfree;have c0:=(hW.cell (p:=⟨b4,0,none⟩) l4).trans k40;have c1:=(hW.cell (p:=⟨b4,1,none⟩) l4).trans k41;have c2:=(hW.cell (p:=⟨r0,c,none⟩) l0).trans cx;refine stpK rfl rfl fun K hK=>?_ <;> (go_simp;exact hK _ _ ⟨rfl,hW,Below.refl _ _,fun h=>(List.not_mem_nil h).elim⟩)
 ·intro vs w2 hvs hW1 hap0;clear hap0;have e0:vs 0= .agg #[.int .i64 (p), .int .i64 (q)]:=hvs 0 (by decide);have e1:vs 1= .agg #[.int .i64 (p), .int .i64 (q)]:=hvs 1 (by decide);have e2:vs 2= .slice (some ⟨r0,0,none⟩) (n) (n):=hvs 2 (by decide);have e3:vs 3= .int .i64 ((c:Int)):=hvs 3 (by decide);have e4:vs 4= .pointer (some ⟨r0,c,none⟩):=hvs 4 (by decide);have e5:vs 5= .int .i64 (x c):=hvs 5 (by decide);have e6:vs 6= .int .i64 (T):=hvs 6 (by decide);obtain⟨u7,e7⟩:∃u,vs 7=u:=⟨_,rfl⟩;have p7:∃r:Int,u7= .int .i64 r∧0<r∧r<p∧∃k,T*r=1+k*p:=(by rw[←e7];exact hvs 7 (by decide));simp only[puts,Nat.reduceAdd,e0,e1,e2,e3,e4,e5,e6,e7,Act.put,List.setIfInBounds_toArray,List.set_cons_zero,List.set_cons_succ,List.drop_succ_cons,List.drop_zero,List.length_cons,List.length_nil];clear hvs e0 e1 e2 e3 e4 e5 e6 e7;obtain⟨r,rfl,hr0,hr1,hrk⟩:=p7;have HR:Hid (0<r∧r<p∧∃k,T*r=1+k*p):=⟨hr0,hr1,hrk⟩;have HB2:Hid (Below w.heap.size w w2):=HB1.out.trans (hW1.mono HB1.out.size);have HF2:Hid (FB w2 b4 (.int .i64 p) (.int .i64 q)):=HF1.out.below hW1;clear l4 k40 k41 z4 z5 cx l0 hW1 CL CI hrk hcb;go_upto_region 3 with (at_make;refine wpList_makeI rfl _ _ rfl _ n rfl rfl (by rfl) (by omega) ?_;intro w3 ho3 hb3);have HB3:Hid (Below w.heap.size w w3):=HB2.out.trans (hb3.mono HB2.out.size);have HF3:Hid (FB w3 b4 (.int .i64 p) (.int .i64 q)):=HF2.out.below hb3;obtain⟨bl,hbl⟩:∃x,x=w2.heap.size:=⟨_,rfl⟩;rw[←hbl]at ho3⊢;have HL3:Hid (OA w3 bl bl n (fun _=>0)):=ho3;have HBL:Hid (w.heap.size≤bl∧b4<bl∧r0<bl):=(by have h1:=HB2.out.size;have h2:=HF2.out.lt;have h3:=HL0.out;show _∧_∧_;omega);clear ho3 hb3 hbl HF2 HB2 HF1 HB1;obtain⟨h,he⟩:∃h:Nat→Nat→Int,∀k j,h k j=if c≤j∧j<k then x j*r%p else 0:=⟨_,fun _ _=>rfl⟩;have HE:Hid (∀k j,h k j=if c≤j∧j<k then x j*r%p else 0):=he;clear he;go_wp2;go_loopw [9] (fun i wr=>∃k:Nat,i= .int .i64 k∧c≤k∧k≤n∧Below bl w3 wr∧OA wr bl bl n (h k)) (fun i _=>n-(Lib.intOf i).toNat)
  case atStart=>exact⟨c,rfl,Nat.le_refl _,by omega,(Below.refl _ _),HL3.out.fun fun j hj=>by rw[HE.out,if_neg (by omega)]⟩
  case round=>
   obtain⟨k,rfl,hck,hkn,hB,hO⟩:=hrel;have HB:Hid (Below bl w3 wr):=hB;have HO:Hid (OA wr bl bl n (h k)):=hO;have HCK:Hid (c≤k):=hck;clear hB hO hck;by_cases hk:k<n
   ·have hki:(k:Int)<(n:Int):=(by omega);have hbk:=HBD.out k hk;have ck:wr.cell? ⟨r0,k,none⟩=some (.int .i64 (x k)):=(by have:=(HX.out.below HB3.out) k hk;rw[Nat.zero_add]at this;exact(HB.out.cell (p:=⟨r0,k,none⟩) HBL.out.2.2).trans this);have lr:r0<wr.heap.size:=(by have:=HB.out.size;have:=HBL.out;have:=HB3.out.size;have:=HL0.out;omega);have hF:FB wr b4 (.int .i64 p) (.int .i64 q):=HF3.out.step HB.out HBL.out.2.1;obtain⟨l4,k40,k41,z4,z5⟩:=hF;obtain⟨X,hX⟩:∃X,X=x k:=⟨_,rfl⟩;rw[←hX]at hbk ck;obtain⟨S,hS⟩:∃t,t=X%p:=⟨_,rfl⟩;have hSb:0≤S∧S<p:=(by rw[hS];exact⟨Int.emod_nonneg _ (by omega),Int.emod_lt_of_pos _ (by omega)⟩);have CL:=fun w=>least_any w p q X (by omega) hp.2 hbk.1 (by omega);rw[←hS]at CL;have hZb:=sq_lt hSb.1 (by omega) (by omega:0≤r) (by omega);obtain⟨Z,hZ⟩:∃Z,Z=S*r:=⟨_,rfl⟩;rw[←hZ]at hZb;obtain⟨V,hV⟩:∃V,V=Z%p:=⟨_,rfl⟩;have CL2:=fun w=>least_any w p q Z (by omega) hp.2 hZb.1 (by omega);rw[←hV]at CL2;have hwz:IntKind.i64.wrap (S*r)=Z:=(by rw[←hZ,IntKind.wrap_i64];omega);have HV:Hid (V=x k*r%p):=(by show _=_;rw[hV,hZ,hS,Int.mul_emod,Int.emod_emod,←Int.mul_emod,hX]);have hHk:h k k=0:=(by rw[HE.out,if_neg (by omega)]);have cl:wr.cell? ⟨bl,k,none⟩=some (.int .i64 0):=by
     have:=HO.out.c k hk
     rwa [Nat.zero_add,hHk]at this
    have zl:wr.frozen? ⟨bl,k,none⟩=false:=by
     have:=HO.out.z k hk
     rwa [Nat.zero_add]at this
    have lbl:bl<wr.heap.size:=HO.out.lt;have HFIN:Hid (∀w5,Below wr.heap.size wr w5→∃k₁:Nat,Value.int .i64 ((k:Int)+1)= .int .i64 k₁∧c≤k₁∧k₁≤n∧Below bl w3 (w5.setCell ⟨bl,k,none⟩ (.int .i64 V))∧OA (w5.setCell ⟨bl,k,none⟩ (.int .i64 V)) bl bl n (h k₁)):=by
     intro w5 hb5;refine⟨k+1,congrArg (Value.int .i64) (by omega),by have:=HCK.out;omega,by omega,(HB.out.trans (hb5.mono (Nat.le_of_lt HO.out.lt))).setCell (p:=⟨bl,k,none⟩) (Nat.le_refl _) _,((HO.out.below hb5).store hk V).fun fun j hj=>?_⟩;rw[HE.out,HE.out];have:=HCK.out;by_cases h5:j=k
     ·subst h5;rw[if_pos rfl,if_pos (by omega),HV.out]
     ·rw[if_neg h5];by_cases h6:c≤j∧j<k
      ·rw[if_pos h6,if_pos (by omega)]
      ·rw[if_neg h6,if_neg (by omega)]
    clear hX hS hZ hV hHk;go_upto_region 6 with fail;refine wp_drawn mixed [⟨28,[],[],[8]⟩,⟨29,[],[],[9]⟩,⟨30,[],[],[3]⟩,⟨31,[],[],[3]⟩,⟨32,[],[],[1]⟩,⟨33,[],[],[9]⟩,⟨34,[4,5],[4,5],[]⟩,⟨35,[6],[4,5,6],[]⟩,⟨36,[3,7],[3,4,5,6,7],[]⟩,⟨37,[],[],[7]⟩,⟨38,[8,9],[3,4,5,6,7,8,9],[]⟩,⟨39,[2,8,10],[2,3,4,5,6,7,8,9,10],[]⟩] [] (by kernel_rfl) 42 rfl (by kernel_rfl) (fun (i:Nat) (v:Value) (wq:World)=>match i with|0=>v= .slice (some ⟨bl,0,none⟩) (n) (n)|1=>v= .int .i64 ((k:Int))|2=>v= .agg #[.int .i64 (p), .int .i64 (q)]|3=>v= .agg #[.int .i64 (p), .int .i64 (q)]|4=>v= .slice (some ⟨r0,0,none⟩) (n) (n)|5=>v= .int .i64 ((k:Int))|6=>v= .pointer (some ⟨r0,k,none⟩)|7=>v= .int .i64 (X)|8=>v= .int .i64 (S)|9=>v= .int .i64 (r)|10=>v= .int .i64 (Z)|11=>v= .int .i64 (V)|_=>True) (fun _ wq=>Below wr.heap.size wr wq) (fun wx wy=>Below wx.heap.size wx wy) (Below.refl _ _).drew (fun i v wx wy h hx=>match i,h with|0,h=>h|1,h=>h|2,h=>h|3,h=>h|4,h=>h|5,h=>h|6,h=>h|7,h=>h|8,h=>h|9,h=>h|10,h=>h|11,h=>h|n+12,_=>trivial) ?_ ?_
    ·intro i o r ho hr L fr wx hW hL hpr hds hdef hpre hfree;clear hL hpr hds hdef
     match i,ho,hr with
     |0,ho,hr=>?_
     |1,ho,hr=>?_
     |2,ho,hr=>?_
     |3,ho,hr=>?_
     |4,ho,hr=>?_
     |5,ho,hr=>?_
     |6,ho,hr=>?_
     |7,ho,hr=>?_
     |8,ho,hr=>obtain rfl:=Option.some.inj ho;obtain rfl:=Option.some.inj hr;have e3:=ev_tmp (show fr.eval (.tmp 31)= .agg #[.int .i64 (p), .int .i64 (q)] from hpre 3 (by decide) _ rfl);have e7:=ev_tmp (show fr.eval (.tmp 35)= .int .i64 (X)from hpre 7 (by decide) _ rfl);clear hpre hfree;refine stpK rfl rfl fun K hK=>?_;go_simp;refine(CL wx).mono ?_;rintro e wy ⟨rfl,hb⟩;exact hK _ _ ⟨rfl,hW.trans (hb.mono hW.size),hb,fun h=>(List.not_mem_nil h).elim⟩
     |9,ho,hr=>?_
     |10,ho,hr=>obtain rfl:=Option.some.inj ho;obtain rfl:=Option.some.inj hr;have e8:=ev_tmp (show fr.eval (.tmp 36)= .int .i64 (S)from hpre 8 (by decide) _ rfl);have e9:=ev_tmp (show fr.eval (.tmp 37)= .int .i64 (r)from hpre 9 (by decide) _ rfl);clear hpre hfree;refine stpK rfl rfl fun K hK=>?_;go_simp;exact hK _ _ ⟨(by first|(show Value.int _ (IntKind.i64.wrap _)=_;rw[hwz])|rfl),hW,Below.refl _ _,fun h=>(List.not_mem_nil h).elim⟩
     |11,ho,hr=>obtain rfl:=Option.some.inj ho;obtain rfl:=Option.some.inj hr;have e2:=ev_tmp (show fr.eval (.tmp 30)= .agg #[.int .i64 (p), .int .i64 (q)] from hpre 2 (by decide) _ rfl);have e10:=ev_tmp (show fr.eval (.tmp 38)= .int .i64 (Z)from hpre 10 (by decide) _ rfl);clear hpre hfree;refine stpK rfl rfl fun K hK=>?_;go_simp;refine(CL2 wx).mono ?_;rintro e wy ⟨rfl,hb⟩;exact hK _ _ ⟨rfl,hW.trans (hb.mono hW.size),hb,fun h=>(List.not_mem_nil h).elim⟩
     |n+12,ho,hr=>exact absurd hr (by simp)
     all_goals
      obtain rfl:=Option.some.inj ho;obtain rfl:=Option.some.inj hr;simp only[List.mem_cons,List.not_mem_nil,or_false,false_imp_iff,implies_true,forall_eq_or_imp,forall_eq,List.getElem?_cons_zero,List.getElem?_cons_succ,Option.some.injEq,forall_eq',evt]at hpre hfree;have c0:=(hW.cell (p:=⟨b4,0,none⟩) l4).trans k40;have c1:=(hW.cell (p:=⟨b4,1,none⟩) l4).trans k41;have c2:=(hW.cell (p:=⟨r0,k,none⟩) lr).trans ck;refine stpK rfl rfl fun K hK=>?_ <;> (go_simp;exact hK _ _ ⟨rfl,hW,Below.refl _ _,fun h=>(List.not_mem_nil h).elim⟩)
    ·intro vs wm hvs hW1 hap0;clear hap0;have e0:vs 0= .slice (some ⟨bl,0,none⟩) (n) (n):=hvs 0 (by decide);have e1:vs 1= .int .i64 ((k:Int)):=hvs 1 (by decide);have e2:vs 2= .agg #[.int .i64 (p), .int .i64 (q)]:=hvs 2 (by decide);have e3:vs 3= .agg #[.int .i64 (p), .int .i64 (q)]:=hvs 3 (by decide);have e4:vs 4= .slice (some ⟨r0,0,none⟩) (n) (n):=hvs 4 (by decide);have e5:vs 5= .int .i64 ((k:Int)):=hvs 5 (by decide);have e6:vs 6= .pointer (some ⟨r0,k,none⟩):=hvs 6 (by decide);have e7:vs 7= .int .i64 (X):=hvs 7 (by decide);have e8:vs 8= .int .i64 (S):=hvs 8 (by decide);have e9:vs 9= .int .i64 (r):=hvs 9 (by decide);have e10:vs 10= .int .i64 (Z):=hvs 10 (by decide);have e11:vs 11= .int .i64 (V):=hvs 11 (by decide);simp only[puts,Nat.reduceAdd,e0,e1,e2,e3,e4,e5,e6,e7,e8,e9,e10,e11,Act.put,List.setIfInBounds_toArray,List.set_cons_zero,List.set_cons_succ,List.drop_succ_cons,List.drop_zero,List.length_cons,List.length_nil];clear hvs e0 e1 e2 e3 e4 e5 e6 e7 e8 e9 e10 e11;have cl5:wm.cell? ⟨bl,k,none⟩=some (.int .i64 0):=(hW1.cell (p:=⟨bl,k,none⟩) lbl).trans cl;have zl5:wm.frozen? ⟨bl,k,none⟩=false:=(hW1.frozen (p:=⟨bl,k,none⟩) lbl).trans zl;have HREL:Hid _:=HFIN.out wm hW1;have hw4:wrap64 ((k:Int)+1)=(k:Int)+1:=wrap_in (by omega) (by omega);clear hW1 ck cl zl CL CL2 l4 k40 k41 z4 z5;go_wp2;rw[hw4];exact⟨HREL.out,meas_up hk⟩
   ·obtain rfl:k=n:=(by omega);have hki:¬((k:Int)<(k:Int)):=(by omega);have R:Hid (MonRow w p x c k (.returned (.slice (some ⟨bl,0,none⟩) k k)) wr):=by
     refine .mk bl r (h k) rfl (HO.out.mono HBL.out.1) (HB3.out.trans (HB.out.mono HBL.out.1)) ⟨HR.out.1,HR.out.2.1⟩ ?_ fun j hj=>?_
     ·obtain⟨s,hs⟩:=HR.out.2.2;have h1:r*(x c%p)%p=1:=(by rw[←HT.out,Int.mul_comm,hs,Int.add_mul_emod_self_right,Int.emod_eq_of_lt (by omega) (by omega)]);rw[Int.mul_emod,Int.emod_emod,←Int.mul_emod]at h1;exact h1
     ·rw[HE.out];by_cases h5:c≤j
      ·rw[if_pos ⟨h5,hj⟩,if_pos h5]
      ·rw[if_neg (by omega),if_neg h5]
    go_wp2;refine bodyPost_ret (v:= .slice (some ⟨bl,0,none⟩) k k) (by simp[results,go_sem,loadVar]) rfl ?_;exact R.out
end Go.Proofs.YtffdemplaodbcaaDoor
