/- A part of the proof: PB, PC, PE, PD, PF. -/
import Derived.Test.YtffdemplaodbcaaDoorP12
import Derived.Test.YtffdemplaodbcaaDoorP13
import Derived.Test.YtffdemplaodbcaaDoorShelf
import Derived.Test.YtffdemplaodbcaaDoorP11
import Derived.Test.YtffdemplaodbcaaDoorP02
set_option linter.all false
namespace Go.Proofs.YtffdemplaodbcaaDoor
open Go Go.Proofs Go.RowKit Go.Rad
inductive SR (w:World) (B:Nat) (v:Value) (x:List Int):Prop
 |nil (a:Option Addr) (c:Nat) (hv:v= .slice a 0 c) (hx:x=[])
 |row (b o c:Nat) (hv:v= .slice (some ⟨b,o,none⟩) x.length c) (h0:0<x.length) (hc:x.length≤c) (hb:B≤b) (hl:b<w.heap.size) (hA:AR w b o x.length (fun j=>x.getD j 0)) (hz:Free w b o x.length)
theorem SR.below {w w':World} {B:Nat} {v:Value} {x:List Int} (h:SR w B v x) (hb:Below w.heap.size w w'):SR w' B v x:=by
 cases h with
 |nil a c hv hx=>exact .nil a c hv hx
 |row b o c hv h0 hc hB hl hA hz=>exact .row b o c hv h0 hc hB (Nat.lt_of_lt_of_le hl hb.size) (hA.below hb) (fun i hi=>(hb.frozen (p:=⟨b,o+i,none⟩) hl).trans (hz i hi))
theorem SR.mono {w:World} {B C:Nat} {v:Value} {x:List Int} (h:SR w B v x) (hc:C≤B):SR w C v x:=by
 cases h with
 |nil a c hv hx=>exact .nil a c hv hx
 |row b o c hv h0 hc' hB hl hA hz=>exact .row b o c hv h0 hc' (by omega) hl hA hz
def VW (w:World) (v:Value) (x:List Int):Prop:=∃a b o c,v= .slice a x.length c∧(0<x.length→a=some ⟨b,o,none⟩)∧AR w b o x.length (fun j=>x.getD j 0)
theorem VW.below {w w':World} {v:Value} {x:List Int} (h:VW w v x) (hb:Below w.heap.size w w'):VW w' v x:=by obtain⟨a,b,o,c,hv,ha,hA⟩:=h;exact⟨a,b,o,c,hv,ha,hA.below hb⟩
theorem SR.view {w:World} {B:Nat} {v:Value} {x:List Int} (h:SR w B v x):VW w v x:=by
 cases h with
 |nil a c hv hx=>subst hx;exact⟨a,0,0,c,hv,fun h=>by simp at h,fun i hi=>by simp at hi⟩
 |row b o c hv h0 hc hb hl hA hz=>exact⟨_,b,o,c,hv,fun _=>rfl,hA⟩
theorem getD_of_ge (x:List Int) (j:Nat) (h:x.length≤j):x.getD j 0=0:=by simp[List.getD_eq_getElem?_getD,h]
theorem cut_getD (x:List Int) (j:Nat):cut (fun i=>x.getD i 0) x.length j=row x j:=by
 rw[row_getD];unfold cut;by_cases h:j<x.length
 ·rw[if_pos h]
 ·rw[if_neg h,getD_of_ge x j (by omega)]
theorem lst_self (x:List Int):lst (fun i=>x.getD i 0) x.length=x:=by refine List.ext_getElem (by simp[lst]) fun i h1 h2=>?_;simp[lst,List.getD_eq_getElem?_getD,h2]
theorem RestPost.sr {w w':World} {p:Int} {b o n1 c1 n B:Nat} {f y:Nat→Int} {e:Ending} (hp:0<p) (h:RestPost w p b o n1 c1 n f y e w') (hB:B≤b) (hl:b<w.heap.size) (hc:n1≤c1) (hz:Free w b o n1):
 ∃u z,e= .returned u∧SR w' B u z∧Below B w w'∧Res p (lst y (n+1)) (cut f n1) z:=by
 obtain⟨m,aa,r,Q,he,ha,hm,hmn,hC,hA,hb,hlst,hh⟩:=h;have hg:∀j,(lst r m).getD j 0=cut r m j:=fun j=>lst_getD r m j;refine⟨_,lst r m,he,?_,hC.below hB (by omega),?_,?_,?_,?_⟩
 ·by_cases h0:m=0
  ·subst h0;exact .nil aa c1 rfl rfl
  ·obtain rfl:=ha (by omega);refine .row b o c1 (by rw[lst_length]) (by rw[lst_length];omega) (by rw[lst_length];omega) hB (Nat.lt_of_lt_of_le hl hC.size) ?_ ?_
   ·intro i hi;rw[lst_length]at hi;show _=some (Value.int _ ((lst r m).getD i 0));rw[hg,hA i hi];unfold cut;rw[if_pos hi]
   ·intro i hi;rw[lst_length]at hi;exact(hC.froz _).trans (hz i (by omega))
 ·rw[lst_length,lst_length];omega
 ·intro j;rw[hg];unfold cut;by_cases h:j<m
  ·rw[if_pos h];exact hb j h
  ·rw[if_neg h];omega
 ·rw[lst_length];intro h0;rw[hg];unfold cut;rw[if_pos (by omega)];exact hlst h0
 ·refine⟨lst Q (n1-n),fun j=>?_⟩;rw[row_lst,act_row_lst];by_cases h:j<n1
  ·show(if j<n1 then f j else 0)%p=((if j<m then r j else 0)+_)%p;rw[if_pos h];exact hh j h
  ·show(if j<n1 then f j else 0)%p=((if j<m then r j else 0)+_)%p;rw[if_neg h,if_neg (by omega)];by_cases h2:n1≤n
   ·rw[show n1-n=0 by omega];rfl
   ·rw[cvp_zero _ _ _ _ _ (by omega)];rfl
structure MD (w:World) (p:Int) (b o n c:Nat) (y:Nat→Int):Prop where
 row:AR w b o (n+1) y
 cap:n+1≤c
 bd:∀i,i<n+1→0≤y i∧y i<p
 g:Int.gcd (y n) p=1
 ne:y n≠0
 small:n≤1048576
theorem MD.below {w w':World} {p:Int} {b o n c:Nat} {y:Nat→Int} (h:MD w p b o n c y) (hb:Below w.heap.size w w'):MD w' p b o n c y:=⟨h.row.below hb,h.cap,h.bd,h.g,h.ne,h.small⟩
theorem MD.step {w w':World} {p:Int} {b o n c B:Nat} {y:Nat→Int} (h:MD w p b o n c y) (hb:Below B w w') (hB:b<B):MD w' p b o n c y:=⟨fun i hi=>(hb.cell (p:=⟨b,o+i,none⟩) hB).trans (h.row i hi),h.cap,h.bd,h.g,h.ne,h.small⟩
theorem rest_sr (w:World) (p q:Int) (B:Nat) (v:Value) (x:List Int) (b2 o2 n c2:Nat) (y:Nat→Int) (hv:SR w B v x) (hB:B≤w.heap.size) (hM:MD w p b2 o2 n c2 y) (hb2:b2<B) (hq:q=p*p) (hp:1<p∧p<2147483648)
 (hx:∀j,0≤x.getD j 0∧x.getD j 0<q) (hl:x.length≤2097152):
 Calls Tryd.prog 60 #[FV p q,v, .slice (some ⟨b2,o2,none⟩) (n+1:Nat) c2] w fun e w'=>∃u z,e= .returned u∧SR w' B u z∧Below B w w'∧Res p (lst y (n+1)) (row x) z:=by
 cases hv with
 |nil a c hv hx=>subst hv;subst hx;refine(rest_zero w p q a c b2 o2 n c2 hM.small).mono ?_;rintro e w' ⟨he,hb⟩;refine⟨_,[],he, .nil a c rfl rfl,hb.mono hB,by rw[lst_length];exact Nat.succ_pos _,fun j=>?_,fun h=>by simp at h, .refl _ _ _⟩;rw[getD_of_ge [] j (Nat.zero_le _)];omega
 |row b o c hv h0 hc hb hbl hA hz=>subst hv;refine(rest_any w p q _ b o x.length c b2 o2 n c2 (fun j=>x.getD j 0) y (fun _=>rfl) hc hbl hA hz hM.row (by omega) hq hp hM.cap hl hM.small (fun i _=>hx i) hM.bd hM.g hM.ne).mono ?_;intro e w' h;obtain⟨u,z,he,h1,h2,h3⟩:=h.sr (B:=B) (by omega) hb hbl hc hz;exact⟨u,z,he,h1,h2,h3.len,h3.bd,h3.top,(Cg.of fun j=>by rw[cut_getD]).trans h3.cg⟩
theorem product_sr (w:World) (p q:Int) (v1 v2:Value) (x1 x2:List Int) (h1:VW w v1 x1) (h2:VW w v2 x2) (hq:q=p*p) (hp:1<p∧p<2147483648)
 (hx1:∀j,0≤x1.getD j 0∧x1.getD j 0<p) (hx2:∀j,0≤x2.getD j 0∧x2.getD j 0<p) (hl1:x1.length≤1048576) (hl2:x2.length≤1048576):
 Calls Tryd.prog 33 #[FV p q,v1,v2] w fun e w'=>∃u z,e= .returned u∧SR w' w.heap.size u z∧Below w.heap.size w w'∧z.length≤x1.length+x2.length∧(∀j,0≤z.getD j 0∧z.getD j 0<q)∧∀j,row z j%p=row (pmul x1 x2) j%p:=by
 obtain⟨a,b,o,c,rfl,ha,hA⟩:=h1;obtain⟨a',b',o',c',rfl,ha',hA'⟩:=h2;have hq0:0<q:=(by rw[hq];exact Int.mul_pos (by omega) (by omega));refine(product_any w p q a a' b o x1.length c b' o' x2.length c' (fun j=>x1.getD j 0) (fun j=>x2.getD j 0) ha ha' hA hA' hq ⟨by omega,hp.2⟩ hl1 hl2 (fun i _=>hx1 i) (fun i _=>hx2 i)).mono ?_;intro e w' h;cases h with
 |none he h hb=>
  refine⟨_,[],he, .nil none 0 rfl rfl,hb,Nat.zero_le _,fun j=>?_,fun j=>?_⟩
  ·rw[getD_of_ge [] j (Nat.zero_le _)];omega
  ·rw[row_pmul];have e0:act x1 (row x2) j=0:=by
    rcases h with h|h
    ·rw[List.length_eq_zero_iff.1 h];rfl
    ·rw[List.length_eq_zero_iff.1 h];exact act_zero x1 j
   rw[e0];rfl
 |some bn h he h1 h2 hb ho hh=>
  obtain⟨N,hN⟩:∃N,N=x1.length+x2.length-1:=⟨_,rfl⟩;rw[←hN]at he ho hh;refine⟨_,lst h N,he, .row bn 0 N (by rw[lst_length]) (by rw[lst_length];omega) (by rw[lst_length];exact Nat.le_refl _) ho.base ho.lt ?_ ?_,hb,by rw[lst_length];omega,?_,?_⟩
  ·intro i hi;rw[lst_length]at hi;show _=some (Value.int _ ((lst h N).getD i 0));rw[lst_getD,ho.c i hi];unfold cut;rw[if_pos hi]
  ·rw[lst_length];exact ho.z
  ·intro j;rw[lst_getD];unfold cut;by_cases h5:j<N
   ·rw[if_pos h5];exact⟨(hh j h5).1,(hh j h5).2.1⟩
   ·rw[if_neg h5];omega
  ·intro j;have e1:row (pmul x1 x2) j=cvp (fun j=>x1.getD j 0) (fun j=>x2.getD j 0) x2.length x1.length j:=(by rw[row_pmul,←act_row_lst,lst_self,lst_self]);rw[row_lst,e1];unfold cut;by_cases h5:j<N
   ·rw[if_pos h5];exact(hh j h5).2.2
   ·rw[if_neg h5,cvp_zero _ _ _ _ _ (by omega)]
end Go.Proofs.YtffdemplaodbcaaDoor
namespace Go.Proofs.YtffdemplaodbcaaDoor
open Go Go.Proofs Go.RowKit Go.Rad
theorem sr_of_row {w:World} {B:Nat} {v:Value} {x:List Int} (h:w.ownsRow B 3 1 v x.length (x.map (Value.int .i64))):SR w B v x:=by
 by_cases h0:x.length=0
 ·have hx:x=[]:=List.length_eq_zero_iff.1 h0;subst hx;rcases h.2 with⟨hv,_⟩|⟨g,cap,cur,hv,_⟩
  ·exact .nil none 0 hv rfl
  ·exact .nil _ cap hv rfl
 ·rcases h.2 with⟨_,hn⟩|⟨g,cap,cur,hv,hb,hg,hc,_⟩
  ·exact absurd hn h0
  ·subst hv;refine .row g 0 cap rfl (by omega) hc hb (Array.getElem?_eq_some_iff.1 hg).1 (fun i hi=>?_) (fun i hi=>?_)
   ·rw[Nat.zero_add,World.ownsRow.cellAt h i (by omega)];simp[List.getD_eq_getElem?_getD,hi]
   ·rw[Nat.zero_add];exact World.ownsRow.frozenAt h i
theorem clone_sr (w:World) (v:Value) (x:List Int) (h:VW w v x) (hl:x.length≤1048576):
 Calls Tryd.prog 35 #[v] w fun e w'=>∃u,e= .returned u∧SR w' w.heap.size u x∧Below w.heap.size w w':=by
 obtain⟨a,b,o,c,rfl,ha,hA⟩:=h;by_cases h0:x.length=0
 ·obtain rfl:=List.length_eq_zero_iff.1 h0;cases a with
  |none=>refine(Tryd.slices_Clone_int_nil 0 c w).mono ?_;rintro e w' ⟨he,rfl⟩;exact⟨_,he, .nil none 0 rfl rfl,Below.refl _ _⟩
  |some a=>refine(Tryd.slices_Clone_int_zero a c w).mono ?_;rintro e w' ⟨u,he,hr,_,hb⟩;exact⟨u,he,sr_of_row hr,hb⟩
 ·obtain rfl:=ha (by omega);refine(Tryd.slices_Clone_int b o x.length c x w (Nat.le_refl _) (by omega) (fun j hj=>hA j hj)).mono ?_;rintro e w' ⟨u,he,hr,_,hb⟩;rw[List.take_length]at hr;exact⟨u,he,sr_of_row hr,hb⟩
def ppow (x:List Int):Nat→List Int
 |0=>[1]
 |k+1=>pmul x (ppow x k)
theorem row_one (j:Nat):row [1] j=one0 j:=by show 1*one0 j+sft (fun _=>0) j=_;cases j <;> simp[sft]
theorem row_ppow_add (x:List Int) (b:Nat):∀a j,row (pmul (ppow x a) (ppow x b)) j=row (ppow x (a+b)) j
 |0,j=>by rw[row_pmul,Nat.zero_add];show 1*row (ppow x b) j+sft (fun _=>0) j=_;cases j <;> simp[sft]
 |a+1,j=>by rw[show a+1+b=(a+b)+1 by omega];show row (pmul (pmul x (ppow x a)) (ppow x b)) j=row (pmul x (ppow x (a+b))) j;rw[row_pmul,row_pmul,act_pmul];exact act_congr x (fun i=>by rw[←row_pmul];exact row_ppow_add x b a i) j
theorem row_ppow_one (x:List Int) (j:Nat):row (ppow x 1) j=row x j:=by show row (pmul x [1]) j=_;rw[row_pmul];exact act_congr x row_one j
theorem Cg.sq {p:Int} {m x f:List Int} {k:Nat} (h:Cg p m (row x) (row (ppow f k))):Cg p m (row (pmul x x)) (row (ppow f (k+k))):=(h.mul h).trans (.of fun j=>by rw[row_ppow_add])
theorem Cg.odd {p:Int} {m x f g:List Int} {k:Nat} (h:Cg p m (row x) (row (ppow f k))) (hg:Cg p m (row g) (row f)):Cg p m (row (pmul x g)) (row (ppow f (k+1))):=(h.mul hg).trans (.of fun j=>by have e:row (pmul (ppow f k) f) j=row (pmul (ppow f k) (ppow f 1)) j:=(by rw[row_pmul,row_pmul];exact act_congr _ (fun i=>(row_ppow_one f i).symm) j);rw[e,row_ppow_add])
end Go.Proofs.YtffdemplaodbcaaDoor
namespace Go.Proofs.YtffdemplaodbcaaDoor
open Go Go.Proofs Go.RowKit Go.Rad
theorem IL.vw {w:World} {v:Value} {xs:List Int} (h:IL w v xs):VW w v xs:=by obtain⟨a,b,o,n,c,hv,hn,ha,hc,hm⟩:=h;subst hn;exact⟨a,b,o,c,hv,ha,hc⟩
noncomputable def ckBC (p:Int) (xs ys:List Int):Int:=if ckC p xs=0 then ckC p ys else ckC p xs
noncomputable def ckBA (p:Int) (xs ys:List Int):Int:=if ckC p xs=0 then ckA p ys else ckA p xs
set_option maxRecDepth 10000 in
set_option maxHeartbeats 1000000 in
theorem checkBoth_any (w:World) (v1 v2:Value) (xs ys:List Int) (p:Int) (h1:IL w v1 xs) (h2:IL w v2 ys) (ht:TabB w):
 Calls Tryd.prog 30 #[v1,v2, .int .i64 p] w fun e w'=>e= .returned (Flt (ckBC p xs ys) (ckBA p xs ys))∧Below w.heap.size w w':=by
 have C1:=fun wx (hb:Below w.heap.size w wx)=>check_any wx v1 xs p (h1.below hb) (ht.below hb);have C2:=fun wx (hb:Below w.heap.size w wx)=>check_any wx v2 ys p (h2.below hb) (ht.below hb);clear h1 h2 ht;obtain⟨c1,hc1⟩:∃c,ckC p xs=c:=⟨_,rfl⟩;obtain⟨a1,ha1⟩:∃c,ckA p xs=c:=⟨_,rfl⟩;obtain⟨c2,hc2⟩:∃c,ckC p ys=c:=⟨_,rfl⟩;obtain⟨a2,ha2⟩:∃c,ckA p ys=c:=⟨_,rfl⟩;have E:Hid (ckBC p xs ys=(if c1=0 then c2 else c1)∧ckBA p xs ys=(if c1=0 then a2 else a1)):=(by unfold ckBC ckBA;rw[hc1,ha1,hc2,ha2];exact⟨rfl,rfl⟩);simp only[hc1,ha1]at C1;simp only[hc2,ha2]at C2;clear hc1 ha1 hc2 ha2;go_enter Tryd.func30,Tryd.ntmps30;go_wp2_with (go_at_call 13;fail);refine(C1 _ (bel1 _ _)).mono ?_;rintro e w1 ⟨rfl,hb1⟩;have hB1:Below w.heap.size w w1:=(bel1 w _).trans (hb1.mono (by simp));have hF:=(FB.mk0 w (.int .i64 0) (.int .i64 0) 24).below hb1;have HB1:Hid (Below w.heap.size w w1):=hB1;obtain⟨b4,hb4⟩:∃x,x=w.heap.size:=⟨_,rfl⟩;rw[←hb4]at hF⊢;have HG:Hid (w.heap.size≤b4):=(by show _≤_;omega);clear hb1 hB1 hb4 C1;obtain⟨l4,d0,d1,f0,f1⟩:=id hF;by_cases h0:c1=0
 ·subst h0;go_wp2_with (go_at_call 13;fail);refine(C2 _ (HB1.out.alloc HB1.out.size _)).mono ?_;rintro e w2 ⟨rfl,hb2⟩;have hF2:=(hF.alloc (Obj.cells #[Value.int IntKind.i64 0,Value.int IntKind.i64 a1] 24)).below hb2;have hB2:Below w.heap.size w w2:=(HB1.out.alloc HB1.out.size _).trans (hb2.mono (by have:=HB1.out.size;simp;omega));have HR:Hid (Below w.heap.size w ((w2.setCell ⟨b4,0,none⟩ (.int .i64 c2)).setCell ⟨b4,1,none⟩ (.int .i64 a2))):=below_set2 hB2 HG.out _ _;clear hF l4 d0 d1 f0 f1 hb2 hB2 C2;obtain⟨l4,d0,d1,f0,f1⟩:=hF2;go_wp2;refine bodyPost_ret (v:=Flt c2 a2) (by simp[results,go_sem,loadVar,World.cell?_setCell_same,World.cell?_setCell_other, *];try rfl) rfl ?_;exact⟨by rw[E.out.1,E.out.2];simp,HR.out⟩
 ·have HR:Hid (∀X,Below w.heap.size w (((w1.setCell ⟨b4,0,none⟩ (.int .i64 c1)).setCell ⟨b4,1,none⟩ (.int .i64 a1)).alloc X)):=fun X=>(below_set2 HB1.out HG.out _ _).alloc (by have:=HB1.out.size;simp;omega) X;have h0b:(c1 !=0)=true:=(by simpa using h0);have HN:Hid (¬c1=0):=h0;clear C2;go_wp2;refine bodyPost_ret (v:=Flt c1 a1) (by simp[results,go_sem,loadVar,World.cell?_setCell_same,World.cell?_setCell_other, *];try rfl) rfl ?_;exact⟨by rw[E.out.1,E.out.2,if_neg HN.out,if_neg HN.out],HR.out _⟩
end Go.Proofs.YtffdemplaodbcaaDoor
namespace Go.Proofs.YtffdemplaodbcaaDoor
open Go Go.Proofs Go.RowKit Go.Rad
inductive PowPost (w:World) (p:Int) (n:Nat) (y:Nat→Int) (f:List Int) (N:Nat) (e:Ending) (w':World):Prop
 |mk (u:Value) (z:List Int) (he:e= .returned u) (hS:SR w' w.heap.size u z) (hB:Below w.heap.size w w') (hR:Res p (lst y (n+1)) (row (ppow f N)) z)
inductive PS (wa:World) (p:Int) (m:List Int) (t:Nat→Int) (v:Value) (wx:World):Prop
 |mk (g:List Int) (hS:SR wx wa.heap.size v g) (hB:Below wa.heap.size wa wx) (hR:Res p m t g)
theorem Res.of {p:Int} {m:List Int} {u v:Nat→Int} {x:List Int} (h:Res p m u x) (k:Cg p m v u):Res p m v x:=⟨h.len,h.bd,h.top,k.trans h.cg⟩
theorem Res.bq {p q:Int} {m:List Int} {u:Nat→Int} {x:List Int} (h:Res p m u x) (hpq:p≤q):∀j,0≤x.getD j 0∧x.getD j 0<q:=fun j=>⟨(h.bd j).1,by have:=(h.bd j).2;omega⟩
set_option maxRecDepth 10000 in
set_option maxHeartbeats 2000000 in
theorem power_any (w:World) (p q:Int) (v1:Value) (f:List Int) (N b2 o2 n c2:Nat) (y:Nat→Int) (h1:VW w v1 f) (hM:MD w p b2 o2 n c2 y) (hb2:b2<w.heap.size) (hq:q=p*p) (hp:1<p∧p<2147483648)
 (hf:∀j,0≤f.getD j 0∧f.getD j 0<p) (hl:f.length≤1048576) (hN:N<9223372036854775808):
 Calls Tryd.prog 36 #[FV p q,v1, .int .i64 N, .slice (some ⟨b2,o2,none⟩) (n+1:Nat) c2] w fun e w'=>PowPost w p n y f N e w':=by
 have H1:Hid (VW w v1 f):=h1;have HM:Hid (MD w p b2 o2 n c2 y):=hM;have HB2:Hid (b2<w.heap.size):=hb2;have HQ:Hid (q=p*p):=hq;have HF:Hid (∀j,0≤f.getD j 0∧f.getD j 0<p):=hf;have hpq:p≤q:=(by have h9:=Int.mul_le_mul_of_nonneg_left (show 1≤p by omega) (show 0≤p by omega);rw[Int.mul_one,←hq]at h9;exact h9);have HPQ:Hid (p≤q):=hpq;have HL:Hid (f.length≤1048576):=hl;have CL:=fun w=>Tryd.bits_Len (N:Int) w (by omega) (by omega);have HLB:Hid (N<2^Lib.bitLen N∧Lib.bitLen N≤63):=bitLen_lt N hN;have hlb:=HLB.out.2;have hn:n≤1048576:=hM.small;clear h1 hM hb2 hq hf hl hpq;go_enter Tryd.func36,Tryd.ntmps36;go_upto_region 1 with fail;refine wp_world (fun w1=>Below w.heap.size w w1∧w1.heap.size=w.heap.size+1∧w1.cell? ⟨w.heap.size,0,none⟩=some (.int .i64 p)∧w1.cell? ⟨w.heap.size,1,none⟩=some (.int .i64 q)) ⟨bel1 _ _,by simp,by simp[go_sem],by simp[go_sem]⟩ ?_;rintro w1 ⟨hB1,l4,c0,c1⟩;obtain⟨b4,hb4⟩:∃x,x=w.heap.size:=⟨_,rfl⟩;have H4:Hid (b4=w.heap.size):=hb4;rw[←hb4]at c0 c1 l4⊢;have HB1:Hid (Below w.heap.size w w1):=hB1;clear hB1 hb4;have hl4:b4<w1.heap.size:=(by omega);have HL4:Hid (w1.heap.size=b4+1):=l4;clear l4;go_cut [1] from 11 to 15 (fun v wx=>PS w1 p (lst y (n+1)) (row f) v wx)
 case first=>
  go_region_with (first
   |(go_at_call 35;refine(clone_sr w1.drew v1 f (H1.out.below HB1.out.drew) HL.out).mono ?_;rintro e w2 ⟨u,rfl,hS2,hb2⟩;have HS2:Hid (SR w2 w1.heap.size u f):=hS2;have HB2w:Hid (Below w1.heap.size w1 w2):=(bel_drew w1).trans hb2;have f0:w2.cell? ⟨b4,0,none⟩=some (.int .i64 p):=(HB2w.out.cell (p:=⟨b4,0,none⟩) hl4).trans c0;have f1:w2.cell? ⟨b4,1,none⟩=some (.int .i64 q):=(HB2w.out.cell (p:=⟨b4,1,none⟩) hl4).trans c1;clear hS2 hb2)
   |(go_at_call 60;refine(rest_sr w2 p q w1.heap.size u f b2 o2 n c2 y HS2.out HB2w.out.size ((HM.out.below HB1.out).below HB2w.out) (by have:=HB2.out;have:=H4.out;omega) HQ.out hp (fun j=>⟨(HF.out j).1,by have:=(HF.out j).2;have:=HPQ.out;omega⟩) (by have:=HL.out;omega)).mono ?_;rintro e w3 ⟨v,g,rfl,hS3,hb3,hR3⟩;have HP:Hid (PS w1 p (lst y (n+1)) (row f) v w3):= .mk g hS3 (HB2w.out.trans hb3) hR3;clear hS3 hb3 hR3 f0 f1))
  all_goals
   go_wp2_with fail;go_meet
   case rel=>exact HP.out
 case rest=>
 obtain⟨gf,hSf,hBf,hRf⟩:=hcut;obtain⟨wb,hwb⟩:∃x,x=wc:=⟨_,rfl⟩;rw[←hwb]at hSf hBf⊢;clear hwb wc;have HSF:Hid (SR wb w1.heap.size u1 gf):=hSf;have HBF:Hid (Below w1.heap.size w1 wb):=hBf;have HRF:Hid (Res p (lst y (n+1)) (row f) gf):=hRf;replace c0:=(hBf.cell (p:=⟨b4,0,none⟩) hl4).trans c0;replace c1:=(hBf.cell (p:=⟨b4,1,none⟩) hl4).trans c1;replace hl4:b4<wb.heap.size:=Nat.lt_of_lt_of_le hl4 hBf.size;have HMB:Hid (MD wb p b2 o2 n c2 y):=(HM.out.below HB1.out).below hBf;have HB2B:Hid (b2<wb.heap.size):=(by have:=HB2.out;have:=H4.out;show _<_;omega);clear hSf hBf hRf;go_upto_region 2 with fail;go_cut [9] from 16 to 19 (fun v wx=>PS wb p (lst y (n+1)) (row (ppow f 0)) v wx)
 case first=>
  go_wp2_with (go_at_call 60;fail);have HS1:SR (wb.alloc (Obj.cells #[Value.int IntKind.i64 1] 3)) wb.heap.size (.slice (some ⟨wb.heap.size,0,none⟩) 1 1) [1]:=
   .row wb.heap.size 0 1 rfl (by decide) (by decide) (Nat.le_refl _) (by simp) (fun i hi=>by
    have h0:i=0:=(by simp at hi;omega);subst h0;simp[go_sem]) (fun i hi=>by
    have h0:i=0:=(by simp at hi;omega);subst h0;simp[go_sem])
  refine(rest_sr _ p q wb.heap.size _ [1] b2 o2 n c2 y HS1 (by simp) (HMB.out.below (bel1 _ _)) HB2B.out HQ.out hp (fun j=>?_) (by decide)).mono ?_
  ·have:=HPQ.out;cases j with
   |zero=>show 0≤(1:Int)∧(1:Int)<q;omega
   |succ j=>rw[getD_of_ge [1] (j+1) (by simp)];omega
  rintro e w4 ⟨v,g,rfl,hS,hb,hR⟩;have HP:Hid (PS wb p (lst y (n+1)) (row (ppow f 0)) v w4):= .mk g hS ((bel1 _ _).trans hb) hR;clear hS hb hR HS1;go_wp2_with fail;go_meet
  case rel=>exact HP.out
 case rest=>
 obtain⟨gx,hSx,hBx,hRx⟩:=hcut;obtain⟨wd,hwd⟩:∃x,x=wc:=⟨_,rfl⟩;rw[←hwd]at hSx hBx⊢;clear hwd wc;have HSX:Hid (SR wd wb.heap.size u9 gx):=hSx;have HBX:Hid (Below wb.heap.size wb wd):=hBx;have HRX:Hid (Res p (lst y (n+1)) (row (ppow f 0)) gx):=hRx;clear hSx hBx hRx;go_wp2_with (go_at_call 61;refine(CL _).mono ?_;rintro e w' ⟨rfl,hw⟩;subst hw);go_loopw [9,10] (fun x i wr=>∃(j:Nat) (g:List Int),j≤Lib.bitLen N∧i= .int .i64 ((j:Int)-1)∧SR wr wb.heap.size x g∧Res p (lst y (n+1)) (row (ppow f (N / 2^j))) g∧Below wb.heap.size wb wr) (fun _ i _=>(Lib.intOf i+1).toNat)
 case atStart=>refine⟨Lib.bitLen N,gx,Nat.le_refl _,rfl,HSX.out,?_,HBX.out⟩;rw[Nat.div_eq_of_lt HLB.out.1];exact HRX.out
 case round=>
  obtain⟨j,g,hj,rfl,hS,hR,hB⟩:=hrel;have HS:Hid (SR wr wb.heap.size _ g):=hS;have HR:Hid (Res p (lst y (n+1)) (row (ppow f (N / 2^j))) g):=hR;have HB:Hid (Below wb.heap.size wb wr):=hB;have d0:=(hB.cell (p:=⟨b4,0,none⟩) hl4).trans c0;have d1:=(hB.cell (p:=⟨b4,1,none⟩) hl4).trans c1;have hlr:b4<wr.heap.size:=Nat.lt_of_lt_of_le hl4 hB.size;clear hS hR hB c0 c1 hl4;cases j with
  |zero=>
   go_wp2;have HO:Hid (PowPost w p n y f N (.returned u9) wr):=by
    have h9:=HR.out;rw[Nat.pow_zero,Nat.div_one]at h9;refine .mk u9 g rfl (HS.out.mono ?_) ?_ h9
    ·have:=H4.out;have:=HL4.out;have:=HBF.out.size;omega
    ·exact HB1.out.trans ((HBF.out.trans (HB.out.mono HBF.out.size)).mono HB1.out.size)
   refine bodyPost_ret (v:=u9) (by simp[results,go_sem,loadVar]) rfl ?_;exact HO.out
  |succ j=>
   obtain⟨K,hK⟩:∃K,K=N / 2^(j+1):=⟨_,rfl⟩;have HK:Hid (K=N / 2^(j+1)):=hK;have HR':Hid (Res p (lst y (n+1)) (row (ppow f K)) g):=(by show Res _ _ _ _;rw[HK.out];exact HR.out);have HMR:Hid (MD wr p b2 o2 n c2 y):=HMB.out.below HB.out;have HB2R:Hid (b2<wr.heap.size):=Nat.lt_of_lt_of_le HB2B.out HB.out.size;have HGL:Hid (g.length≤n):=(by have:=HR'.out.len;rw[lst_length]at this;show _≤_;omega);clear hK;rw[show((j+1:Nat):Int)-1=(j:Int)by omega];go_upto_region 6 with fail;go_cut [9] from 28 to 34 (fun v wx=>PS wr p (lst y (n+1)) (row (ppow f (K+K))) v wx)
   case first=>
    go_region_with (first
     |(go_at_call 33;refine(product_sr wr.drew p q _ _ g g (HS.out.below (bel_drew wr)).view (HS.out.below (bel_drew wr)).view HQ.out hp HR'.out.bd HR'.out.bd (by have:=HGL.out;omega) (by have:=HGL.out;omega)).mono ?_;rintro e w5 ⟨u,z,rfl,hS5,hb5,hz1,hz2,hz3⟩;have HS5:Hid (SR w5 wr.heap.size u z):=hS5;have HB5:Hid (Below wr.heap.size wr w5):=(bel_drew wr).trans hb5;have HZ5:Hid (z.length≤g.length+g.length∧(∀j,0≤z.getD j 0∧z.getD j 0<q)∧∀j,row z j%p=row (pmul g g) j%p):=⟨hz1,hz2,hz3⟩;have f0:w5.cell? ⟨b4,0,none⟩=some (.int .i64 p):=(HB5.out.cell (p:=⟨b4,0,none⟩) hlr).trans d0;have f1:w5.cell? ⟨b4,1,none⟩=some (.int .i64 q):=(HB5.out.cell (p:=⟨b4,1,none⟩) hlr).trans d1;clear hS5 hb5 hz1 hz2 hz3)
     |(go_at_call 60;refine(rest_sr w5 p q wr.heap.size u z b2 o2 n c2 y HS5.out HB5.out.size (HMR.out.below HB5.out) HB2R.out HQ.out hp HZ5.out.2.1 (by have:=HZ5.out.1;have:=HGL.out;omega)).mono ?_;rintro e w6 ⟨v,g6,rfl,hS6,hb6,hR6⟩;have HP:Hid (PS wr p (lst y (n+1)) (row (ppow f (K+K))) v w6):= .mk g6 hS6 (HB5.out.trans hb6) (hR6.of ((Cg.sq HR'.out.cg.symm).symm.trans (.of fun j=>(HZ5.out.2.2 j).symm)));clear hS6 hb6 hR6 f0 f1))
    all_goals
     go_wp2_with fail;go_meet
     case rel=>exact HP.out
   case rest=>
   obtain⟨g6,hS6,hB6,hR6⟩:=hcut;obtain⟨we,hwe⟩:∃x,x=wc:=⟨_,rfl⟩;rw[←hwe]at hS6 hB6⊢;clear hwe wc;have HS6:Hid (SR we wr.heap.size u9 g6):=hS6;have HB6:Hid (Below wr.heap.size wr we):=hB6;have HR6:Hid (Res p (lst y (n+1)) (row (ppow f (K+K))) g6):=hR6;replace d0:=(hB6.cell (p:=⟨b4,0,none⟩) hlr).trans d0;replace d1:=(hB6.cell (p:=⟨b4,1,none⟩) hlr).trans d1;replace hlr:b4<we.heap.size:=Nat.lt_of_lt_of_le hlr hB6.size;clear hS6 hB6 hR6;have HE:Hid (N / 2^j=K+K+N / 2^j%2):=(by have e:N / 2^(j+1)=N / 2^j / 2:=(by rw[Nat.pow_succ,Nat.div_div_eq_div_mul]);have:=HK.out;show _=_;omega);have hb:bits .and .i64 ((N:Int) / 2^j) 1=((N / 2^j%2:Nat):Int):=(by rw[i64_and1];push_cast;rfl);by_cases hbit:N / 2^j%2=1
   ·rw[hbit]at hb;have HE1:Hid (N / 2^j=K+K+1):=(by have:=HE.out;show _=_;omega);clear hbit;have HSF6:Hid (SR we w1.heap.size u1 gf):=((HSF.out.below HB.out).below HB6.out);have HME:Hid (MD we p b2 o2 n c2 y):=HMR.out.below HB6.out;have HB2E:Hid (b2<we.heap.size):=Nat.lt_of_lt_of_le HB2R.out HB6.out.size;have HGL6:Hid (g6.length≤n∧gf.length≤n):=(by have h1:=HR6.out.len;have h2:=HRF.out.len;rw[lst_length]at h1 h2;show _∧_;omega);go_wp2;go_region_with (first
     |(go_at_call 33;refine(product_sr we.drew p q _ _ g6 gf (HS6.out.below (bel_drew we)).view (HSF6.out.below (bel_drew we)).view HQ.out hp HR6.out.bd HRF.out.bd (by have:=HGL6.out;omega) (by have:=HGL6.out;omega)).mono ?_;rintro e w5 ⟨u,z,rfl,hS5,hb5,hz1,hz2,hz3⟩;have HS5:Hid (SR w5 we.heap.size u z):=hS5;have HB5:Hid (Below we.heap.size we w5):=(bel_drew we).trans hb5;have HZ5:Hid (z.length≤g6.length+gf.length∧(∀j,0≤z.getD j 0∧z.getD j 0<q)∧∀j,row z j%p=row (pmul g6 gf) j%p):=⟨hz1,hz2,hz3⟩;have f0:w5.cell? ⟨b4,0,none⟩=some (.int .i64 p):=(HB5.out.cell (p:=⟨b4,0,none⟩) hlr).trans d0;have f1:w5.cell? ⟨b4,1,none⟩=some (.int .i64 q):=(HB5.out.cell (p:=⟨b4,1,none⟩) hlr).trans d1;clear hS5 hb5 hz1 hz2 hz3)
     |(go_at_call 60;refine(rest_sr w5 p q we.heap.size u z b2 o2 n c2 y HS5.out HB5.out.size (HME.out.below HB5.out) HB2E.out HQ.out hp HZ5.out.2.1 (by have:=HZ5.out.1;have:=HGL6.out;omega)).mono ?_;rintro e w6 ⟨v,g7,rfl,hS6,hb6,hR6⟩;have HS8:Hid (SR w6 wb.heap.size v g7):=hS6.mono (Nat.le_trans HB.out.size HB6.out.size);have HB8:Hid (Below wb.heap.size wb w6):=(HB.out.trans (HB6.out.mono HB.out.size)).trans ((HB5.out.trans hb6).mono (Nat.le_trans HB.out.size HB6.out.size));have HR8:Hid (Res p (lst y (n+1)) (row (ppow f (N / 2^j))) g7):=(by show Res _ _ _ _;rw[HE1.out];exact hR6.of ((Cg.odd HR6.out.cg.symm HRF.out.cg.symm).symm.trans (.of fun j=>(HZ5.out.2.2 j).symm)));clear hS6 hb6 hR6 f0 f1))
    all_goals
     go_wp2;exact⟨⟨j,g7,by omega,rfl,HS8.out,HR8.out,HB8.out⟩,by simp only[Lib.intOf];omega⟩
   ·have hb0:N / 2^j%2=0:=(by omega);rw[hb0]at hb;have HE1:Hid (N / 2^j=K+K):=(by have:=HE.out;show _=_;omega);have HS8:Hid (SR we wb.heap.size u9 g6):=HS6.out.mono HB.out.size;have HB8:Hid (Below wb.heap.size wb we):=HB.out.trans (HB6.out.mono HB.out.size);have HR8:Hid (Res p (lst y (n+1)) (row (ppow f (N / 2^j))) g6):=(by show Res _ _ _ _;rw[HE1.out];exact HR6.out);clear hbit hb0;go_wp2;go_roundw
    case rel=>exact⟨j,g6,by omega,rfl,HS8.out,HR8.out,HB8.out⟩
    case measure=>simp only[Lib.intOf];omega
end Go.Proofs.YtffdemplaodbcaaDoor
namespace Go.Proofs.YtffdemplaodbcaaDoor
open Go Go.Proofs Go.RowKit Go.Rad
theorem PrI.gcd {p a:Int} (h:PrI p) (h0:0≤a) (h1:a≠0) (h2:a<p):Int.gcd a p=1:=by
 obtain⟨N,rfl,hN,_⟩:=h;have hd:Int.gcd a N ∣ N:=(by have:=Int.gcd_dvd_natAbs_right a (N:Int);simpa using this);rcases hN.2 _ hd with h|h
 ·exact h
 ·exfalso;have h3:Int.gcd a N ∣ a.natAbs:=Int.gcd_dvd_natAbs_left a (N:Int);rw[h]at h3;have:=Nat.le_of_dvd (by omega) h3;omega
theorem ckBC_zero {p:Int} {xs ys:List Int} (h:ckBC p xs ys=0):IsF p xs∧IsF p ys:=by
 unfold ckBC at h;by_cases h0:ckC p xs=0
 ·rw[if_pos h0]at h;exact⟨ck_isF h0,ck_isF h⟩
 ·rw[if_neg h0]at h;exact absurd h h0
theorem IsF.all {p:Int} {xs:List Int} (h:IsF p xs):∀j,0≤xs.getD j 0∧xs.getD j 0<p:=fun j=>by
 by_cases hj:j<xs.length
 ·exact h.ok j hj
 ·obtain⟨N,rfl,hN,_⟩:=h.pr;have:=hN.1;rw[getD_of_ge xs j (by omega)];omega
noncomputable def powC (p:Int) (xs:List Int) (n:Int) (ms:List Int):Int:=if ckBC p xs ms=0 then (if n<0 then 7 else if ms.length=0 then 4 else 0) else ckBC p xs ms
noncomputable def powA (p:Int) (xs ms:List Int):Int:=if ckBC p xs ms=0 then 0 else ckBA p xs ms
inductive PwPost (w:World) (p:Int) (xs:List Int) (n:Int) (ms:List Int) (e:Ending) (w':World):Prop
 |mk (u:Value) (he:e= .returned (.tuple #[u,Flt (powC p xs n ms) (powA p xs ms)])) (hb:Below w.heap.size w w') (hf:powC p xs n ms≠0→u= .slice none 0 0)
  (ho:powC p xs n ms=0→∃z,SR w' w.heap.size u z∧Res p ms (row (ppow xs n.toNat)) z)
theorem PwPost.fail {w w':World} {p:Int} {xs:List Int} {n:Int} {ms:List Int} {c a:Int} (h0:c≠0) (h1:powC p xs n ms=c) (h2:powA p xs ms=a) (hb:Below w.heap.size w w'):PwPost w p xs n ms (.returned (.tuple #[.slice none 0 0,Flt c a])) w':= .mk _ (by rw[h1,h2]) hb (fun _=>rfl) (fun h=>absurd (h1.symm.trans h) h0)
theorem SR.set2 {w:World} {B b:Nat} {v:Value} {x:List Int} (h:SR w B v x) (hb:b<B) (u0 u1:Value):SR ((w.setCell ⟨b,0,none⟩ u0).setCell ⟨b,1,none⟩ u1) B v x:=by
 cases h with
 |nil a c hv hx=>exact .nil a c hv hx
 |row b' o c hv h0 hc hB hl hA hz=>
  refine .row b' o c hv h0 hc hB (by simpa using hl) (fun i hi=>?_) (fun i hi=>?_)
  ·rw[cell_other (.inl (by omega)),cell_other (.inl (by omega))];exact hA i hi
  ·rw[World.frozen?_setCell,World.frozen?_setCell];exact hz i hi
set_option maxRecDepth 10000 in
set_option maxHeartbeats 1000000 in
theorem rPower_any (w:World) (v1 v2:Value) (xs ms:List Int) (n p:Int) (h1:IL w v1 xs) (h2:IL w v2 ms) (ht:TabB w) (hcap:∀a k c,v2= .slice a k c→k≤c) (hn:n<9223372036854775808):
 Calls Tryd.prog 11 #[v1, .int .i64 n,v2, .int .i64 p] w fun e w'=>PwPost w p xs n ms e w':=by
 have CB:=fun wx (hb:Below w.heap.size w wx)=>checkBoth_any wx v1 v2 xs ms p (h1.below hb) (h2.below hb) (ht.below hb);obtain⟨cB,hcB⟩:∃c,ckBC p xs ms=c:=⟨_,rfl⟩;obtain⟨aB,haB⟩:∃c,ckBA p xs ms=c:=⟨_,rfl⟩;have HC:Hid (ckBC p xs ms=cB∧ckBA p xs ms=aB):=⟨hcB,haB⟩;simp only[hcB,haB]at CB;have H1:Hid (IL w v1 xs):=h1;have H2:Hid (IL w v2 ms):=h2;clear h1 ht hcB haB;obtain⟨a2,b2,o2,k2,c2,rfl,hk2,ha2,hcc,hm2⟩:=h2;have hkc:k2≤c2:=hcap _ _ _ rfl;have HCC:Hid (∀i,i<k2→w.cell? ⟨b2,o2+i,none⟩=some (.int .i64 (ms.getD i 0))):=hcc;clear hcap hcc;go_enter Tryd.func11,Tryd.ntmps11;go_wp2_with (go_at_call 30;fail);refine(CB _ (bel1 _ _)).mono ?_;rintro e w1 ⟨rfl,hb1⟩;have hB1:Below w.heap.size w w1:=(bel1 w _).trans (hb1.mono (by simp));have hF:=(FB.mk0 w (.int .i64 0) (.int .i64 0) 24).below hb1;have HB1:Hid (Below w.heap.size w w1):=hB1;obtain⟨b4,hb4⟩:∃x,x=w.heap.size:=⟨_,rfl⟩;rw[←hb4]at hF⊢;have HG:Hid (w.heap.size≤b4):=(by show _≤_;omega);clear hb1 hB1 hb4 CB;by_cases h0:cB=0
 ·subst h0;obtain⟨fx,fm⟩:=ckBC_zero HC.out.1;have HFX:Hid (IsF p xs):=fx;have HFM:Hid (IsF p ms):=fm;clear fx fm;by_cases hn0:n<0
  ·have HK:Hid (powC p xs n ms=7∧powA p xs ms=0):=(by unfold powC powA;rw[if_pos HC.out.1,if_pos HC.out.1,if_pos hn0];exact⟨rfl,rfl⟩);have HR:Hid (∀X,Below w.heap.size w (((w1.setCell ⟨b4,0,none⟩ (.int .i64 7)).setCell ⟨b4,1,none⟩ (.int .i64 0)).alloc X)):=fun X=>(below_set2 HB1.out HG.out _ _).alloc (by have:=HB1.out.size;simp;omega) X;obtain⟨l4,d0,d1,f0,f1⟩:=hF;go_wp2;refine bodyPost_ret (v:= .tuple #[.slice none 0 0,Flt 7 0]) (by simp[results,go_sem,loadVar,World.cell?_setCell_same,World.cell?_setCell_other, *];try rfl) rfl ?_;exact .fail (by decide) HK.out.1 HK.out.2 (HR.out _)
  obtain⟨N,hN⟩:∃N:Nat,n=N:=⟨n.toNat,by omega⟩;have HN:Hid (n=N∧N<9223372036854775808):=⟨hN,by omega⟩;clear hN;by_cases hk0:k2=0
  ·have HK:Hid (powC p xs n ms=4∧powA p xs ms=0):=(by unfold powC powA;rw[if_pos HC.out.1,if_pos HC.out.1,if_neg hn0,if_pos (by omega)];exact⟨rfl,rfl⟩);have HR:Hid (∀X,Below w.heap.size w (((w1.setCell ⟨b4,0,none⟩ (.int .i64 4)).setCell ⟨b4,1,none⟩ (.int .i64 0)).alloc X)):=fun X=>(below_set2 HB1.out HG.out _ _).alloc (by have:=HB1.out.size;simp;omega) X;subst hk0;obtain⟨l4,d0,d1,f0,f1⟩:=hF;go_wp2;refine bodyPost_ret (v:= .tuple #[.slice none 0 0,Flt 4 0]) (by simp[results,go_sem,loadVar,World.cell?_setCell_same,World.cell?_setCell_other, *];try rfl) rfl ?_;exact .fail (by decide) HK.out.1 HK.out.2 (HR.out _)
  ·obtain⟨m,rfl⟩:∃m,k2=m+1:=⟨k2-1,by omega⟩;obtain rfl:=ha2 (by omega);have HK:Hid (powC p xs n ms=0∧powA p xs ms=0):=(by unfold powC powA;rw[if_pos HC.out.1,if_pos HC.out.1,if_neg hn0,if_neg (by omega)];exact⟨rfl,rfl⟩);have hpp:1<p∧p<2147483648:=(by obtain⟨P,h1,h2,h3⟩:=HFX.out.pr;have:=h2.1;omega);have hb2:b2<w.heap.size:=block_lt (HCC.out 0 (by omega));have HB2:Hid (b2<w.heap.size):=hb2;have HM:Hid (MD w p b2 o2 m c2 (fun j=>ms.getD j 0)):=⟨fun i hi=>HCC.out i (by omega),hkc,fun i _=>HFM.out.all i,HFM.out.pr.gcd (HFM.out.all m).1 (by have:=HFM.out.last (by omega);rw[hk2]at this;exact this) (HFM.out.all m).2,by have:=HFM.out.last (by omega);rw[hk2]at this;exact this,by have:=HFM.out.len;omega⟩;have HMS:Hid (lst (fun j=>ms.getD j 0) (m+1)=ms):=(by have:=lst_self ms;rw[hk2]at this;exact this);clear hb2;have hsm:((m:Int)+1==0)=false:=(by simpa using (show ¬(m:Int)+1=0 by omega));go_wp2_with (go_at_call 31;fail);refine(fieldOf_any _ p (p*p) (by omega) hpp.2 rfl).mono ?_;rintro e w2 ⟨rfl,hb2⟩;have hF2:=(hF.alloc (Obj.cells #[Value.int IntKind.i64 0,Value.int IntKind.i64 aB] 24)).below hb2;have HB2w:Hid (Below w.heap.size w w2):=(HB1.out.alloc HB1.out.size (Obj.cells #[Value.int IntKind.i64 0,Value.int IntKind.i64 aB] 24)).trans (hb2.mono (by have:=HB1.out.size;simp;omega));have CP:=power_any w2 p (p*p) v1 xs N b2 o2 m c2 (fun j=>ms.getD j 0) (H1.out.vw.below HB2w.out) (HM.out.below HB2w.out) (Nat.lt_of_lt_of_le HB2.out HB2w.out.size) rfl hpp HFX.out.all (by have:=HFX.out.len;omega) HN.out.2;rw[←HN.out.1]at CP;clear hb2 hF;go_wp2_with (go_at_call 36;fail);refine CP.mono ?_;rintro e w3 ⟨u,z,rfl,hS,hb3,hR⟩;have hF3:=hF2.below hb3;have HP:Hid (PwPost w p xs n ms (.returned (.tuple #[u,Flt 0 0])) ((w3.setCell ⟨b4,0,none⟩ (.int .i64 0)).setCell ⟨b4,1,none⟩ (.int .i64 0))):=(by refine .mk u (by rw[HK.out.1,HK.out.2]) (below_set2 (HB2w.out.trans (hb3.mono HB2w.out.size)) HG.out _ _) (fun h=>absurd HK.out.1 h) (fun _=>⟨z,(hS.set2 hF2.lt _ _).mono HB2w.out.size,?_⟩);rw[HMS.out]at hR;rw[HN.out.1,Int.toNat_natCast];exact hR);clear hS hb3 hR hF2 CP;obtain⟨l4,d0,d1,f0,f1⟩:=hF3;go_wp2;refine bodyPost_ret (v:= .tuple #[u,Flt 0 0]) (by simp[results,go_sem,loadVar,World.cell?_setCell_same,World.cell?_setCell_other, *];try rfl) rfl ?_;exact HP.out
 ·have h0b:(cB !=0)=true:=(by simpa using h0);have HR:Hid (∀X,Below w.heap.size w (((w1.setCell ⟨b4,0,none⟩ (.int .i64 cB)).setCell ⟨b4,1,none⟩ (.int .i64 aB)).alloc X)):=fun X=>(below_set2 HB1.out HG.out _ _).alloc (by have:=HB1.out.size;simp;omega) X;have HN:Hid (¬cB=0):=h0;have HK:Hid (powC p xs n ms=cB∧powA p xs ms=aB):=(by unfold powC powA;rw[HC.out.1,HC.out.2,if_neg h0,if_neg h0];exact⟨rfl,rfl⟩);obtain⟨l4,d0,d1,f0,f1⟩:=hF;go_wp2;go_region
  all_goals
   go_wp2;refine bodyPost_ret (v:= .tuple #[.slice none 0 0,Flt cB aB]) (by simp[results,go_sem,loadVar,World.cell?_setCell_same,World.cell?_setCell_other, *];try rfl) rfl ?_;exact .fail HN.out HK.out.1 HK.out.2 (by first|exact HR.out _|exact(HR.out _).drew)
end Go.Proofs.YtffdemplaodbcaaDoor
