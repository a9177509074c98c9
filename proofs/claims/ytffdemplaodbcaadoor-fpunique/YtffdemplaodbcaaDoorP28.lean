/- A part of the proof: RA, RB, ZF, ZG. -/
import Derived.Test.YtffdemplaodbcaaDoorP18
import Derived.Test.YtffdemplaodbcaaDoorP15
import Derived.Test.YtffdemplaodbcaaDoorP27
set_option linter.all false
namespace Go.Proofs.YtffdemplaodbcaaDoor
open Go Go.Proofs Go.RowKit Go.Rad
theorem ScPost.isMon {p:Int} {x z:List Int} {r:Int} (hp:1<p) (h0:0<x.length) (hl:z.length=x.length) (hz:∀j,z.getD j 0=x.getD j 0*r%p) (hr:0<r) (hr2:r<p) (h1:r*x.getD (x.length-1) 0%p=1):IsMon p x z:= .mk r h0 hr hr2 h1 ⟨fun j=>by rw[row_getD,hz,row_getD,Int.mul_comm],fun _=>by rw[hz,hl,Int.mul_comm,h1];decide⟩
theorem mscaled_nil (w:World) (a:Option Addr) (c:Nat) (p:Int):Calls Tryd.prog 40 #[.slice a 0 c, .int .i64 p] w fun e w'=>e= .returned (.slice a 0 c)∧w'=w:=by go_enter Tryd.func40,Tryd.ntmps40;go_wp2;refine bodyPost_ret (v:= .slice a 0 c) (by simp[results,go_sem,loadVar]) rfl ?_;exact⟨rfl,rfl⟩
inductive MgPost (w:World) (p:Int) (f g:List Int) (e:Ending) (w':World):Prop
 |mk (u:Value) (z:List Int) (he:e= .returned u) (hV:VW w' u z) (hb:Below w.heap.size w w') (hG:GcdR p f g z)
set_option maxRecDepth 10000 in
set_option maxHeartbeats 4000000 in
theorem mgcd_any (w:World) (v1 v2:Value) (xs ys:List Int) (p:Int) (h1:VW w v1 xs) (h2:VW w v2 ys) (hX:IsF p xs) (hY:IsF p ys):
 Calls Tryd.prog 20 #[v1,v2, .int .i64 p] w fun e w'=>MgPost w p xs ys e w':=by
 have hp:1<p∧p<2147483648:=(by obtain⟨P,h1,h2,h3⟩:=hX.pr;have:=h2.1;omega);have HPR:Hid (PrI p):=hX.pr;have H1:Hid (VW w v1 xs):=h1;have H2:Hid (VW w v2 ys):=h2;have HX:Hid (IsF p xs):=hX;have HY:Hid (IsF p ys):=hY;clear h1 h2 hX hY;go_enter Tryd.func20,Tryd.ntmps20;go_wp2;go_loopw [0,1] (fun s t wr=>∃(X Y:List Int),VW wr s X∧VW wr t Y∧IsP p X∧IsP p Y∧X.length≤65∧Y.length≤65∧(∀z,GcdR p X Y z→GcdR p xs ys z)∧Below w.heap.size w wr) (fun _ t _=>vlen t)
 case atStart=>exact⟨xs,ys,H1.out,H2.out,⟨HX.out.all,HX.out.last⟩,⟨HY.out.all,HY.out.last⟩,HX.out.len,HY.out.len,fun z h=>h,Below.refl _ _⟩
 case round=>
  obtain⟨X,Y,hX,hY,hPX,hPY,hlX,hlY,hGG,hB⟩:=hrel;have HX1:Hid (VW wr u0 X):=hX;have HY1:Hid (VW wr u1 Y):=hY;have HPX:Hid (IsP p X):=hPX;have HPY:Hid (IsP p Y):=hPY;have HLL:Hid (X.length≤65∧Y.length≤65):=⟨hlX,hlY⟩;have HGG:Hid (∀z,GcdR p X Y z→GcdR p xs ys z):=hGG;have HB:Hid (Below w.heap.size w wr):=hB;clear hX hPX hPY hlX hlY hGG hB;obtain⟨a,b,o,c,rfl,ha,hA⟩:=hY;clear ha hA;by_cases h0:0<Y.length
  ·have CS:=mscaled_any wr (.slice a Y.length c) Y p;obtain⟨r0,hr1,hr2,hr3⟩:=HPR.out.inv (a:=Y.getD (Y.length-1) 0) (by have:=(HPY.out.bd (Y.length-1)).1;have:=HPY.out.top h0;omega) (HPY.out.bd _).2;replace CS:=CS r0 HY1.out hp HPY.out.bd (by have:=HLL.out.2;omega) h0 ⟨hr1,hr2,hr3⟩;have HY0:Hid (0<Y.length):=h0;have h0i:(0:Int)<(Y.length:Int):=(by omega);clear hr1 hr2 hr3;go_wp2_with (go_at_call 40;fail);refine CS.mono ?_;rintro e w1 ⟨u4,zs,r,rfl,hS1,hb1,hzl,hz,hr1,hr2,hr3⟩;have HB1:Hid (Below wr.heap.size wr w1):=hb1;have CR:=mrest_any w1 u0 u4 X zs p (HX1.out.below hb1) hS1.view hp HPX.out.bd (fun j=>by rw[hz];exact⟨Int.emod_nonneg _ (by omega),Int.emod_lt_of_pos _ (by omega)⟩) HPX.out.top (by omega)
    (by rw[hz,hzl,Int.mul_comm];exact hr3) (by have:=HLL.out.1;omega) (by have:=HLL.out.2;omega)
   have HZ:Hid (zs.length=Y.length∧∀j,zs.getD j 0%p=Y.getD j 0*r%p):=⟨hzl,fun j=>by rw[hz,Int.emod_emod]⟩;clear hS1 hb1 hzl hz hr1 hr2 hr3 CS;go_wp2_with (go_at_call 41;fail);refine CR.mono ?_;rintro e w2 ⟨u5,z,rfl,hV5,hb5,hR5⟩;have HREL:Hid ((∃(X1 Y1:List Int),VW w2 (.slice a Y.length c) X1∧VW w2 u5 Y1∧IsP p X1∧IsP p Y1∧X1.length≤65∧Y1.length≤65∧(∀z,GcdR p X1 Y1 z→GcdR p xs ys z)∧Below w.heap.size w w2)∧vlen u5<Y.length):=(by have hR:Res p Y (row X) z:=⟨by rw[←HZ.out.1];exact hR5.len,hR5.bd,hR5.top,hR5.cg.scale HZ.out.2⟩;have hlen:=hR.len;have hll:=HLL.out;have hbb:=HB1.out.trans (hb5.mono HB1.out.size);refine⟨⟨Y,z,HY1.out.below hbb,hV5,HPY.out,⟨hR.bd,hR.top⟩,hll.2,by omega,fun z' h=>HGG.out z' (.step X Y z z' HY0.out hR h),HB.out.trans (hbb.mono HB.out.size)⟩,?_⟩;obtain⟨a9,b9,o9,c9,rfl,_⟩:=hV5;exact hlen);clear hV5 hb5 hR5 CR;go_wp2;exact HREL.out
  ·have hy0:Y=[]:=List.length_eq_zero_iff.1 (by omega);have HYN:Hid (Y=[]):=hy0;have hy1:Y.length=0:=(by omega);have h00:¬(0:Int)<((Y.length:Nat):Int):=(by omega);obtain⟨a1,b1,o1,c1,rfl,-⟩:VW wr u0 X:=HX1.out;by_cases hx0:0<X.length
   ·have CS:=mscaled_any wr (.slice a1 X.length c1) X p;obtain⟨r0,hr1,hr2,hr3⟩:=HPR.out.inv (a:=X.getD (X.length-1) 0) (by have:=(HPX.out.bd (X.length-1)).1;have:=HPX.out.top hx0;omega) (HPX.out.bd _).2;replace CS:=CS r0 HX1.out hp HPX.out.bd (by have:=HLL.out.1;omega) hx0 ⟨hr1,hr2,hr3⟩;clear hr1 hr2 hr3;go_wp2_with (go_at_call 40;fail);refine CS.mono ?_;rintro e w1 ⟨u4,zs,r,rfl,hS1,hb1,hzl,hz,hr1,hr2,hr3⟩;have R:Hid (MgPost w p xs ys (.returned u4) w1):= .mk u4 zs rfl hS1.view (HB.out.trans (hb1.mono HB.out.size)) (HGG.out zs (by rw[HYN.out];exact .nil X zs (ScPost.isMon hp.1 hx0 hzl hz hr1 hr2 hr3)));clear hS1 hb1 hzl hz hr1 hr2 hr3 CS;go_wp2;refine bodyPost_ret (v:=u4) (by simp[results,go_sem,loadVar]) rfl ?_;exact R.out
   ·have hx1:X=[]:=List.length_eq_zero_iff.1 (by omega);subst hx1;go_wp2_with (go_at_call 40;fail);refine(mscaled_nil wr a1 c1 p).mono ?_;rintro e w1 ⟨rfl,rfl⟩;have R:Hid (MgPost w p xs ys (.returned (.slice a1 0 c1)) w1):= .mk _ [] rfl HX1.out HB.out (HGG.out [] (by rw[HYN.out];exact .nil [] [] (.nil rfl rfl)));go_wp2;refine bodyPost_ret (v:= .slice a1 0 c1) (by simp[results,go_sem,loadVar]) rfl ?_;exact R.out
end Go.Proofs.YtffdemplaodbcaaDoor
namespace Go.Proofs.YtffdemplaodbcaaDoor
open Go Go.Proofs Go.RowKit Go.Rad
theorem IsMon.uniq {p:Int} {x y z:List Int} (hp:0<p) (h:IsMon p x y) (k:IsMon p x z):y=z:=by
 cases h with
 |nil hx hz=>
  cases k with
  |nil _ hz'=>rw[hz,hz']
  |mk r h0=>subst hx;simp at h0
 |mk r h0 hr hr2 h1 hz=>
  cases k with
  |nil hx _=>subst hx;simp at h0
  |mk s _ hs hs2 h1' hz'=>have e:r=s:=(by obtain⟨d,hd⟩:∃d,x.getD (x.length-1) 0=d:=⟨_,rfl⟩;rw[hd]at h1 h1';have e1:r*(s*d)%p=r%p:=(by rw[Int.mul_emod,h1',Int.mul_one,Int.emod_emod]);have e2:s*(r*d)%p=s%p:=(by rw[Int.mul_emod,h1,Int.mul_one,Int.emod_emod]);have e3:r*(s*d)=s*(r*d):=(by rw[←Int.mul_assoc,←Int.mul_assoc,Int.mul_comm r s]);rw[e3,e2,Int.emod_eq_of_lt (by omega) hs2,Int.emod_eq_of_lt (by omega) hr2]at e1;exact e1.symm);subst e;exact hz.uniq hz' fun j=>rfl
theorem GcdR.uniq {p:Int} (hpr:PrI p) {f g y z:List Int} (hg:IsP p g) (h:GcdR p f g y) (k:GcdR p f g z):y=z:=by
 have hp:0<p:=(by obtain⟨P,h1,h2,h3⟩:=hpr;have:=h2.1;omega)
 induction h generalizing z with
 |nil f y h=>
  cases k with
  |nil _ _ h'=>exact h.uniq hp h'
  |step _ _ r _ h0=>simp at h0
 |step f g r y h0 hr h ih=>
  cases k with
  |nil _ _ h'=>simp at h0
  |step _ _ r' _ h0' hr' h'=>obtain rfl:r=r':=hr.eq h0 (hpr.gcd (hg.bd _).1 (hg.top h0) (hg.bd _).2) hr' (.of fun j=>rfl);exact ih ⟨hr.bd,hr.top⟩ h'
inductive GdPost (w:World) (p:Int) (xs ys:List Int) (e:Ending) (w':World):Prop
 |mk (u:Value) (he:e= .returned (.tuple #[u,Flt (ckBC p xs ys) (if ckBC p xs ys=0 then 0 else ckBA p xs ys)])) (hb:Below w.heap.size w w') (hf:ckBC p xs ys≠0→u= .slice none 0 0)
  (ho:ckBC p xs ys=0→∃z,SR w' w.heap.size u z∧GcdR p xs ys z)
set_option maxRecDepth 10000 in
set_option maxHeartbeats 1000000 in
theorem rGcd_any (w:World) (v1 v2:Value) (xs ys:List Int) (p:Int) (h1:IL w v1 xs) (h2:IL w v2 ys) (ht:TabB w):
 Calls Tryd.prog 19 #[v1,v2, .int .i64 p] w fun e w'=>GdPost w p xs ys e w':=by
 have CB:=fun wx (hb:Below w.heap.size w wx)=>checkBoth_any wx v1 v2 xs ys p (h1.below hb) (h2.below hb) (ht.below hb);obtain⟨cB,hcB⟩:∃c,ckBC p xs ys=c:=⟨_,rfl⟩;obtain⟨aB,haB⟩:∃c,ckBA p xs ys=c:=⟨_,rfl⟩;have HC:Hid (ckBC p xs ys=cB∧ckBA p xs ys=aB):=⟨hcB,haB⟩;simp only[hcB,haB]at CB;have H1:Hid (IL w v1 xs):=h1;have H2:Hid (IL w v2 ys):=h2;clear h1 h2 ht hcB haB;go_enter Tryd.func19,Tryd.ntmps19;go_wp2_with (go_at_call 30;fail);refine(CB _ (bel1 _ _)).mono ?_;rintro e w1 ⟨rfl,hb1⟩;have hB1:Below w.heap.size w w1:=(bel1 w _).trans (hb1.mono (by simp));have hF:=(FB.mk0 w (.int .i64 0) (.int .i64 0) 24).below hb1;have HB1:Hid (Below w.heap.size w w1):=hB1;obtain⟨b4,hb4⟩:∃x,x=w.heap.size:=⟨_,rfl⟩;rw[←hb4]at hF⊢;have HG:Hid (w.heap.size≤b4):=(by show _≤_;omega);clear hb1 hB1 hb4 CB;by_cases h0:cB=0
 ·subst h0;obtain⟨fx,fy⟩:=ckBC_zero HC.out.1;have HFX:Hid (IsF p xs):=fx;have HFY:Hid (IsF p ys):=fy;clear fx fy;have hpp:1<p∧p<2147483648:=(by obtain⟨P,h1,h2,h3⟩:=HFX.out.pr;have:=h2.1;omega);go_wp2_with (go_at_call 31;fail);refine(fieldOf_any _ p (p*p) (by omega) hpp.2 rfl).mono ?_;rintro e w2 ⟨rfl,hb2⟩;have hF2:=(hF.alloc (Obj.cells #[Value.int IntKind.i64 0,Value.int IntKind.i64 aB] 24)).below hb2;have HB2w:Hid (Below w.heap.size w w2):=(HB1.out.alloc HB1.out.size (Obj.cells #[Value.int IntKind.i64 0,Value.int IntKind.i64 aB] 24)).trans (hb2.mono (by have:=HB1.out.size;simp;omega));clear hb2 hF;go_wp2_with (go_at_call 42;fail);refine(gcd_any w2 p (p*p) v1 v2 xs ys (H1.out.vw.below HB2w.out) (H2.out.vw.below HB2w.out) rfl HFX.out.pr ⟨HFX.out.all,HFX.out.last⟩ ⟨HFY.out.all,HFY.out.last⟩ (by have:=HFX.out.len;omega) (by have:=HFY.out.len;omega)).mono ?_;rintro e w3 ⟨u2,z,rfl,hS3,hb3,hG3⟩;have hF3:=hF2.below hb3;have HP:Hid (GdPost w p xs ys (.returned (.tuple #[u2,Flt 0 0])) ((w3.setCell ⟨b4,0,none⟩ (.int .i64 0)).setCell ⟨b4,1,none⟩ (.int .i64 0))):= .mk u2 (by rw[HC.out.1,if_pos rfl]) (below_set2 (HB2w.out.trans (hb3.mono HB2w.out.size)) HG.out _ _) (fun h=>absurd HC.out.1 h) (fun _=>⟨z,(hS3.set2 hF2.lt _ _).mono HB2w.out.size,hG3⟩);clear hS3 hb3 hG3 hF2;obtain⟨l4,d0,d1,f0,f1⟩:=hF3;go_wp2;refine bodyPost_ret (v:= .tuple #[u2,Flt 0 0]) (by simp[results,go_sem,loadVar,World.cell?_setCell_same,World.cell?_setCell_other, *];try rfl) rfl ?_;exact HP.out
 ·have h0b:(cB !=0)=true:=(by simpa using h0);have HR:Hid (∀X,Below w.heap.size w (((w1.setCell ⟨b4,0,none⟩ (.int .i64 cB)).setCell ⟨b4,1,none⟩ (.int .i64 aB)).alloc X)):=fun X=>(below_set2 HB1.out HG.out _ _).alloc (by have:=HB1.out.size;simp;omega) X;have HP:Hid (∀W,Below w.heap.size w W→GdPost w p xs ys (.returned (.tuple #[.slice none 0 0,Flt cB aB])) W):=fun W hW=> .mk _ (by rw[HC.out.1,HC.out.2,if_neg h0]) hW (fun _=>rfl) (fun h=>absurd (HC.out.1.symm.trans h) h0);obtain⟨l4,d0,d1,f0,f1⟩:=hF;go_wp2;go_region
  all_goals
   go_wp2;refine bodyPost_ret (v:= .tuple #[.slice none 0 0,Flt cB aB]) (by simp[results,go_sem,loadVar,World.cell?_setCell_same,World.cell?_setCell_other, *];try rfl) rfl ?_;exact HP.out _ (by first|exact HR.out _|exact(HR.out _).drew)
end Go.Proofs.YtffdemplaodbcaaDoor
namespace Go.Proofs.YtffdemplaodbcaaDoor
open Go Go.Proofs Go.RowKit Go.Rad
open _root_.Rad (CR Prm)
theorem IsMon.comb {p:Int} {x z:List Int} (h:IsMon p x z):∃u:Am p [],mq z=u*mq x:=by
 cases h with
 |nil hx hz=>subst hx hz;exact⟨0,(CR.zero_mul _).symm⟩
 |mk r h0 hr hr2 h1 hz=>refine⟨mq [r],?_⟩;rw[mk_mul];refine mk_eq.2 (.of fun j=>?_);rw[hz.eq,Int.emod_emod,row_pmul];show _=(r*row x j+sft (fun _=>0) j)%p;cases j <;> simp[sft]
theorem GcdR.comb {p:Int} {f g z:List Int} (h:GcdR p f g z):∃u v:Am p [],mq z=u*mq f+v*mq g:=by
 induction h with
 |nil f z h=>obtain⟨u,hu⟩:=h.comb;exact⟨u,0,by rw[hu,CR.zero_mul,CR.add_zero]⟩
 |step f g r z h0 hr h ih=>
  obtain⟨u,v,e⟩:=ih;obtain⟨q,hq⟩:=hr.cg;have hf:(mq f:Am p [])=mq r+mq q*mq g:=(by rw[mk_mul,mk_add];refine mk_eq.2 (.of fun j=>?_);rw[hq j,row_padd,row_pmul]);refine⟨v,u+ -(v*mq q),?_⟩;rw[e,hf];simp only[CR.mul_add,CR.add_mul,CR.neg_mul];have e1:v*(mq q*mq g)+ -(v*mq q*mq g)=0:=(by rw[CR.mul_assoc,CR.add_neg])
  calc u*mq g+v*mq r=u*mq g+v*mq r+(v*(mq q*mq g)+ -(v*mq q*mq g)):=by rw[e1,CR.add_zero]
   _=v*mq r+v*(mq q*mq g)+(u*mq g+ -(v*mq q*mq g)):=by ac_rfl
theorem GcdR.ne {p:Int} (hp:1<p) {f g z:List Int} (h:GcdR p f g z) (hf:0<f.length∨0<g.length):0<z.length:=by
 induction h with
 |nil f z h=>
  cases h with
  |nil hx hz=>subst hx;simp at hf
  |mk r h0 hr hr2 h1 hz=>
   rcases Nat.eq_zero_or_pos z.length with h2|h2
   ·exfalso;have h3:=hz.eq (f.length-1);have h4:row z (f.length-1)=0:=row_ge z _ (by omega);rw[h4,row_getD,h1]at h3;omega
   ·exact h2
 |step f g r z h0 hr h ih=>exact ih (.inl h0)
theorem GcdR.isP {p:Int} (hp:0<p) {f g z:List Int} (h:GcdR p f g z):IsP p z:=by
 induction h with
 |nil f z h=>
  cases h with
  |nil hx hz=>subst hz;exact⟨fun j=>by simp[hp],fun h=>by simp at h⟩
  |mk r h0 hr hr2 h1 hz=>exact hz.isP hp
 |step f g r z h0 hr h ih=>exact ih
theorem GcdR.sqf {p:Int} (hpr:PrI p) {f g z:List Int} (h:GcdR p f g z) (hf:0<f.length) (hz:z.length≤1):∃u v:Am p [],u*mq f+v*mq g=1:=by
 have hp:1<p:=(by obtain⟨P,h1,h2,h3⟩:=hpr;have:=h2.1;omega);have h1:=h.ne hp (.inl hf);have h2:=h.isP (by omega);obtain⟨u,v,e⟩:=h.comb;have hl:z.length=1:=(by omega);obtain⟨a,rfl⟩:∃a,z=[a]:=by
  match z,hl with
  |[a],_=>exact⟨a,rfl⟩
 have h3:0≤a∧a<p:=h2.bd 0;have h4:a≠0:=h2.top (by simp);obtain⟨r,_,_,hr⟩:=hpr.inv (a:=a) (by omega) h3.2;have h5:(mq [r]:Am p [])*mq [a]=1:=by
  rw[mk_mul,mk_one];refine mk_eq.2 (.of fun j=>?_);rw[row_pmul,row_getD];cases j with
  |zero=>show(r*row [a] 0+0)%p=1%p;rw[row_getD];show(r*a+0)%p=1%p;rw[Int.add_zero,hr,Int.emod_eq_of_lt (by omega) hp]
  |succ j=>show(r*row [a] (j+1)+0)%p=0%p;rw[row_getD];show(r*0+0)%p=0%p;rw[Int.mul_zero,Int.add_zero]
 refine⟨mq [r]*u,mq [r]*v,?_⟩;rw[←h5,e,CR.mul_add,CR.mul_assoc,CR.mul_assoc]
def sI (f:Nat→Int):Nat→Int
 |0=>0
 |n+1=>sI f n+f n
theorem sI_cong {p:Int} {f g:Nat→Int}:∀ {n},(∀j,j<n→f j%p=g j%p)→sI f n%p=sI g n%p
 |0,_=>rfl
 |n+1,h=>by show(sI f n+f n)%p=(sI g n+g n)%p;rw[Int.add_emod,sI_cong (fun j hj=>h j (by omega)),h n (by omega),←Int.add_emod]
theorem sI_zero (n:Nat):sI (fun _=>0) n=0:=by
 induction n with
 |zero=>rfl
 |succ n ih=>show sI _ n+0=0;rw[ih];rfl
theorem sI_one (a:Nat) (x:Int):∀n,a<n→sI (fun j=>if j=a then x else 0) n=x
 |n+1,h=>by
  show sI (fun j=>if j=a then x else 0) n+(if n=a then x else 0)=x;rcases Nat.lt_or_ge a n with h1|h1
  ·rw[sI_one a x n h1,if_neg (by omega),Int.add_zero]
  ·obtain rfl:n=a:=(by omega);rw[if_pos rfl];have:∀m,m≤n→sI (fun j=>if j=n then x else 0) m=0:=fun m=>by
    induction m with
    |zero=>intro _;rfl
    |succ m ih=>intro hm;show sI (fun j=>if j=n then x else 0) m+(if m=n then x else 0)=0;rw[ih (by omega),if_neg (by omega)];rfl
   rw[this n (Nat.le_refl _)];omega
def Sol (p:Int) (n:Nat) (N:Nat→Nat→Int) (v:Nat→Int):Prop:=∀r,r<n→sI (fun j=>N r j*v j) n%p=0
structure Elim (p:Int) (n c k:Nat) (N:Nat→Nat→Int) (pv:Nat→Nat):Prop where
 inc:∀i j,i<j→j<k→pv i<pv j
 lt:∀i,i<k→pv i<c
 one:∀i,i<k→N i (pv i)%p=1
 zero:∀i r,i<k→r<n→r≠i→N r (pv i)%p=0
 done:∀r j,k≤r→r<n→j<c→N r j%p=0
theorem Elim.ge {p:Int} {n c k:Nat} {N:Nat→Nat→Int} {pv:Nat→Nat} (h:Elim p n c k N pv) (h0:∀i,i<k→0<pv i):∀i,i<k→i+1≤pv i
 |0,hi=>h0 0 hi
 |i+1,hi=>by have h1:=Elim.ge h h0 i (by omega);have h2:=h.inc i (i+1) (by omega) hi;omega
theorem Elim.le {p:Int} {n c k:Nat} {N:Nat→Nat→Int} {pv:Nat→Nat} (h:Elim p n c k N pv):∀d i,i<k→k=i+1+d→pv i+d<c
 |0,i,hi,_=>by have:=h.lt i hi;omega
 |d+1,i,hi,he=>by have h1:=Elim.le h d (i+1) (by omega) (by omega);have h2:=h.inc i (i+1) (by omega) (by omega);omega
theorem Elim.const {p:Int} {n:Nat} {N:Nat→Nat→Int} {pv:Nat→Nat} (hp:1<p) {k:Nat} (hn:n=k+1) (h:Elim p n n k N pv) (h1:Sol p n N (fun j=>if j=0 then 1 else 0)) (v:Nat→Int) (hv:Sol p n N v):
 ∀j,0<j→j<n→v j%p=0:=by
 have hc0:∀r,r<n→N r 0%p=0:=fun r hr=>by
  have h2:=h1 r hr;have h3:sI (fun j=>N r j*(if j=0 then 1 else 0)) n=sI (fun j=>if j=0 then N r 0 else 0) n:=by
   congr 1;funext j;by_cases hj:j=0
   ·rw[if_pos hj,if_pos hj,hj,Int.mul_one]
   ·rw[if_neg hj,if_neg hj,Int.mul_zero]
  rw[h3,sI_one 0 _ n (by omega)]at h2;exact h2
 have hpos:∀i,i<k→0<pv i:=fun i hi=>by
  rcases Nat.eq_zero_or_pos (pv i)with h2|h2
  ·have h3:=h.one i hi;rw[h2,hc0 i (by omega)]at h3;omega
  ·exact h2
 have hpv:∀i,i<k→pv i=i+1:=fun i hi=>by have h2:=h.ge hpos i hi;have h3:=h.le (k-1-i) i hi (by omega);omega
 intro j hj hjn;obtain⟨i,rfl⟩:∃i,j=i+1:=⟨j-1,by omega⟩;have h2:=hv i (by omega);have h3:sI (fun j=>N i j*v j) n%p=sI (fun j=>if j=i+1 then v (i+1) else 0) n%p:=by
  refine sI_cong fun j hj=>?_;by_cases hji:j=i+1
  ·rw[if_pos hji,hji];have h4:=h.one i (by omega);rw[hpv i (by omega)]at h4;rw[Int.mul_emod,h4,Int.one_mul,Int.emod_emod]
  ·rw[if_neg hji];have h4:N i j%p=0:=by
    rcases Nat.eq_zero_or_pos j with h5|h5
    ·rw[h5];exact hc0 i (by omega)
    ·have h6:=h.zero (j-1) i (by omega) (by omega) (by omega);rw[hpv (j-1) (by omega),show j-1+1=j by omega]at h6;exact h6
   rw[Int.mul_emod,h4,Int.zero_mul]
 rw[h3,sI_one (i+1) _ n hjn]at h2;exact h2
theorem sI_add (f g:Nat→Int):∀n,sI (fun j=>f j+g j) n=sI f n+sI g n
 |0=>rfl
 |n+1=>by show sI (fun j=>f j+g j) n+(f n+g n)=sI f n+f n+(sI g n+g n);rw[sI_add f g n];omega
theorem sI_smul (c:Int) (f:Nat→Int):∀n,sI (fun j=>c*f j) n=c*sI f n
 |0=>(Int.mul_zero c).symm
 |n+1=>by show sI (fun j=>c*f j) n+c*f n=c*(sI f n+f n);rw[sI_smul c f n,Int.mul_add]
theorem Elim.step {p:Int} {n c k:Nat} {M N:Nat→Nat→Int} {pv:Nat→Nat} {y:Nat→Int} {r:Int} (hp:1<p) (h:Elim p n c k M pv) (hk:k<n) (hc:c<n) (hr:r*M k c%p=1)
 (hy:∀j,j<n→y j%p=(if c≤j then M k j*r else 0)%p) (hN:∀i j,i<n→j<n→N i j%p=(if i=k then y j else M i j-M i c*y j)%p):
 Elim p n (c+1) (k+1) N (fun i=>if i=k then c else pv i)∧∀v,Sol p n M v→Sol p n N v:=by
 have hyc:y c%p=1:=(by rw[hy c hc,if_pos (Nat.le_refl _),Int.mul_comm];exact hr);have hy0:∀j,j<c→y j%p=0:=fun j hj=>by rw[hy j (by omega),if_neg (by omega)];rfl
 have hyall:∀j,j<n→y j%p=M k j*r%p:=fun j hj=>by
  rw[hy j hj]
  split
  ·rfl
  ·rw[Int.mul_emod,h.done k j (Nat.le_refl _) hk (by omega),Int.zero_mul]
 refine⟨⟨fun i j hij hj=>?_,fun i hi=>?_,fun i hi=>?_,fun i r' hi hr' hne=>?_,fun r' j hr1 hr2 hj=>?_⟩,fun v hv=>?_⟩
 ·show(if i=k then c else pv i)<(if j=k then c else pv j);rw[if_neg (by omega)]
  split
  ·exact h.lt i (by omega)
  ·exact h.inc i j hij (by omega)
 ·show(if i=k then c else pv i)<c+1
  split
  ·omega
  ·have:=h.lt i (by omega);omega
 ·show N i (if i=k then c else pv i)%p=1;by_cases hik:i=k
  ·rw[if_pos hik,hN i c (by omega) hc,if_pos hik];exact hyc
  ·have h1:=h.lt i (by omega);rw[if_neg hik,hN i (pv i) (by omega) (by omega),if_neg hik,Int.sub_emod,Int.mul_emod,hy0 _ h1,Int.mul_zero,Int.zero_emod,Int.sub_zero,Int.emod_emod,h.one i (by omega)]
 ·show N r' (if i=k then c else pv i)%p=0;by_cases hik:i=k
  ·rw[if_pos hik,hN r' c hr' hc,if_neg (by omega),Int.sub_emod,Int.mul_emod,hyc,Int.mul_one,Int.emod_emod,Int.sub_self];rfl
  ·have h1:=h.lt i (by omega);rw[if_neg hik,hN r' (pv i) hr' (by omega)]
   split
   ·exact hy0 _ h1
   ·rw[Int.sub_emod,Int.mul_emod,hy0 _ h1,Int.mul_zero,Int.zero_emod,Int.sub_zero,Int.emod_emod,h.zero i r' (by omega) hr' hne]
 ·rw[hN r' j hr2 (by omega),if_neg (by omega)];rcases Nat.lt_or_ge j c with h1|h1
  ·rw[Int.sub_emod,Int.mul_emod,hy0 _ h1,Int.mul_zero,Int.zero_emod,Int.sub_zero,Int.emod_emod,h.done r' j (by omega) hr2 h1]
  ·obtain rfl:j=c:=(by omega);rw[Int.sub_emod,Int.mul_emod,hyc,Int.mul_one,Int.emod_emod,Int.sub_self];rfl
 ·intro i hi;have hkv:sI (fun j=>y j*v j) n%p=0:=by
   have h1:sI (fun j=>y j*v j) n%p=sI (fun j=>r*(M k j*v j)) n%p:=sI_cong fun j hj=>by rw[Int.mul_emod,hyall j hj,←Int.mul_emod];congr 1;rw[Int.mul_comm (M k j) r,Int.mul_assoc]
   rw[h1,sI_smul,Int.mul_emod,hv k hk,Int.mul_zero];rfl
  by_cases hik:i=k
  ·have h1:sI (fun j=>N i j*v j) n%p=sI (fun j=>y j*v j) n%p:=sI_cong fun j hj=>by rw[Int.mul_emod,hN i j hi hj,if_pos hik,←Int.mul_emod]
   rw[h1,hkv]
  ·have h1:sI (fun j=>N i j*v j) n%p=sI (fun j=>M i j*v j+ -(M i c)*(y j*v j)) n%p:=sI_cong fun j hj=>by rw[Int.mul_emod,hN i j hi hj,if_neg hik,←Int.mul_emod,Int.sub_mul,Int.neg_mul,Int.mul_assoc,←Int.sub_eq_add_neg]
   rw[h1,sI_add,sI_smul,Int.add_emod,hv i hi,Int.mul_emod,hkv,Int.mul_zero];rfl
theorem Elim.skip {p:Int} {n c k:Nat} {M:Nat→Nat→Int} {pv:Nat→Nat} (h:Elim p n c k M pv) (h0:∀r,k≤r→r<n→M r c%p=0):Elim p n (c+1) k M pv:=
 ⟨h.inc,fun i hi=>by have:=h.lt i hi;omega,h.one,h.zero,fun r j h1 h2 h3=>by
  rcases Nat.lt_or_ge j c with h4|h4
  ·exact h.done r j h1 h2 h4
  ·obtain rfl:j=c:=(by omega);exact h0 r h1 h2⟩
theorem Elim.swap {p:Int} {n c k t:Nat} {M:Nat→Nat→Int} {pv:Nat→Nat} (h:Elim p n c k M pv) (ht:k≤t) (htn:t<n):
 Elim p n c k (fun i j=>if i=k then M t j else if i=t then M k j else M i j) pv∧∀v,Sol p n M v→Sol p n (fun i j=>if i=k then M t j else if i=t then M k j else M i j) v:=by
 refine⟨⟨h.inc,h.lt,fun i hi=>?_,fun i r hi hr hne=>?_,fun r j h1 h2 h3=>?_⟩,fun v hv r hr=>?_⟩
 ·show(if i=k then M t (pv i) else if i=t then M k (pv i) else M i (pv i))%p=1;rw[if_neg (by omega),if_neg (by omega)];exact h.one i hi
 ·show(if r=k then M t (pv i) else if r=t then M k (pv i) else M r (pv i))%p=0
  split
  ·exact h.zero i t hi htn (by omega)
  ·split
   ·exact h.zero i k hi (by omega) (by omega)
   ·exact h.zero i r hi hr hne
 ·show(if r=k then M t j else if r=t then M k j else M r j)%p=0
  split
  ·exact h.done t j ht htn h3
  ·split
   ·exact h.done k j (Nat.le_refl _) (by omega) h3
   ·exact h.done r j h1 h2 h3
 ·by_cases h1:r=k
  ·have:=hv t htn;simpa [h1]using this
  ·by_cases h2:r=t
   ·have:=hv k (by omega);simp only[if_neg h1,if_pos h2];exact this
   ·have:=hv r hr;simp only[if_neg h1,if_neg h2];exact this
end Go.Proofs.YtffdemplaodbcaaDoor
namespace Go.Proofs.YtffdemplaodbcaaDoor
open Go Go.Proofs Go.RowKit Go.Rad
open _root_.Rad (CR Prm)
theorem pmul_one (a b:Int) (j:Nat):row (pmul [a] [b]) j=row [a*b] j:=by
 rw[row_pmul];show a*row [b] j+sft (fun _=>0) j=_;cases j with
 |zero=>rw[row_getD,row_getD];show a*b+0=a*b;omega
 |succ j=>rw[row_getD,row_getD];show a*0+0=0;omega
theorem mq_num_pw {p:Int} {m:List Int} (a:Int):∀n,CR.pw (mq [a]:Am p m) n=mq [a^n]
 |0=>by rw[Int.pow_zero];rfl
 |n+1=>by show CR.pw (mq [a]:Am p m) n*mq [a]=_;rw[mq_num_pw a n,mk_mul];exact mk_row fun j=>by rw[pmul_one,Int.pow_succ]
theorem mq_num {p:Int} {m:List Int} {a b:Int} (h:a%p=b%p):(mq [a]:Am p m)=mq [b]:=by
 refine mk_eq.2 (.of fun j=>?_);rw[row_getD,row_getD];cases j with
 |zero=>exact h
 |succ j=>rfl
theorem mq_fermat {P:Nat} {m:List Int} (hp:Prm P) (k:Int):CR.pw (mq [k]:Am (P:Int) m) P=mq [k]:=by have h2:=hp.two;obtain⟨a,ha⟩:∃a:Nat,k%(P:Int)=a:=⟨(k%(P:Int)).toNat,by have:=Int.emod_nonneg k (show(P:Int)≠0 by omega);omega⟩;have e:(mq [k]:Am (P:Int) m)=mq [(a:Int)]:=mq_num (by rw[←ha,Int.emod_emod]);rw[e,mq_num_pw];refine mq_num ?_;have h:=_root_.Rad.fermat hp a;have h3:(((a^P:Nat):Int))%(P:Int)=(a:Int)%(P:Int):=(by rw[←Int.natCast_emod,←Int.natCast_emod,h]);rw[←h3,Int.natCast_pow]
theorem ev_pw {P:Nat} {m:List Int} (hp:Prm P) (t:Am (P:Int) m):∀x:List Int,CR.pw (CR.ev (x.map fun k=>(mq [k]:Am (P:Int) m)) t) P=CR.ev (x.map fun k=>(mq [k]:Am (P:Int) m)) (CR.pw t P)
 |[]=>CR.zero_pw (by have:=hp.two;omega)
 |k::x=>by show CR.pw (mq [k]+t*CR.ev (x.map fun k=>(mq [k]:Am (P:Int) m)) t) P=mq [k]+CR.pw t P*CR.ev (x.map fun k=>(mq [k]:Am (P:Int) m)) (CR.pw t P);rw[CR.dream hp (am_char P m),CR.mul_pw,mq_fermat hp,ev_pw hp t x]
theorem ev_sum {p:Int} {m:List Int} (t:Am p m):∀x:List Int,CR.ev (x.map fun k=>(mq [k]:Am p m)) t=CR.sA (fun c=>mq [row x c]*CR.pw t c) x.length
 |[]=>rfl
 |k::x=>by
  show mq [k]+t*CR.ev (x.map fun k=>(mq [k]:Am p m)) t=CR.sA (fun c=>mq [row (k::x) c]*CR.pw t c) (x.length+1);rw[CR.sA_succ,ev_sum t x];congr 1
  ·rw[row_getD];exact(CR.mul_one _).symm
  ·rw[CR.mul_comm,←CR.sA_mul];refine CR.sA_congr fun c hc=>?_;have e:row (k::x) (c+1)=row x c:=(by rw[row_getD,row_getD];rfl);rw[e,CR.mul_assoc];rfl
theorem sum_rows {p:Int} {m:List Int} {n:Nat} (v:Nat→Int) (pl:Nat→List Int) (hl:∀c,c<n→(pl c).length≤n):∀k,k≤n→CR.sA (fun c=>(mq [v c]:Am p m)*mq (pl c)) k=mq (lst (fun r=>sI (fun c=>row (pl c) r*v c) k) n)
 |0,_=>by
  show(0:Am p m)=_;rw[mk_zero];refine mk_row fun j=>?_;rw[row_nil,row_lst];unfold cut
  split <;> rfl
 |k+1,hk=>by
  show CR.sA (fun c=>(mq [v c]:Am p m)*mq (pl c)) k+mq [v k]*mq (pl k)=_;rw[sum_rows v pl hl k (by omega),mk_mul,mk_add];refine mk_row fun j=>?_;rw[row_padd,row_lst,row_lst,row_pmul];show cut _ n j+(v k*row (pl k) j+sft (fun _=>0) j)=_;have e:sft (fun _=>0) j=0:=(by cases j <;> rfl);rw[e,Int.add_zero];unfold cut
  split
  ·show _=sI (fun c=>row (pl c) j*v c) k+row (pl k) j*v k;rw[Int.mul_comm (v k)]
  ·rename_i hj
   rw[row_ge (pl k) j (by have:=hl k (by omega);omega),Int.mul_zero];rfl
theorem Mo.sol {P:Nat} {f:List Int} {n:Nat} (h:Mo P f n) (hp:Prm P) (s:List Int) (hs:(mq s:Am (P:Int) f)=CR.pw (mq [0,1]) P) (pl:Nat→List Int) (hl:∀c,c<n→(pl c).length≤n)
 (hpl:∀c,c<n→(mq (pl c):Am (P:Int) f)=CR.pw (mq s) c) (M:Nat→Nat→Int) (hM:∀r c,r<n→c<n→M r c%(P:Int)=((if r=c then (P:Int)-1 else 0)+row (pl c) r)%(P:Int))
 (v:List Int) (hv:v.length=n) (he:CR.pw (mq v:Am (P:Int) f) P=mq v):Sol P n M (row v):=by
 have h2:=hp.two;have e1:(mq v:Am (P:Int) f)=mq (lst (fun r=>sI (fun c=>row (pl c) r*row v c) n) n):=by
  rw[←sum_rows (row v) pl hl n (Nat.le_refl _),←he]
  conv=>lhs;rw[←mk_ev (p:=(P:Int)) (m:=f) v,ev_pw hp,←hs,ev_sum,hv]
  exact CR.sA_congr fun c hc=>by rw[hpl c hc]
 have e2:=h.same (by omega) (fun j hj=>row_ge v j (by omega)) (fun j hj=>row_ge _ j (by rw[lst_length];exact hj)) e1;intro r hr;have e3:=e2 r;rw[row_lst]at e3;unfold cut at e3;rw[if_pos hr]at e3;have e4:sI (fun j=>M r j*row v j) n%(P:Int)=sI (fun j=>(if j=r then ((P:Int)-1)*row v r else 0)+row (pl j) r*row v j) n%(P:Int):=sI_cong fun j hj=>by
  rw[Int.mul_emod,hM r j hr hj,←Int.mul_emod,Int.add_mul];congr 2;by_cases hj':j=r
  ·rw[if_pos hj'.symm,if_pos hj',hj']
  ·rw[if_neg (fun e=>hj' e.symm),if_neg hj',Int.zero_mul]
 rw[e4,sI_add,sI_one r _ n hr,Int.add_emod,←e3,←Int.add_emod];have e5:((P:Int)-1)*row v r+row v r=(P:Int)*row v r:=(by rw[Int.sub_mul,Int.one_mul];omega);rw[e5,Int.mul_emod_right]
theorem Mo.const {P:Nat} {f:List Int} {n:Nat} (h:Mo P f n) (hp:Prm P) (s:List Int) (hs:(mq s:Am (P:Int) f)=CR.pw (mq [0,1]) P) (pl:Nat→List Int) (hl:∀c,c<n→(pl c).length≤n)
 (hpl:∀c,c<n→(mq (pl c):Am (P:Int) f)=CR.pw (mq s) c) (M N:Nat→Nat→Int) (hM:∀r c,r<n→c<n→M r c%(P:Int)=((if r=c then (P:Int)-1 else 0)+row (pl c) r)%(P:Int))
 (hMN:∀v,Sol P n M v→Sol P n N v) {k:Nat} (hn:n=k+1) (pv:Nat→Nat) (hE:Elim P n n k N pv) (a:Am (P:Int) f) (ha:CR.pw a P=a):∃k:Int,a=mq [k]:=by
 have h2:=hp.two;have sol:=fun (v:List Int) (hv:v.length=n) (he:CR.pw (mq v:Am (P:Int) f) P=mq v)=>hMN _ (h.sol hp s hs pl hl hpl M hM v hv he);have e1:(mq (lst (row [1]) n):Am (P:Int) f)=1:=by
  rw[mk_one];refine mk_row fun j=>?_;rw[row_lst];unfold cut
  split
  ·rfl
  ·rw[row_ge [1] j (by simp;omega)]
 have s1:=sol (lst (row [1]) n) (lst_length _ _) (by rw[e1,CR.one_pw]);have s1':Sol P n N (fun j=>if j=0 then 1 else 0):=fun r hr=>by refine(sI_cong fun j hj=>?_).trans (s1 r hr);rw[row_lst];unfold cut;rw[if_pos hj,row_getD];cases j <;> rfl
 obtain⟨x,rfl⟩:=mk_rep a;obtain⟨z,hz,hc⟩:=h.rest _ x (Nat.le_refl _);have e2:(mq x:Am (P:Int) f)=mq (lst (row z) n):=by
  rw[mk_eq.2 hc];refine mk_row fun j=>?_;rw[row_lst];unfold cut
  split
  ·rfl
  ·rw[row_ge z j (by omega)]
 rw[e2]at ha⊢;have s2:=hE.const (by omega) hn s1' _ (sol _ (lst_length _ _) ha);refine⟨row (lst (row z) n) 0,mk_eq.2 (.of fun j=>?_)⟩;cases j with
 |zero=>rw[row_getD [row (lst (row z) n) 0]];rfl
 |succ j=>
  rw[row_getD [row (lst (row z) n) 0]];show _=(0:Int)%_;rcases Nat.lt_or_ge (j+1) n with h3|h3
  ·rw[s2 (j+1) (by omega) h3];rfl
  ·rw[row_ge _ (j+1) (by rw[lst_length];exact h3)]
theorem Mo.irreducible {P:Nat} {f:List Int} {n:Nat} (h:Mo P f n) (hp:Prm P) (hP:PrI (P:Int)) (hn:0<n) {g z:List Int} (hG:GcdR P f g z) (hg:(mq g:Am (P:Int) [])=mq (der f)) (hz:z.length≤1)
 (hc:∀a:Am (P:Int) f,CR.pw a P=a→∃k:Int,a=mq [k]) (N:Nat):CR.pw (mq [0,1]:Am (P:Int) f) (P^N)=mq [0,1]↔N%n=0:=by
 have hs:=hG.sqf hP (by have:=h.len;omega) hz;rw[hg]at hs;exact h.fermat hp hn (fun a ha=>h.unit hp hP hn hs hc a ha) hc N
end Go.Proofs.YtffdemplaodbcaaDoor
