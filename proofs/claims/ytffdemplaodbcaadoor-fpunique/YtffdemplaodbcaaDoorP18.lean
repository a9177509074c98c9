/- A part of the proof: PS, QC, QD. -/
import Derived.Test.YtffdemplaodbcaaDoorP17
import Derived.Test.YtffdemplaodbcaaDoorP16
set_option linter.all false
namespace Go.Proofs.YtffdemplaodbcaaDoor
open Go Go.Proofs Go.RowKit Go.Rad
theorem PrI.inv {p a:Int} (h:PrI p) (h0:0<a) (h1:a<p):∃r,0<r∧r<p∧r*a%p=1:=by
 obtain⟨N,rfl,hN,_⟩:=h;obtain⟨A,rfl⟩:∃A:Nat,a=A:=⟨a.toNat,by omega⟩;have hnd:¬N ∣ A:=fun hd=>by have:=Nat.le_of_dvd (by omega) hd;omega
 have h2:=hN.two;have hf:=_root_.Rad.fermat1 hN hnd;have e1:N-1=(N-2)+1:=(by omega);rw[e1,Nat.pow_succ]at hf;obtain⟨X,hX⟩:∃X,A^(N-2)%N=X:=⟨_,rfl⟩;have hX2:X<N:=(by rw[←hX];exact Nat.mod_lt _ (by omega));have hm:X*A%N=1:=(by rw[←hX,Nat.mod_mul_mod];exact hf);have hX0:X≠0:=fun h=>by rw[h,Nat.zero_mul,Nat.zero_mod]at hm;omega
 refine⟨X,by omega,by omega,?_⟩;have:((X*A%N:Nat):Int)=(1:Nat):=(by rw[hm])
 push_cast at this
 exact this
theorem Res.next {p:Int} {m f A X Y Q:List Int} {a b:Nat} (hA:Res p m (row (ppow f a)) A) (hX:Res p m (row (ppow f b)) X) (hN:Nrm p (row (pmul A X)) Y) (hQ:Res p m (row Y) Q):Res p m (row (ppow f (a+b))) Q:=by
 have h1:=hA.cg.mul hX.cg;have h2:Cg p m (row (ppow f (a+b))) (row (pmul (ppow f a) (ppow f b))):= .of fun j=>by rw[row_ppow_add]
 have h3:Cg p m (row (pmul A X)) (row Y):= .of fun j=>by rw[hN.eq,Int.emod_emod]
 exact hQ.of ((h2.trans h1).trans h3)
theorem meas_lt {i j:Int} (h0:0<i) (h:j<i):(Lib.intOf (.int .i64 j)).toNat<(Lib.intOf (.int .i64 i)).toNat:=by simp only[Lib.intOf];omega
theorem pw_odd {a b k j N:Nat} (h:a+b*(k+1)=N) (e:k+1=j+j+1):a+b+(b+b)*j=N:=by rw[e]at h;rw[←h,Nat.mul_add,Nat.mul_add,Nat.mul_one,Nat.add_mul];omega
theorem pw_even {a b k j N:Nat} (h:a+b*(k+1)=N) (e:k+1=j+j):a+(b+b)*j=N:=by rw[e]at h;rw[←h,Nat.mul_add,Nat.add_mul]
theorem IsF.top {p:Int} {xs:List Int} (h:IsF p xs):0<xs.length→xs.getD (xs.length-1) 0≠0:=h.last
theorem Cg.scale {p r:Int} {m z:List Int} {u v:Nat→Int} (hz:∀j,z.getD j 0%p=m.getD j 0*r%p) (h:Cg p z u v):Cg p m u v:=by obtain⟨q,hq⟩:=h;refine⟨q.map (r* ·),fun j=>?_⟩;rw[hq j,Int.add_emod,Int.add_emod (v j) (act (q.map (r* ·)) (row m) j)];congr 2;rw[act_map,←act_smul];exact act_cong q (fun i=>by rw[row_getD,row_getD,hz,Int.mul_comm]) j
set_option maxRecDepth 10000 in
set_option maxHeartbeats 4000000 in
theorem mpower_any (w:World) (v1 v2:Value) (xs ys:List Int) (p:Int) (N:Nat) (h1:VW w v1 xs) (h2:VW w v2 ys) (hX:IsF p xs) (hY:IsF p ys) (hy0:0<ys.length) (hN:N<9223372036854775808):
 Calls Tryd.prog 18 #[v1, .int .i64 N,v2, .int .i64 p] w fun e w'=>MrPost w p (ppow xs N) ys e w':=by
 have hp:1<p∧p<2147483648:=(by obtain⟨P,h1,h2,h3⟩:=hX.pr;have:=h2.1;omega);have H1:Hid (VW w v1 xs):=h1;have HX:Hid (IsF p xs):=hX;have HY:Hid (IsF p ys):=hY;have CS:=mscaled_any w v2 ys p;obtain⟨r0,hr1,hr2,hr3⟩:=hY.pr.inv (a:=ys.getD (ys.length-1) 0) (by have:=(hY.all (ys.length-1)).1;have:=hY.last hy0;omega) (hY.all _).2;replace CS:=CS r0 h2 hp hY.all (by have:=hY.len;omega) hy0 ⟨hr1,hr2,hr3⟩;have HY0:Hid (0<ys.length):=hy0;clear h1 h2 hX hY hr1 hr2 hr3 hy0;go_enter Tryd.func18,Tryd.ntmps18;go_wp2_with (go_at_call 40;fail);refine CS.mono ?_;rintro e w1 ⟨u1,zs,r,rfl,hS1,hb1,hzl,hz,hr1,hr2,hr3⟩;have HS1:Hid (VW w1 u1 zs):=hS1.view;have HB1:Hid (Below w.heap.size w w1):=hb1;have HZL:Hid (zs.length=ys.length):=hzl;have hzb:∀j,0≤zs.getD j 0∧zs.getD j 0<p:=fun j=>by rw[hz];exact⟨Int.emod_nonneg _ (by omega),Int.emod_lt_of_pos _ (by omega)⟩
 have HZB:Hid (∀j,0≤zs.getD j 0∧zs.getD j 0<p):=hzb;have HZT:Hid (zs.getD (zs.length-1) 0=1):=(by show _=_;rw[hz,hzl,Int.mul_comm];exact hr3);have HZ:Hid (∀j,zs.getD j 0%p=ys.getD j 0*r%p):=fun j=>by rw[hz,Int.emod_emod]
 have HLZ:Hid (zs.length≤65∧0<zs.length):=(by have h1:=HY.out.len;have h2:=HY0.out;show _∧_;omega);clear hS1 hb1 hzl hz hzb hr1 hr2 hr3 CS;have CR:∀(wx:World) (v:Value) (x:List Int),Below w1.heap.size w1 wx→VW wx v x→(∀j,0≤x.getD j 0∧x.getD j 0<p)→(0<x.length→x.getD (x.length-1) 0≠0)→x.length≤1000→
  Calls Tryd.prog 41 #[v,u1, .int .i64 p] wx fun e w'=>MrPost wx p x zs e w':=fun wx v x hb hV hxb hxt hxl=>
  mrest_any wx v u1 x zs p hV (HS1.out.below hb) hp hxb HZB.out hxt HLZ.out.2 HZT.out hxl (by have:=HLZ.out.1;omega)
 have HCR:Hid _:=CR;clear CR;go_wp2_with (go_at_call 41;fail);have HS2:SR (w1.alloc (Obj.cells #[Value.int IntKind.i64 1] 3)) w1.heap.size (.slice (some ⟨w1.heap.size,0,none⟩) 1 1) [1]:=
  .row w1.heap.size 0 1 rfl (by decide) (by decide) (Nat.le_refl _) (by simp) (fun i hi=>by
   have h0:i=0:=(by simp at hi;omega);subst h0;simp[go_sem]) (fun i hi=>by
   have h0:i=0:=(by simp at hi;omega);subst h0;simp[go_sem])
 refine(HCR.out _ _ [1] (bel1 _ _) HS2.view (fun j=>by
  cases j with
  |zero=>show 0≤(1:Int)∧(1:Int)<p;omega
  |succ j=>rw[getD_of_ge [1] (j+1) (by simp)];omega) (fun _=>by decide) (by decide)).mono ?_
 rintro e w2 ⟨u2,A,rfl,hV2,hb2,hR2⟩;have HB2:Hid (Below w1.heap.size w1 w2):=(bel1 w1 _).trans (hb2.mono (by simp));have HV2:Hid (VW w2 u2 A):=hV2;have HR2:Hid (Res p zs (row (ppow xs 0)) A):=hR2;clear HS2 hV2 hb2 hR2;go_wp2_with (go_at_call 41;fail);refine(HCR.out w2 v1 xs HB2.out ((H1.out.below HB1.out).below HB2.out) HX.out.all HX.out.last (by have:=HX.out.len;omega)).mono ?_;rintro e w3 ⟨u3,X,rfl,hV3,hb3,hR3⟩;have HB3:Hid (Below w1.heap.size w1 w3):=HB2.out.trans (hb3.mono HB2.out.size);have HV3:Hid (VW w3 u3 X):=hV3;have HV23:Hid (VW w3 u2 A):=HV2.out.below hb3;have HR3:Hid (Res p zs (row (ppow xs 1)) X):=hR3.of (.of fun j=>by rw[row_ppow_one]);clear hV3 hb3 hR3 HV2;go_wp2;go_loopw [0,1,9] (fun x i o wr=>∃(k a b:Nat) (A X:List Int),i= .int .i64 k∧a+b*k=N∧k≤N∧VW wr o A∧Res p zs (row (ppow xs a)) A∧VW wr x X∧Res p zs (row (ppow xs b)) X∧Below w1.heap.size w1 wr) (fun _ i _ _=>(Lib.intOf i).toNat)
 case atStart=>exact⟨N,0,1,A,X,rfl,by omega,Nat.le_refl _,HV23.out,HR2.out,HV3.out,HR3.out,HB3.out⟩
 case round=>
  obtain⟨k,a,b,A,X,rfl,hk,hkN,hVA,hRA,hVX,hRX,hB⟩:=hrel;have HK:Hid (a+b*k=N):=hk;have HVA:Hid (VW wr _ A):=hVA;have HRA:Hid (Res p zs (row (ppow xs a)) A):=hRA;have HVX:Hid (VW wr _ X):=hVX;have HRX:Hid (Res p zs (row (ppow xs b)) X):=hRX;have HB:Hid (Below w1.heap.size w1 wr):=hB;clear hk hVA hRA hVX hRX hB HV23 HV3 HR2 HR3;have HLL:Hid (A.length≤65∧X.length≤65):=(by have h1:=HRA.out.len;have h2:=HRX.out.len;have h3:=HLZ.out;show _∧_;omega);cases k with
  |zero=>have h00:¬(0:Int)<0:=(by omega);go_wp2;refine bodyPost_ret (v:=u9) (by simp[results,go_sem,loadVar]) rfl ?_;have hk:=HK.out;rw[Nat.mul_zero,Nat.add_zero]at hk;subst hk;refine .mk u9 A rfl HVA.out (HB1.out.trans (HB.out.mono HB1.out.size)) ⟨by rw[←HZL.out];exact HRA.out.len,HRA.out.bd,HRA.out.top,HRA.out.cg.scale HZ.out⟩
  |succ k=>
   obtain⟨i,hi⟩:∃i:Int,i=((k+1:Nat):Int):=⟨_,rfl⟩;obtain⟨j,hj⟩:∃j:Nat,j=(k+1) / 2:=⟨_,rfl⟩;rw[←hi];have hi0:0<i:=(by omega);have htd:i.tdiv 2=(j:Int):=(by rw[Int.tdiv_eq_ediv_of_nonneg (by omega)];omega);have hiN:i<9223372036854775808:=(by omega);have HJN:Hid (j≤N∧(j:Int)<i):=(by show _∧_;omega);have hwj:wrap64 (j:Int)=(j:Int):=wrap_in (by omega) (by omega);have HJ:Hid (j=(k+1) / 2):=hj;have HI:Hid (i=((k+1:Nat):Int)):=hi;have CM:=fun (wx:World) (v1 v2:Value) (x y:List Int) (h1:VW wx v1 x) (h2:VW wx v2 y) (hx:∀j,0≤x.getD j 0∧x.getD j 0<p) (hy:∀j,0≤y.getD j 0∧y.getD j 0<p) (hl1:x.length≤65) (hl2:y.length≤65)=>mmul_any wx v1 v2 x y p h1 h2 (by omega) hx hy (by omega) (by omega);have HCM:Hid _:=CM;clear CM hj hi;by_cases hodd:(k+1)%2=1
   ·have htm:i.tmod 2=1:=(by rw[Int.tmod_eq_emod_of_nonneg (by omega)];have:=HI.out;omega);have HE:Hid (k+1=j+j+1):=(by have:=HJ.out;show _=_;omega);clear hodd;go_wp2_with (go_at_call 15;fail);refine(HCM.out wr _ _ A X HVA.out HVX.out HRA.out.bd HRX.out.bd HLL.out.1 HLL.out.2).mono ?_;rintro e w4 ⟨u4,Y,rfl,hS4,hb4,hN4⟩;have HB4:Hid (Below w1.heap.size w1 w4):=HB.out.trans (hb4.mono HB.out.size);have HV4:Hid (VW w4 u4 Y):=hS4.view;have HN4:Hid (Nrm p (row (pmul A X)) Y):=hN4;have HX4:Hid (VW w4 _ X):=HVX.out.below hb4;have HL4:Hid (Y.length≤1000):=(by have h1:=HLL.out;have:=hN4.len (n:=A.length+X.length) (fun j hj=>by rw[row_pmul_ge A X j (by omega)];simp);show _≤_;omega);clear hS4 hb4 hN4;go_wp2_with (go_at_call 41;fail);refine(HCR.out w4 u4 Y HB4.out HV4.out (HN4.out.isP (by omega)).bd HN4.out.top HL4.out).mono ?_;rintro e w5 ⟨u5,Q,rfl,hV5,hb5,hR5⟩;have HB5:Hid (Below w1.heap.size w1 w5):=HB4.out.trans (hb5.mono HB4.out.size);have HV5:Hid (VW w5 u5 Q):=hV5;have HX5:Hid (VW w5 _ X):=HX4.out.below hb5;have HR5:Hid (Res p zs (row (ppow xs (a+b))) Q):=HRA.out.next HRX.out HN4.out hR5;clear hV5 hb5 hR5;go_wp2_with (go_at_call 15;fail);refine(HCM.out w5 _ _ X X HX5.out HX5.out HRX.out.bd HRX.out.bd HLL.out.2 HLL.out.2).mono ?_;rintro e w6 ⟨u6,G0,rfl,hS6,hb6,hN6⟩;have HB6:Hid (Below w1.heap.size w1 w6):=HB5.out.trans (hb6.mono HB5.out.size);have HV6:Hid (VW w6 u6 G0):=hS6.view;have HN6:Hid (Nrm p (row (pmul X X)) G0):=hN6;have HQ6:Hid (VW w6 _ Q):=HV5.out.below hb6;have HL6:Hid (G0.length≤1000):=(by have h1:=HLL.out;have:=hN6.len (n:=X.length+X.length) (fun j hj=>by rw[row_pmul_ge X X j (by omega)];simp);show _≤_;omega);clear hS6 hb6 hN6;go_wp2_with (go_at_call 41;fail);refine(HCR.out w6 u6 G0 HB6.out HV6.out (HN6.out.isP (by omega)).bd HN6.out.top HL6.out).mono ?_;rintro e w7 ⟨u7,G,rfl,hV7,hb7,hR7⟩;have HB7:Hid (Below w1.heap.size w1 w7):=HB6.out.trans (hb7.mono HB6.out.size);have HV7:Hid (VW w7 u7 G):=hV7;have HQ7:Hid (VW w7 _ Q):=HQ6.out.below hb7;have HR7:Hid (Res p zs (row (ppow xs (b+b))) G):=HRX.out.next HRX.out HN6.out hR7;clear hV7 hb7 hR7;go_wp2;exact⟨⟨j,a+b,b+b,Q,G,congrArg (Value.int .i64) hwj,pw_odd HK.out HE.out,HJN.out.1,HQ7.out,HR5.out,HV7.out,HR7.out,HB7.out⟩,meas_lt hi0 (by rw[hwj];exact HJN.out.2)⟩
   ·have htm:i.tmod 2=0:=(by rw[Int.tmod_eq_emod_of_nonneg (by omega)];have:=HI.out;omega);have HE:Hid (k+1=j+j):=(by have:=HJ.out;show _=_;omega);clear hodd;go_wp2_with (go_at_call 15;fail);refine(HCM.out wr _ _ X X HVX.out HVX.out HRX.out.bd HRX.out.bd HLL.out.2 HLL.out.2).mono ?_;rintro e w6 ⟨u6,G0,rfl,hS6,hb6,hN6⟩;have HB6:Hid (Below w1.heap.size w1 w6):=HB.out.trans (hb6.mono HB.out.size);have HV6:Hid (VW w6 u6 G0):=hS6.view;have HN6:Hid (Nrm p (row (pmul X X)) G0):=hN6;have HQ6:Hid (VW w6 _ A):=HVA.out.below hb6;have HL6:Hid (G0.length≤1000):=(by have h1:=HLL.out;have:=hN6.len (n:=X.length+X.length) (fun j hj=>by rw[row_pmul_ge X X j (by omega)];simp);show _≤_;omega);clear hS6 hb6 hN6;go_wp2_with (go_at_call 41;fail);refine(HCR.out w6 u6 G0 HB6.out HV6.out (HN6.out.isP (by omega)).bd HN6.out.top HL6.out).mono ?_;rintro e w7 ⟨u7,G,rfl,hV7,hb7,hR7⟩;have HB7:Hid (Below w1.heap.size w1 w7):=HB6.out.trans (hb7.mono HB6.out.size);have HV7:Hid (VW w7 u7 G):=hV7;have HQ7:Hid (VW w7 _ A):=HQ6.out.below hb7;have HR7:Hid (Res p zs (row (ppow xs (b+b))) G):=HRX.out.next HRX.out HN6.out hR7;clear hV7 hb7 hR7;go_wp2;exact⟨⟨j,a,b+b,A,G,congrArg (Value.int .i64) hwj,pw_even HK.out HE.out,HJN.out.1,HQ7.out,HRA.out,HV7.out,HR7.out,HB7.out⟩,meas_lt hi0 (by rw[hwj];exact HJN.out.2)⟩
end Go.Proofs.YtffdemplaodbcaaDoor
namespace Go.Proofs.YtffdemplaodbcaaDoor
open Go Go.Proofs Go.RowKit Go.Rad
inductive NrmPost (w:World) (p:Int) (t:Nat→Int) (e:Ending) (w':World):Prop
 |mk (u:Value) (z:List Int) (he:e= .returned u) (hS:SR w' w.heap.size u z) (hb:Below w.heap.size w w') (hN:Nrm p t z)
set_option maxRecDepth 10000 in
set_option maxHeartbeats 2000000 in
theorem derivative_any (w:World) (p q:Int) (v:Value) (x:List Int) (n:Nat) (hv:VW w v x) (hq:q=p*p) (hp:1<p∧p<2147483648) (hx:∀j,0≤x.getD j 0∧x.getD j 0<p) (hn:x.length=n+1) (hl:n≤1000000):
 Calls Tryd.prog 50 #[FV p q,v] w fun e w'=>NrmPost w p (fun j=>((j+1:Nat):Int)*row x (j+1)) e w':=by
 obtain⟨a,b,o,c,rfl,ha,hA⟩:=hv;obtain⟨L,hL⟩:∃L,x.length=L:=⟨_,rfl⟩;have HL:Hid (x.length=L∧L=n+1):=⟨hL,by omega⟩;rw[hL]at ha hA⊢;obtain rfl:=ha (by omega);have HA:Hid (AR w b o L (fun j=>x.getD j 0)):=hA;have HX:Hid (∀j,0≤x.getD j 0∧x.getD j 0<p):=hx;have hqq:=sq_lt (by omega:(0:Int)≤p) hp.2 (by omega) hp.2;rw[←hq]at hqq;have HQ:Hid (q=p*p):=hq;have hLn:(L:Int)-1=(n:Int):=(by omega);have hL0:0<L:=(by omega);clear hA hx hq hn hL ha;have hwL:wrap64 (n:Int)=(n:Int):=wrap_in (by omega) (by omega);go_enter Tryd.func50,Tryd.ntmps50;go_wp2_with (at_make;refine wpList_makeI rfl _ _ rfl _ n rfl rfl (by first|rfl|omega) (by omega) ?_;intro w3 ho3 hb3);have hB3:Below w.heap.size w w3:=(bel1 w _).trans (hb3.mono (by simp));have c0:w3.cell? ⟨w.heap.size,0,none⟩=some (.int .i64 p):=(hb3.cell (p:=⟨w.heap.size,0,none⟩) (by simp)).trans (by simp[go_sem]);have c1':w3.cell? ⟨w.heap.size,1,none⟩=some (.int .i64 q):=(hb3.cell (p:=⟨w.heap.size,1,none⟩) (by simp)).trans (by simp[go_sem]);have hl3:w.heap.size<w3.heap.size:=(by have:=hb3.size;simp at this;omega);have ho:OA w3 w.heap.size (w.heap.size+1) n (fun _=>0):=(by have h9:=ho3.mono (C:=w.heap.size) (by simp);simpa using h9);obtain⟨bn,hbn⟩:∃x,x=w.heap.size+1:=⟨_,rfl⟩;obtain⟨b4,hb4⟩:∃x,x=w.heap.size:=⟨_,rfl⟩;rw[←hbn]at ho⊢;rw[←hb4]at c0 c1' hl3⊢;have HBN:Hid (bn=w.heap.size+1∧b4=w.heap.size):=⟨hbn,hb4⟩;have HB3:Hid (Below w.heap.size w w3):=hB3;have HO:Hid (OA w3 w.heap.size bn n (fun _=>0)):=ho;have HBL:Hid (b<w.heap.size):=HA.out.lt hL0;clear ho3 hb3 hB3 hbn hb4 ho;obtain⟨h,he⟩:∃h:Nat→Nat→Int,∀k j,h k j=if j<k then ((j+1:Nat):Int)%p*x.getD (j+1) 0 else 0:=⟨_,fun _ _=>rfl⟩;have HE:Hid (∀k j,h k j=if j<k then ((j+1:Nat):Int)%p*x.getD (j+1) 0 else 0):=he;clear he;go_loopw [13] (fun i wr=>∃k:Nat,k≤n∧i= .int .i64 k∧Below w.heap.size w wr∧OA wr w.heap.size bn n (h k)∧b4<wr.heap.size∧wr.cell? ⟨b4,0,none⟩=some (.int .i64 p)∧wr.cell? ⟨b4,1,none⟩=some (.int .i64 q)) (fun i _=>n-(Lib.intOf i).toNat)
 case atStart=>refine⟨0,by omega,rfl,HB3.out,⟨HO.out.base,HO.out.lt,fun i hi=>?_,HO.out.z⟩,hl3,c0,c1'⟩;rw[HE.out,if_neg (by omega)];exact HO.out.c i hi
 case round=>
  obtain⟨k,hk,rfl,hB,hO,hl4,d0,d1⟩:=hrel;have HB:Hid (Below w.heap.size w wr):=hB;have HOk:Hid (OA wr w.heap.size bn n (h k)):=hO;clear hB hO c0 c1' hl3;by_cases hkn:k<n
  ·have hki:(k:Int)<(n:Int):=(by omega);obtain⟨s,hs⟩:∃s,s=k+1:=⟨_,rfl⟩;have hks:(k:Int)+1=(s:Int):=(by omega);have hsL:(s:Int)<(L:Int):=(by omega);have HS:Hid (s=k+1):=hs;obtain⟨X,hX⟩:∃X,x.getD s 0=X:=⟨_,rfl⟩;have hXb:=HX.out s;rw[hX]at hXb;have cs:wr.cell? ⟨b,o+s,none⟩=some (.int .i64 X):=(by rw[←hX];exact(HA.out.below HB.out) s (by omega));have hbr:b<wr.heap.size:=Nat.lt_of_lt_of_le HBL.out HB.out.size;obtain⟨T,hT⟩:∃T,(s:Int)%p=T:=⟨_,rfl⟩;have hTb:0≤T∧T<p:=(by rw[←hT];exact⟨Int.emod_nonneg _ (by omega),Int.emod_lt_of_pos _ (by omega)⟩);have CL:=fun w=>least_any w p q (s:Int) (by omega) hp.2 (by omega) (by omega);simp only[hT]at CL;have hZb:=sq_lt hTb.1 (by omega) hXb.1 (by omega);obtain⟨Z,hZ⟩:∃Z,T*X=Z:=⟨_,rfl⟩;rw[hZ]at hZb;have hws:IntKind.i64.wrap (s:Int)=(s:Int):=(by rw[IntKind.wrap_i64];omega);have hwz:IntKind.i64.wrap Z=Z:=(by rw[IntKind.wrap_i64];omega);have HZ:Hid (((k+1:Nat):Int)%p*x.getD (k+1) 0=Z):=(by show _=_;rw[←HS.out,hT,hX,hZ]);have ck:wr.cell? ⟨bn,0+k,none⟩=some (.int .i64 0):=(by have h9:=HOk.out.c k hkn;rw[HE.out,if_neg (by omega)]at h9;exact h9);have zk:wr.frozen? ⟨bn,0+k,none⟩=false:=HOk.out.z k hkn;have HFIN:Hid (∀w5,Below wr.heap.size wr w5→∃k₁:Nat,k₁≤n∧Value.int .i64 (s:Int)= .int .i64 k₁∧Below w.heap.size w (w5.setCell ⟨bn,k,none⟩ (.int .i64 Z))∧OA (w5.setCell ⟨bn,k,none⟩ (.int .i64 Z)) w.heap.size bn n (h k₁)∧b4<(w5.setCell ⟨bn,k,none⟩ (.int .i64 Z)).heap.size∧(w5.setCell ⟨bn,k,none⟩ (.int .i64 Z)).cell? ⟨b4,0,none⟩=some (.int .i64 p)∧(w5.setCell ⟨bn,k,none⟩ (.int .i64 Z)).cell? ⟨b4,1,none⟩=some (.int .i64 q)):=by
    intro w5 hb5;have ck5:w5.cell? ⟨bn,k,none⟩=some (.int .i64 0):=by
     have:=(hb5.cell (p:=⟨bn,0+k,none⟩) HOk.out.lt).trans ck
     rwa [Nat.zero_add]at this
    have hne:b4≠bn:=(by have:=HBN.out;omega);have hO5:=HOk.out.below hb5;refine⟨k+1,by omega,congrArg (Value.int .i64) (by omega),(HB.out.trans (hb5.mono HB.out.size)).setCell (p:=⟨bn,k,none⟩) HOk.out.base _,⟨HOk.out.base,by simpa [World.setCell]using hO5.lt,fun i hi=>?_,fun i hi=>?_⟩,by have:=hb5.size;simp[World.setCell];omega,?_,?_⟩
    ·rw[Nat.zero_add,HE.out];by_cases h5:i=k
     ·subst h5;rw[if_pos (by omega),HZ.out];exact cell_same (u:= .int .i64 0) ck5
     ·rw[cell_other (.inr h5)];have h9:=hO5.c i hi;rw[Nat.zero_add,HE.out]at h9;rw[h9];by_cases h6:i<k
      ·rw[if_pos h6,if_pos (by omega)]
      ·rw[if_neg h6,if_neg (by omega)]
    ·rw[World.frozen?_setCell];exact hO5.z i hi
    ·rw[cell_other (.inl hne)];exact(hb5.cell (p:=⟨b4,0,none⟩) hl4).trans d0
    ·rw[cell_other (.inl hne)];exact(hb5.cell (p:=⟨b4,1,none⟩) hl4).trans d1
   clear hs hX hT;rw[Nat.zero_add]at ck zk;have hbl:bn<wr.heap.size:=HOk.out.lt;go_upto_region 5 with fail;refine wp_drawn mixed [⟨16,[],[],[5]⟩,⟨17,[],[],[6]⟩,⟨18,[],[],[2]⟩,⟨19,[],[],[6]⟩,⟨20,[3],[3],[]⟩,⟨21,[2,4],[2,3,4],[]⟩,⟨22,[],[],[1]⟩,⟨23,[],[],[6]⟩,⟨24,[7],[7],[]⟩,⟨25,[6,8],[6,7,8],[]⟩,⟨26,[9],[6,7,8,9],[]⟩,⟨27,[5,10],[2,3,4,5,6,7,8,9,10],[]⟩] [] (by kernel_rfl) 33 rfl (by kernel_rfl) (fun (i:Nat) (v:Value) (wq:World)=>match i with|0=>v= .slice (some ⟨bn,0,none⟩) (n) (n)|1=>v= .int .i64 ((k:Int))|2=>v= .agg #[.int .i64 (p), .int .i64 (q)]|3=>v= .int .i64 ((k:Int))|4=>v= .int .i64 ((s:Int))|5=>v= .int .i64 (T)|6=>v= .slice (some ⟨b,o,none⟩) (L) (c)|7=>v= .int .i64 ((k:Int))|8=>v= .int .i64 ((s:Int))|9=>v= .pointer (some ⟨b,o+s,none⟩)|10=>v= .int .i64 (X)|11=>v= .int .i64 (Z)|_=>True) (fun _ wq=>Below wr.heap.size wr wq) (fun wx wy=>Below wx.heap.size wx wy) (Below.refl _ _).drew (fun i v wx wy h hx=>match i,h with|0,h=>h|1,h=>h|2,h=>h|3,h=>h|4,h=>h|5,h=>h|6,h=>h|7,h=>h|8,h=>h|9,h=>h|10,h=>h|11,h=>h|n+12,_=>trivial) ?_ ?_
   ·intro i o r ho hr L fr wx hW hL hpr hds hdef hpre hfree;clear hL hpr hds hdef
    match i,ho,hr with
    |0,ho,hr=>?_
    |1,ho,hr=>?_
    |2,ho,hr=>?_
    |3,ho,hr=>?_
    |4,ho,hr=>obtain rfl:=Option.some.inj ho;obtain rfl:=Option.some.inj hr;have e3:=ev_tmp (show fr.eval (.tmp 19)= .int .i64 ((k:Int))from hpre 3 (by decide) _ rfl);clear hpre hfree;refine stpK rfl rfl fun K hK=>?_;go_simp;exact hK _ _ ⟨(by first|(show Value.int _ (IntKind.i64.wrap _)=_;rw[hws])|rfl),hW,Below.refl _ _,fun h=>(List.not_mem_nil h).elim⟩
    |5,ho,hr=>obtain rfl:=Option.some.inj ho;obtain rfl:=Option.some.inj hr;have e2:=ev_tmp (show fr.eval (.tmp 18)= .agg #[.int .i64 (p), .int .i64 (q)] from hpre 2 (by decide) _ rfl);have e4:=ev_tmp (show fr.eval (.tmp 20)= .int .i64 ((s:Int))from hpre 4 (by decide) _ rfl);clear hpre hfree;refine stpK rfl rfl fun K hK=>?_;go_simp;refine(CL wx).mono ?_;rintro e wy ⟨rfl,hb⟩;exact hK _ _ ⟨rfl,hW.trans (hb.mono hW.size),hb,fun h=>(List.not_mem_nil h).elim⟩
    |6,ho,hr=>?_
    |7,ho,hr=>?_
    |8,ho,hr=>obtain rfl:=Option.some.inj ho;obtain rfl:=Option.some.inj hr;have e7:=ev_tmp (show fr.eval (.tmp 23)= .int .i64 ((k:Int))from hpre 7 (by decide) _ rfl);clear hpre hfree;refine stpK rfl rfl fun K hK=>?_;go_simp;exact hK _ _ ⟨(by first|(show Value.int _ (IntKind.i64.wrap _)=_;rw[hws])|rfl),hW,Below.refl _ _,fun h=>(List.not_mem_nil h).elim⟩
    |9,ho,hr=>?_
    |10,ho,hr=>?_
    |11,ho,hr=>obtain rfl:=Option.some.inj ho;obtain rfl:=Option.some.inj hr;have e5:=ev_tmp (show fr.eval (.tmp 21)= .int .i64 (T)from hpre 5 (by decide) _ rfl);have e10:=ev_tmp (show fr.eval (.tmp 26)= .int .i64 (X)from hpre 10 (by decide) _ rfl);clear hpre hfree;refine stpK rfl rfl fun K hK=>?_;go_simp;exact hK _ _ ⟨(by first|(show Value.int _ (IntKind.i64.wrap _)=_;rw[hwz])|rfl),hW,Below.refl _ _,fun h=>(List.not_mem_nil h).elim⟩
    |n+12,ho,hr=>exact absurd hr (by simp)
    all_goals
     obtain rfl:=Option.some.inj ho;obtain rfl:=Option.some.inj hr;simp only[List.mem_cons,List.not_mem_nil,or_false,false_imp_iff,implies_true,forall_eq_or_imp,forall_eq,List.getElem?_cons_zero,List.getElem?_cons_succ,Option.some.injEq,forall_eq',evt]at hpre hfree;have c0:=(hW.cell (p:=⟨b4,0,none⟩) hl4).trans d0;have c1:=(hW.cell (p:=⟨b4,1,none⟩) hl4).trans d1;have c2:=(hW.cell (p:=⟨b,o+s,none⟩) hbr).trans cs;refine stpK rfl rfl fun K hK=>?_ <;> (go_simp;exact hK _ _ ⟨rfl,hW,Below.refl _ _,fun h=>(List.not_mem_nil h).elim⟩)
   ·intro vs wm hvs hW1 hap0;clear hap0;have e0:vs 0= .slice (some ⟨bn,0,none⟩) (n) (n):=hvs 0 (by decide);have e1:vs 1= .int .i64 ((k:Int)):=hvs 1 (by decide);have e2:vs 2= .agg #[.int .i64 (p), .int .i64 (q)]:=hvs 2 (by decide);have e3:vs 3= .int .i64 ((k:Int)):=hvs 3 (by decide);have e4:vs 4= .int .i64 ((s:Int)):=hvs 4 (by decide);have e5:vs 5= .int .i64 (T):=hvs 5 (by decide);have e6:vs 6= .slice (some ⟨b,o,none⟩) (L) (c):=hvs 6 (by decide);have e7:vs 7= .int .i64 ((k:Int)):=hvs 7 (by decide);have e8:vs 8= .int .i64 ((s:Int)):=hvs 8 (by decide);have e9:vs 9= .pointer (some ⟨b,o+s,none⟩):=hvs 9 (by decide);have e10:vs 10= .int .i64 (X):=hvs 10 (by decide);have e11:vs 11= .int .i64 (Z):=hvs 11 (by decide);simp only[puts,Nat.reduceAdd,e0,e1,e2,e3,e4,e5,e6,e7,e8,e9,e10,e11,Act.put,List.setIfInBounds_toArray,List.set_cons_zero,List.set_cons_succ,List.drop_succ_cons,List.drop_zero,List.length_cons,List.length_nil];clear hvs e0 e1 e2 e3 e4 e5 e6 e7 e8 e9 e10 e11;have ck5:wm.cell? ⟨bn,k,none⟩=some (.int .i64 0):=(hW1.cell (p:=⟨bn,k,none⟩) hbl).trans ck;have zk5:wm.frozen? ⟨bn,k,none⟩=false:=(hW1.frozen (p:=⟨bn,k,none⟩) hbl).trans zk;have HREL:Hid _:=HFIN.out wm hW1;clear hW1 cs ck zk CL d0 d1;go_wp2;exact⟨HREL.out,by simp only[Lib.intOf];omega⟩
  ·obtain rfl:k=n:=(by omega);have hki:¬((k:Int)<(k:Int)):=(by omega);have S6:SR wr w.heap.size (.slice (some ⟨bn,0,none⟩) k k) (lst (h k) k):=sr_lst (fun _=>rfl) (Nat.le_refl _) HOk.out.base HOk.out.lt HOk.out.c HOk.out.z;have hbd:∀j,j<k→0≤h k j∧h k j<4611686018427387904:=fun j hj=>by rw[HE.out,if_pos hj];have h3:=HX.out (j+1);exact sq_lt (Int.emod_nonneg _ (by omega)) (by have:=Int.emod_lt_of_pos ((j+1:Nat):Int) (show 0<p by omega);omega) h3.1 (by omega)
   have CS:=settled_sr wr p q w.heap.size _ _ S6 HB.out.size ⟨by omega,hp.2⟩ (fun j=>by
    rw[lst_getD];unfold cut
    split
    ·have:=hbd j (by assumption);omega
    ·omega) (by rw[lst_length];omega)
   clear S6 hbd;go_wp2_with (go_at_call 32;fail);refine CS.mono ?_;rintro e w7 ⟨u,z,rfl,hS7,hb7,hN7⟩;have R:Hid (NrmPost w p (fun j=>((j+1:Nat):Int)*row x (j+1)) (.returned u) w7):=by
    refine .mk u z rfl hS7 (HB.out.trans hb7) ⟨fun j=>?_,hN7.top⟩;rw[hN7.eq,row_lst];unfold cut;by_cases hj:j<k
    ·rw[if_pos hj,HE.out,if_pos hj,row_getD,Int.mul_emod,Int.emod_emod,←Int.mul_emod]
    ·rw[if_neg hj,row_getD,getD_of_ge x (j+1) (by have:=HL.out;omega),Int.mul_zero]
   clear hS7 hb7 hN7 CS;go_wp2;refine bodyPost_ret (v:=u) (by simp[results,go_sem,loadVar]) rfl ?_;exact R.out
inductive QuoPost (w:World) (p:Int) (x m:List Int) (e:Ending) (w':World):Prop
 |mk (u:Value) (Q z:List Int) (he:e= .returned u) (hS:SR w' w.heap.size u Q) (hb:Below w.heap.size w w') (hD:Dvd p m x Q z)
set_option maxRecDepth 10000 in
set_option maxHeartbeats 2000000 in
theorem quotient_any (w:World) (p q:Int) (v:Value) (x m:List Int) (b2 o2 n c2:Nat) (y:Nat→Int) (hv:VW w v x) (hM:MD w p b2 o2 n c2 y) (hb2:b2<w.heap.size) (hm:lst y (n+1)=m) (hq:q=p*p) (hp:1<p∧p<2147483648)
 (hx:∀j,0≤x.getD j 0∧x.getD j 0<p) (hl:x.length≤1048576):
 Calls Tryd.prog 65 #[FV p q,v, .slice (some ⟨b2,o2,none⟩) (n+1:Nat) c2] w fun e w'=>QuoPost w p x m e w':=by
 have hpq:p≤q:=(by have h9:=Int.mul_le_mul_of_nonneg_left (show 1≤p by omega) (show 0≤p by omega);rw[Int.mul_one,←hq]at h9;exact h9);have HV:Hid (VW w v x):=hv;have HM:Hid (MD w p b2 o2 n c2 y):=hM;have HQ:Hid (q=p*p):=hq;have HX:Hid (∀j,0≤x.getD j 0∧x.getD j 0<p):=hx;have HMM:Hid (lst y (n+1)=m):=hm;clear hv hM hq hx hm;go_enter Tryd.func65,Tryd.ntmps65;go_upto_region 1 with fail;refine wp_world (fun w1=>Below w.heap.size w w1∧w.heap.size<w1.heap.size∧w1.cell? ⟨w.heap.size,0,none⟩=some (.int .i64 p)∧w1.cell? ⟨w.heap.size,1,none⟩=some (.int .i64 q)) ⟨bel1 _ _,by simp,by simp[go_sem],by simp[go_sem]⟩ ?_;rintro w1 ⟨hB1,hl4,c0,c1'⟩;obtain⟨b4,hb4⟩:∃x,x=w.heap.size:=⟨_,rfl⟩;rw[←hb4]at c0 c1' hl4⊢;have H4:Hid (b4=w.heap.size):=hb4;have HB1:Hid (Below w.heap.size w w1):=hB1;have HB2:Hid (b2<w.heap.size):=hb2;clear hB1 hb4 hb2;go_cut [7] from 8 to 17 (fun v wx=>∃Q z,SR wx w.heap.size v Q∧Below w.heap.size w wx∧Dvd p m x Q z)
 case first=>
  go_region_with (first
   |(go_at_call 35;refine(clone_sr _ v x ((HV.out.below HB1.out).below (bel_drew w1)) hl).mono ?_;rintro e w2 ⟨u,rfl,hS2,hb2⟩;have HS2:Hid (SR w2 w1.heap.size u x):=hS2;have HB2w:Hid (Below w1.heap.size w1 w2):=(bel_drew w1).trans hb2;have f0:w2.cell? ⟨b4,0,none⟩=some (.int .i64 p):=(HB2w.out.cell (p:=⟨b4,0,none⟩) hl4).trans c0;have f1:w2.cell? ⟨b4,1,none⟩=some (.int .i64 q):=(HB2w.out.cell (p:=⟨b4,1,none⟩) hl4).trans c1';clear hS2 hb2)
   |(go_at_call 34;refine(divide_sr w2 p q w1.heap.size u x b2 o2 n c2 y HS2.out HB2w.out.size ((HM.out.below HB1.out).below HB2w.out) (by have:=HB2.out;have:=H4.out;omega) HQ.out hp (fun j=>⟨(HX.out j).1,by have:=(HX.out j).2;omega⟩) (by omega)).mono ?_;rintro e w3 ⟨u1,u2,Q,z,rfl,hS3,hS3z,hb3,hD3⟩;have HP:Hid (∃Q z,SR w3 w.heap.size u1 Q∧Below w.heap.size w w3∧Dvd p m x Q z):=⟨Q,z,hS3.mono (by have:=H4.out;omega),HB1.out.trans ((HB2w.out.trans hb3).mono (by have:=H4.out;omega)),by rw[←HMM.out];exact hD3⟩;clear hS3 hS3z hb3 hD3 f0 f1))
  all_goals
   go_wp2_with fail;go_meet
   case rel=>exact HP.out
 case rest=>
 obtain⟨Q,z,hS,hB,hD⟩:=hcut;have R:Hid (QuoPost w p x m (.returned u7) wc):= .mk u7 Q z rfl hS hB hD;clear hS hB hD c0 c1';go_wp2;refine bodyPost_ret (v:=u7) (by simp[results,go_sem,loadVar]) rfl ?_;exact R.out
end Go.Proofs.YtffdemplaodbcaaDoor
namespace Go.Proofs.YtffdemplaodbcaaDoor
open Go Go.Proofs Go.RowKit Go.Rad
theorem OWI.mono {w:World} {B C:Nat} {v:Value} {xs:List Int} (h:OWI w B v xs) (hc:C≤B):OWI w C v xs:=by
 refine⟨h.1,?_⟩;rcases h.2 with h1|⟨g,cap,cur,hv,hb,hr⟩
 ·exact .inl h1
 ·exact .inr ⟨g,cap,cur,hv,by omega,hr⟩
inductive RootPost (w:World) (P:Nat) (x:List Int) (e:Ending) (w':World):Prop
 |mk (u:Value) (z:List Int) (he:e= .returned u) (hS:SR w' w.heap.size u z) (hb:Below w.heap.size w w') (hz:∀j,j<z.length→z.getD j 0=x.getD (P*j) 0) (h1:x.length≤P*z.length) (h2:0<z.length→P*(z.length-1)<x.length)
inductive RtR (w1:World) (B P L:Nat) (x:List Int) (v:Value) (i:Value) (wr:World):Prop
 |mk (k:Nat) (zs:List Int) (t:Int) (hi:i= .int .i64 t) (ht:t=((P*k:Nat):Int)) (hl:t<3000000000) (hO:OWI wr B v zs) (hz:zs.length=k) (hs:∀j,j<k→zs.getD j 0=x.getD (P*j) 0) (h1:0<k→P*(k-1)<L) (hb:Below w1.heap.size w1 wr) (hk:k≤1000)
set_option maxRecDepth 10000 in
set_option maxHeartbeats 2000000 in
theorem root_any (w:World) (P:Nat) (q:Int) (v:Value) (x:List Int) (hv:VW w v x) (hp:0<P∧P<2147483648) (hl:x.length≤1000):
 Calls Tryd.prog 66 #[FV P q,v] w fun e w'=>RootPost w P x e w':=by
 obtain⟨a,b,o,c,rfl,ha,hA⟩:=hv;obtain⟨L,hL⟩:∃L,x.length=L:=⟨_,rfl⟩;have HL:Hid (x.length=L):=hL;rw[hL]at ha hA hl⊢;have HA:Hid (AR w b o L (fun j=>x.getD j 0)):=hA;clear hA hL;obtain⟨p,hpp⟩:∃p:Int,p=(P:Int):=⟨_,rfl⟩;have HP:Hid (p=(P:Int)):=hpp;rw[←hpp];have hp0:0<p∧p<2147483648:=(by omega);clear hpp;go_enter Tryd.func66,Tryd.ntmps66;go_upto_region 1 with fail;refine wp_world (fun w1=>Below w.heap.size w w1∧w1.heap.size=w.heap.size+1∧w1.cell? ⟨w.heap.size,0,none⟩=some (.int .i64 p)) ⟨bel1 _ _,by simp,by simp[go_sem]⟩ ?_;rintro w1 ⟨hB1,hls,c0⟩;obtain⟨b4,hb4⟩:∃x,x=w.heap.size:=⟨_,rfl⟩;rw[←hb4]at c0 hls⊢;have hl4:b4<w1.heap.size:=(by omega);have HLS:Hid (w1.heap.size=b4+1):=hls;clear hls;have H4:Hid (b4=w.heap.size):=hb4;have HB1:Hid (Below w.heap.size w w1):=hB1;clear hB1 hb4;go_wp2;go_loopw [5,6] (fun s i wr=>RtR w1 (b4+1) P L x s i wr) (fun _ i _=>L-(Lib.intOf i).toNat)
 case atStart=>exact⟨0,[],0,rfl,by simp,by omega,OWI.nil _ _,rfl,fun j hj=>by omega,fun h=>by omega,Below.refl _ _,by omega⟩
 case round=>
  obtain⟨k,zs,t,rfl,ht,htl,hO,hzl,hzs,hk1,hB,hk2⟩:=hrel;have HO:Hid (OWI wr (b4+1) _ zs):=hO;have HZL:Hid (zs.length=k):=hzl;have HZS:Hid (∀j,j<k→zs.getD j 0=x.getD (P*j) 0):=hzs;have HK1:Hid (0<k→P*(k-1)<L):=hk1;have HB:Hid (Below w1.heap.size w1 wr):=hB;have HT:Hid (t=((P*k:Nat):Int)):=ht;have d0:wr.cell? ⟨b4,0,none⟩=some (.int .i64 p):=(hB.cell (p:=⟨b4,0,none⟩) hl4).trans c0;clear hO hzl hzs hk1 hB ht c0;by_cases hkn:t<(L:Int)
  ·obtain⟨s,hs⟩:∃s:Nat,t=(s:Int):=⟨P*k,HT.out⟩;have HS:Hid (s=P*k):=(by have:=HT.out;show _=_;omega);subst hs;obtain rfl:=ha (by omega);clear ha;obtain⟨X,hX⟩:∃X,x.getD s 0=X:=⟨_,rfl⟩;have cs:wr.cell? ⟨b,o+s,none⟩=some (.int .i64 X):=(by rw[←hX];exact((HA.out.below HB1.out).below HB.out) s (by omega));have HX:Hid (x.getD s 0=X):=hX;clear hX;have HOq:=fun Y=>HO.out.below (bel1 wr Y);have hzl:zs.length≤1048576:=(by have:=HZL.out;omega);have hws:b4+1≤wr.heap.size:=(by have:=HB.out.size;omega);have hb4r:b4<wr.heap.size:=hws;have hw1:wrap64 ((s:Int)+p)=(s:Int)+p:=wrap_in (by omega) (by omega);have HK3:Hid (k<1000):=(by have h1:=HS.out;have h2:=Nat.le_mul_of_pos_left k hp.1;show _<_;omega);have HTL:Hid ((s:Int)<3000000000):=htl;clear htl;go_wp2_with (refine wpList_appendI (by rfl) _ _ (by rfl) (by rfl) (HOq _) _ _ X (by rfl) (by simp[go_sem]) hzl (by simp <;> omega) ?_;intro v' w' h1 h2;have d5:w'.cell? ⟨b4,0,none⟩=some (.int .i64 p):=(h2.cell (p:=⟨b4,0,none⟩) (Nat.lt_succ_self _)).trans (((bel1 wr _).cell (p:=⟨b4,0,none⟩) hb4r).trans d0));have HZN:Hid (∀j,j<k+1→(zs++[X]).getD j 0=x.getD (P*j) 0):=fun j hj=>by
    have h9:=HZL.out;rcases Nat.lt_or_ge j k with h|h
    ·have e:(zs++[X]).getD j 0=zs.getD j 0:=(by simp[List.getD_eq_getElem?_getD,List.getElem?_append,show j<zs.length by omega]);rw[e,HZS.out j h]
    ·obtain rfl:j=k:=(by omega);have e:(zs++[X]).getD j 0=X:=(by simp[List.getD_eq_getElem?_getD,List.getElem?_append,h9]);rw[e,←HS.out,HX.out]
   have HO5:Hid (OWI w' (b4+1) v' (zs++[X])):=h1;have HB5:Hid (Below w1.heap.size w1 w'):=(HB.out.alloc HB.out.size _).trans (h2.mono (by have:=HLS.out;omega));have HREL:Hid (RtR w1 (b4+1) P L x v' (.int .i64 ((s:Int)+p)) w'):=by
    refine⟨k+1,zs++[X],(s:Int)+p,rfl,?_,by have:=HTL.out;omega,HO5.out,by rw[List.length_append,HZL.out];rfl,HZN,fun _=>?_,HB5.out,by have:=HK3.out;omega⟩
    ·rw[HS.out,HP.out,Nat.mul_add,Nat.mul_one];push_cast;rfl
    ·rw[Nat.add_sub_cancel,←HS.out];omega
   exact⟨HREL.out,by simp only[Lib.intOf];omega⟩
  ·have hts:0≤t:=(by have:=HT.out;omega);go_wp2;have R:Hid (RootPost w P x (.returned u5) wr):=by
    refine .mk u5 zs rfl (sr_of_row (OWI.mono HO.out (by have:=H4.out;omega))) (HB1.out.trans (HB.out.mono HB1.out.size)) (fun j hj=>HZS.out j (by rw[←HZL.out];exact hj)) ?_ (fun h=>?_)
    ·rw[HL.out,HZL.out];have:=HT.out;omega
    ·rw[HL.out,HZL.out];exact HK1.out (by rw[←HZL.out];exact h)
   refine bodyPost_ret (v:=u5) (by simp[results,go_sem,loadVar]) rfl ?_;exact R.out
end Go.Proofs.YtffdemplaodbcaaDoor
