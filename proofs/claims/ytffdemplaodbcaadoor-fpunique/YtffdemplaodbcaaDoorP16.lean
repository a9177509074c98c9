/- A part of the proof: PM, PN, PO, PQ. -/
import Derived.Test.YtffdemplaodbcaaDoorP15
import Derived.Deep.AppendLies
set_option linter.all false
namespace Go.Proofs.YtffdemplaodbcaaDoor
open Go Go.Proofs Go.RowKit Go.Rad
def OWI (w:World) (B:Nat) (v:Value) (xs:List Int):Prop:=w.ownsRow B 3 1 v xs.length (xs.map (Value.int .i64))
theorem OWI.nil (w:World) (B:Nat):OWI w B (.slice none 0 0) []:=⟨rfl, .inl ⟨rfl,rfl⟩⟩
theorem OWI.below {w w':World} {B:Nat} {v:Value} {xs:List Int} (h:OWI w B v xs) (hb:Below w.heap.size w w'):OWI w' B v xs:=by
 refine⟨h.1,?_⟩;rcases h.2 with h1|⟨g,cap,cur,hv,hB,hg,h2⟩
 ·exact .inl h1
 ·exact .inr ⟨g,cap,cur,hv,hB,(hb.block g (Array.getElem?_eq_some_iff.1 hg).1).trans hg,h2⟩
theorem wpList_appendI {w:World} {ops:Array Oper} {rest:List Oper} {o:Oper} {a:Act} {Q:Exit→Act→World→Prop} (hgd:o.guard=none) (s x:Operand)
 (ho:o.op= .call {callee:= .builtin .append,args:=#[s,x],argTypes:=#[22,22]}) {B:Nat} {v:Value} {xs:List Int} (hs:a.eval s=v) (hown:OWI w B v xs) (g7 m7:Nat) (c:Int)
 (hx:a.eval x= .slice (some ⟨g7,0,none⟩) 1 m7) (hc:w.cell? ⟨g7,0,none⟩=some (.int .i64 c)) (hl:xs.length≤1048576) (hB:B≤w.heap.size)
 (h:∀v' w',OWI w' B v' (xs++[c])→Below B w w'→wpList Tryd.prog ops Q rest (a.put o.dst v') w'):wpList Tryd.prog ops Q (o::rest) a w:=by
 obtain⟨i,hi0,hi1⟩:=Option.map_eq_some_iff.1 info3;simp only[Prod.mk.injEq]at hi1;obtain⟨z0,z1,z2⟩:=hi1;obtain⟨g,cap,w',hrun,hrow,hgr,hg,hlt⟩:=run_append_lies (P:=Tryd.prog) w 22 o.type B 3 i (.int .i64 0) 1 8 Tryd.underlying22 hi0 z0 z1 z2 rfl (by omega) v xs.length _ hown ⟨g7,0,none⟩ 1 m7 [.int .i64 c] rfl
  (fun j u hj=>by
   cases j with
   |zero=>simp at hj;subst hj;exact hc
   |succ j=>simp at hj) (fun u hu=>by simp at hu;subst hu;rfl) (by omega) (by unfold maxLen;omega) (by omega) hB w.heap.size rfl
 refine wpList_plain hgd fun K hK=>?_;unfold Oper.wp execOp;simp only[ho,resolve,invoke,builtin,Sem.run_bind,Sem.run_pure,Result.andThen_ok,List.map_toArray,List.map_cons,List.map_nil,hs,hx,hrun];refine hK _ _ (h _ _ ?_ ?_)
 ·unfold OWI;rw[List.length_append,List.map_append];exact hrow
 ·refine⟨hgr.os,hgr.tape,hgr.output,hgr.size,fun k hk=>hgr.block k (by omega) (fun he=>?_)⟩;rcases hown.2 with⟨hv,_⟩|⟨g',cap',cur,hv,hb,_⟩
  ·rw[hv]at he;cases he
  ·rw[hv]at he;have:k=g':=(by simpa [Value.ownBlock]using he);omega
theorem mat_nat (w:World) (v:Value) (xs:List Int) (k:Nat) (h:VW w v xs) (hl:xs.length≤1048576):
 Calls Tryd.prog 38 #[v, .int .i64 k] w fun e w'=>e= .returned (.int .i64 (xs.getD k 0))∧Below w.heap.size w w':=by
 have h1:=mat_any w v xs k h hl;rw[if_neg (by omega),Int.toNat_natCast]at h1;exact h1
set_option maxRecDepth 10000 in
set_option maxHeartbeats 1000000 in
theorem mmul_any (w:World) (v1 v2:Value) (xs ys:List Int) (p:Int) (h1:VW w v1 xs) (h2:VW w v2 ys) (hp:0<p∧p<2147483648) (hx:∀j,0≤xs.getD j 0∧xs.getD j 0<p) (hy:∀j,0≤ys.getD j 0∧ys.getD j 0<p)
 (hl1:xs.length≤1000) (hl2:ys.length≤1000):
 Calls Tryd.prog 15 #[v1,v2, .int .i64 p] w fun e w'=>∃u z,e= .returned u∧SR w' w.heap.size u z∧Below w.heap.size w w'∧Nrm p (row (pmul xs ys)) z:=by
 have C1:=fun wx (hb:Below w.heap.size w wx) k=>mat_nat wx v1 xs k (h1.below hb) (by omega);have C2:=fun wx (hb:Below w.heap.size w wx) k=>mat_nat wx v2 ys k (h2.below hb) (by omega);obtain⟨a,b,o,c,rfl,-,-⟩:=h1;obtain⟨a2,b2,o2,c2,rfl,-,-⟩:=h2;have HX:Hid (∀j,0≤xs.getD j 0∧xs.getD j 0<p):=hx;have HY:Hid (∀j,0≤ys.getD j 0∧ys.getD j 0<p):=hy;obtain⟨n1,hn1⟩:∃n,xs.length=n:=⟨_,rfl⟩;obtain⟨n2,hn2⟩:∃n,ys.length=n:=⟨_,rfl⟩;rw[hn1]at C1 hl1⊢;rw[hn2]at C2 hl2⊢;have HN:Hid (xs.length=n1∧ys.length=n2):=⟨hn1,hn2⟩;clear hx hy hn1 hn2;go_enter Tryd.func15,Tryd.ntmps15;go_wp2;go_loopw [7,8] (fun s i wr=>∃(k:Nat) (zs:List Int),k≤n1+n2∧i= .int .i64 k∧OWI wr w.heap.size s zs∧zs.length=k∧(∀j,j<k→zs.getD j 0=row (pmul xs ys) j%p)∧Below w.heap.size w wr) (fun _ i _=>n1+n2-(Lib.intOf i).toNat)
 case atStart=>exact⟨0,[],by omega,rfl,OWI.nil _ _,rfl,fun j hj=>by omega,Below.refl _ _⟩
 case round=>
  obtain⟨k,zs,hk,rfl,hO,hzl,hzs,hB⟩:=hrel;have HO:Hid (OWI wr w.heap.size _ zs):=hO;have HZL:Hid (zs.length=k):=hzl;have HZS:Hid (∀j,j<k→zs.getD j 0=row (pmul xs ys) j%p):=hzs;have HB:Hid (Below w.heap.size w wr):=hB;clear hO hzl hzs hB;by_cases hkn:k<n1+n2
  ·have hki:(k:Int)<(n1:Int)+(n2:Int):=(by omega);obtain⟨wo,rfl⟩:∃x,x=wr:=⟨_,rfl⟩;go_wp2;go_loopw [9,10] (fun s i wq=>∃(m:Nat) (S:Int),m≤k+1∧i= .int .i64 m∧s= .int .i64 S∧S=smp xs ys k m%p∧Below wo.heap.size wo wq) (fun _ i _=>k+1-(Lib.intOf i).toNat)
   case atStart=>exact⟨0,0,by omega,rfl,rfl,by show(0:Int)=0%p;simp,Below.refl _ _⟩
   case round=>
    obtain⟨m,S,hm,rfl,rfl,hS,hB⟩:=hrel;have hSb:0≤S∧S<p:=(by rw[hS];exact⟨Int.emod_nonneg _ (by omega),Int.emod_lt_of_pos _ (by omega)⟩);have HS:Hid (S=smp xs ys k m%p):=hS;have HBq:Hid (Below wo.heap.size wo wr):=hB;have HBw:Hid (Below w.heap.size w wr):=HB.out.trans (hB.mono HB.out.size);clear hS hB;by_cases hmk:m≤k
    ·have hmi:(m:Int)≤(k:Int):=(by omega);have hkm:(k:Int)-(m:Int)=((k-m:Nat):Int):=(by omega);go_wp2_with (go_at_call 38;fail);refine(C1 _ (by first|exact HBw.out|exact HBw.out.drew) m).mono ?_;rintro e w1 ⟨rfl,hb1⟩;have HB1:Hid (Below w.heap.size w w1):=HBw.out.trans (hb1.mono HBw.out.size);have HB1q:Hid (Below wo.heap.size wo w1):=HBq.out.trans (hb1.mono HBq.out.size);have hXb:=HX.out m;have hYb:=HY.out (k-m);have CC:=C2 w1 HB1.out (k-m);obtain⟨X,hX⟩:∃X,xs.getD m 0=X:=⟨_,rfl⟩;obtain⟨Y,hY⟩:∃Y,ys.getD (k-m) 0=Y:=⟨_,rfl⟩;rw[hX]at hXb⊢;rw[hY]at hYb CC;have hZb:=sq_lt hXb.1 (by omega) hYb.1 (by omega);obtain⟨Z,hZ⟩:∃Z,X*Y=Z:=⟨_,rfl⟩;rw[hZ]at hZb;have HXYZ:Hid (xs.getD m 0*ys.getD (k-m) 0=Z):=(by show _=_;rw[hX,hY,hZ]);clear hb1 hX hY;go_wp2_with (go_at_call 38;fail);refine CC.mono ?_;rintro e w2 ⟨rfl,hb2⟩;have HB2q:Hid (Below wo.heap.size wo w2):=HB1q.out.trans (hb2.mono HB1q.out.size);have hw1:wrap64 Z=Z:=wrap_in hZb.1 (by omega);have hw2:wrap64 (S+Z)=S+Z:=wrap_in (by omega) (by omega);have hnn:0≤S+Z:=(by omega);obtain⟨T,hT⟩:∃T,(S+Z)%p=T:=⟨_,rfl⟩;have hTb:0≤T∧T<p:=(by rw[←hT];exact⟨Int.emod_nonneg _ (by omega),Int.emod_lt_of_pos _ (by omega)⟩);have hw3:wrap64 T=T:=wrap_in hTb.1 (by omega);have HT:Hid (T=smp xs ys k (m+1)%p):=(by show _=(smp xs ys k m+xs.getD m 0*ys.getD (k-m) 0)%p;rw[←hT,HS.out,HXYZ.out,Int.emod_add_emod]);clear hb2 CC;go_wp2
     first
     |exact⟨⟨m+1,T,by omega,by first|rfl|congr 1,congrArg (Value.int .i64) hT,HT.out,by first|exact HB2q.out|exact HB2q.out.drew⟩,by simp only[Lib.intOf];omega⟩
     |(
      go_roundw
      case rel=>exact⟨m+1,T,by omega,by first|rfl|congr 1,congrArg (Value.int .i64) hT,HT.out,by first|exact HB2q.out|exact HB2q.out.drew⟩
      case measure=>simp only[Lib.intOf];omega)
    ·obtain rfl:m=k+1:=(by omega);have hmi:¬((k:Int)+1≤(k:Int)):=(by omega);rw[show((k+1:Nat):Int)=(k:Int)+1 by omega];have HOq:=fun X=>(HO.out.below HBq.out).below (bel1 wr X);have hzl:zs.length≤1048576:=(by have:=HZL.out;omega);have hws:=HBw.out.size;go_wp2_with (refine wpList_appendI (by rfl) _ _ (by rfl) (by rfl) (HOq _) _ _ S (by rfl) (by simp[go_sem]) hzl (by simp;omega) ?_;intro v' w' h1 h2);have HE:∀j,j<k+1→(zs++[S]).getD j 0=row (pmul xs ys) j%p:=fun j hj=>by
      rcases Nat.lt_or_ge j k with h|h
      ·have e:(zs++[S]).getD j 0=zs.getD j 0:=(by have:=HZL.out;simp[List.getD_eq_getElem?_getD,List.getElem?_append,show j<zs.length by omega]);rw[e,HZS.out j h]
      ·obtain rfl:j=k:=(by omega);have e:(zs++[S]).getD j 0=S:=(by have:=HZL.out;simp[List.getD_eq_getElem?_getD,List.getElem?_append,this]);rw[e,HS.out,smp_row]
     exact⟨⟨k+1,zs++[S],by omega,by first|rfl|congr 1,h1,by rw[List.length_append,HZL.out];rfl,HE,(HBw.out.alloc HBw.out.size _).trans h2⟩,by simp only[Lib.intOf];omega⟩
  ·obtain rfl:k=n1+n2:=(by omega);have hki:¬((n1:Int)+(n2:Int)<(n1:Int)+(n2:Int)):=(by omega);rw[show((n1+n2:Nat):Int)=(n1:Int)+(n2:Int)by omega];go_wp2_with (go_at_call 39;fail);refine(made_any wr w.heap.size _ zs (sr_of_row HO.out) (by have:=HZL.out;omega)).mono ?_;rintro e w5 ⟨u,z,rfl,hS,hb,ht⟩;have R:Hid (∃u' z,Ending.returned u= .returned u'∧SR w5 w.heap.size u' z∧Below w.heap.size w w5∧Nrm p (row (pmul xs ys)) z):=by
    refine⟨u,z,rfl,hS,HB.out.trans (hb.mono HB.out.size),ht.nrm fun j=>?_⟩;rcases Nat.lt_or_ge j (n1+n2)with h|h
    ·exact HZS.out j h
    ·rw[getD_of_ge zs j (by have:=HZL.out;omega),row_pmul_ge xs ys j (by have:=HN.out;omega)];simp
   clear hS hb ht;go_wp2;refine bodyPost_ret (v:=u) (by simp[results,go_sem,loadVar]) rfl ?_;exact R.out
end Go.Proofs.YtffdemplaodbcaaDoor
namespace Go.Proofs.YtffdemplaodbcaaDoor
open Go Go.Proofs Go.RowKit Go.Rad
set_option maxRecDepth 10000 in
set_option maxHeartbeats 1000000 in
theorem madd_any (w:World) (v1 v2:Value) (xs ys:List Int) (p:Int) (h1:VW w v1 xs) (h2:VW w v2 ys) (hp:0<p∧p<2147483648) (hx:∀j,0≤xs.getD j 0∧xs.getD j 0<p) (hy:∀j,0≤ys.getD j 0∧ys.getD j 0<p)
 (hl1:xs.length≤1000) (hl2:ys.length≤1000):
 Calls Tryd.prog 17 #[v1,v2, .int .i64 p] w fun e w'=>∃u z,e= .returned u∧SR w' w.heap.size u z∧Below w.heap.size w w'∧Nrm p (fun j=>row xs j+row ys j) z:=by
 have C1:=fun wx (hb:Below w.heap.size w wx) k=>mat_nat wx v1 xs k (h1.below hb) (by omega);have C2:=fun wx (hb:Below w.heap.size w wx) k=>mat_nat wx v2 ys k (h2.below hb) (by omega);obtain⟨a,b,o,c,rfl,-,-⟩:=h1;obtain⟨a2,b2,o2,c2,rfl,-,-⟩:=h2;have HX:Hid (∀j,0≤xs.getD j 0∧xs.getD j 0<p):=hx;have HY:Hid (∀j,0≤ys.getD j 0∧ys.getD j 0<p):=hy;obtain⟨n1,hn1⟩:∃n,xs.length=n:=⟨_,rfl⟩;obtain⟨n2,hn2⟩:∃n,ys.length=n:=⟨_,rfl⟩;rw[hn1]at C1 hl1⊢;rw[hn2]at C2 hl2⊢;have HN:Hid (xs.length=n1∧ys.length=n2):=⟨hn1,hn2⟩;clear hx hy hn1 hn2;go_enter Tryd.func17,Tryd.ntmps17;go_wp2;go_loopw [7,8] (fun s i wr=>∃(k:Nat) (zs:List Int),k≤n1+n2∧i= .int .i64 k∧OWI wr w.heap.size s zs∧zs.length=k∧(∀j,j<k→zs.getD j 0=(row xs j+row ys j)%p)∧Below w.heap.size w wr) (fun _ i _=>n1+n2-(Lib.intOf i).toNat)
 case atStart=>exact⟨0,[],by omega,rfl,OWI.nil _ _,rfl,fun j hj=>by omega,Below.refl _ _⟩
 case round=>
  obtain⟨k,zs,hk,rfl,hO,hzl,hzs,hB⟩:=hrel;have HO:Hid (OWI wr w.heap.size _ zs):=hO;have HZL:Hid (zs.length=k):=hzl;have HZS:Hid (∀j,j<k→zs.getD j 0=(row xs j+row ys j)%p):=hzs;have HB:Hid (Below w.heap.size w wr):=hB;clear hO hzl hzs hB;by_cases hkn:k<n1∨k<n2
  ·have STEP:Hid (∀(W:World) (A:Act→World→Prop),True):=fun _ _=>trivial;have hXb:=HX.out k;have hYb:=HY.out k;have CX:=C1;have CY:=C2;obtain⟨X,hX⟩:∃X,xs.getD k 0=X:=⟨_,rfl⟩;obtain⟨Y,hY⟩:∃Y,ys.getD k 0=Y:=⟨_,rfl⟩;have D1:=fun wx hb=>C1 wx hb k;have D2:=fun wx hb=>C2 wx hb k;rw[hX]at D1 hXb;rw[hY]at D2 hYb;have HXY:Hid (row xs k=X∧row ys k=Y):=⟨by rw[row_getD,hX],by rw[row_getD,hY]⟩;have hw2:wrap64 (X+Y)=X+Y:=wrap_in (by omega) (by omega);have hnn:0≤X+Y:=(by omega);obtain⟨T,hT⟩:∃T,(X+Y)%p=T:=⟨_,rfl⟩;have hTb:0≤T∧T<p:=(by rw[←hT];exact⟨Int.emod_nonneg _ (by omega),Int.emod_lt_of_pos _ (by omega)⟩);have hw3:wrap64 T=T:=wrap_in hTb.1 (by omega);have HT:Hid ((row xs k+row ys k)%p=T):=(by show _=_;rw[HXY.out.1,HXY.out.2,hT]);have HE:Hid (∀j,j<k+1→(zs++[T]).getD j 0=(row xs j+row ys j)%p):=fun j hj=>by
    have:=HZL.out;rcases Nat.lt_or_ge j k with h|h
    ·have e:(zs++[T]).getD j 0=zs.getD j 0:=(by simp[List.getD_eq_getElem?_getD,List.getElem?_append,show j<zs.length by omega]);rw[e,HZS.out j h]
    ·obtain rfl:j=k:=(by omega);have e:(zs++[T]).getD j 0=T:=(by simp[List.getD_eq_getElem?_getD,List.getElem?_append,this]);rw[e,HT.out]
   clear hX hY CX CY STEP;have hk1:(k:Int)<(n1:Int)∨((n1:Int)≤(k:Int)∧(k:Int)<(n2:Int)):=(by omega);have hkm:k<n1+n2:=(by omega);rcases hk1 with hk1|⟨hk0,hk1⟩
   all_goals
    go_wp2_with (go_at_call 38;fail);refine(D1 _ (by first|exact HB.out|exact HB.out.drew)).mono ?_;rintro e w1 ⟨rfl,hb1⟩;have HB1:Hid (Below w.heap.size w w1):=HB.out.trans (hb1.mono HB.out.size);have HO1:Hid (OWI w1 w.heap.size _ zs):=HO.out.below hb1;clear hb1;go_wp2_with (go_at_call 38;fail);refine(D2 _ (by first|exact HB1.out|exact HB1.out.drew)).mono ?_;rintro e w2 ⟨rfl,hb2⟩;have HB2:Hid (Below w.heap.size w w2):=HB1.out.trans (hb2.mono HB1.out.size);have HO2:=fun X=>(HO1.out.below hb2).below (bel1 w2 X);have hzl:zs.length≤1048576:=(by have:=HZL.out;omega);have hws:=HB2.out.size;clear hb2;go_wp2_with (refine wpList_appendI (by rfl) _ _ (by rfl) (by rfl) (HO2 _) _ _ T (by rfl) (by simp[go_sem]) hzl (by simp;omega) ?_;intro v' w' h1 h2);exact⟨⟨k+1,zs++[T],by omega,by first|rfl|congr 1,h1,by rw[List.length_append,HZL.out];rfl,HE.out,(HB2.out.alloc HB2.out.size _).trans h2⟩,by simp only[Lib.intOf];omega⟩
  ·have hk1:(n1:Int)≤(k:Int):=(by omega);have hk2:(n2:Int)≤(k:Int):=(by omega);go_wp2_with (go_at_call 39;fail);refine(made_any wr w.heap.size _ zs (sr_of_row HO.out) (by have:=HZL.out;omega)).mono ?_;rintro e w5 ⟨u,z,rfl,hS,hb,ht⟩;have R:Hid (∃u' z,Ending.returned u= .returned u'∧SR w5 w.heap.size u' z∧Below w.heap.size w w5∧Nrm p (fun j=>row xs j+row ys j) z):=by
    refine⟨u,z,rfl,hS,HB.out.trans (hb.mono HB.out.size),ht.nrm fun j=>?_⟩;rcases Nat.lt_or_ge j k with h|h
    ·exact HZS.out j h
    ·have:=HN.out;have:=HZL.out;rw[getD_of_ge zs j (by omega),row_getD,row_getD,getD_of_ge xs j (by omega),getD_of_ge ys j (by omega)];simp
   clear hS hb ht;go_wp2;refine bodyPost_ret (v:=u) (by simp[results,go_sem,loadVar]) rfl ?_;exact R.out
end Go.Proofs.YtffdemplaodbcaaDoor
namespace Go.Proofs.YtffdemplaodbcaaDoor
open Go Go.Proofs Go.RowKit Go.Rad
inductive ScPost (w:World) (p:Int) (xs:List Int) (e:Ending) (w':World):Prop
 |mk (u:Value) (z:List Int) (r:Int) (he:e= .returned u) (hS:SR w' w.heap.size u z) (hb:Below w.heap.size w w') (hl:z.length=xs.length) (hz:∀j,z.getD j 0=xs.getD j 0*r%p) (h0:0<r) (h1:r<p) (h2:r*xs.getD (xs.length-1) 0%p=1)
set_option maxRecDepth 10000 in
set_option maxHeartbeats 1000000 in
theorem mscaled_any (w:World) (v:Value) (xs:List Int) (p r0:Int) (h:VW w v xs) (hp:1<p∧p<2147483648) (hx:∀j,0≤xs.getD j 0∧xs.getD j 0<p) (hl1:xs.length≤1000) (h0:0<xs.length)
 (hr:0<r0∧r0<p∧r0*xs.getD (xs.length-1) 0%p=1):
 Calls Tryd.prog 40 #[v, .int .i64 p] w fun e w'=>ScPost w p xs e w':=by
 obtain⟨a,b,o,c,rfl,ha,hA⟩:=h;obtain rfl:=ha h0;obtain⟨n,hn⟩:∃n,xs.length=n:=⟨_,rfl⟩;rw[hn]at hA hl1 h0 hr⊢;have HN:Hid (xs.length=n):=hn;have HA:Hid (AR w b o n (fun j=>xs.getD j 0)):=hA;have HX:Hid (∀j,0≤xs.getD j 0∧xs.getD j 0<p):=hx;obtain⟨d,hd⟩:∃d,xs.getD (n-1) 0=d:=⟨_,rfl⟩;have hdb:=hx (n-1);rw[hd]at hr hdb;have HD:Hid (xs.getD (n-1) 0=d):=hd;have HR0:Hid (r0*d%p=1):=hr.2.2;have hr0:0<r0∧r0<p:=⟨hr.1,hr.2.1⟩;clear hx hn hA ha hd hr;obtain⟨m,rfl⟩:∃m,n=m+1:=⟨n-1,by omega⟩;have hsm:((m:Int)+1==0)=false:=(by simpa using (show ¬(m:Int)+1=0 by omega));have hsm':¬(m:Int)+1=0:=(by omega);go_enter Tryd.func40,Tryd.ntmps40;go_wp2;go_loopw [5] (fun s wr=>∃r:Int,s= .int .i64 r∧1≤r∧r≤r0∧Below w.heap.size w wr) (fun s _=>(r0-Lib.intOf s).toNat)
 case atStart=>exact⟨1,rfl,by omega,by omega,Below.refl _ _⟩
 case round=>
  obtain⟨r,rfl,hr1,hr2,hB⟩:=hrel;have HB:Hid (Below w.heap.size w wr):=hB;have cd:wr.cell? ⟨b,o+m,none⟩=some (.int .i64 d):=(by have:=(HA.out.below hB) m (by omega);rw[this];show some (Value.int _ (xs.getD m 0))=_;rw[←HD.out];rfl);clear hB;have hm1:((m:Int)+1-1)=(m:Int):=(by omega);have hmm:(m:Int)<(m:Int)+1:=(by omega);have hZb:=sq_lt (by omega:0≤r) (by omega) hdb.1 (by omega);obtain⟨Z,hZ⟩:∃Z,r*d=Z:=⟨_,rfl⟩;rw[hZ]at hZb;have hw1:wrap64 Z=Z:=wrap_in hZb.1 (by omega);obtain⟨T,hT⟩:∃T,Z%p=T:=⟨_,rfl⟩;have hTb:0≤T∧T<p:=(by rw[←hT];exact⟨Int.emod_nonneg _ (by omega),Int.emod_lt_of_pos _ (by omega)⟩);have hw3:wrap64 T=T:=wrap_in hTb.1 (by omega);have HT:Hid (r*d%p=T):=(by show _=_;rw[hZ,hT]);by_cases h1:T=1
  ·have h1b:(T !=1)=false:=(by simpa using h1);subst h1;have HRB:Hid (0<r∧r<p):=⟨by omega,by omega⟩;have HR:Hid (r*d%p=1):=HT.out;have hrb:=HRB.out;obtain⟨wo,rfl⟩:∃x,x=wr:=⟨_,rfl⟩;go_wp2;clear cd hZ hT hZb hw1 hw3 hTb HT;go_loopw [6,7] (fun s i wq=>∃(k:Nat) (zs:List Int),k≤m+1∧i= .int .i64 k∧OWI wq w.heap.size s zs∧zs.length=k∧(∀j,j<k→zs.getD j 0=xs.getD j 0*r%p)∧Below w.heap.size w wq) (fun _ i _=>m+1-(Lib.intOf i).toNat)
   case atStart=>exact⟨0,[],by omega,rfl,OWI.nil _ _,rfl,fun j hj=>by omega,by first|exact HB.out|exact HB.out.drew⟩
   case round=>
    obtain⟨k,zs,hk,rfl,hO,hzl,hzs,hBw⟩:=hrel;have HO:Hid (OWI wr w.heap.size _ zs):=hO;have HZL:Hid (zs.length=k):=hzl;have HZS:Hid (∀j,j<k→zs.getD j 0=xs.getD j 0*r%p):=hzs;have HBw:Hid (Below w.heap.size w wr):=hBw;clear hO hzl hzs hBw;by_cases hkn:k<m+1
    ·have hki:(k:Int)<(m:Int)+1:=(by omega);have hXb:=HX.out k;have ck:wr.cell? ⟨b,o+k,none⟩=some (.int .i64 (xs.getD k 0)):=(HA.out.below HBw.out) k hkn;obtain⟨X,hX⟩:∃X,xs.getD k 0=X:=⟨_,rfl⟩;rw[hX]at hXb ck;have hZb:=sq_lt hXb.1 (by omega) (by omega:0≤r) (by omega);obtain⟨Z,hZ⟩:∃Z,X*r=Z:=⟨_,rfl⟩;rw[hZ]at hZb;have hw1:wrap64 Z=Z:=wrap_in hZb.1 (by omega);obtain⟨T,hT⟩:∃T,Z%p=T:=⟨_,rfl⟩;have hTb:0≤T∧T<p:=(by rw[←hT];exact⟨Int.emod_nonneg _ (by omega),Int.emod_lt_of_pos _ (by omega)⟩);have hw3:wrap64 T=T:=wrap_in hTb.1 (by omega);have HE:Hid (∀j,j<k+1→(zs++[T]).getD j 0=xs.getD j 0*r%p):=fun j hj=>by
      have:=HZL.out;rcases Nat.lt_or_ge j k with h|h
      ·have e:(zs++[T]).getD j 0=zs.getD j 0:=(by simp[List.getD_eq_getElem?_getD,List.getElem?_append,show j<zs.length by omega]);rw[e,HZS.out j h]
      ·obtain rfl:j=k:=(by omega);have e:(zs++[T]).getD j 0=T:=(by simp[List.getD_eq_getElem?_getD,this]);rw[e,hX,hZ,hT]
     have HO2:=fun X=>HO.out.below (bel1 wr X);have hzl:zs.length≤1048576:=(by have:=HZL.out;omega);have hws:=HBw.out.size;clear hX;go_wp2_with (refine wpList_appendI (by rfl) _ _ (by rfl) (by rfl) (HO2 _) _ _ T (by rfl) (by simp[go_sem]) hzl (by simp;omega) ?_;intro v' w' h1 h2);exact⟨⟨k+1,zs++[T],by omega,by first|rfl|congr 1,h1,by rw[List.length_append,HZL.out];rfl,HE.out,(HBw.out.alloc HBw.out.size _).trans h2⟩,by simp only[Lib.intOf];omega⟩
    ·obtain rfl:k=m+1:=(by omega);have hki:¬((m:Int)+1<(m:Int)+1):=(by omega);rw[show((m+1:Nat):Int)=(m:Int)+1 by omega];go_wp2;refine bodyPost_ret (v:=u6) (by simp[results,go_sem,loadVar]) rfl ?_;refine .mk u6 zs r rfl (sr_of_row HO.out) HBw.out (HZL.out.trans HN.out.symm) (fun j=>?_) hrb.1 hrb.2 (by rw[HN.out,Nat.add_sub_cancel];have:=HD.out;rw[Nat.add_sub_cancel]at this;rw[this];exact HR.out);rcases Nat.lt_or_ge j (m+1)with h|h
     ·exact HZS.out j h
     ·rw[getD_of_ge zs j (by have:=HZL.out;omega),getD_of_ge xs j (by have:=HN.out;omega)];simp
  ·have h1b:(T !=1)=true:=(by simpa using h1);have hlt:r<r0:=by
    rcases Int.lt_or_eq_of_le hr2 with h|h
    ·exact h
    ·exfalso;rw[h]at HT;exact h1 (HT.out.symm.trans HR0.out)
   have hw4:wrap64 (r+1)=r+1:=wrap_in (by omega) (by omega);go_wp2;exact⟨⟨r+1,rfl,by omega,by omega,by first|exact HB.out|exact HB.out.drew⟩,by simp only[Lib.intOf];omega⟩
end Go.Proofs.YtffdemplaodbcaaDoor
namespace Go.Proofs.YtffdemplaodbcaaDoor
open Go Go.Proofs Go.RowKit Go.Rad
theorem act_zeros (u:Nat→Int) (j:Nat):∀D,act (List.replicate D 0) u j=0:=by
 intro D
 induction D generalizing j with
 |zero=>rfl
 |succ D ih=>
  show 0*u j+sft (act (List.replicate D 0) u) j=0;cases j with
  |zero=>show 0*u 0+0=(0:Int);omega
  |succ j=>show 0*u (j+1)+act (List.replicate D 0) u j=0;rw[ih j];omega
theorem act_mono (u:Nat→Int) (D:Nat) (c:Int) (j:Nat):act (List.replicate D 0++[c]) u j=if D≤j then c*u (j-D) else 0:=by rw[act_app,act_zeros,List.length_replicate,Int.zero_add]
theorem rest_turn {p c:Int} {x ys z:List Int} {h:Nat→Int} {D nb:Nat} (hy:ys.length=nb) (hb:0<nb) (hD:D+nb=x.length) (h1:ys.getD (nb-1) 0=1) (hc:x.getD (x.length-1) 0=c)
 (hh:∀j,h j=if D≤j∧j<D+nb then (x.getD j 0-c*ys.getD (j-D) 0)%p else x.getD j 0) (hz:Trm (lst h x.length) z):z.length<x.length∧Cg p ys (row x) (row z):=by
 have hzz:∀j,z.getD j 0=cut h x.length j:=fun j=>by rw[hz.eq,lst_getD]
 constructor
 ·have h2:=hz.len;rw[lst_length]at h2;rcases Nat.lt_or_ge z.length x.length with h3|h3
  ·exact h3
  ·exfalso;have h4:z.length=x.length:=(by omega);have h5:=hz.top (by omega);rw[hzz,h4]at h5;unfold cut at h5;rw[if_pos (by omega),hh,if_pos (by omega),hc,show x.length-1-D=nb-1 by omega,h1]at h5;exact h5 (by simp)
 ·refine⟨List.replicate D 0++[c],fun j=>?_⟩;rw[act_mono,row_getD,row_getD,row_getD,hzz];unfold cut;by_cases h2:j<x.length
  ·rw[if_pos h2,hh];by_cases h3:D≤j
   ·rw[if_pos h3,if_pos (by omega),Int.emod_add_emod];congr 1;omega
   ·rw[if_neg h3,if_neg (by omega),Int.add_zero]
  ·rw[if_neg h2,getD_of_ge x j (by omega),getD_of_ge ys (j-D) (by omega)]
   split <;> simp
theorem wpList_appendC {w:World} {ops:Array Oper} {rest:List Oper} {o:Oper} {a:Act} {Q:Exit→Act→World→Prop} (hgd:o.guard=none) (s x:Operand)
 (ho:o.op= .call {callee:= .builtin .append,args:=#[s,x],argTypes:=#[22,22]}) (hs:a.eval s= .slice none 0 0) (b of m c:Nat) (xs:List Int)
 (hx:a.eval x= .slice (some ⟨b,of,none⟩) m c) (hxl:xs.length=m) (hc:∀j,j<m→w.cell? ⟨b,of+j,none⟩=some (.int .i64 (xs.getD j 0))) (hm:0<m) (hl:m≤1048576)
 (h:∀v' w',OWI w' w.heap.size v' xs→Below w.heap.size w w'→wpList Tryd.prog ops Q rest (a.put o.dst v') w'):wpList Tryd.prog ops Q (o::rest) a w:=by
 obtain⟨i,hi0,hi1⟩:=Option.map_eq_some_iff.1 info3;simp only[Prod.mk.injEq]at hi1;obtain⟨z0,z1,z2⟩:=hi1;obtain⟨g,cap,w',hrun,hrow,hgr,hg,hlt⟩:=run_append_lies (P:=Tryd.prog) w 22 o.type w.heap.size 3 i (.int .i64 0) 1 8 Tryd.underlying22 hi0 z0 z1 z2 rfl (by omega) (.slice none 0 0) 0 [] ⟨rfl, .inl ⟨rfl,rfl⟩⟩ ⟨b,of,none⟩ m c (xs.map (Value.int .i64)) (by simp[hxl])
  (fun j u hj=>by
   rw[List.getElem?_map]at hj;have hjm:j<m:=by
    rcases Nat.lt_or_ge j m with h9|h9
    ·exact h9
    ·rw[List.getElem?_eq_none (by omega)]at hj;cases hj
   have h9:=hc j hjm;rw[List.getD_eq_getElem?_getD]at h9;cases h8:xs[j]? with
   |none=>rw[h8]at hj;cases hj
   |some t=>rw[h8]at hj h9;cases hj;rw[Addr.add_lit];exact h9) (fun u hu=>by
   obtain⟨t,_,rfl⟩:=List.mem_map.1 hu;rfl) hm (by unfold maxLen;omega) (by omega) (Nat.le_refl _) w.heap.size rfl
 refine wpList_plain hgd fun K hK=>?_;unfold Oper.wp execOp;simp only[ho,resolve,invoke,builtin,Sem.run_bind,Sem.run_pure,Result.andThen_ok,List.map_toArray,List.map_cons,List.map_nil,hs,hx,hrun];refine hK _ _ (h _ _ ?_ ?_)
 ·unfold OWI;rw[hxl,Nat.zero_add]at *;simpa using hrow
 ·exact⟨hgr.os,hgr.tape,hgr.output,hgr.size,fun k hk=>hgr.block k (by omega) (fun he=>by cases he)⟩
end Go.Proofs.YtffdemplaodbcaaDoor
