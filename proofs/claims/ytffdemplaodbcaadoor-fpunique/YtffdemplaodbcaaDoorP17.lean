/- A part of the proof: PR, QA, QB. -/
import Derived.Test.YtffdemplaodbcaaDoorP16
import Derived.Test.YtffdemplaodbcaaDoorP15
set_option linter.all false
namespace Go.Proofs.YtffdemplaodbcaaDoor
open Go Go.Proofs Go.RowKit Go.Rad
def slen:Value→Nat
 | .slice _ n _=>n
 |_=>0
theorem SR.form {w:World} {B n:Nat} {v:Value} {x:List Int} (h:SR w B v x) (hn:x.length=n) (h0:0<n):∃b o c,v= .slice (some ⟨b,o,none⟩) n c∧n≤c∧B≤b∧b<w.heap.size∧AR w b o n (fun j=>x.getD j 0)∧Free w b o n:=by
 subst hn;cases h with
 |nil a c hv hx=>subst hx;simp at h0
 |row b o c hv h0 hc hb hl hA hz=>exact⟨b,o,c,hv,hc,hb,hl,hA,hz⟩
inductive MrPost (w:World) (p:Int) (xs ys:List Int) (e:Ending) (w':World):Prop
 |mk (u:Value) (z:List Int) (he:e= .returned u) (hV:VW w' u z) (hb:Below w.heap.size w w') (hR:Res p ys (row xs) z)
set_option maxRecDepth 10000 in
set_option maxHeartbeats 4000000 in
theorem mrest_any (w:World) (v1 v2:Value) (xs ys:List Int) (p:Int) (h1:VW w v1 xs) (h2:VW w v2 ys) (hp:1<p∧p<2147483648) (hx:∀j,0≤xs.getD j 0∧xs.getD j 0<p) (hy:∀j,0≤ys.getD j 0∧ys.getD j 0<p)
 (ht:0<xs.length→xs.getD (xs.length-1) 0≠0) (hy0:0<ys.length) (hy1:ys.getD (ys.length-1) 0=1) (hl1:xs.length≤1000) (hl2:ys.length≤1000):
 Calls Tryd.prog 41 #[v1,v2, .int .i64 p] w fun e w'=>MrPost w p xs ys e w':=by
 have H1:Hid (VW w v1 xs):=h1;obtain⟨a2,b2,o2,c2,rfl,ha2,hA2⟩:=h2;obtain rfl:=ha2 hy0;obtain⟨nb,hnb⟩:∃n,ys.length=n:=⟨_,rfl⟩;rw[hnb]at hA2 hl2 hy0 hy1⊢;have HNB:Hid (ys.length=nb):=hnb;have HA2:Hid (AR w b2 o2 nb (fun j=>ys.getD j 0)):=hA2;have hb2:b2<w.heap.size:=hA2.lt hy0;have HY:Hid (∀j,0≤ys.getD j 0∧ys.getD j 0<p):=hy;have HY1:Hid (ys.getD (nb-1) 0=1):=hy1;have HX:Hid (∀j,0≤xs.getD j 0∧xs.getD j 0<p):=hx;have HT:Hid (0<xs.length→xs.getD (xs.length-1) 0≠0):=ht;have HL1:Hid (xs.length≤1000):=hl1;clear h1 ha2 hA2 hnb hy hy1 hx ht hl1;go_enter Tryd.func41,Tryd.ntmps41;go_wp2;go_loopw [0] (fun s wr=>∃x:List Int,VW wr s x∧x.length≤1000∧(∀j,0≤x.getD j 0∧x.getD j 0<p)∧(0<x.length→x.getD (x.length-1) 0≠0)∧Cg p ys (row xs) (row x)∧Below w.heap.size w wr) (fun s _=>slen s)
 case atStart=>exact⟨xs,H1.out,HL1.out,HX.out,HT.out, .refl _ _ _,Below.refl _ _⟩
 case round=>
  obtain⟨x,hV,hxl,hxb,hxt,hcg,hB⟩:=hrel;obtain⟨a,b,o,c,rfl,ha,hA⟩:=hV;obtain⟨n,hn⟩:∃n,x.length=n:=⟨_,rfl⟩;rw[hn]at ha hA hxl⊢;have HN:Hid (x.length=n):=hn;have HA:Hid (AR wr b o n (fun j=>x.getD j 0)):=hA;have HXB:Hid (∀j,0≤x.getD j 0∧x.getD j 0<p):=hxb;have HXT:Hid (0<x.length→x.getD (x.length-1) 0≠0):=hxt;have HCG:Hid (Cg p ys (row xs) (row x)):=hcg;have HB:Hid (Below w.heap.size w wr):=hB;clear hA hxb hxt hcg hB hn;by_cases hle:nb≤n
  ·have hlei:(nb:Int)≤(n:Int):=(by omega);obtain rfl:=ha (by omega);obtain⟨t,ht⟩:∃t,n=t+1:=⟨n-1,by omega⟩;have hnt:(n:Int)-1=(t:Int):=(by omega);have htn:(t:Int)<(n:Int):=(by omega);obtain⟨C,hC⟩:∃C,x.getD t 0=C:=⟨_,rfl⟩;have ct:wr.cell? ⟨b,o+t,none⟩=some (.int .i64 C):=(by rw[←hC];exact HA.out t (by omega));have hCb:=HXB.out t;rw[hC]at hCb;have HC:Hid (x.getD t 0=C):=hC;have hpos:0<n:=(by omega);have hnl:n≤1048576:=(by omega);have HTT:Hid (n=t+1):=ht;clear hC ht;obtain⟨wo,hwo⟩:∃wo,wo=wr:=⟨_,rfl⟩;go_wp2_with (refine wpList_appendC (by rfl) _ _ (by rfl) (by rfl) b o n c x (by rfl) HN.out (fun j hj=>by first|exact HA.out j hj|exact(HA.out.below (bel_drew _)) j hj) hpos hnl ?_;intro v8 w3 hO hb3;obtain⟨g,o8,c8,rfl,hc8,hBg,hgl,hA8,hz8⟩:=(sr_of_row hO).form HN.out hpos);have HB3:Hid (Below wr.heap.size wr w3):=hb3;have HBw3:Hid (Below w.heap.size w w3):=HB.out.trans (hb3.mono HB.out.size);have HG:Hid (w.heap.size≤g∧g<w3.heap.size∧b2≠g):=(by have:=HB.out.size;show _∧_∧_;omega);have HA8:Hid (AR w3 g o8 n (fun j=>x.getD j 0)):=hA8;have HZ8:Hid (Free w3 g o8 n):=hz8;have HA23:Hid (AR w3 b2 o2 nb (fun j=>ys.getD j 0)):=HA2.out.below HBw3.out;clear hb3 hBg hgl hA8 hz8 hO ct;obtain⟨D,hD⟩:∃D,D+nb=n:=⟨n-nb,by omega⟩;have HDD:Hid (D+nb=n):=hD;clear hD;obtain⟨h,he⟩:∃h:Nat→Nat→Int,∀k j,h k j=if D≤j∧j<D+k then (x.getD j 0-C*ys.getD (j-D) 0)%p else x.getD j 0:=⟨_,fun _ _=>rfl⟩;have HE:Hid (∀k j,h k j=if D≤j∧j<D+k then (x.getD j 0-C*ys.getD (j-D) 0)%p else x.getD j 0):=he;clear he hwo wo;go_loopw [9] (fun i wq=>∃k:Nat,k≤nb∧i= .int .i64 k∧Chg w3 wq g o8 (o8+n)∧AR wq g o8 n (h k)) (fun i _=>nb-(Lib.intOf i).toNat)
   case atStart=>exact⟨0,by omega,rfl,Chg.refl _ _ _ _,fun i hi=>by rw[HE.out,if_neg (by omega)];exact HA8.out i hi⟩
   case round=>
    obtain⟨k,hk,rfl,hCg,hAk⟩:=hrel;have HCg:Hid (Chg w3 wr g o8 (o8+n)):=hCg;have HAk:Hid (AR wr g o8 n (h k)):=hAk;clear hCg hAk;by_cases hkn:k<nb
    ·have hki:(k:Int)<(nb:Int):=(by omega);have hD:=HDD.out;obtain⟨s,hs⟩:∃s,s=D+k:=⟨_,rfl⟩;have hsum:(n:Int)-(nb:Int)+(k:Int)=(s:Int):=(by omega);have hsn:(s:Int)<(n:Int):=(by omega);have hsn':s<n:=(by omega);have HS:Hid (s=D+k):=hs;have HHS:Hid (h k s=x.getD s 0):=(by show _=_;rw[HE.out,if_neg (by omega)]);clear hs hD;obtain⟨X,hX⟩:∃X,x.getD s 0=X:=⟨_,rfl⟩;obtain⟨Y,hY⟩:∃Y,ys.getD k 0=Y:=⟨_,rfl⟩;have hXb:=HXB.out s;have hYb:=HY.out k;rw[hX]at hXb;rw[hY]at hYb;have cs:wr.cell? ⟨g,o8+s,none⟩=some (.int .i64 X):=(by rw[←hX,←HHS.out];exact HAk.out s hsn');have zs:wr.frozen? ⟨g,o8+s,none⟩=false:=(HCg.out.froz _).trans (HZ8.out s hsn');have ck:wr.cell? ⟨b2,o2+k,none⟩=some (.int .i64 Y):=(by rw[←hY];exact(HA23.out.chg HCg.out (fun _=> .inl HG.out.2.2)) k hkn);have hZb:=sq_lt hCb.1 (by omega) hYb.1 (by omega);obtain⟨Z,hZ⟩:∃Z,C*Y=Z:=⟨_,rfl⟩;rw[hZ]at hZb;have hw1:wrap64 Z=Z:=wrap_in hZb.1 (by omega);have hw2:wrap64 (X-Z)=X-Z:=(by unfold wrap64;omega);obtain⟨T,hT⟩:∃T,(X-Z)%p=T:=⟨_,rfl⟩;have CM:=fun w=>mod_any w (X-Z) p (by omega) hp.2;simp only[hT]at CM;have HHT:Hid (∀j,h (k+1) j=if j=s then T else h k j):=fun j=>by
      have:=HS.out;rw[HE.out,HE.out];by_cases h5:j=s
      ·subst h5;rw[if_pos (by omega),if_pos rfl,hX,show j-D=k by omega,hY,hZ,hT]
      ·rw[if_neg h5];by_cases h6:D≤j∧j<D+k
       ·rw[if_pos h6,if_pos (by omega)]
       ·rw[if_neg h6,if_neg (by omega)]
     have hgr:g<wr.heap.size:=Nat.lt_of_lt_of_le HG.out.2.1 HCg.out.size;clear hX hY hT;have hwz:IntKind.i64.wrap Z=Z:=(by rw[IntKind.wrap_i64];omega);have hwx:IntKind.i64.wrap (X-Z)=X-Z:=(by rw[IntKind.wrap_i64];omega);have hb2r:b2<wr.heap.size:=Nat.lt_of_lt_of_le (Nat.lt_of_lt_of_le hb2 HBw3.out.size) HCg.out.size;have HFIN:Hid (∀w5,Below wr.heap.size wr w5→(∃k₁:Nat,k₁≤nb∧Value.int .i64 ((k:Int)+1)= .int .i64 k₁∧Chg w3 (w5.setCell ⟨g,o8+s,none⟩ (.int .i64 T)) g o8 (o8+n)∧AR (w5.setCell ⟨g,o8+s,none⟩ (.int .i64 T)) g o8 n (h k₁))):=by
      intro w5 hb5;have cs5:w5.cell? ⟨g,o8+s,none⟩=some (.int .i64 X):=(hb5.cell (p:=⟨g,o8+s,none⟩) hgr).trans cs;refine⟨k+1,by omega,by congr 1,(HCg.out.trans (chg_of_below hb5 hgr _ _)).set (by omega) (by omega) _,fun j hj=>?_⟩;rw[HHT.out];by_cases h5:j=s
      ·subst h5;rw[if_pos rfl];exact cell_same (u:= .int .i64 X) cs5
      ·rw[if_neg h5,cell_other (.inr (by omega))];exact(HAk.out.below hb5) j hj
     go_upto_region 8 with fail
     refine wp_drawn mixed [⟨37,[],[],[8]⟩,⟨38,[],[],[10]⟩,⟨39,[],[],[8]⟩,⟨40,[],[],[10]⟩,⟨41,[2,3],[2,3],[]⟩,⟨42,[4],[2,3,4],[]⟩,⟨43,[],[],[7]⟩,⟨44,[],[],[1]⟩,⟨45,[],[],[9]⟩,⟨46,[7,8],[7,8],[]⟩,⟨47,[9],[7,8,9],[]⟩,⟨48,[6,10],[6,7,8,9,10],[]⟩,⟨49,[5,11],[2,3,4,5,6,7,8,9,10,11],[]⟩,⟨50,[],[],[2]⟩,⟨51,[12,13],[2,3,4,5,6,7,8,9,10,11,12,13],[]⟩] [] (by kernel_rfl) 56 rfl (by kernel_rfl) (fun (i:Nat) (v:Value) (wq:World)=>match i with|0=>v= .slice (some ⟨g,o8,none⟩) (n) (c8)|1=>v= .int .i64 ((s:Int))|2=>v= .slice (some ⟨g,o8,none⟩) (n) (c8)|3=>v= .int .i64 ((s:Int))|4=>v= .pointer (some ⟨g,o8+s,none⟩)|5=>v= .int .i64 (X)|6=>v= .int .i64 (C)|7=>v= .slice (some ⟨b2,o2,none⟩) (nb) (c2)|8=>v= .int .i64 ((k:Int))|9=>v= .pointer (some ⟨b2,o2+k,none⟩)|10=>v= .int .i64 (Y)|11=>v= .int .i64 (Z)|12=>v= .int .i64 (X-Z)|13=>v= .int .i64 (p)|14=>v= .int .i64 (T)|_=>True) (fun _ wq=>Below wr.heap.size wr wq) (fun wx wy=>Below wx.heap.size wx wy) (Below.refl _ _).drew (fun i v wx wy h hx=>match i,h with|0,h=>h|1,h=>h|2,h=>h|3,h=>h|4,h=>h|5,h=>h|6,h=>h|7,h=>h|8,h=>h|9,h=>h|10,h=>h|11,h=>h|12,h=>h|13,h=>h|14,h=>h|n+15,_=>trivial) ?_ ?_
     ·intro i o r ho hr L fr wx hW hL hpr hds hdef hpre hfree;clear hL hpr hds hdef
      match i,ho,hr with
      |0,ho,hr=>?_
      |1,ho,hr=>?_
      |2,ho,hr=>?_
      |3,ho,hr=>?_
      |4,ho,hr=>?_
      |5,ho,hr=>?_
      |6,ho,hr=>?_
      |7,ho,hr=>?_
      |8,ho,hr=>?_
      |9,ho,hr=>?_
      |10,ho,hr=>?_
      |11,ho,hr=>obtain rfl:=Option.some.inj ho;obtain rfl:=Option.some.inj hr;have e6:=ev_tmp (show fr.eval (.tmp 43)= .int .i64 (C)from hpre 6 (by decide) _ rfl);have e10:=ev_tmp (show fr.eval (.tmp 47)= .int .i64 (Y)from hpre 10 (by decide) _ rfl);clear hpre hfree;refine stpK rfl rfl fun K hK=>?_;go_simp;exact hK _ _ ⟨(by first|(show Value.int _ (IntKind.i64.wrap _)=_;rw[hwz])|rfl),hW,Below.refl _ _,fun h=>(List.not_mem_nil h).elim⟩
      |12,ho,hr=>obtain rfl:=Option.some.inj ho;obtain rfl:=Option.some.inj hr;have e5:=ev_tmp (show fr.eval (.tmp 42)= .int .i64 (X)from hpre 5 (by decide) _ rfl);have e11:=ev_tmp (show fr.eval (.tmp 48)= .int .i64 (Z)from hpre 11 (by decide) _ rfl);clear hpre hfree;refine stpK rfl rfl fun K hK=>?_;go_simp;exact hK _ _ ⟨(by first|(show Value.int _ (IntKind.i64.wrap _)=_;rw[hwx])|rfl),hW,Below.refl _ _,fun h=>(List.not_mem_nil h).elim⟩
      |13,ho,hr=>?_
      |14,ho,hr=>obtain rfl:=Option.some.inj ho;obtain rfl:=Option.some.inj hr;have e12:=ev_tmp (show fr.eval (.tmp 49)= .int .i64 (X-Z)from hpre 12 (by decide) _ rfl);have e13:=ev_tmp (show fr.eval (.tmp 50)= .int .i64 (p)from hpre 13 (by decide) _ rfl);clear hpre hfree;refine stpK rfl rfl fun K hK=>?_;go_simp;refine(CM wx).mono ?_;rintro e wy ⟨rfl,hb⟩;exact hK _ _ ⟨rfl,hW.trans (hb.mono hW.size),hb,fun h=>(List.not_mem_nil h).elim⟩
      |n+15,ho,hr=>exact absurd hr (by simp)
      all_goals
       obtain rfl:=Option.some.inj ho;obtain rfl:=Option.some.inj hr;simp only[List.mem_cons,List.not_mem_nil,or_false,false_imp_iff,implies_true,forall_eq_or_imp,forall_eq,List.getElem?_cons_zero,List.getElem?_cons_succ,Option.some.injEq,forall_eq',evt]at hpre hfree;have c0:=(hW.cell (p:=⟨g,o8+s,none⟩) hgr).trans cs;have c1:=(hW.cell (p:=⟨b2,o2+k,none⟩) hb2r).trans ck;refine stpK rfl rfl fun K hK=>?_ <;> (go_simp;exact hK _ _ ⟨rfl,hW,Below.refl _ _,fun h=>(List.not_mem_nil h).elim⟩)
     ·intro vs wm hvs hW1 hap0;clear hap0;have e0:vs 0= .slice (some ⟨g,o8,none⟩) (n) (c8):=hvs 0 (by decide);have e1:vs 1= .int .i64 ((s:Int)):=hvs 1 (by decide);have e2:vs 2= .slice (some ⟨g,o8,none⟩) (n) (c8):=hvs 2 (by decide);have e3:vs 3= .int .i64 ((s:Int)):=hvs 3 (by decide);have e4:vs 4= .pointer (some ⟨g,o8+s,none⟩):=hvs 4 (by decide);have e5:vs 5= .int .i64 (X):=hvs 5 (by decide);have e6:vs 6= .int .i64 (C):=hvs 6 (by decide);have e7:vs 7= .slice (some ⟨b2,o2,none⟩) (nb) (c2):=hvs 7 (by decide);have e8:vs 8= .int .i64 ((k:Int)):=hvs 8 (by decide);have e9:vs 9= .pointer (some ⟨b2,o2+k,none⟩):=hvs 9 (by decide);have e10:vs 10= .int .i64 (Y):=hvs 10 (by decide);have e11:vs 11= .int .i64 (Z):=hvs 11 (by decide);have e12:vs 12= .int .i64 (X-Z):=hvs 12 (by decide);have e13:vs 13= .int .i64 (p):=hvs 13 (by decide);have e14:vs 14= .int .i64 (T):=hvs 14 (by decide);simp only[puts,Nat.reduceAdd,e0,e1,e2,e3,e4,e5,e6,e7,e8,e9,e10,e11,e12,e13,e14,Act.put,List.setIfInBounds_toArray,List.set_cons_zero,List.set_cons_succ,List.drop_succ_cons,List.drop_zero,List.length_cons,List.length_nil];clear hvs e0 e1 e2 e3 e4 e5 e6 e7 e8 e9 e10 e11 e12 e13 e14;have HB5:Hid (Below wr.heap.size wr wm):=hW1;have cs5:wm.cell? ⟨g,o8+s,none⟩=some (.int .i64 X):=(HB5.out.cell (p:=⟨g,o8+s,none⟩) hgr).trans cs;have zs5:wm.frozen? ⟨g,o8+s,none⟩=false:=(HB5.out.frozen (p:=⟨g,o8+s,none⟩) hgr).trans zs;have HREL:Hid _:=HFIN.out wm HB5.out;clear hW1 cs ck zs CM;go_wp2;exact⟨HREL.out,by simp only[Lib.intOf];omega⟩
    ·obtain rfl:k=nb:=(by omega);have hki:¬((k:Int)<(k:Int)):=(by omega);have HBr:Hid (Below w.heap.size w wr):=HBw3.out.trans (HCg.out.below HG.out.1 HBw3.out.size);have S8:SR wr w.heap.size (.slice (some ⟨g,o8,none⟩) n c8) (lst (h k) n):=sr_lst (fun _=>rfl) hc8 HG.out.1 (Nat.lt_of_lt_of_le HG.out.2.1 HCg.out.size) HAk.out (fun i hi=>(HCg.out.froz _).trans (HZ8.out i hi));go_wp2_with (go_at_call 39;fail);refine(made_any wr w.heap.size _ _ S8 (by rw[lst_length];omega)).mono ?_;rintro e w5 ⟨u,z,rfl,hS,hb,htr⟩;have hturn:=rest_turn (p:=p) (c:=C) (x:=x) (ys:=ys) (z:=z) (h:=h k) (D:=D) (nb:=k) HNB.out hy0 (by rw[HN.out];exact HDD.out) HY1.out (by rw[HN.out,HTT.out,Nat.add_sub_cancel];exact HC.out) (HE.out k) (by rw[HN.out];exact htr);have hzb:∀j,0≤z.getD j 0∧z.getD j 0<p:=fun j=>by
      rw[htr.eq,lst_getD];unfold cut
      split
      ·rw[HE.out]
       split
       ·exact⟨Int.emod_nonneg _ (by omega),Int.emod_lt_of_pos _ (by omega)⟩
       ·exact HXB.out j
      ·omega
     have HREL:Hid ((∃x:List Int,VW w5 u x∧x.length≤1000∧(∀j,0≤x.getD j 0∧x.getD j 0<p)∧(0<x.length→x.getD (x.length-1) 0≠0)∧Cg p ys (row xs) (row x)∧Below w.heap.size w w5)∧slen u<n):=(by have h7:=HN.out;have h8:=hturn.1;refine⟨⟨z,hS.view,by omega,hzb,htr.top,HCG.out.trans hturn.2,HBr.out.trans (hb.mono HBr.out.size)⟩,?_⟩;obtain⟨a9,b9,o9,c9,rfl,_⟩:=hS.view;show z.length<n;omega);clear hS hb htr hturn hzb S8;go_wp2;exact HREL.out
  ·have hlei:¬((nb:Int)≤(n:Int)):=(by omega);have hlei2:(n:Int)<(nb:Int):=(by omega);have HP:Hid (MrPost w p xs ys (.returned (.slice a n c)) wr):=(by refine .mk _ x rfl ⟨a,b,o,c,by rw[HN.out],by rw[HN.out];exact ha,by rw[HN.out];exact HA.out⟩ HB.out ⟨by rw[HN.out,HNB.out];omega,HXB.out,HXT.out,HCG.out⟩);go_wp2;refine bodyPost_ret (v:= .slice a n c) (by simp[results,go_sem,loadVar]) rfl ?_;exact HP.out
end Go.Proofs.YtffdemplaodbcaaDoor
namespace Go.Proofs.YtffdemplaodbcaaDoor
open Go Go.Proofs Go.RowKit Go.Rad
structure IsP (p:Int) (x:List Int):Prop where
 bd:∀j,0≤x.getD j 0∧x.getD j 0<p
 top:0<x.length→x.getD (x.length-1) 0≠0
theorem Nrm.isP {p:Int} {t:Nat→Int} {z:List Int} (hp:0<p) (h:Nrm p t z):IsP p z:=⟨fun j=>by rw[←row_getD,h.eq];exact⟨Int.emod_nonneg _ (by omega),Int.emod_lt_of_pos _ hp⟩,h.top⟩
theorem Nrm.len {p:Int} {t:Nat→Int} {z:List Int} {n:Nat} (h:Nrm p t z) (ht:∀j,n≤j→t j%p=0):z.length≤n:=by
 rcases Nat.lt_or_ge n z.length with h1|h1
 ·exfalso;have h2:=h.top (by omega);rw[←row_getD,h.eq,ht _ (by omega)]at h2;exact h2 rfl
 ·exact h1
inductive IsMon (p:Int) (x z:List Int):Prop
 |nil (hx:x=[]) (hz:z=[])
 |mk (r:Int) (h0:0<x.length) (hr:0<r) (hr2:r<p) (h1:r*x.getD (x.length-1) 0%p=1) (hz:Nrm p (fun j=>r*row x j) z)
inductive MonPost (w:World) (p:Int) (x:List Int) (e:Ending) (w':World):Prop
 |mk (u:Value) (z:List Int) (he:e= .returned u) (hS:SR w' w.heap.size u z) (hb:Below w.heap.size w w') (hm:IsMon p x z)
inductive MonS (w:World) (p q:Int) (x:List Int) (b4 bn n:Nat) (wx:World):Prop
 |mk (r:Int) (h:Nat→Int) (hr0:0<r) (hr1:r<p) (hrk:∃k,x.getD (x.length-1) 0*r=1+k*p) (hS:SR wx w.heap.size (.slice (some ⟨bn,0,none⟩) n n) (lst h n)) (hB:Below w.heap.size w wx)
  (hh:∀i,0≤h i∧h i<q∧h i%p=r*x.getD i 0%p) (e0:wx.cell? ⟨b4,0,none⟩=some (.int .i64 p)) (e1:wx.cell? ⟨b4,1,none⟩=some (.int .i64 q))
set_option maxRecDepth 10000 in
set_option maxHeartbeats 2000000 in
theorem monic_any (w:World) (p q:Int) (v:Value) (x:List Int) (hv:VW w v x) (hq:q=p*p) (hp:1<p∧p<2147483648) (hx:∀j,0≤x.getD j 0∧x.getD j 0<p)
 (hg:0<x.length→Int.gcd (x.getD (x.length-1) 0) p=1) (ht:0<x.length→x.getD (x.length-1) 0≠0) (hl:x.length≤1048576):
 Calls Tryd.prog 45 #[FV p q,v] w fun e w'=>MonPost w p x e w':=by
 obtain⟨a,b,o,c,rfl,ha,hA⟩:=hv;obtain⟨n,hn⟩:∃n,x.length=n:=⟨_,rfl⟩;rw[hn]at ha hA hl hg ht⊢;have HN:Hid (x.length=n):=hn;have HA:Hid (AR w b o n (fun j=>x.getD j 0)):=hA;have HX:Hid (∀j,0≤x.getD j 0∧x.getD j 0<p):=hx;have HQ:Hid (q=p*p):=hq;have hqq:=sq_lt (by omega:(0:Int)≤p) hp.2 (by omega) hp.2;rw[←hq]at hqq;have hpq:p≤q:=(by have h9:=Int.mul_le_mul_of_nonneg_left (show 1≤p by omega) (show 0≤p by omega);rw[Int.mul_one,←hq]at h9;exact h9);clear hn hA hx hq;have hz0:n=0∨0<n:=(by omega);go_enter Tryd.func45,Tryd.ntmps45;go_upto_region 2 with (at_make;refine wpList_makeI rfl _ _ rfl _ n rfl rfl (by first|rfl|omega) (by omega) ?_;intro w3 ho3 hb3);have hB3:Below w.heap.size w w3:=(bel1 w _).trans (hb3.mono (by simp));have c0:w3.cell? ⟨w.heap.size,0,none⟩=some (.int .i64 p):=(hb3.cell (p:=⟨w.heap.size,0,none⟩) (by simp)).trans (by simp[go_sem]);have c1':w3.cell? ⟨w.heap.size,1,none⟩=some (.int .i64 q):=(hb3.cell (p:=⟨w.heap.size,1,none⟩) (by simp)).trans (by simp[go_sem]);have hl3:w.heap.size<w3.heap.size:=(by have:=hb3.size;simp at this;omega);have ho:OA w3 w.heap.size (w.heap.size+1) n (fun _=>0):=(by have h9:=ho3.mono (C:=w.heap.size) (by simp);simpa using h9);obtain⟨bn,hbn⟩:∃x,x=w.heap.size+1:=⟨_,rfl⟩;obtain⟨b4,hb4⟩:∃x,x=w.heap.size:=⟨_,rfl⟩;rw[←hbn]at ho⊢;rw[←hb4]at c0 c1' hl3⊢;have HBN:Hid (bn=w.heap.size+1∧b4=w.heap.size):=⟨hbn,hb4⟩;have HB3:Hid (Below w.heap.size w w3):=hB3;have HO:Hid (OA w3 w.heap.size bn n (fun _=>0)):=ho;clear ho3 hb3 hB3 hbn hb4 ho;by_cases h0:n=0
 ·subst h0;have hx0:x=[]:=List.length_eq_zero_iff.1 HN.out;have h00:¬(0:Int)<0:=(by omega);go_wp2_with (go_at_call 32;fail);refine(settled_zero w3 p q _ 0).mono ?_;rintro e w4 ⟨rfl,hb4⟩;have R:Hid (MonPost w p x (.returned (.slice (some ⟨bn,0,none⟩) 0 0)) w4):= .mk _ [] rfl (.nil _ 0 rfl rfl) (HB3.out.trans (hb4.mono HB3.out.size)) (.nil hx0 rfl);clear hb4;go_wp2;refine bodyPost_ret (v:= .slice (some ⟨bn,0,none⟩) 0 0) (by simp[results,go_sem,loadVar]) rfl ?_;exact R.out
 ·have hn0:0<n:=(by omega);obtain rfl:=ha hn0;obtain⟨m,hm⟩:∃m,n=m+1:=⟨n-1,by omega⟩;have HM:Hid (n=m+1):=hm;have hb:b<w.heap.size:=HA.out.lt hn0;have HBB:Hid (bn≠b):=(by have:=HBN.out.1;show _≠_;omega);have hm1:(n:Int)-1=(m:Int):=(by omega);have hmn:(m:Int)<(n:Int):=(by omega);have hmn':m<n:=(by omega);obtain⟨d,hd⟩:∃d,x.getD m 0=d:=⟨_,rfl⟩;have hdb:=HX.out m;have hd0:=ht hn0;have hdg:=hg hn0;rw[hm,Nat.add_sub_cancel,hd]at hd0 hdg;rw[hd]at hdb;have cm:w3.cell? ⟨b,o+m,none⟩=some (.int .i64 d):=(by rw[←hd];exact(HA.out.below HB3.out) m hmn');have HD:Hid (x.getD m 0=d):=hd;have CI:=fun wx=>inverse_any wx p q d hp.2 (by omega) hdb.2 hdg;clear hd hg ht hdg hm hz0 ha;have hm0:(0:Int)<(n:Int):=(by omega);have hwm:wrap64 (m:Int)=(m:Int):=wrap_in (by omega) (by omega);have hwk:IntKind.i64.wrap (m:Int)=(m:Int):=(by rw[IntKind.wrap_i64];unfold wrap64 at hwm;omega);clear hwm;have CG:=fun (wx:World) (hbx:Below w3.heap.size w3 wx) (r:Int) (hr0:0<r) (hr1:r<p)=>gather_any wx p q r (some ⟨bn,0,none⟩) (some ⟨b,o,none⟩) bn 0 n n b o n c (fun _=>0) (fun j=>x.getD j 0) (fun _=>rfl) (fun _=>rfl)
   (Nat.le_refl _) (Nat.le_refl _) (Nat.lt_of_lt_of_le HO.out.lt hbx.size) (HO.out.c.below hbx) (fun i hi=>(hbx.frozen (p:=⟨bn,0+i,none⟩) HO.out.lt).trans (HO.out.z i hi)) ((HA.out.below HB3.out).below hbx) (fun _=>HBB.out) ⟨by omega,hqq.2⟩ (by omega)
   (fun i _=>by show(0:Int)≤0∧(0:Int)<q;omega) (fun i _=>by have h3:=HX.out i;have h4:=mul_lt_sq (p:=p) (by omega:0≤r) hr1 h3.1 h3.2;rw[←HQ.out]at h4;exact h4)
  go_upto_if 11 with fail
  go_cut [] from 12 to 23 (fun wx=>MonS w p q x b4 bn n wx)
  case first=>
   go_wp2_with fail;go_region_with (first
    |(go_at_call 58;refine(CI _).mono ?_;rintro e w5 ⟨r,rfl,hr0,hr1,hrk,hb5⟩;have HB5:Hid (Below w3.heap.size w3 w5):=(bel_drew w3).trans hb5;have HR:Hid (∃k,d*r=1+k*p):=hrk;have f0:w5.cell? ⟨b4,0,none⟩=some (.int .i64 p):=(HB5.out.cell (p:=⟨b4,0,none⟩) hl3).trans c0;have f1:w5.cell? ⟨b4,1,none⟩=some (.int .i64 q):=(HB5.out.cell (p:=⟨b4,1,none⟩) hl3).trans c1';clear hb5 hrk)
    |(
     go_at_call 57;refine(CG w5 HB5.out r hr0 hr1).mono ?_;rintro e w6 ⟨rfl,hC6,hA6⟩;have HC6:Hid (Chg w5 w6 bn 0 (0+n)):=hC6;have HA6:Hid (AR w6 bn 0 n fun i=>gq q (0+r*x.getD i 0)):=hA6;have hl5:b4<w5.heap.size:=Nat.lt_of_lt_of_le hl3 HB5.out.size;have hne4:b4≠bn:=(by have:=HBN.out;omega);have e0:w6.cell? ⟨b4,0,none⟩=some (.int .i64 p):=(hC6.cellAt hl5 (.inl hne4)).trans f0;have e1:w6.cell? ⟨b4,1,none⟩=some (.int .i64 q):=(hC6.cellAt hl5 (.inl hne4)).trans f1;obtain⟨h,he⟩:∃h:Nat→Int,∀i,h i=gq q (0+r*x.getD i 0):=⟨_,fun _=>rfl⟩;have HE:Hid (∀i,h i=gq q (0+r*x.getD i 0)):=he;have hB6:Below w.heap.size w w6:=(HB3.out.trans (HB5.out.mono HB3.out.size)).trans (HC6.out.below HO.out.base (Nat.le_trans HB3.out.size HB5.out.size));have HB6:Hid (Below w.heap.size w w6):=hB6;have S6:SR w6 w.heap.size (.slice (some ⟨bn,0,none⟩) n n) (lst h n):=sr_lst (fun _=>rfl) (Nat.le_refl _) HO.out.base (Nat.lt_of_lt_of_le HO.out.lt (Nat.le_trans HB5.out.size HC6.out.size)) (fun i hi=>by rw[HE.out];exact HA6.out i hi)
      (fun i hi=>by rw[HC6.out.froz];exact(HB5.out.frozen (p:=⟨bn,0+i,none⟩) HO.out.lt).trans (HO.out.z i hi))
     have HM6:Hid (∀i,0≤gq q (0+r*x.getD i 0)∧gq q (0+r*x.getD i 0)<q∧gq q (0+r*x.getD i 0)%p=r*x.getD i 0%p):=fun i=>by have h3:=HX.out i;have h4:=mul_lt_sq (p:=p) (by omega:0≤r) hr1 h3.1 h3.2;rw[←HQ.out]at h4;have h5:=gq_ok (p:=p) (s:=0+r*x.getD i 0) HQ.out (by omega) (by omega) (by omega);rw[Int.zero_add]at h5⊢;exact h5
     have HP:Hid (MonS w p q x b4 bn n w6):= .mk r h hr0 hr1 (by rw[HN.out,HM.out,Nat.add_sub_cancel,HD.out];exact HR.out) S6 hB6 (fun i=>by rw[HE.out];exact HM6.out i) e0 e1;clear hC6 hA6 f0 f1 hne4 hl5 he S6 hB6 HE HM6 HB6))
   all_goals
    go_wp2_with fail;go_meet
    case rel=>exact HP.out
  case rest=>
  obtain⟨r,h,hr0,hr1,hrk,hS6,hB6,hh,e0,e1⟩:=hcut;have HB6:Hid (Below w.heap.size w wc):=hB6;have HHH:Hid (∀i,0≤h i∧h i<q∧h i%p=r*x.getD i 0%p):=hh;have HR:Hid (r*x.getD (x.length-1) 0%p=1):=(by obtain⟨k,hk⟩:=hrk;show _=_;rw[Int.mul_comm,hk,Int.add_mul_emod_self_right];exact Int.emod_eq_of_lt (by omega) (by omega));have CS:=settled_sr wc p q w.heap.size _ _ hS6 hB6.size ⟨by omega,hp.2⟩ (fun j=>by
   rw[lst_getD];unfold cut
   split
   ·have:=HHH.out j;omega
   ·omega) (by rw[lst_length];omega)
  clear hrk hS6 hB6 hh c0 c1' cm;go_wp2_with (go_at_call 32;fail);refine CS.mono ?_;rintro e w7 ⟨u,z,rfl,hS7,hb7,hN7⟩;have R:Hid (MonPost w p x (.returned u) w7):=by
   refine .mk u z rfl hS7 (HB6.out.trans hb7) (.mk r (by rw[HN.out];exact hn0) hr0 hr1 HR.out ⟨fun j=>?_,hN7.top⟩);rw[hN7.eq,row_lst];unfold cut;by_cases hj:j<n
   ·rw[if_pos hj,(HHH.out j).2.2,row_getD]
   ·rw[if_neg hj,row_getD,getD_of_ge x j (by rw[HN.out];omega),Int.mul_zero]
  clear hS7 hb7 hN7 CS;go_wp2;refine bodyPost_ret (v:=u) (by simp[results,go_sem,loadVar]) rfl ?_;exact R.out
end Go.Proofs.YtffdemplaodbcaaDoor
namespace Go.Proofs.YtffdemplaodbcaaDoor
open Go Go.Proofs Go.RowKit Go.Rad
def vlen:Value→Nat
 | .slice _ n _=>n
 |_=>0
structure Kept (S:Nat→Prop) (w w':World):Prop where
 os:w'.os=w.os
 tape:w'.tape=w.tape
 output:w'.output=w.output
 size:w.heap.size≤w'.heap.size
 block:∀k,k<w.heap.size→¬S k→w'.heap[k]? =w.heap[k]?
theorem Kept.refl (S:Nat→Prop) (w:World):Kept S w w:=⟨rfl,rfl,rfl,Nat.le_refl _,fun _ _ _=>rfl⟩
theorem Kept.trans {S:Nat→Prop} {a b c:World} (h:Kept S a b) (k:Kept S b c):Kept S a c:=⟨k.os.trans h.os,k.tape.trans h.tape,k.output.trans h.output,Nat.le_trans h.size k.size,fun i hi hs=>(k.block i (Nat.lt_of_lt_of_le hi h.size) hs).trans (h.block i hi hs)⟩
theorem Kept.mono {S T:Nat→Prop} {w w':World} (h:Kept S w w') (hst:∀k,S k→T k):Kept T w w':=⟨h.os,h.tape,h.output,h.size,fun k hk ht=>h.block k hk fun hs=>ht (hst k hs)⟩
theorem Kept.of_below {S:Nat→Prop} {w w':World} (h:Below w.heap.size w w'):Kept S w w':=⟨h.os,h.tape,h.output,h.size,fun k hk _=>h.block k hk⟩
theorem Kept.of_chg {w w':World} {b lo hi:Nat} (h:Chg w w' b lo hi):Kept (·= b) w w':=⟨h.os,h.tape,h.output,h.size,fun k hk hs=>h.block k hk hs⟩
theorem Kept.cell {S:Nat→Prop} {w w':World} (h:Kept S w w') {b i:Nat} (hb:b<w.heap.size) (hs:¬S b):w'.cell? ⟨b,i,none⟩=w.cell? ⟨b,i,none⟩:=World.cell?_of_block (h.block b hb hs)
theorem Kept.froz {S:Nat→Prop} {w w':World} (h:Kept S w w') {b i:Nat} (hb:b<w.heap.size) (hs:¬S b):w'.frozen? ⟨b,i,none⟩=w.frozen? ⟨b,i,none⟩:=World.frozen?_of_block (h.block b hb hs)
theorem Kept.below {S:Nat→Prop} {w w':World} (h:Kept S w w') {B:Nat} (hB:B≤w.heap.size) (hs:∀k,k<B→¬S k):Below B w w':=⟨h.os,h.tape,h.output,h.size,fun k hk=>h.block k (by omega) (hs k hk)⟩
theorem Kept.set {S:Nat→Prop} {a w:World} (h:Kept S a w) {b i:Nat} (hb:S b) (v:Value):Kept S a (w.setCell ⟨b,i,none⟩ v):=h.trans ⟨rfl,rfl,rfl,by simp[World.setCell],fun k _ hs=>Below.heap_setCell _ _ _ _ (fun e=>hs (by rw[e];exact hb))⟩
inductive SB (w:World) (b:Nat) (v:Value) (x:List Int):Prop
 |nil (a:Option Addr) (c:Nat) (hv:v= .slice a 0 c) (hx:x=[])
 |row (o c:Nat) (hv:v= .slice (some ⟨b,o,none⟩) x.length c) (h0:0<x.length) (hc:x.length≤c) (hl:b<w.heap.size) (hA:AR w b o x.length (fun j=>x.getD j 0)) (hz:Free w b o x.length)
theorem SB.sr {w:World} {b B:Nat} {v:Value} {x:List Int} (h:SB w b v x) (hB:B≤b):SR w B v x:=by
 cases h with
 |nil a c hv hx=>exact .nil a c hv hx
 |row o c hv h0 hc hl hA hz=>exact .row b o c hv h0 hc hB hl hA hz
theorem SR.sb {w:World} {B:Nat} {v:Value} {x:List Int} (h:SR w B v x) (d:Nat) (hd:B≤d):∃b,B≤b∧SB w b v x∧(x=[]∧b=d∨b<w.heap.size):=by
 cases h with
 |nil a c hv hx=>exact⟨d,hd, .nil a c hv hx, .inl ⟨hx,rfl⟩⟩
 |row b o c hv h0 hc hB hl hA hz=>exact⟨b,hB, .row o c hv h0 hc hl hA hz, .inr hl⟩
theorem SB.kept {S:Nat→Prop} {w w':World} {b:Nat} {v:Value} {x:List Int} (h:SB w b v x) (hk:Kept S w w') (hs:¬S b):SB w' b v x:=by
 cases h with
 |nil a c hv hx=>exact .nil a c hv hx
 |row o c hv h0 hc hl hA hz=>exact .row o c hv h0 hc (Nat.lt_of_lt_of_le hl hk.size) (fun i hi=>(hk.cell hl hs).trans (hA i hi)) (fun i hi=>(hk.froz hl hs).trans (hz i hi))
theorem SB.view {w:World} {b:Nat} {v:Value} {x:List Int} (h:SB w b v x):VW w v x:=(h.sr (Nat.le_refl _)).view
theorem rest_ne (w:World) (p q:Int) (b:Nat) (v:Value) (x:List Int) (b2 o2 n c2:Nat) (y:Nat→Int) (hv:SB w b v x) (hM:MD w p b2 o2 n c2 y) (hne:b≠b2) (hq:q=p*p) (hp:1<p∧p<2147483648)
 (hx:∀j,0≤x.getD j 0∧x.getD j 0<q) (hl:x.length≤2097152):
 Calls Tryd.prog 60 #[FV p q,v, .slice (some ⟨b2,o2,none⟩) (n+1:Nat) c2] w fun e w'=>∃u z,e= .returned u∧SB w' b u z∧Kept (·= b) w w'∧Res p (lst y (n+1)) (row x) z:=by
 cases hv with
 |nil a c hv hx=>subst hv;subst hx;refine(rest_zero w p q a c b2 o2 n c2 hM.small).mono ?_;rintro e w' ⟨he,hb⟩;refine⟨_,[],he, .nil a c rfl rfl, .of_below hb,by rw[lst_length];exact Nat.succ_pos _,fun j=>?_,fun h=>by simp at h, .refl _ _ _⟩;rw[getD_of_ge [] j (Nat.zero_le _)];omega
 |row o c hv h0 hc hbl hA hz=>
  subst hv;refine(rest_any w p q _ b o x.length c b2 o2 n c2 (fun j=>x.getD j 0) y (fun _=>rfl) hc hbl hA hz hM.row hne hq hp hM.cap hl hM.small (fun i _=>hx i) hM.bd hM.g hM.ne).mono ?_;intro e w' h;obtain⟨u,z,he,h1,h2,h3⟩:=h.sr (B:=0) (by omega) (Nat.zero_le _) hbl hc hz;obtain⟨m,aa,r,Q,he',ha,hm,hmn,hC,hA',hb',hlst,hh⟩:=h;rw[he]at he';obtain rfl:=Ending.returned.inj he';refine⟨_,z,he,?_, .of_chg hC,h3.len,h3.bd,h3.top,(Cg.of fun j=>by rw[cut_getD]).trans h3.cg⟩;cases h1 with
  |nil a c hv hx=>exact .nil a c hv hx
  |row b' o' c' hv g0 gc gb gl gA gz=>simp only[Value.slice.injEq]at hv;obtain⟨e1,e2,e3⟩:=hv;rw[ha (by omega)]at e1;simp only[Option.some.injEq,Addr.mk.injEq]at e1;obtain⟨rfl,rfl,-⟩:=e1;subst e3;refine .row o c (by rw[ha (by omega),e2]) g0 gc gl gA gz
inductive GcdR (p:Int):List Int→List Int→List Int→Prop
 |nil (f z:List Int) (h:IsMon p f z):GcdR p f [] z
 |step (f g r z:List Int) (h0:0<g.length) (hr:Res p g (row f) r) (h:GcdR p g r z):GcdR p f g z
inductive GcdPost (w:World) (p:Int) (f g:List Int) (e:Ending) (w':World):Prop
 |mk (u:Value) (z:List Int) (he:e= .returned u) (hS:SR w' w.heap.size u z) (hb:Below w.heap.size w w') (hG:GcdR p f g z)
theorem SB.md {w:World} {p:Int} {b:Nat} {v:Value} {x:List Int} (h:SB w b v x) (hp:PrI p) (hx:IsP p x) (hl:x.length≤1048576) (h0:0<x.length):
 ∃o n c,v= .slice (some ⟨b,o,none⟩) (n+1:Nat) c∧MD w p b o n c (fun j=>x.getD j 0)∧x.length=n+1∧lst (fun j=>x.getD j 0) (n+1)=x:=by
 cases h with
 |nil a c hv hx=>subst hx;simp at h0
 |row o c hv h0 hc hbl hA hz=>obtain⟨n,hn⟩:∃n,x.length=n+1:=⟨x.length-1,by omega⟩;have ht:=hx.top h0;rw[hn,Nat.add_sub_cancel]at ht;refine⟨o,n,c,by rw[hv,hn],⟨by rw[←hn];exact hA,by omega,fun i _=>hx.bd i,hp.gcd (hx.bd n).1 ht (hx.bd n).2,ht,by omega⟩,hn,?_⟩;rw[←hn];exact lst_self x
set_option maxRecDepth 10000 in
set_option maxHeartbeats 2000000 in
theorem gcd_any (w:World) (p q:Int) (v1 v2:Value) (f g:List Int) (h1:VW w v1 f) (h2:VW w v2 g) (hq:q=p*p) (hpr:PrI p) (hf:IsP p f) (hg:IsP p g) (hl1:f.length≤1000) (hl2:g.length≤1000):
 Calls Tryd.prog 42 #[FV p q,v1,v2] w fun e w'=>GcdPost w p f g e w':=by
 have hp:1<p∧p<2147483648:=(by obtain⟨P,h1,h2,h3⟩:=hpr;have:=h2.1;omega);have H1:Hid (VW w v1 f):=h1;have H2:Hid (VW w v2 g):=h2;have HPR:Hid (PrI p):=hpr;have HF:Hid (IsP p f):=hf;have HG:Hid (IsP p g):=hg;have HQ:Hid (q=p*p):=hq;have hpq:p≤q:=(by have h9:=Int.mul_le_mul_of_nonneg_left (show 1≤p by omega) (show 0≤p by omega);rw[Int.mul_one,←hq]at h9;exact h9);clear h1 h2 hpr hf hg hq;go_enter Tryd.func42,Tryd.ntmps42;go_upto_region 1 with fail;refine wp_world (fun w1=>Below w.heap.size w w1∧w1.heap.size=w.heap.size+1∧w1.cell? ⟨w.heap.size,0,none⟩=some (.int .i64 p)∧w1.cell? ⟨w.heap.size,1,none⟩=some (.int .i64 q)) ⟨bel1 _ _,by simp,by simp[go_sem],by simp[go_sem]⟩ ?_;rintro w1 ⟨hB1,hl1',c0,c1'⟩;obtain⟨b4,hb4⟩:∃x,x=w.heap.size:=⟨_,rfl⟩;rw[←hb4]at c0 c1' hl1'⊢;have HB4:Hid (b4=w.heap.size∧w1.heap.size=b4+1):=⟨hb4,hl1'⟩;have HB1:Hid (Below w.heap.size w w1):=hB1;clear hB1 hl1' hb4;go_wp2_with (go_at_call 35;fail);refine(clone_sr w1 v1 f (H1.out.below HB1.out) (by omega)).mono ?_;rintro e w2 ⟨u1,rfl,hS2,hb2⟩;have HS2:Hid (SR w2 w1.heap.size u1 f):=hS2;have HB2:Hid (Below w1.heap.size w1 w2):=hb2;clear hS2 hb2;go_wp2_with (go_at_call 35;fail);refine(clone_sr w2 v2 g ((H2.out.below HB1.out).below HB2.out) (by omega)).mono ?_;rintro e w3 ⟨u2,rfl,hS3,hb3⟩;have HS:Hid (∃b1 b2,b1≠b2∧b4<b1∧b4<b2∧SB w3 b1 u1 f∧SB w3 b2 u2 g):=by
  have h9:=HB4.out.2;have h8:=HB2.out.size;obtain⟨b2,hb2,hs2,-⟩:=hS3.sb w2.heap.size (Nat.le_refl _);obtain⟨b1,hb1,hs1,hd1⟩:=(HS2.out.below hb3).sb (b2+1) (by omega);cases HS2.out.below hb3 with
  |nil a c hv hx=>exact⟨b2+1,b2,by omega,by omega,by omega, .nil a c hv hx,hs2⟩
  |row b o c hv h0 hc hb hl hA hz=>
   have hlt:b<w2.heap.size:=by
    cases HS2.out with
    |nil a' c' hv' hx'=>rw[hx']at h0;simp at h0
    |row b' o' c' hv' h0' hc' hb' hl' hA' hz'=>rw[hv']at hv;simp only[Value.slice.injEq,Option.some.injEq,Addr.mk.injEq]at hv;omega
   exact⟨b,b2,by omega,by omega,by omega, .row o c hv h0 hc hl hA hz,hs2⟩
 have HB3:Hid (Below (b4+1) w1 w3):=(by have h9:=HB4.out.2;show Below _ _ _;rw[←h9];exact HB2.out.trans (hb3.mono HB2.out.size));clear hS3 hb3;go_wp2;go_loopw [1,2] (fun s t wr=>∃(X Y:List Int) (b1 b2:Nat),SB wr b1 s X∧SB wr b2 t Y∧b1≠b2∧b4<b1∧b4<b2∧IsP p X∧IsP p Y∧X.length≤1000∧Y.length≤1000∧(∀z,GcdR p X Y z→GcdR p f g z)∧Below (b4+1) w1 wr) (fun _ t _=>vlen t)
 case atStart=>obtain⟨b1,b2,h1,h2,h3,h4,h5⟩:=HS.out;exact⟨f,g,b1,b2,h4,h5,h1,h2,h3,HF.out,HG.out,hl1,hl2,fun z h=>h,HB3.out⟩
 case round=>
  obtain⟨X,Y,b1,b2,hX,hY,hne,hb1,hb2,hPX,hPY,hlX,hlY,hGG,hB⟩:=hrel;have HX:Hid (SB wr b1 u1 X):=hX;have HY:Hid (SB wr b2 u2 Y):=hY;have HNE:Hid (b1≠b2∧b4<b1∧b4<b2):=⟨hne,hb1,hb2⟩;have HPX:Hid (IsP p X):=hPX;have HPY:Hid (IsP p Y):=hPY;have HGG:Hid (∀z,GcdR p X Y z→GcdR p f g z):=hGG;have HB:Hid (Below (b4+1) w1 wr):=hB;have hlr:b4<wr.heap.size:=(by have:=HB4.out.2;have:=hB.size;omega);have d0:wr.cell? ⟨b4,0,none⟩=some (.int .i64 p):=(hB.cell (p:=⟨b4,0,none⟩) (Nat.lt_succ_self _)).trans c0;have d1:wr.cell? ⟨b4,1,none⟩=some (.int .i64 q):=(hB.cell (p:=⟨b4,1,none⟩) (Nat.lt_succ_self _)).trans c1';clear hX hY hne hb1 hb2 hPX hPY hGG hB c0 c1';by_cases h0:0<Y.length
  ·obtain⟨o,n,c,rfl,hM,hYn,hYl⟩:=HY.out.md HPR.out HPY.out (by omega) h0;have CR:=rest_ne wr p q b1 u1 X b2 o n c _ HX.out hM HNE.out.1 HQ.out hp (fun j=>⟨(HPX.out.bd j).1,by have:=(HPX.out.bd j).2;omega⟩) (by omega);rw[hYl]at CR;have HYN:Hid (Y.length=n+1):=hYn;have hn0:(0:Int)<((n:Int)+1):=(by omega);clear hM hYn hYl;go_wp2_with (go_at_call 60;fail);refine CR.mono ?_;rintro e w5 ⟨u,z,rfl,hS5,hK5,hR5⟩;have HREL:Hid ((∃(X Y:List Int) (b1 b2_1:Nat),SB w5 b1 (.slice (some ⟨b2,o,none⟩) (n+1:Nat) c) X∧SB w5 b2_1 u Y∧b1≠b2_1∧b4<b1∧b4<b2_1∧IsP p X∧IsP p Y∧X.length≤1000∧Y.length≤1000∧(∀z,GcdR p X Y z→GcdR p f g z)∧Below (b4+1) w1 w5)∧vlen u<n+1):=(by have h9:=HNE.out;have hlen:=hR5.len;refine⟨⟨Y,z,b2,b1,HY.out.kept hK5 (fun e=>h9.1 e.symm),hS5,fun e=>h9.1 e.symm,h9.2.2,h9.2.1,HPY.out,⟨hR5.bd,hR5.top⟩,hlY,by omega,fun z' h=>HGG.out z' (.step X Y z z' h0 hR5 h),HB.out.trans (hK5.below (by have:=HB4.out.2;have:=HB.out.size;omega) (fun k hk e=>by omega))⟩,?_⟩;have h7:=HYN.out;obtain⟨a9,b9,o9,c9,rfl,_⟩:=hS5.view;show z.length<n+1;omega);clear hS5 hK5 hR5 CR;go_wp2;exact HREL.out
  ·have hy0:Y=[]:=List.length_eq_zero_iff.1 (by omega);obtain⟨a,c,rfl⟩:∃a c,u2= .slice a 0 c:=by
    cases HY.out with
    |nil a c hv hx=>exact⟨a,c,hv⟩
    |row o c hv h0' hc hl hA hz=>exact absurd h0' h0
   have h00:¬(0:Int)<0:=(by omega);have CM:=monic_any wr p q u1 X HX.out.view HQ.out hp HPX.out.bd (fun h=>HPR.out.gcd (HPX.out.bd _).1 (HPX.out.top h) (HPX.out.bd _).2) HPX.out.top (by omega);go_wp2_with (go_at_call 45;fail);refine CM.mono ?_;rintro e w5 ⟨u,z,rfl,hS5,hb5,hm5⟩;have R:Hid (GcdPost w p f g (.returned u) w5):=(by have h9:=HB4.out;have h8:=HB.out.size;refine .mk u z rfl (hS5.mono (by omega)) (HB1.out.trans ((HB.out.mono (by omega)).trans (hb5.mono (by omega)))) (HGG.out z ?_);rw[hy0];exact .nil X z hm5);clear hS5 hb5 hm5 CM;go_wp2;refine bodyPost_ret (v:=u) (by simp[results,go_sem,loadVar]) rfl ?_;exact R.out
end Go.Proofs.YtffdemplaodbcaaDoor
