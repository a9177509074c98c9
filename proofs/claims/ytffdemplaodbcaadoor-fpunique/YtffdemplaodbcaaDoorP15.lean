/- A part of the proof: PG, PH, PI, PJ, PK, PL. -/
import Derived.Test.YtffdemplaodbcaaDoorP14
set_option linter.all false
namespace Go.Proofs.YtffdemplaodbcaaDoor
open Go Go.Proofs Go.RowKit Go.Rad
structure Nrm (p:Int) (t:Nat→Int) (z:List Int):Prop where
 eq:∀j,row z j=t j%p
 top:0<z.length→z.getD (z.length-1) 0≠0
theorem Nrm.uniq {p:Int} {t s:Nat→Int} {x y:List Int} (hx:Nrm p t x) (hy:Nrm p s y) (h:∀j,t j%p=s j%p):x=y:=by
 have e2:∀j,x.getD j 0=y.getD j 0:=fun j=>by rw[←row_getD,←row_getD,hx.eq,hy.eq,h]
 have hl:x.length=y.length:=by
  rcases Nat.lt_trichotomy x.length y.length with h1|h1|h1
  ·exact absurd ((e2 _).symm.trans (getD_of_ge x (y.length-1) (by omega))) (hy.top (by omega))
  ·exact h1
  ·exact absurd ((e2 _).trans (getD_of_ge y (x.length-1) (by omega))) (hx.top (by omega))
 refine List.ext_getElem hl fun i h1 h2=>?_;have h3:=e2 i;simpa [List.getD_eq_getElem?_getD,h1,h2]using h3
theorem settled_sr (w:World) (p q:Int) (B:Nat) (v:Value) (x:List Int) (hv:SR w B v x) (hB:B≤w.heap.size) (hp:0<p∧p<2147483648) (hx:∀j,0≤x.getD j 0∧x.getD j 0<9223372036854775808) (hl:x.length≤17592186044416):
 Calls Tryd.prog 32 #[FV p q,v] w fun e w'=>∃u z,e= .returned u∧SR w' B u z∧Below B w w'∧Nrm p (row x) z:=by
 cases hv with
 |nil a c hv hx=>subst hv;subst hx;refine(settled_zero w p q a c).mono ?_;rintro e w' ⟨he,hb⟩;exact⟨_,[],he, .nil a c rfl rfl,hb.mono hB,fun j=>by rw[row_getD,getD_of_ge [] j (Nat.zero_le _)];simp,fun h=>by simp at h⟩
 |row b o c hv h0 hc hb hbl hA hz=>
  subst hv;refine(settled_any w p q _ b o x.length c (fun j=>x.getD j 0) (fun _=>rfl) hc hbl hA hz hp hl (fun i _=>hx i)).mono ?_;rintro e w' ⟨m,he,hm,hC,hA',hzz,hlst⟩;obtain⟨r,re⟩:∃r:Nat→Int,∀j,r j=x.getD j 0%p:=⟨_,fun _=>rfl⟩;have hg:∀j,(lst r m).getD j 0=cut r m j:=fun j=>lst_getD r m j;refine⟨_,lst r m,he,?_,hC.below hb hB,fun j=>?_,fun h=>?_⟩
  ·by_cases hm0:m=0
   ·subst hm0;exact .nil _ c rfl rfl
   ·refine .row b o c (by rw[lst_length]) (by rw[lst_length];omega) (by rw[lst_length];omega) hb (Nat.lt_of_lt_of_le hbl hC.size) (fun i hi=>?_) (fun i hi=>?_)
    ·rw[lst_length]at hi;show _=some (Value.int _ ((lst r m).getD i 0));rw[hg,hA' i (by omega)];unfold cut;rw[if_pos hi,re]
    ·rw[lst_length]at hi;exact(hC.froz _).trans (hz i (by omega))
  ·rw[row_lst,row_getD];unfold cut;by_cases hj:j<m
   ·rw[if_pos hj,re]
   ·rw[if_neg hj];by_cases hj2:j<x.length
    ·exact(hzz j (by omega) hj2).symm
    ·rw[getD_of_ge x j (by omega)];simp
  ·rw[lst_length]at h⊢;rw[hg];unfold cut;rw[if_pos (by omega),re];exact hlst h
inductive MulPost (w:World) (p:Int) (xs ys:List Int) (e:Ending) (w':World):Prop
 |mk (u:Value) (he:e= .returned (.tuple #[u,Flt (ckBC p xs ys) (if ckBC p xs ys=0 then 0 else ckBA p xs ys)])) (hb:Below w.heap.size w w') (hf:ckBC p xs ys≠0→u= .slice none 0 0)
  (ho:ckBC p xs ys=0→∃z,SR w' w.heap.size u z∧Nrm p (row (pmul xs ys)) z)
set_option maxRecDepth 10000 in
set_option maxHeartbeats 1000000 in
theorem rMul_any (w:World) (v1 v2:Value) (xs ys:List Int) (p:Int) (h1:IL w v1 xs) (h2:IL w v2 ys) (ht:TabB w):
 Calls Tryd.prog 9 #[v1,v2, .int .i64 p] w fun e w'=>MulPost w p xs ys e w':=by
 have CB:=fun wx (hb:Below w.heap.size w wx)=>checkBoth_any wx v1 v2 xs ys p (h1.below hb) (h2.below hb) (ht.below hb);obtain⟨cB,hcB⟩:∃c,ckBC p xs ys=c:=⟨_,rfl⟩;obtain⟨aB,haB⟩:∃c,ckBA p xs ys=c:=⟨_,rfl⟩;have HC:Hid (ckBC p xs ys=cB∧ckBA p xs ys=aB):=⟨hcB,haB⟩;simp only[hcB,haB]at CB;have H1:Hid (IL w v1 xs):=h1;have H2:Hid (IL w v2 ys):=h2;clear h1 h2 ht hcB haB;go_enter Tryd.func9,Tryd.ntmps9;go_wp2_with (go_at_call 30;fail);refine(CB _ (bel1 _ _)).mono ?_;rintro e w1 ⟨rfl,hb1⟩;have hB1:Below w.heap.size w w1:=(bel1 w _).trans (hb1.mono (by simp));have hF:=(FB.mk0 w (.int .i64 0) (.int .i64 0) 24).below hb1;have HB1:Hid (Below w.heap.size w w1):=hB1;obtain⟨b4,hb4⟩:∃x,x=w.heap.size:=⟨_,rfl⟩;rw[←hb4]at hF⊢;have HG:Hid (w.heap.size≤b4):=(by show _≤_;omega);clear hb1 hB1 hb4 CB;by_cases h0:cB=0
 ·subst h0;obtain⟨fx,fy⟩:=ckBC_zero HC.out.1;have HFX:Hid (IsF p xs):=fx;have HFY:Hid (IsF p ys):=fy;clear fx fy;have hpp:1<p∧p<2147483648:=(by obtain⟨P,h1,h2,h3⟩:=HFX.out.pr;have:=h2.1;omega);go_wp2_with (go_at_call 31;fail);refine(fieldOf_any _ p (p*p) (by omega) hpp.2 rfl).mono ?_;rintro e w2 ⟨rfl,hb2⟩;have hF2:=(hF.alloc (Obj.cells #[Value.int IntKind.i64 0,Value.int IntKind.i64 aB] 24)).below hb2;have HB2w:Hid (Below w.heap.size w w2):=(HB1.out.alloc HB1.out.size (Obj.cells #[Value.int IntKind.i64 0,Value.int IntKind.i64 aB] 24)).trans (hb2.mono (by have:=HB1.out.size;simp;omega));obtain⟨q,hq⟩:∃q,q=p*p:=⟨_,rfl⟩;have HQ:Hid (q=p*p):=hq;rw[←hq];have hqq:=sq_lt (by omega:(0:Int)≤p) hpp.2 (by omega) hpp.2;rw[←hq]at hqq;have HQQ:Hid (0≤q∧q<4611686018427387904):=hqq;clear hb2 hF hq hqq;go_wp2;refine wp_world (fun w5=>Below w2.heap.size w2 w5∧FB w5 w2.heap.size (.int .i64 p) (.int .i64 q)) ⟨bel1 _ _,FB.mk0 _ _ _ _⟩ ?_;rintro w5 ⟨hb5,hK5⟩;have HF5:Hid (FB w5 b4 (.int .i64 0) (.int .i64 0)):=hF2.below hb5;have HB5:Hid (Below w.heap.size w w5):=HB2w.out.trans (hb5.mono HB2w.out.size);obtain⟨b9,hb9⟩:∃x,x=w2.heap.size:=⟨_,rfl⟩;rw[←hb9]at hK5⊢;clear hb5 hF2 hb9;obtain⟨l9,c0,c1,g0,g1⟩:=hK5;go_region_with (first
   |(go_at_call 33;refine(product_sr w5.drew p q v1 v2 xs ys (H1.out.vw.below HB5.out.drew) (H2.out.vw.below HB5.out.drew) HQ.out hpp HFX.out.all HFY.out.all (by have:=HFX.out.len;omega) (by have:=HFY.out.len;omega)).mono ?_;rintro e w6 ⟨u,z,rfl,hS6,hb6,hz1,hz2,hz3⟩;have HS6:Hid (SR w6 w5.heap.size u z):=hS6;have HB6:Hid (Below w5.heap.size w5 w6):=(bel_drew w5).trans hb6;have HZ6:Hid (z.length≤xs.length+ys.length∧(∀j,0≤z.getD j 0∧z.getD j 0<q)∧∀j,row z j%p=row (pmul xs ys) j%p):=⟨hz1,hz2,hz3⟩;have e0:w6.cell? ⟨b9,0,none⟩=some (.int .i64 p):=(HB6.out.cell (p:=⟨b9,0,none⟩) l9).trans c0;have e1:w6.cell? ⟨b9,1,none⟩=some (.int .i64 q):=(HB6.out.cell (p:=⟨b9,1,none⟩) l9).trans c1;clear hS6 hb6 hz1 hz2 hz3)
   |(go_at_call 32;refine(settled_sr w6 p q w5.heap.size u z HS6.out HB6.out.size ⟨by omega,hpp.2⟩ (fun j=>⟨(HZ6.out.2.1 j).1,by have:=(HZ6.out.2.1 j).2;have:=HQQ.out.2;omega⟩) (by have:=HZ6.out.1;have:=HFX.out.len;have:=HFY.out.len;omega)).mono ?_;rintro e w7 ⟨u2,z2,rfl,hS7,hb7,hN7⟩;have HP:Hid (MulPost w p xs ys (.returned (.tuple #[u2,Flt 0 0])) ((w7.setCell ⟨b4,0,none⟩ (.int .i64 0)).setCell ⟨b4,1,none⟩ (.int .i64 0))):=(by refine .mk u2 (by rw[HC.out.1,if_pos rfl]) (below_set2 (HB5.out.trans ((HB6.out.trans hb7).mono HB5.out.size)) HG.out _ _) (fun h=>absurd HC.out.1 h) (fun _=>⟨z2,(hS7.set2 HF5.out.lt _ _).mono HB5.out.size,?_,hN7.top⟩);intro j;rw[hN7.eq,HZ6.out.2.2]);have hF7:FB w7 b4 (.int .i64 0) (.int .i64 0):=(HF5.out.below HB6.out).step hb7 HF5.out.lt;obtain⟨l4,d0,d1,f0,f1⟩:=hF7;clear hS7 hb7 hN7 e0 e1))
  all_goals
   go_wp2;refine bodyPost_ret (v:= .tuple #[u2,Flt 0 0]) (by simp[results,go_sem,loadVar,World.cell?_setCell_same,World.cell?_setCell_other, *];try rfl) rfl ?_;exact HP.out
 ·have h0b:(cB !=0)=true:=(by simpa using h0);have HR:Hid (∀X,Below w.heap.size w (((w1.setCell ⟨b4,0,none⟩ (.int .i64 cB)).setCell ⟨b4,1,none⟩ (.int .i64 aB)).alloc X)):=fun X=>(below_set2 HB1.out HG.out _ _).alloc (by have:=HB1.out.size;simp;omega) X;have HP:Hid (∀W,Below w.heap.size w W→MulPost w p xs ys (.returned (.tuple #[.slice none 0 0,Flt cB aB])) W):=fun W hW=> .mk _ (by rw[HC.out.1,HC.out.2,if_neg h0]) hW (fun _=>rfl) (fun h=>absurd (HC.out.1.symm.trans h) h0);obtain⟨l4,d0,d1,f0,f1⟩:=hF;go_wp2;go_region
  all_goals
   go_wp2;refine bodyPost_ret (v:= .tuple #[.slice none 0 0,Flt cB aB]) (by simp[results,go_sem,loadVar,World.cell?_setCell_same,World.cell?_setCell_other, *];try rfl) rfl ?_;exact HP.out _ (by first|exact HR.out _|exact(HR.out _).drew)
end Go.Proofs.YtffdemplaodbcaaDoor
namespace Go.Proofs.YtffdemplaodbcaaDoor
open Go Go.Proofs Go.RowKit Go.Rad
theorem sr_lst {w:World} {aa:Option Addr} {b o m c B:Nat} {r:Nat→Int} (ha:0<m→aa=some ⟨b,o,none⟩) (hc:m≤c) (hB:B≤b) (hl:b<w.heap.size) (hA:AR w b o m r) (hz:Free w b o m):SR w B (.slice aa m c) (lst r m):=by
 by_cases h0:m=0
 ·subst h0;exact .nil aa c rfl rfl
 ·obtain rfl:=ha (by omega);refine .row b o c (by rw[lst_length]) (by rw[lst_length];omega) (by rw[lst_length];omega) hB hl (fun i hi=>?_) (fun i hi=>?_)
  ·rw[lst_length]at hi;show _=some (Value.int _ ((lst r m).getD i 0));rw[lst_getD,hA i hi];unfold cut;rw[if_pos hi]
  ·rw[lst_length]at hi;exact hz i hi
structure Dvd (p:Int) (m x Q z:List Int):Prop where
 len:Q.length=x.length-(m.length-1)
 bd:∀j,0≤Q.getD j 0∧Q.getD j 0<p
 rl:z.length<m.length
 rb:∀j,0≤z.getD j 0∧z.getD j 0<p
 rt:0<z.length→z.getD (z.length-1) 0≠0
 eq:∀j,row x j%p=(row z j+act Q (row m) j)%p
theorem DivPost.sr {w w':World} {p:Int} {a:Option Addr} {b o c1 n B:Nat} {x:List Int} {y:Nat→Int} {e:Ending} (hp:0<p) (h0:0<x.length) (h:DivPost w p a b o x.length c1 n (fun j=>x.getD j 0) y e w') (ha:a=some ⟨b,o,none⟩) (hB:B≤b) (hl:b<w.heap.size) (hBw:B≤w.heap.size) (hc:x.length≤c1) (hz:Free w b o x.length):
 ∃u1 u2 Q z,e= .returned (.tuple #[u1,u2])∧SR w' B u1 Q∧SR w' B u2 z∧Below B w w'∧Dvd p (lst y (n+1)) x Q z:=by
 have hxx:∀j,row x j=cut (fun j=>x.getD j 0) x.length j:=fun j=>(cut_getD x j).symm;cases h with
 |short m he h1 hm hC hA hzz hlst=>
  obtain⟨r,re⟩:∃r:Nat→Int,∀j,r j=x.getD j 0%p:=⟨_,fun _=>rfl⟩;have hg:∀j,(lst r m).getD j 0=cut r m j:=fun j=>lst_getD r m j;refine⟨_,_,[],lst r m,he, .nil none 0 rfl rfl,sr_lst (fun _=>ha) (by omega) hB (Nat.lt_of_lt_of_le hl hC.size) (fun i hi=>by rw[re];exact hA i (by omega)) (fun i hi=>(hC.froz _).trans (hz i (by omega))),hC.below hB hBw,?_,fun j=>?_,by rw[lst_length,lst_length];omega,fun j=>?_,fun h=>?_,fun j=>?_⟩
  ·rw[lst_length];show 0=_;omega
  ·rw[getD_of_ge [] j (Nat.zero_le _)];omega
  ·rw[hg];unfold cut;by_cases hj:j<m
   ·rw[if_pos hj,re];exact⟨Int.emod_nonneg _ (by omega),Int.emod_lt_of_pos _ hp⟩
   ·rw[if_neg hj];omega
  ·rw[lst_length]at h⊢;rw[hg];unfold cut;rw[if_pos (by omega),re];exact hlst h
  ·show _=(row (lst r m) j+0)%p;rw[Int.add_zero,row_lst,row_getD];unfold cut;by_cases hj:j<m
   ·rw[if_pos hj,re,Int.emod_emod]
   ·rw[if_neg hj];by_cases hj2:j<x.length
    ·rw[hzz j (by omega) hj2];simp
    ·rw[getD_of_ge x j (by omega)]
 |long m h he h1 hm hC hA hb hzz hlst hh=>
  have hg:∀j,(lst h m).getD j 0=cut h m j:=fun j=>lst_getD h m j;obtain⟨s,se⟩:∃s:Nat→Int,∀t,s t=h (t+n):=⟨_,fun _=>rfl⟩;have hsf:(fun t=>h (t+n))=s:=funext fun t=>(se t).symm;refine⟨_,_,lst s (x.length-n),lst h m,he,sr_lst (b:=b) (o:=o+n) (fun _=>rfl) (by omega) hB (Nat.lt_of_lt_of_le hl hC.size) (fun i hi=>?_) (fun i hi=>?_),sr_lst (fun _=>rfl) (by omega) hB (Nat.lt_of_lt_of_le hl hC.size) (fun i hi=>hA i (by omega)) (fun i hi=>(hC.froz _).trans (hz i (by omega))),hC.below hB hBw,?_,fun j=>?_,by rw[lst_length,lst_length];omega,fun j=>?_,fun h=>?_,fun j=>?_⟩
  ·have:=hA (n+i) (by omega);rw[←Nat.add_assoc]at this;rw[se,Nat.add_comm i n];exact this
  ·have:=hz (n+i) (by omega);rw[←Nat.add_assoc]at this;exact(hC.froz _).trans this
  ·rw[lst_length,lst_length];omega
  ·rw[lst_getD];unfold cut;by_cases hj:j<x.length-n
   ·rw[if_pos hj,se];exact hb _ (by omega)
   ·rw[if_neg hj];omega
  ·rw[hg];unfold cut;by_cases hj:j<m
   ·rw[if_pos hj];exact hb j (by omega)
   ·rw[if_neg hj];omega
  ·rw[lst_length]at h⊢;rw[hg];unfold cut;rw[if_pos (by omega)];exact hlst h
  ·rw[row_lst,act_row_lst,row_getD];by_cases hj:j<x.length
   ·have:=hh j hj;rw[hsf]at this;rw[this];unfold cut;by_cases hj2:j<m
    ·rw[if_pos hj2,if_pos (by omega)]
    ·rw[if_neg hj2];by_cases hj3:j<n
     ·rw[if_pos hj3,hzz j (by omega) hj3]
     ·rw[if_neg hj3]
   ·rw[getD_of_ge x j (by omega),cvp_zero _ _ _ _ _ (by omega)];unfold cut;rw[if_neg (by omega)];rfl
theorem divide_sr (w:World) (p q:Int) (B:Nat) (v:Value) (x:List Int) (b2 o2 n c2:Nat) (y:Nat→Int) (hv:SR w B v x) (hB:B≤w.heap.size) (hM:MD w p b2 o2 n c2 y) (hb2:b2<B) (hq:q=p*p) (hp:1<p∧p<2147483648)
 (hx:∀j,0≤x.getD j 0∧x.getD j 0<q) (hl:x.length≤2097152):
 Calls Tryd.prog 34 #[FV p q,v, .slice (some ⟨b2,o2,none⟩) (n+1:Nat) c2] w fun e w'=>∃u1 u2 Q z,e= .returned (.tuple #[u1,u2])∧SR w' B u1 Q∧SR w' B u2 z∧Below B w w'∧Dvd p (lst y (n+1)) x Q z:=by
 cases hv with
 |nil a c hv hx=>
  subst hv;subst hx;refine(divide_zero w p q a c b2 o2 n c2 hM.small).mono ?_;rintro e w' ⟨he,hb⟩;refine⟨_,_,[],[],he, .nil none 0 rfl rfl, .nil a c rfl rfl,hb.mono hB,by simp,fun j=>?_,by rw[lst_length];exact Nat.succ_pos _,fun j=>?_,fun h=>by simp at h,fun j=>by show _=(_+0)%p;rw[Int.add_zero]⟩
  ·rw[getD_of_ge [] j (Nat.zero_le _)];omega
  ·rw[getD_of_ge [] j (Nat.zero_le _)];omega
 |row b o c hv h0 hc hb hbl hA hz=>subst hv;refine(divide_any w p q _ b o x.length c b2 o2 n c2 (fun j=>x.getD j 0) y (fun _=>rfl) hc hbl hA hz hM.row (by omega) hq hp hM.cap hl hM.small (fun i _=>hx i) hM.bd hM.g hM.ne).mono ?_;intro e w' h;exact h.sr (by omega) h0 rfl hb hbl hB hc hz
end Go.Proofs.YtffdemplaodbcaaDoor
namespace Go.Proofs.YtffdemplaodbcaaDoor
open Go Go.Proofs Go.RowKit Go.Rad
noncomputable def dvC (p:Int) (xs ys:List Int):Int:=if ckBC p xs ys=0 then (if ys.length=0 then 4 else 0) else ckBC p xs ys
inductive DvPost (w:World) (p:Int) (xs ys:List Int) (e:Ending) (w':World):Prop
 |mk (u1 u2:Value) (he:e= .returned (.tuple #[u1,u2,Flt (dvC p xs ys) (powA p xs ys)])) (hb:Below w.heap.size w w') (hf:dvC p xs ys≠0→u1= .slice none 0 0∧u2= .slice none 0 0)
  (ho:dvC p xs ys=0→∃Q z,SR w' w.heap.size u1 Q∧SR w' w.heap.size u2 z∧Dvd p ys xs Q z)
theorem DvPost.fail {w w':World} {p:Int} {xs ys:List Int} {c a:Int} (h0:c≠0) (h1:dvC p xs ys=c) (h2:powA p xs ys=a) (hb:Below w.heap.size w w'):DvPost w p xs ys (.returned (.tuple #[.slice none 0 0, .slice none 0 0,Flt c a])) w':= .mk _ _ (by rw[h1,h2]) hb (fun _=>⟨rfl,rfl⟩) (fun h=>absurd (h1.symm.trans h) h0)
set_option maxRecDepth 10000 in
set_option maxHeartbeats 1000000 in
theorem rDiv_any (w:World) (v1 v2:Value) (xs ms:List Int) (p:Int) (h1:IL w v1 xs) (h2:IL w v2 ms) (ht:TabB w) (hcap:∀a k c,v2= .slice a k c→k≤c):
 Calls Tryd.prog 10 #[v1,v2, .int .i64 p] w fun e w'=>DvPost w p xs ms e w':=by
 have CB:=fun wx (hb:Below w.heap.size w wx)=>checkBoth_any wx v1 v2 xs ms p (h1.below hb) (h2.below hb) (ht.below hb);obtain⟨cB,hcB⟩:∃c,ckBC p xs ms=c:=⟨_,rfl⟩;obtain⟨aB,haB⟩:∃c,ckBA p xs ms=c:=⟨_,rfl⟩;have HC:Hid (ckBC p xs ms=cB∧ckBA p xs ms=aB):=⟨hcB,haB⟩;simp only[hcB,haB]at CB;have H1:Hid (IL w v1 xs):=h1;have H2:Hid (IL w v2 ms):=h2;clear h1 ht hcB haB;obtain⟨a2,b2,o2,k2,c2,rfl,hk2,ha2,hcc,hm2⟩:=h2;have hkc:k2≤c2:=hcap _ _ _ rfl;have HCC:Hid (∀i,i<k2→w.cell? ⟨b2,o2+i,none⟩=some (.int .i64 (ms.getD i 0))):=hcc;clear hcap hcc;go_enter Tryd.func10,Tryd.ntmps10;go_wp2_with (go_at_call 30;fail);refine(CB _ (bel1 _ _)).mono ?_;rintro e w1 ⟨rfl,hb1⟩;have hB1:Below w.heap.size w w1:=(bel1 w _).trans (hb1.mono (by simp));have hF:=(FB.mk0 w (.int .i64 0) (.int .i64 0) 24).below hb1;have HB1:Hid (Below w.heap.size w w1):=hB1;obtain⟨b4,hb4⟩:∃x,x=w.heap.size:=⟨_,rfl⟩;rw[←hb4]at hF⊢;have HG:Hid (w.heap.size≤b4):=(by show _≤_;omega);clear hb1 hB1 hb4 CB;by_cases h0:cB=0
 ·subst h0;obtain⟨fx,fm⟩:=ckBC_zero HC.out.1;have HFX:Hid (IsF p xs):=fx;have HFM:Hid (IsF p ms):=fm;clear fx fm;by_cases hk0:k2=0
  ·have HK:Hid (dvC p xs ms=4∧powA p xs ms=0):=(by unfold dvC powA;rw[if_pos HC.out.1,if_pos HC.out.1,if_pos (by omega)];exact⟨rfl,rfl⟩);have HR:Hid (∀X,Below w.heap.size w (((w1.setCell ⟨b4,0,none⟩ (.int .i64 4)).setCell ⟨b4,1,none⟩ (.int .i64 0)).alloc X)):=fun X=>(below_set2 HB1.out HG.out _ _).alloc (by have:=HB1.out.size;simp;omega) X;subst hk0;obtain⟨l4,d0,d1,f0,f1⟩:=hF;go_wp2;refine bodyPost_ret (v:= .tuple #[.slice none 0 0, .slice none 0 0,Flt 4 0]) (by simp[results,go_sem,loadVar,World.cell?_setCell_same,World.cell?_setCell_other, *];try rfl) rfl ?_;exact .fail (by decide) HK.out.1 HK.out.2 (HR.out _)
  ·obtain⟨m,rfl⟩:∃m,k2=m+1:=⟨k2-1,by omega⟩;obtain rfl:=ha2 (by omega);have HK:Hid (dvC p xs ms=0∧powA p xs ms=0):=(by unfold dvC powA;rw[if_pos HC.out.1,if_pos HC.out.1,if_neg (by omega)];exact⟨rfl,rfl⟩);have hpp:1<p∧p<2147483648:=(by obtain⟨P,h1,h2,h3⟩:=HFX.out.pr;have:=h2.1;omega);have hb2:b2<w.heap.size:=block_lt (HCC.out 0 (by omega));have HB2:Hid (b2<w.heap.size):=hb2;have HM:Hid (MD w p b2 o2 m c2 (fun j=>ms.getD j 0)):=⟨fun i hi=>HCC.out i (by omega),hkc,fun i _=>HFM.out.all i,HFM.out.pr.gcd (HFM.out.all m).1 (by have:=HFM.out.last (by omega);rw[hk2]at this;exact this) (HFM.out.all m).2,by have:=HFM.out.last (by omega);rw[hk2]at this;exact this,by have:=HFM.out.len;omega⟩;have HMS:Hid (lst (fun j=>ms.getD j 0) (m+1)=ms):=(by have:=lst_self ms;rw[hk2]at this;exact this);clear hb2;have hsm:((m:Int)+1==0)=false:=(by simpa using (show ¬(m:Int)+1=0 by omega));go_wp2_with (go_at_call 31;fail);refine(fieldOf_any _ p (p*p) (by omega) hpp.2 rfl).mono ?_;rintro e w2 ⟨rfl,hb2⟩;have hF2:=(hF.alloc (Obj.cells #[Value.int IntKind.i64 0,Value.int IntKind.i64 aB] 24)).below hb2;have HB2w:Hid (Below w.heap.size w w2):=(HB1.out.alloc HB1.out.size (Obj.cells #[Value.int IntKind.i64 0,Value.int IntKind.i64 aB] 24)).trans (hb2.mono (by have:=HB1.out.size;simp;omega));clear hb2 hF;go_wp2_with (go_at_call 35;fail);refine(clone_sr w2 v1 xs (H1.out.vw.below HB2w.out) (by have:=HFX.out.len;omega)).mono ?_;rintro e w3 ⟨u3,rfl,hS3,hb3⟩;have HS3:Hid (SR w3 w2.heap.size u3 xs):=hS3;have HB3:Hid (Below w2.heap.size w2 w3):=hb3;have HB3w:Hid (Below w.heap.size w w3):=HB2w.out.trans (hb3.mono HB2w.out.size);have hpq:p≤p*p:=(by have h9:=Int.mul_le_mul_of_nonneg_left (show 1≤p by omega) (show 0≤p by omega);rw[Int.mul_one]at h9;exact h9);have CD:=divide_sr w3 p (p*p) w2.heap.size u3 xs b2 o2 m c2 (fun j=>ms.getD j 0) HS3.out hb3.size (HM.out.below HB3w.out) (Nat.lt_of_lt_of_le HB2.out HB2w.out.size) rfl hpp (fun j=>⟨(HFX.out.all j).1,by have:=(HFX.out.all j).2;omega⟩) (by have:=HFX.out.len;omega);rw[HMS.out]at CD;have hF3:=hF2.below hb3;have hlt2:=hF2.lt;clear hS3 hb3 hF2 hpq;go_wp2_with (go_at_call 34;fail);refine CD.mono ?_;rintro e w4 ⟨u1,u2,Q,z,rfl,hS1,hS2,hb4,hD⟩;have hF4:=hF3.step hb4 hlt2;have HS1:Hid (SR w4 w2.heap.size u1 Q):=hS1;have HS2:Hid (SR w4 w2.heap.size u2 z):=hS2;have HD:Hid (Dvd p ms xs Q z):=hD;have HB4w:Hid (Below w.heap.size w w4):=HB3w.out.trans (hb4.mono HB2w.out.size);have HQL:Hid (Q.length≤1048576∧z.length≤1048576):=(by have h1:=hD.len;have h2:=hD.rl;have h3:=HFX.out.len;have h4:=HFM.out.len;show _∧_;omega);clear hS1 hS2 hb4 hD hF3 hlt2 CD;go_wp2_with (go_at_call 35;fail);refine(clone_sr w4 u1 Q HS1.out.view HQL.out.1).mono ?_;rintro e w5 ⟨u5,rfl,hS5,hb5⟩;have hF5:=hF4.below hb5;have HS5:Hid (SR w5 w4.heap.size u5 Q):=hS5;have HS25:Hid (SR w5 w2.heap.size u2 z):=HS2.out.below hb5;have HB5w:Hid (Below w.heap.size w w5):=HB4w.out.trans (hb5.mono HB4w.out.size);have HL5:Hid (b4<w4.heap.size∧w4.heap.size≤w5.heap.size):=⟨hF4.lt,hb5.size⟩;clear hS5 hb5 hF4;go_wp2_with (go_at_call 35;fail);refine(clone_sr w5 u2 z HS25.out.view HQL.out.2).mono ?_;rintro e w6 ⟨u6,rfl,hS6,hb6⟩;have hF6:=hF5.below hb6;have HP:Hid (DvPost w p xs ms (.returned (.tuple #[u5,u6,Flt 0 0])) ((w6.setCell ⟨b4,0,none⟩ (.int .i64 0)).setCell ⟨b4,1,none⟩ (.int .i64 0))):=by
    have h1:=HB4w.out.size;have h2:=HL5.out;exact .mk u5 u6 (by rw[HK.out.1,HK.out.2]) (below_set2 (HB5w.out.trans (hb6.mono HB5w.out.size)) HG.out _ _) (fun h=>absurd HK.out.1 h)
     (fun _=>⟨Q,z,((HS5.out.below hb6).set2 h2.1 _ _).mono h1,(hS6.set2 (by omega) _ _).mono (by omega),HD.out⟩)
   clear hS6 hb6 hF5;obtain⟨l4,d0,d1,f0,f1⟩:=hF6;go_wp2;refine bodyPost_ret (v:= .tuple #[u5,u6,Flt 0 0]) (by simp[results,go_sem,loadVar,World.cell?_setCell_same,World.cell?_setCell_other, *];try rfl) rfl ?_;exact HP.out
 ·have h0b:(cB !=0)=true:=(by simpa using h0);have HR:Hid (∀X,Below w.heap.size w (((w1.setCell ⟨b4,0,none⟩ (.int .i64 cB)).setCell ⟨b4,1,none⟩ (.int .i64 aB)).alloc X)):=fun X=>(below_set2 HB1.out HG.out _ _).alloc (by have:=HB1.out.size;simp;omega) X;have HN:Hid (¬cB=0):=h0;have HK:Hid (dvC p xs ms=cB∧powA p xs ms=aB):=(by unfold dvC powA;rw[HC.out.1,HC.out.2,if_neg h0,if_neg h0];exact⟨rfl,rfl⟩);obtain⟨l4,d0,d1,f0,f1⟩:=hF;go_wp2;go_region
  all_goals
   go_wp2;refine bodyPost_ret (v:= .tuple #[.slice none 0 0, .slice none 0 0,Flt cB aB]) (by simp[results,go_sem,loadVar,World.cell?_setCell_same,World.cell?_setCell_other, *];try rfl) rfl ?_;exact .fail HN.out HK.out.1 HK.out.2 (by first|exact HR.out _|exact(HR.out _).drew)
end Go.Proofs.YtffdemplaodbcaaDoor
namespace Go.Proofs.YtffdemplaodbcaaDoor
open Go Go.Proofs Go.RowKit Go.Rad
set_option maxRecDepth 10000 in
set_option maxHeartbeats 1000000 in
theorem mat_any (w:World) (v:Value) (xs:List Int) (k:Int) (h:VW w v xs) (hl:xs.length≤1048576):
 Calls Tryd.prog 38 #[v, .int .i64 k] w fun e w'=>e= .returned (.int .i64 (if k<0 then 0 else xs.getD k.toNat 0))∧Below w.heap.size w w':=by
 obtain⟨a,b,o,c,rfl,ha,hA⟩:=h;obtain⟨n,hn⟩:∃n,xs.length=n:=⟨_,rfl⟩;rw[hn]at ha hA hl⊢;have HN:Hid (xs.length=n):=hn;clear hn;have HA:Hid (AR w b o n (fun j=>xs.getD j 0)):=hA;clear hA;obtain⟨R,hR⟩:∃R,(if k<0 then 0 else xs.getD k.toNat 0)=R:=⟨_,rfl⟩;rw[hR];have HR:Hid ((if k<0 then 0 else xs.getD k.toNat 0)=R):=hR;clear hR;go_enter Tryd.func38,Tryd.ntmps38;by_cases h0:k<0
 ·have e0:R=0:=(by rw[←HR.out,if_pos h0]);clear HR;go_wp2;refine bodyPost_ret (v:= .int .i64 0) (by simp[results,go_sem,loadVar]) rfl ?_;exact⟨by first|rfl|rw[e0],Below.refl _ _⟩
 ·by_cases h1:(n:Int)≤k
  ·have e0:R=0:=(by rw[←HR.out,if_neg h0,getD_of_ge xs _ (by have:=HN.out;omega)]);clear HR;go_wp2;refine bodyPost_ret (v:= .int .i64 0) (by simp[results,go_sem,loadVar]) rfl ?_;exact⟨by first|rfl|rw[e0],Below.refl _ _⟩
  ·obtain⟨j,rfl⟩:∃j:Nat,k=j:=⟨k.toNat,by omega⟩;obtain rfl:=ha (by omega);have e0:xs.getD j 0=R:=(by rw[←HR.out,if_neg h0,Int.toNat_natCast]);have hc:w.cell? ⟨b,o+j,none⟩=some (.int .i64 R):=(by rw[←e0];exact HA.out j (by omega));clear HR e0;have h2:(j:Int)<(n:Int):=(by omega);go_wp2;refine bodyPost_ret (v:= .int .i64 R) (by simp[results,go_sem,loadVar]) rfl ?_;exact⟨rfl,Below.refl _ _⟩
theorem tmod_pos {a m:Int} (hm:0<m):a%m=(if a.tmod m<0 then a.tmod m+m else a.tmod m)∧ -m<a.tmod m∧a.tmod m<m:=by
 have h1:=Int.mul_tdiv_add_tmod a m;have h2:=Int.tmod_lt_of_pos a hm;have h3:=Int.tmod_lt_of_pos (-a) hm;rw[Int.neg_tmod]at h3;obtain⟨T,hT⟩:∃T,a.tmod m=T:=⟨_,rfl⟩;rw[hT]at h1 h2 h3⊢;have e:a%m=T%m:=(by rw[←h1,Int.mul_add_emod_self_left]);refine⟨?_,by omega,h2⟩;rw[e]
 split
 ·rw[←Int.add_emod_right,Int.emod_eq_of_lt (by omega) (by omega)]
 ·rw[Int.emod_eq_of_lt (by omega) h2]
set_option maxRecDepth 10000 in
set_option maxHeartbeats 1000000 in
theorem mod_any (w:World) (a m:Int) (hm:0<m) (hm2:m<2147483648):
 Calls Tryd.prog 63 #[.int .i64 a, .int .i64 m] w fun e w'=>e= .returned (.int .i64 (a%m))∧Below w.heap.size w w':=by
 obtain⟨h1,h2,h3⟩:=tmod_pos (a:=a) hm;obtain⟨R,hR⟩:∃R,a%m=R:=⟨_,rfl⟩;rw[hR]at h1⊢;obtain⟨T,hT⟩:∃T,a.tmod m=T:=⟨_,rfl⟩;rw[hT]at h1 h2 h3;have HR:Hid (R=if T<0 then T+m else T):=h1;clear h1 hR;go_enter Tryd.func63,Tryd.ntmps63;by_cases h0:T<0
 ·have e0:R=T+m:=(by rw[HR.out,if_pos h0]);have hw:wrap64 (T+m)=T+m:=(by unfold wrap64;omega);clear HR;go_wp2;refine bodyPost_ret (v:= .int .i64 (T+m)) (by simp[results,go_sem,loadVar]) rfl ?_;exact⟨by first|rfl|rw[e0],Below.refl _ _⟩
 ·have e0:R=T:=(by rw[HR.out,if_neg h0]);clear HR;go_wp2;refine bodyPost_ret (v:= .int .i64 T) (by simp[results,go_sem,loadVar]) rfl ?_;exact⟨by first|rfl|rw[e0],Below.refl _ _⟩
set_option maxRecDepth 10000 in
set_option maxHeartbeats 1000000 in
theorem same_any (w:World) (v1 v2:Value) (xs ys:List Int) (h1:VW w v1 xs) (h2:VW w v2 ys) (hl:xs.length≤17592186044416) (hl2:ys.length≤17592186044416):
 Calls Tryd.prog 14 #[v1,v2] w fun e w'=>BoolIs w (xs=ys) e w':=by
 obtain⟨a,b,o,c,rfl,ha,hA⟩:=h1;obtain⟨a2,b2,o2,c2,rfl,ha2,hA2⟩:=h2;obtain⟨n,hn⟩:∃n,xs.length=n:=⟨_,rfl⟩;obtain⟨n2,hn2⟩:∃n,ys.length=n:=⟨_,rfl⟩;rw[hn]at ha hA hl⊢;rw[hn2]at ha2 hA2 hl2⊢;have HN:Hid (xs.length=n∧ys.length=n2):=⟨hn,hn2⟩;clear hn hn2;have HA:Hid (AR w b o n (fun j=>xs.getD j 0)):=hA;have HA2:Hid (AR w b2 o2 n2 (fun j=>ys.getD j 0)):=hA2;clear hA hA2;go_enter Tryd.func14,Tryd.ntmps14;by_cases h0:n=n2
 ·subst h0;go_wp2;go_loopw [5] (fun i wr=>∃k:Nat,k≤n∧i= .int .i64 k∧(∀j,j<k→xs.getD j 0=ys.getD j 0)∧Below w.heap.size w wr) (fun i _=>n-(Lib.intOf i).toNat)
  case atStart=>exact⟨0,by omega,rfl,fun j hj=>by omega,Below.refl _ _⟩
  case round=>
   obtain⟨k,hk,rfl,he,hB⟩:=hrel;have HE:Hid (∀j,j<k→xs.getD j 0=ys.getD j 0):=he;have HB:Hid (Below w.heap.size w wr):=hB;clear he hB;by_cases hkn:k<n
   ·have hki:(k:Int)<(n:Int):=(by omega);obtain rfl:=ha (by omega);obtain rfl:=ha2 (by omega);obtain⟨x,hx⟩:∃x,xs.getD k 0=x:=⟨_,rfl⟩;obtain⟨y,hy⟩:∃y,ys.getD k 0=y:=⟨_,rfl⟩;have c1:wr.cell? ⟨b,o+k,none⟩=some (.int .i64 x):=(by rw[←hx];exact(HA.out.below HB.out) k hkn);have c2':wr.cell? ⟨b2,o2+k,none⟩=some (.int .i64 y):=(by rw[←hy];exact(HA2.out.below HB.out) k hkn);have HXY:Hid (xs.getD k 0=x∧ys.getD k 0=y):=⟨hx,hy⟩;clear hx hy;by_cases hxy:x=y
    ·have HS:Hid (x=y):=hxy;subst hxy;have HR:Hid (∀j,j<k+1→xs.getD j 0=ys.getD j 0):=fun j hj=>by
      rcases Nat.lt_or_ge j k with h|h
      ·exact HE.out j h
      ·obtain rfl:j=k:=(by omega);rw[HXY.out.1,HXY.out.2]
     go_wp2;go_region
     all_goals
      go_wp2
      first
      |exact⟨⟨k+1,by omega,by congr 1,HR.out,by first|exact HB.out|exact HB.out.drew⟩,by simp only[Lib.intOf];omega⟩
      |(
       go_roundw
       case rel=>exact⟨k+1,by omega,by first|rfl|congr 1,HR.out,by first|exact HB.out|exact HB.out.drew⟩
       case measure=>simp only[Lib.intOf];omega)
    ·have hxb:(x !=y)=true:=(by simpa using hxy);have HNE:Hid (¬xs=ys):=fun h=>by have h9:=HXY.out;rw[h]at h9;exact hxy (h9.1.symm.trans h9.2)
     go_wp2;go_region
     all_goals
      go_wp2;refine bodyPost_ret (v:= .bool false) (by simp[results,go_sem,loadVar]) rfl ?_;exact⟨false,rfl,⟨fun h=>absurd h (by decide),fun h=>absurd h HNE.out⟩,by first|exact HB.out|exact HB.out.drew⟩
   ·obtain rfl:k=n:=(by omega);have hki:¬(k:Int)<(k:Int):=(by omega);have HEQ:Hid (xs=ys):=(by have h9:=HN.out;refine List.ext_getElem (by omega) fun i h1 h2=>?_;have h3:=HE.out i (by omega);simpa [List.getD_eq_getElem?_getD,h1,h2]using h3);go_wp2;refine bodyPost_ret (v:= .bool true) (by simp[results,go_sem,loadVar]) rfl ?_;exact⟨true,rfl,⟨fun _=>HEQ.out,fun _=>rfl⟩,HB.out⟩
 ·have hne':¬(n:Int)=(n2:Int):=(by omega);have HNE:Hid (¬xs=ys):=fun h=>by have h9:=HN.out;rw[h]at h9;omega
  go_wp2;refine bodyPost_ret (v:= .bool false) (by simp[results,go_sem,loadVar]) rfl ?_;exact⟨false,rfl,⟨fun h=>absurd h (by decide),fun h=>absurd h HNE.out⟩,Below.refl _ _⟩
end Go.Proofs.YtffdemplaodbcaaDoor
namespace Go.Proofs.YtffdemplaodbcaaDoor
open Go Go.Proofs Go.RowKit Go.Rad
structure Trm (xs z:List Int):Prop where
 eq:∀j,z.getD j 0=xs.getD j 0
 len:z.length≤xs.length
 top:0<z.length→z.getD (z.length-1) 0≠0
set_option maxRecDepth 10000 in
set_option maxHeartbeats 1000000 in
theorem made_any (w:World) (B:Nat) (v:Value) (xs:List Int) (h:SR w B v xs) (hl:xs.length≤1048576):
 Calls Tryd.prog 39 #[v] w fun e w'=>∃u z,e= .returned u∧SR w' B u z∧Below w.heap.size w w'∧Trm xs z:=by
 cases h with
 |nil a c hv hx=>
  subst hv;subst hx;have hc0:(0:Int)≤(c:Int):=(by omega);go_enter Tryd.func39,Tryd.ntmps39;go_wp2;go_loopw [3] (fun i wr=>i= .int .i64 0∧Below w.heap.size w wr) (fun _ _=>0)
  case atStart=>exact⟨rfl,Below.refl _ _⟩
  case round=>obtain⟨rfl,hB⟩:=hrel;have HB:Hid (Below w.heap.size w wr):=hB;clear hB;go_wp2;refine bodyPost_ret (v:= .slice a 0 c) (by simp[results,go_sem,loadVar]) rfl ?_;exact⟨_,[],rfl, .nil a c rfl rfl,HB.out,fun _=>rfl,Nat.le_refl _,fun h=>by simp at h⟩
 |row b o c hv h0 hc hb hbl hA hz=>
  obtain⟨n,hn⟩:∃n,xs.length=n:=⟨_,rfl⟩;rw[hn]at hv h0 hc hA hz hl;subst hv;have HN:Hid (xs.length=n):=hn;have HA:Hid (AR w b o n (fun j=>xs.getD j 0)):=hA;have HZ:Hid (Free w b o n):=hz;have HBL:Hid (b<w.heap.size∧B≤b):=⟨hbl,hb⟩;clear hA hz hn hbl hb;have FIN:Hid (∀(k:Nat) (wr:World),k≤n→Below w.heap.size w wr→(∀j,k≤j→xs.getD j 0=0)→(0<k→xs.getD (k-1) 0≠0)→∃u z,Ending.returned (.slice (some ⟨b,o,none⟩) k c)= .returned u∧SR wr B u z∧Below w.heap.size w wr∧Trm xs z):=by
   intro k wr hk hB hz0 ht;obtain⟨r,re⟩:∃r:Nat→Int,∀j,r j=xs.getD j 0:=⟨_,fun _=>rfl⟩;refine⟨_,lst r k,rfl,sr_lst (fun _=>rfl) (by omega) HBL.out.2 (Nat.lt_of_lt_of_le HBL.out.1 hB.size) (fun i hi=>by rw[re];exact(HA.out.below hB) i (by omega)) (fun i hi=>(hB.frozen (p:=⟨b,o+i,none⟩) HBL.out.1).trans (HZ.out i (by omega))),hB,fun j=>?_,by rw[lst_length,HN.out];exact hk,fun h=>?_⟩
   ·rw[lst_getD];unfold cut;by_cases hj:j<k
    ·rw[if_pos hj,re]
    ·rw[if_neg hj,hz0 j (by omega)]
   ·rw[lst_length]at h⊢;rw[lst_getD];unfold cut;rw[if_pos (by omega),re];exact ht h
  go_enter Tryd.func39,Tryd.ntmps39;go_wp2;go_loopw [3] (fun i wr=>∃k:Nat,k≤n∧i= .int .i64 k∧(∀j,k≤j→xs.getD j 0=0)∧Below w.heap.size w wr) (fun i _=>(Lib.intOf i).toNat)
  case atStart=>exact⟨n,Nat.le_refl _,rfl,fun j hj=>getD_of_ge xs j (by rw[HN.out];exact hj),Below.refl _ _⟩
  case round=>
   obtain⟨k,hk,rfl,he,hB⟩:=hrel;have HE:Hid (∀j,k≤j→xs.getD j 0=0):=he;have HB:Hid (Below w.heap.size w wr):=hB;clear he hB;have hkc:(k:Int)≤(c:Int):=(by omega);cases k with
   |zero=>have R:=FIN.out 0 wr (by omega) HB.out HE.out (fun h=>by omega);have R:Hid _:=R;have hkc':(0:Int)≤(c:Int):=(by omega);go_wp2;refine bodyPost_ret (v:= .slice (some ⟨b,o,none⟩) 0 c) (by simp[results,go_sem,loadVar]) rfl ?_;exact R.out
   |succ j=>
    obtain⟨x,hx⟩:∃x,xs.getD j 0=x:=⟨_,rfl⟩;have c1:wr.cell? ⟨b,o+j,none⟩=some (.int .i64 x):=(by rw[←hx];exact(HA.out.below HB.out) j (by omega));have HX:Hid (xs.getD j 0=x):=hx;clear hx;have hj1:((j+1:Nat):Int)-1=(j:Int):=(by omega);have hjn:(j:Int)<(n:Int):=(by omega);rw[show((j+1:Nat):Int)=(j:Int)+1 by omega]at hkc⊢;have hj0:(0:Int)<(j:Int)+1:=(by omega);by_cases hx0:x=0
    ·have HR:Hid (∀i,j≤i→xs.getD i 0=0):=fun i hi=>by
      rcases Nat.lt_or_ge j i with h|h
      ·exact HE.out i h
      ·obtain rfl:i=j:=(by omega);rw[HX.out,hx0]
     subst hx0;go_wp2
     first
     |exact⟨⟨j,by omega,rfl,HR.out,HB.out⟩,by simp only[Lib.intOf];omega⟩
     |(
      go_roundw
      case rel=>exact⟨j,by omega,rfl,HR.out,HB.out⟩
      case measure=>simp only[Lib.intOf];omega)
    ·have R:=FIN.out (j+1) wr (by omega) HB.out HE.out (fun h=>by rw[Nat.add_sub_cancel,HX.out];exact hx0);have R:Hid _:=R;have hxb:(x==0)=false:=(by simpa using hx0);go_wp2;refine bodyPost_ret (v:= .slice (some ⟨b,o,none⟩) (j+1) c) (by simp[results,go_sem,loadVar]) rfl ?_;exact R.out
end Go.Proofs.YtffdemplaodbcaaDoor
namespace Go.Proofs.YtffdemplaodbcaaDoor
open Go Go.Proofs Go.RowKit Go.Rad
def smp (x y:List Int) (k:Nat):Nat→Int
 |0=>0
 |n+1=>smp x y k n+x.getD n 0*y.getD (k-n) 0
theorem smp_nil (y:List Int) (k:Nat):∀n,smp [] y k n=0
 |0=>rfl
 |n+1=>by show smp [] y k n+([]:List Int).getD n 0*_=0;rw[smp_nil y k n,getD_of_ge [] n (Nat.zero_le _),Int.zero_mul,Int.zero_add]
theorem smp_cons (a:Int) (x y:List Int) (k:Nat):∀n,smp (a::x) y (k+1) (n+1)=a*y.getD (k+1) 0+smp x y k n
 |0=>by show 0+a*y.getD (k+1) 0=a*y.getD (k+1) 0+0;omega
 |n+1=>by have e1:smp (a::x) y (k+1) (n+1+1)=smp (a::x) y (k+1) (n+1)+x.getD n 0*y.getD (k+1-(n+1)) 0:=rfl;have e2:smp x y k (n+1)=smp x y k n+x.getD n 0*y.getD (k-n) 0:=rfl;rw[e1,e2,smp_cons a x y k n,show k+1-(n+1)=k-n by omega];omega
theorem smp_row:∀(x y:List Int) (k:Nat),smp x y k (k+1)=row (pmul x y) k
 |[],y,k=>by rw[smp_nil];rfl
 |a::x,y,0=>by show 0+a*y.getD 0 0=row (pmul (a::x) y) 0;have e:row (pmul (a::x) y) 0=a*row y 0+0:=(by rw[row_pmul];rfl);rw[e,row_getD];omega
 |a::x,y,k+1=>by have e:row (pmul (a::x) y) (k+1)=a*row y (k+1)+act x (row y) k:=(by rw[row_pmul];rfl);rw[smp_cons,e,smp_row x y k,row_pmul,row_getD]
theorem row_pmul_ge (x y:List Int) (j:Nat) (h:x.length+y.length≤j+1):row (pmul x y) j=0:=by have e1:row (pmul x y) j=cvp (fun j=>x.getD j 0) (fun j=>y.getD j 0) y.length x.length j:=(by rw[row_pmul,←act_row_lst,lst_self,lst_self]);rw[e1,cvp_zero _ _ _ _ _ h]
theorem Trm.nrm {p:Int} {t:Nat→Int} {xs z:List Int} (h:Trm xs z) (hx:∀j,xs.getD j 0=t j%p):Nrm p t z:=⟨fun j=>by rw[row_getD,h.eq,hx],h.top⟩
end Go.Proofs.YtffdemplaodbcaaDoor
