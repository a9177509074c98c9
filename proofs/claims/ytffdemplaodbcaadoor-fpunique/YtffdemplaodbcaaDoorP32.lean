/- A part of the proof: MC. -/
import Derived.Test.YtffdemplaodbcaaDoorP31
set_option linter.all false
namespace Go.Proofs.YtffdemplaodbcaaDoor
open Go Go.Proofs Go.RowKit Go.Rad
theorem FB.off {w:World} {b c i:Nat} {u0 u1:Value} (h:FB w b u0 u1) (v:Value) (hc:b≠c):FB (w.setCell ⟨c,i,none⟩ v) b u0 u1:=⟨by simp;exact h.lt,by rw[cell_other (.inl hc)];exact h.c0,by rw[cell_other (.inl hc)];exact h.c1,by rw[World.frozen?_setCell];exact h.f0,by rw[World.frozen?_setCell];exact h.f1⟩
theorem MT.put {w:World} {B R n:Nat} {rb:Nat→Nat} {M:Nat→Nat→Int} (h:MT w B R n rb M) {t l:Nat} (ht:t<n) {y:Nat→Int} (hl:OA w B l n y) (hR:l≠R) (hne:∀i,i<n→i≠t→rb i≠l):
 MT (w.setCell ⟨R,t,none⟩ (.slice (some ⟨l,0,none⟩) n n)) B R n (fun i=>if i=t then l else rb i) (fun i j=>if i=t then y j else M i j):=by
 have keep:∀ {b:Nat} {f:Nat→Int},OA w B b n f→b≠R→OA (w.setCell ⟨R,t,none⟩ (.slice (some ⟨l,0,none⟩) n n)) B b n f:=fun {b f} ho hb=>⟨ho.base,by simpa [World.setCell]using ho.lt,fun i hi=>by rw[cell_other (.inl hb)];exact ho.c i hi,fun i hi=>by rw[World.frozen?_setCell];exact ho.z i hi⟩;refine⟨fun i hi=>?_,fun i hi=>by rw[World.frozen?_setCell];exact h.zR i hi,h.base,by simpa [World.setCell]using h.lt,fun i hi=>?_,fun i hi=>?_,fun i j hi hj=>?_⟩
 ·by_cases hit:i=t
  ·subst hit;show _=some (Value.slice (some ⟨if i=i then l else rb i,0,none⟩) n n);rw[if_pos rfl];exact cell_same (h.cR i hi)
  ·show _=some (Value.slice (some ⟨if i=t then l else rb i,0,none⟩) n n);rw[if_neg hit,cell_other (.inr hit)];exact h.cR i hi
 ·by_cases hit:i=t
  ·subst hit;show OA _ B (if i=i then l else rb i) n (fun j=>if i=i then y j else M i j);simp only[if_pos];exact keep hl hR
  ·show OA _ B (if i=t then l else rb i) n (fun j=>if i=t then y j else M i j);simp only[if_neg hit];exact keep (h.row i hi) (h.ne i hi)
 ·show(if i=t then l else rb i)≠R
  split
  ·exact hR
  ·exact h.ne i hi
 ·show(if i=t then l else rb i)=(if j=t then l else rb j)→i=j;by_cases hit:i=t
  ·by_cases hjt:j=t
   ·intro _;omega
   ·rw[if_pos hit,if_neg hjt];intro e;exact absurd e.symm (hne j hj hjt)
  ·by_cases hjt:j=t
   ·rw[if_neg hit,if_pos hjt];intro e;exact absurd e (hne i hi hit)
   ·rw[if_neg hit,if_neg hjt];exact h.inj i j hi hj
theorem MT.chg {w w':World} {B R n lo hi:Nat} {rb:Nat→Nat} {M:Nat→Nat→Int} (h:MT w B R n rb M) {t:Nat} (ht:t<n) (hC:Chg w w' (rb t) lo hi) (g:Nat→Int)
 (hg:∀j,j<n→w'.cell? ⟨rb t,j,none⟩=some (.int .i64 (g j))):MT w' B R n rb (fun i j=>if i=t then g j else M i j):=by
 refine⟨fun i hi=>(hC.cellAt h.lt (.inl (h.ne t ht).symm)).trans (h.cR i hi),fun i hi=>(hC.frozAt h.lt).trans (h.zR i hi),h.base,Nat.lt_of_lt_of_le h.lt hC.size,fun i hi=>?_,h.ne,h.inj⟩;have ho:=h.row i hi;refine⟨ho.base,Nat.lt_of_lt_of_le ho.lt hC.size,fun j hj=>?_,fun j hj=>(hC.frozAt ho.lt).trans (ho.z j hj)⟩;by_cases hit:i=t
 ·subst hit;show _=some (Value.int .i64 (if i=i then g j else M i j));rw[if_pos rfl,Nat.zero_add];exact hg j hj
 ·show _=some (Value.int .i64 (if i=t then g j else M i j));rw[if_neg hit];exact(hC.cellAt ho.lt (.inl fun e=>hit (h.inj i t hi ht e))).trans (ho.c j hj)
theorem MT.at0 {w:World} {B R n:Nat} {rb:Nat→Nat} {M N:Nat→Nat→Int} (h:MT w B R n rb M) (e:∀i j,i<n→j<n→M i j=N i j):MT w B R n rb N:=⟨h.cR,h.zR,h.base,h.lt,fun i hi=>(h.row i hi).fun fun j hj=>e i j hi hj,h.ne,h.inj⟩
inductive MRV (wa:World) (p:Int) (x:Nat→Int) (c n:Nat) (v:Value) (wx:World):Prop
 |mk (l:Nat) (r:Int) (y:Nat→Int) (hv:v= .slice (some ⟨l,0,none⟩) n n) (hO:OA wx wa.heap.size l n y) (hr:0<r∧r<p) (hx:r*x c%p=1) (hy:∀j,j<n→y j=if c≤j then x j*r%p else 0)
theorem MRV.below {wa wx wy:World} {p:Int} {x:Nat→Int} {c n:Nat} {v:Value} (h:MRV wa p x c n v wx) (hb:Below wx.heap.size wx wy):MRV wa p x c n v wy:=by obtain⟨l,r,y,hv,hO,hr,hx,hy⟩:=h;exact⟨l,r,y,hv,hO.below hb,hr,hx,hy⟩
def SwK (R n:Nat) (rb:Nat→Nat):Nat→Prop:=fun k=>k=R∨∃i,i<n∧k=rb i
structure BK (S:Nat→Prop) (B:Nat) (w w':World):Prop where
 b:Below B w w'
 k:Kept S w w'
inductive SweepPost (w:World) (p q:Int) (B R n t c:Nat) (rb:Nat→Nat) (M:Nat→Nat→Int) (e:Ending) (w':World):Prop
 |mk (rb':Nat→Nat) (N:Nat→Nat→Int) (y:Nat→Int) (r:Int) (he:e= .returned (.tuple #[])) (hM:MT w' B R n rb' N) (hb:Below B w w') (hk:Kept (SwK R n rb) w w') (hrb:∀i,i<n→rb' i=rb i∨w.heap.size≤rb' i) (hbd:∀i j,i<n→j<n→0≤N i j∧N i j<q)
  (hr:r*M t c%p=1) (hy:∀j,j<n→y j=if c≤j then M t j*r%p else 0) (h:∀i j,i<n→j<n→N i j%p=(if i=t then y j else M i j-M i c*y j)%p)
theorem sweep_mod {p q m o y s:Int} (hq:q=p*p) (hq0:0<q) (hp:0<p) (hm:0≤m∧m<q) (ho:o= -s%p) (hy:0≤y∧y<p):0≤o*y∧o*y<q∧0≤gq q (m+o*y)∧gq q (m+o*y)<q∧gq q (m+o*y)%p=(m-s*y)%p:=by have h1:0≤o∧o<p:=(by rw[ho];exact⟨Int.emod_nonneg _ (by omega),Int.emod_lt_of_pos _ hp⟩);have h2:0≤o*y:=Int.mul_nonneg h1.1 hy.1;have h3:o*y<q:=(by rw[hq];have h4:o*y≤(p-1)*y:=Int.mul_le_mul_of_nonneg_right (by omega) hy.1;have h5:(p-1)*y≤(p-1)*(p-1):=Int.mul_le_mul_of_nonneg_left (by omega) (by omega);have h6:(p-1)*(p-1)<p*p:=(by have e:(p-1)*(p-1)=p*p-p-p+1:=(by rw[Int.sub_mul,Int.mul_sub];omega);omega);omega);obtain⟨g1,g2,g3⟩:=gq_ok hq (s:=m+o*y) (by omega) (by omega) hq0;refine⟨h2,h3,g1,g2,g3.trans ?_⟩;rw[Int.add_emod,Int.mul_emod,ho,Int.emod_emod,←Int.mul_emod,←Int.add_emod,Int.neg_mul,←Int.sub_eq_add_neg]
set_option maxRecDepth 10000 in
set_option maxHeartbeats 2000000 in
theorem sweep_any (w:World) (p q:Int) (B R n t c:Nat) (rb:Nat→Nat) (M:Nat→Nat→Int) (hM:MT w B R n rb M) (hBs:B≤w.heap.size) (hq:q=p*p) (hpr:PrI p) (ht:t<n) (hc:c<n) (hn:n≤1000)
 (hb:∀i j,i<n→j<n→0≤M i j∧M i j<q) (hne:M t c%p≠0):
 Calls Tryd.prog 73 #[FV p q, .slice (some ⟨R,0,none⟩) n n, .int .i64 t, .int .i64 c] w fun e w'=>SweepPost w p q B R n t c rb M e w':=by
 have hp:1<p∧p<2147483648:=(by obtain⟨P,h1,h2,h3⟩:=hpr;have:=h2.1;omega);have HM:Hid (MT w B R n rb M):=hM;have HBS:Hid (B≤w.heap.size):=hBs;have HBD:Hid (∀i j,i<n→j<n→0≤M i j∧M i j<q):=hb;have HQ:Hid (q=p*p):=hq;have HTN:Hid (t<n):=ht;have HCN:Hid (c<n):=hc;have hti:(t:Int)<(n:Int):=(by omega);have hci:(c:Int)<(n:Int):=(by omega);have hci':(c:Int)≤(n:Int):=(by omega);have hni:(n:Int)≤1000:=(by omega);have CM:=fun (wx:World) (hbx:Below w.heap.size w wx)=>monicRow_any wx p q (rb t) n c (M t) B ((HM.out.row t ht).below hbx) hq hpr hc hn (fun j hj=>HBD.out t j ht hj) hne;obtain⟨rt,hrt⟩:∃x,x=rb t:=⟨_,rfl⟩;rw[←hrt]at CM;have HRT:Hid (rt=rb t):=hrt;clear hM hBs hb hne hpr hrt hq;go_enter Tryd.func73,Tryd.ntmps73;go_upto_region 1 with fail;refine wp_world (fun w1=>Below w.heap.size w w1∧FB w1 w.heap.size (.int .i64 p) (.int .i64 q)) ⟨bel1 _ _,FB.mk0 _ _ _ _⟩ ?_;rintro w1 ⟨hB1,hF1⟩;obtain⟨b4,hb4⟩:∃x,x=w.heap.size:=⟨_,rfl⟩;rw[←hb4]at hF1⊢;have HB1:Hid (Below w.heap.size w w1):=hB1;have HF1:Hid (FB w1 b4 (.int .i64 p) (.int .i64 q)):=hF1;have HB4:Hid (b4=w.heap.size):=hb4;have HM1:Hid (MT w1 B R n rb M):=HM.out.below hB1;have ct:w1.cell? ⟨R,t,none⟩=some (.slice (some ⟨rt,0,none⟩) n n):=(by rw[HRT.out];exact HM1.out.cR t ht);have lR:=HM1.out.lt;have HCM:Hid (∀wx,Below w1.heap.size w1 wx→Calls Tryd.prog 90 #[FV p q, .slice (some ⟨rt,0,none⟩) n n, .int .i64 c] wx fun e w'=>MonRow wx p (M t) c n e w'):=fun wx h=>CM wx (HB1.out.trans (h.mono HB1.out.size));clear hB1 hb4 CM;obtain⟨l4,k40,k41,z4,z5⟩:=hF1;refine wp_drawn mixed [⟨10,[],[],[4]⟩,⟨11,[],[],[1]⟩,⟨12,[],[],[2]⟩,⟨13,[1,2],[1,2],[]⟩,⟨14,[3],[1,2,3],[]⟩,⟨15,[],[],[3]⟩,⟨16,[0,4,5],[0,1,2,3,4,5],[]⟩,⟨8,[0,1,2,3,4,5,6],[0,1,2,3,4,5,6],[]⟩] [] (by kernel_rfl) 52 rfl (by kernel_rfl) (fun (i:Nat) (v:Value) (wq:World)=>match i with|0=>v= .agg #[.int .i64 (p), .int .i64 (q)]|1=>v= .slice (some ⟨R,0,none⟩) (n) (n)|2=>v= .int .i64 ((t:Int))|3=>v= .pointer (some ⟨R,t,none⟩)|4=>v= .slice (some ⟨rt,0,none⟩) (n) (n)|5=>v= .int .i64 ((c:Int))|6=>MRV w1 p (M t) c n v wq|7=>MRV w1 p (M t) c n v wq|_=>True) (fun _ wq=>Below w1.heap.size w1 wq) (fun wx wy=>Below wx.heap.size wx wy) (Below.refl _ _).drew (fun i v wx wy h hx=>match i,h with|0,h=>h|1,h=>h|2,h=>h|3,h=>h|4,h=>h|5,h=>h|6,h=>h.below hx|7,h=>h.below hx|n+8,_=>trivial) ?_ ?_
 ·intro i o r ho hr L fr wx hW hL hpr hds hdef hpre hfree;clear hL hpr hds hdef
  match i,ho,hr with
  |0,ho,hr=>?_
  |1,ho,hr=>?_
  |2,ho,hr=>?_
  |3,ho,hr=>?_
  |4,ho,hr=>?_
  |5,ho,hr=>?_
  |6,ho,hr=>obtain rfl:=Option.some.inj ho;obtain rfl:=Option.some.inj hr;have e0:=ev_tmp (show fr.eval (.tmp 10)= .agg #[.int .i64 (p), .int .i64 (q)] from hpre 0 (by decide) _ rfl);have e4:=ev_tmp (show fr.eval (.tmp 14)= .slice (some ⟨rt,0,none⟩) (n) (n)from hpre 4 (by decide) _ rfl);have e5:=ev_tmp (show fr.eval (.tmp 15)= .int .i64 ((c:Int))from hpre 5 (by decide) _ rfl);clear hpre hfree;refine stpK rfl rfl fun K hK=>?_;go_simp;refine(HCM.out wx hW).mono ?_;rintro e wy ⟨l,r,y,rfl,hO,hb,hr,hx,hy⟩;exact hK _ _ ⟨(.mk l r y rfl (hO.mono hW.size) hr hx hy),hW.trans (hb.mono hW.size),hb,fun h=>(List.not_mem_nil h).elim⟩
  |7,ho,hr=>?_
  |n+8,ho,hr=>exact absurd hr (by simp)
  all_goals
   obtain rfl:=Option.some.inj ho;obtain rfl:=Option.some.inj hr;simp only[List.mem_cons,List.not_mem_nil,or_false,false_imp_iff,implies_true,forall_eq_or_imp,forall_eq,List.getElem?_cons_zero,List.getElem?_cons_succ,Option.some.injEq,forall_eq',evt]at hpre hfree;have c0:=(hW.cell (p:=⟨b4,0,none⟩) l4).trans k40;have c1:=(hW.cell (p:=⟨b4,1,none⟩) l4).trans k41;have c2:=(hW.cell (p:=⟨R,t,none⟩) lR).trans ct;refine stpK rfl rfl fun K hK=>?_ <;> (go_simp;exact hK _ _ ⟨(by first|rfl|exact hpre|exact hpre.1|exact hpre.2|(simp only[hpre];done)),hW,Below.refl _ _,fun h=>(List.not_mem_nil h).elim⟩)
 ·intro vs w2 hvs hW1 hap0;clear hap0;have e0:vs 0= .agg #[.int .i64 (p), .int .i64 (q)]:=hvs 0 (by decide);have e1:vs 1= .slice (some ⟨R,0,none⟩) (n) (n):=hvs 1 (by decide);have e2:vs 2= .int .i64 ((t:Int)):=hvs 2 (by decide);have e3:vs 3= .pointer (some ⟨R,t,none⟩):=hvs 3 (by decide);have e4:vs 4= .slice (some ⟨rt,0,none⟩) (n) (n):=hvs 4 (by decide);have e5:vs 5= .int .i64 ((c:Int)):=hvs 5 (by decide);obtain⟨u6,e6⟩:∃u,vs 6=u:=⟨_,rfl⟩;have p6:MRV w1 p (M t) c n u6 w2:=(by rw[←e6];exact hvs 6 (by decide));obtain⟨u7,e7⟩:∃u,vs 7=u:=⟨_,rfl⟩;have p7:MRV w1 p (M t) c n u7 w2:=(by rw[←e7];exact hvs 7 (by decide));simp only[puts,Nat.reduceAdd,e0,e1,e2,e3,e4,e5,e6,e7,Act.put,List.setIfInBounds_toArray,List.set_cons_zero,List.set_cons_succ,List.drop_succ_cons,List.drop_zero,List.length_cons,List.length_nil];clear hvs e0 e1 e2 e3 e4 e5 e6 e7;obtain⟨l,r,y,rfl,hO2,hr2,hx2,hy2⟩:=p7;have HM2:Hid (MT w2 B R n rb M):=HM1.out.below hW1;have HF2:Hid (FB w2 b4 (.int .i64 p) (.int .i64 q)):=HF1.out.below hW1;have HL2:Hid (OA w2 w1.heap.size l n y):=hO2;have HY:Hid (r*M t c%p=1∧∀j,j<n→y j=if c≤j then M t j*r%p else 0):=⟨hx2,hy2⟩;have HB2:Hid (Below w.heap.size w w2):=HB1.out.trans (hW1.mono HB1.out.size);have HLL:Hid (w1.heap.size≤l∧l≠R∧l≠b4):=(by have h1:=hO2.base;have h2:=HM1.out.lt;have h3:=HF1.out.lt;show _∧_∧_;omega);clear p6 hO2 hr2 hx2 hy2 hW1 l4 k40 k41 z4 z5 lR ct HCM;have ct2:=HM2.out.cR t ht;have zt2:=HM2.out.zR t ht;have lR2:=HM2.out.lt;go_upto_region 3 with fail;refine wp_world (fun w3=>MT w3 B R n (fun i=>if i=t then l else rb i) (fun i j=>if i=t then y j else M i j)∧FB w3 b4 (.int .i64 p) (.int .i64 q)∧BK (SwK R n rb) B w w3)
   ⟨HM2.out.put ht (HL2.out.mono (by have:=HB1.out.size;have:=HBS.out;omega)) HLL.out.2.1 (fun i hi _ e=>by have:=(HM1.out.row i hi).lt;have:=HLL.out.1;omega),HF2.out.off _ (by have:=HB4.out;have:=HM.out.lt;omega),⟨(HB2.out.mono HBS.out).setCell (p:=⟨R,t,none⟩) HM.out.base _,(Kept.of_below HB2.out).set (.inl rfl) _⟩⟩ ?_
  rintro w3 ⟨hM3,hF3,hB3⟩;obtain⟨rb1,hrb1⟩:∃f:Nat→Nat,f=fun i=>if i=t then l else rb i:=⟨_,rfl⟩;rw[←hrb1]at hM3;have HRK1:Hid (w.heap.size≤l∧∀i,i≠t→rb1 i=rb i):=⟨Nat.le_trans HB1.out.size HLL.out.1,fun i hi=>by rw[hrb1];exact if_neg hi⟩;have HRB:Hid (rb1 t=l∧∀i,i<n→i≠t→rb1 i≠l):=(by refine⟨by rw[hrb1];exact if_pos rfl,fun i hi h e=>?_⟩;rw[hrb1]at e;have e2:(if i=t then l else rb i)=l:=e;rw[if_neg h]at e2;have:=(HM1.out.row i hi).lt;have:=HLL.out.1;omega);have HRB4:Hid (∀i,i<n→rb1 i≠b4):=fun i hi e=>by
   rw[hrb1]at e;have e2:(if i=t then l else rb i)=b4:=e
   split at e2
   ·exact HLL.out.2.2 e2
   ·have h1:=(HM.out.row i hi).lt;have h2:=HB4.out;omega
  have HYB:Hid (∀j,j<n→0≤y j∧y j<p):=fun j hj=>by
   rw[HY.out.2 j hj]
   split
   ·exact⟨Int.emod_nonneg _ (by omega),Int.emod_lt_of_pos _ (by omega)⟩
   ·omega
  have HM3:Hid (MT w3 B R n rb1 (fun i j=>if i=t then y j else M i j)):=hM3;have HF3:Hid (FB w3 b4 (.int .i64 p) (.int .i64 q)):=hF3;have HB3:Hid (BK (SwK R n rb) B w w3):=hB3;have HQQ:Hid (0<q∧q<4611686018427387904∧p≤q):=(by have h1:=sq_lt (by omega:(0:Int)≤p) hp.2 (by omega) hp.2;have h9:=Int.mul_le_mul_of_nonneg_left (show 1≤p by omega) (show 0≤p by omega);rw[Int.mul_one]at h9;rw[←HQ.out]at h1 h9;show _∧_∧_;omega);clear hM3 hF3 hB3 hrb1 ct2 zt2 lR2 HM2 HF2 HL2 HB2 HF1 HM1;go_wp2;go_loopw [23] (fun i wr=>∃(k:Nat) (N:Nat→Nat→Int),k≤n∧i= .int .i64 k∧MT wr B R n rb1 N∧FB wr b4 (.int .i64 p) (.int .i64 q)∧BK (SwK R n rb) B w wr∧(∀i j,i<n→j<n→0≤N i j∧N i j<q)∧(∀j,j<n→N t j=y j)∧(∀i j,i<n→j<n→k≤i→i≠t→N i j=M i j)∧(∀i j,i<n→j<n→i<k→i≠t→N i j%p=(M i j-M i c*y j)%p)) (fun i _=>n-(Lib.intOf i).toNat)
  case atStart=>
   refine⟨0,_,by omega,rfl,HM3.out,HF3.out,HB3.out,fun i j hi hj=>?_,fun j hj=>if_pos rfl,fun i j hi hj _ h=>if_neg h,fun i j hi hj h=>by omega⟩;show 0≤(if i=t then y j else M i j)∧(if i=t then y j else M i j)<q
   split
   ·have h1:=HYB.out j hj;have h2:=HQQ.out;omega
   ·exact HBD.out i j hi hj
  case round=>
   obtain⟨k,N,hkn,rfl,hMr,hFr,hBr,hNb,hNt,hN1,hN2⟩:=hrel;have HMr:Hid (MT wr B R n rb1 N):=hMr;have HFr:Hid (FB wr b4 (.int .i64 p) (.int .i64 q)):=hFr;have HBr:Hid (BK (SwK R n rb) B w wr):=hBr;have HNb:Hid (∀i j,i<n→j<n→0≤N i j∧N i j<q):=hNb;have HN:Hid ((∀j,j<n→N t j=y j)∧(∀i j,i<n→j<n→k≤i→i≠t→N i j=M i j)∧(∀i j,i<n→j<n→i<k→i≠t→N i j%p=(M i j-M i c*y j)%p)):=⟨hNt,hN1,hN2⟩;clear hMr hBr hNb hNt hN1 hN2 hFr;by_cases hk:k<n
   ·have hki:(k:Int)<(n:Int):=(by omega);have hw4:wrap64 ((k:Int)+1)=(k:Int)+1:=wrap_in (by omega) (by omega);by_cases hkt:k=t
    ·have hkt':((k:Int) !=(t:Int))=false:=(by simp[hkt]);have HREL:Hid (∃(k₁:Nat) (N:Nat→Nat→Int),k₁≤n∧Value.int .i64 ((k:Int)+1)= .int .i64 k₁∧MT wr B R n rb1 N∧FB wr b4 (.int .i64 p) (.int .i64 q)∧BK (SwK R n rb) B w wr∧(∀i j,i<n→j<n→0≤N i j∧N i j<q)∧(∀j,j<n→N t j=y j)∧(∀i j,i<n→j<n→k₁≤i→i≠t→N i j=M i j)∧(∀i j,i<n→j<n→i<k₁→i≠t→N i j%p=(M i j-M i c*y j)%p)):=⟨k+1,N,by omega,congrArg (Value.int .i64) (by omega),HMr.out,HFr.out,HBr.out,HNb.out,HN.out.1,fun i j hi hj h1 h2=>HN.out.2.1 i j hi hj (by omega) h2,fun i j hi hj h1 h2=>HN.out.2.2 i j hi hj (by omega) h2⟩;clear hkt;go_wp2
     try rw[hw4]
     exact⟨HREL.out,meas_up hk⟩
    ·have hkt':((k:Int) !=(t:Int))=true:=(by simpa using (show ¬(k:Int)=(t:Int)by omega));obtain⟨rk,hrk⟩:∃x,x=rb1 k:=⟨_,rfl⟩;have ck:=HMr.out.cR k hk;have cx:=HMr.out.at hk hc;rw[←hrk]at ck cx;have lk:rk<wr.heap.size:=(by rw[hrk];exact(HMr.out.row k hk).lt);have lR:=HMr.out.lt;have HRK:Hid (rk=rb1 k):=hrk;obtain⟨X,hX⟩:∃x,x=N k c:=⟨_,rfl⟩;rw[←hX]at cx;have hXb:=HNb.out k c hk hc;rw[←hX]at hXb;obtain⟨S,hS⟩:∃s,s=X%p:=⟨_,rfl⟩;have hSb:0≤S∧S<p:=(by rw[hS];exact⟨Int.emod_nonneg _ (by omega),Int.emod_lt_of_pos _ (by omega)⟩);have CL:=fun w=>least_any w p q X (by omega) hp.2 hXb.1 (by have:=HQQ.out;omega);rw[←hS]at CL;obtain⟨O,hO⟩:∃s,s= -S%p:=⟨_,rfl⟩;have CO:=fun w=>opposite_any w p q S hp.2 hSb.1 hSb.2;rw[←hO]at CO;have hnc:¬n=c:=(by omega);have HO:Hid (O= -(N k c)%p):=(by show _=_;rw[hO,hS,hX,show -(N k c)=0-N k c by omega,Int.sub_emod 0 (N k c) p,Int.zero_emod,Int.zero_sub]);obtain⟨l4,k40,k41,z4,z5⟩:=HFr.out;clear hrk hX hS hO;go_upto_region 7 with fail;refine wp_drawn mixed [⟨29,[],[],[4]⟩,⟨30,[],[],[1]⟩,⟨31,[],[],[9]⟩,⟨32,[1,2],[1,2],[]⟩,⟨33,[3],[1,2,3],[]⟩,⟨34,[],[],[3]⟩,⟨35,[4,5],[1,2,3,4,5],[]⟩,⟨36,[],[],[8]⟩,⟨37,[],[],[3]⟩,⟨38,[7,8],[7,8],[]⟩,⟨39,[],[],[4]⟩,⟨40,[],[],[4]⟩,⟨41,[],[],[1]⟩,⟨42,[],[],[9]⟩,⟨43,[12,13],[12,13],[]⟩,⟨44,[14],[12,13,14],[]⟩,⟨45,[],[],[3]⟩,⟨46,[15,16],[12,13,14,15,16],[]⟩,⟨47,[17],[12,13,14,15,16,17],[]⟩,⟨48,[11,18],[11,12,13,14,15,16,17,18],[]⟩,⟨49,[10,19],[10,11,12,13,14,15,16,17,18,19],[]⟩] [] (by kernel_rfl) 52 rfl (by kernel_rfl) (fun (i:Nat) (v:Value) (wq:World)=>match i with|0=>v= .agg #[.int .i64 (p), .int .i64 (q)]|1=>v= .slice (some ⟨R,0,none⟩) (n) (n)|2=>v= .int .i64 ((k:Int))|3=>v= .pointer (some ⟨R,k,none⟩)|4=>v= .slice (some ⟨rk,0,none⟩) (n) (n)|5=>v= .int .i64 ((c:Int))|6=>v= .slice (some ⟨rk,c,none⟩) (n-c) (n-c)|7=>v= .slice (some ⟨l,0,none⟩) (n) (n)|8=>v= .int .i64 ((c:Int))|9=>v= .slice (some ⟨l,c,none⟩) (n-c) (n-c)|10=>v= .agg #[.int .i64 (p), .int .i64 (q)]|11=>v= .agg #[.int .i64 (p), .int .i64 (q)]|12=>v= .slice (some ⟨R,0,none⟩) (n) (n)|13=>v= .int .i64 ((k:Int))|14=>v= .pointer (some ⟨R,k,none⟩)|15=>v= .slice (some ⟨rk,0,none⟩) (n) (n)|16=>v= .int .i64 ((c:Int))|17=>v= .pointer (some ⟨rk,c,none⟩)|18=>v= .int .i64 (X)|19=>v= .int .i64 (S)|20=>v= .int .i64 (O)|_=>True) (fun _ wq=>Below wr.heap.size wr wq) (fun wx wy=>Below wx.heap.size wx wy) (Below.refl _ _).drew (fun i v wx wy h hx=>match i,h with|0,h=>h|1,h=>h|2,h=>h|3,h=>h|4,h=>h|5,h=>h|6,h=>h|7,h=>h|8,h=>h|9,h=>h|10,h=>h|11,h=>h|12,h=>h|13,h=>h|14,h=>h|15,h=>h|16,h=>h|17,h=>h|18,h=>h|19,h=>h|20,h=>h|n+21,_=>trivial) ?_ ?_
     ·intro i o r ho hr L fr wx hW hL hpr hds hdef hpre hfree;clear hL hpr hds hdef
      match i,ho,hr with
      |0,ho,hr=>?_
      |1,ho,hr=>?_
      |2,ho,hr=>?_
      |3,ho,hr=>?_
      |4,ho,hr=>?_
      |5,ho,hr=>?_
      |6,ho,hr=>?_
      |7,ho,hr=>?_
      |8,ho,hr=>?_
      |9,ho,hr=>?_
      |10,ho,hr=>?_
      |11,ho,hr=>?_
      |12,ho,hr=>?_
      |13,ho,hr=>?_
      |14,ho,hr=>?_
      |15,ho,hr=>?_
      |16,ho,hr=>?_
      |17,ho,hr=>?_
      |18,ho,hr=>?_
      |19,ho,hr=>obtain rfl:=Option.some.inj ho;obtain rfl:=Option.some.inj hr;have e11:=ev_tmp (show fr.eval (.tmp 40)= .agg #[.int .i64 (p), .int .i64 (q)] from hpre 11 (by decide) _ rfl);have e18:=ev_tmp (show fr.eval (.tmp 47)= .int .i64 (X)from hpre 18 (by decide) _ rfl);clear hpre hfree;refine stpK rfl rfl fun K hK=>?_;go_simp;refine(CL wx).mono ?_;rintro e wy ⟨rfl,hb⟩;exact hK _ _ ⟨rfl,hW.trans (hb.mono hW.size),hb,fun h=>(List.not_mem_nil h).elim⟩
      |20,ho,hr=>obtain rfl:=Option.some.inj ho;obtain rfl:=Option.some.inj hr;have e10:=ev_tmp (show fr.eval (.tmp 39)= .agg #[.int .i64 (p), .int .i64 (q)] from hpre 10 (by decide) _ rfl);have e19:=ev_tmp (show fr.eval (.tmp 48)= .int .i64 (S)from hpre 19 (by decide) _ rfl);clear hpre hfree;refine stpK rfl rfl fun K hK=>?_;go_simp;refine(CO wx).mono ?_;rintro e wy ⟨rfl,hb⟩;exact hK _ _ ⟨rfl,hW.trans (hb.mono hW.size),hb,fun h=>(List.not_mem_nil h).elim⟩
      |n+21,ho,hr=>exact absurd hr (by simp)
      all_goals
       obtain rfl:=Option.some.inj ho;obtain rfl:=Option.some.inj hr;simp only[List.mem_cons,List.not_mem_nil,or_false,false_imp_iff,implies_true,forall_eq_or_imp,forall_eq,List.getElem?_cons_zero,List.getElem?_cons_succ,Option.some.injEq,forall_eq',evt]at hpre hfree;have c0:=(hW.cell (p:=⟨b4,0,none⟩) l4).trans k40;have c1:=(hW.cell (p:=⟨b4,1,none⟩) l4).trans k41;have c2:=(hW.cell (p:=⟨R,k,none⟩) lR).trans ck;have c3:=(hW.cell (p:=⟨rk,c,none⟩) lk).trans cx;refine stpK rfl rfl fun K hK=>?_ <;> (go_simp;exact hK _ _ ⟨rfl,hW,Below.refl _ _,fun h=>(List.not_mem_nil h).elim⟩)
     ·intro vs wm hvs hW1 hap0;clear hap0;have e0:vs 0= .agg #[.int .i64 (p), .int .i64 (q)]:=hvs 0 (by decide);have e1:vs 1= .slice (some ⟨R,0,none⟩) (n) (n):=hvs 1 (by decide);have e2:vs 2= .int .i64 ((k:Int)):=hvs 2 (by decide);have e3:vs 3= .pointer (some ⟨R,k,none⟩):=hvs 3 (by decide);have e4:vs 4= .slice (some ⟨rk,0,none⟩) (n) (n):=hvs 4 (by decide);have e5:vs 5= .int .i64 ((c:Int)):=hvs 5 (by decide);have e6:vs 6= .slice (some ⟨rk,c,none⟩) (n-c) (n-c):=hvs 6 (by decide);have e7:vs 7= .slice (some ⟨l,0,none⟩) (n) (n):=hvs 7 (by decide);have e8:vs 8= .int .i64 ((c:Int)):=hvs 8 (by decide);have e9:vs 9= .slice (some ⟨l,c,none⟩) (n-c) (n-c):=hvs 9 (by decide);have e10:vs 10= .agg #[.int .i64 (p), .int .i64 (q)]:=hvs 10 (by decide);have e11:vs 11= .agg #[.int .i64 (p), .int .i64 (q)]:=hvs 11 (by decide);have e12:vs 12= .slice (some ⟨R,0,none⟩) (n) (n):=hvs 12 (by decide);have e13:vs 13= .int .i64 ((k:Int)):=hvs 13 (by decide);have e14:vs 14= .pointer (some ⟨R,k,none⟩):=hvs 14 (by decide);have e15:vs 15= .slice (some ⟨rk,0,none⟩) (n) (n):=hvs 15 (by decide);have e16:vs 16= .int .i64 ((c:Int)):=hvs 16 (by decide);have e17:vs 17= .pointer (some ⟨rk,c,none⟩):=hvs 17 (by decide);have e18:vs 18= .int .i64 (X):=hvs 18 (by decide);have e19:vs 19= .int .i64 (S):=hvs 19 (by decide);have e20:vs 20= .int .i64 (O):=hvs 20 (by decide);simp only[puts,Nat.reduceAdd,e0,e1,e2,e3,e4,e5,e6,e7,e8,e9,e10,e11,e12,e13,e14,e15,e16,e17,e18,e19,e20,Act.put,List.setIfInBounds_toArray,List.set_cons_zero,List.set_cons_succ,List.drop_succ_cons,List.drop_zero,List.length_cons,List.length_nil];clear hvs e0 e1 e2 e3 e4 e5 e6 e7 e8 e9 e10 e11 e12 e13 e14 e15 e16 e17 e18 e19 e20;have HW:Hid (Below wr.heap.size wr wm):=hW1;have HMm:Hid (MT wm B R n rb1 N):=HMr.out.below hW1;have HFm:Hid (FB wm b4 (.int .i64 p) (.int .i64 q)):=HFr.out.below hW1;clear l4 k40 k41 z4 z5 lR lk ck cx CL CO hW1;have hrow:=HMm.out.row k hk;have hrow2:=HMm.out.row t ht;rw[←HRK.out]at hrow;rw[HRB.out.1]at hrow2;have CG:=gather_any wm p q O (some ⟨rk,c,none⟩) (some ⟨l,c,none⟩) rk c (n-c) (n-c) l c (n-c) (n-c) (fun j=>N k (c+j)) (fun j=>N t (c+j)) (fun _=>rfl) (fun _=>rfl) (Nat.le_refl _) (Nat.le_refl _) hrow.lt
       (by have h:=hrow.c.sub (d:=c) (m:=n-c) (by omega);rwa [Nat.zero_add]at h) (by have h:=hrow.z.sub (d:=c) (m:=n-c) (by omega);rwa [Nat.zero_add]at h) (by have h:=hrow2.c.sub (d:=c) (m:=n-c) (by omega);rwa [Nat.zero_add]at h)
       (fun _ e=>HRB.out.2 k hk hkt (HRK.out.symm.trans e)) ⟨HQQ.out.1,HQQ.out.2.1⟩ (by omega) (fun j hj=>HNb.out k (c+j) hk (by omega))
       (fun j hj=>by show 0≤O*N t (c+j)∧O*N t (c+j)<q;rw[HN.out.1 (c+j) (by omega)];have h:=sweep_mod HQ.out HQQ.out.1 (by omega) (HNb.out k (c+j) hk (by omega)) HO.out (HYB.out (c+j) (by omega));exact⟨h.1,h.2.1⟩)
      clear hrow hrow2;go_wp2_with (go_at_call 57;fail);refine CG.mono ?_;rintro e w6 ⟨rfl,hC6,hA6⟩;have HREL:Hid (∃(k₁:Nat) (N:Nat→Nat→Int),k₁≤n∧Value.int .i64 ((k:Int)+1)= .int .i64 k₁∧MT w6 B R n rb1 N∧FB w6 b4 (.int .i64 p) (.int .i64 q)∧BK (SwK R n rb) B w w6∧(∀i j,i<n→j<n→0≤N i j∧N i j<q)∧(∀j,j<n→N t j=y j)∧(∀i j,i<n→j<n→k₁≤i→i≠t→N i j=M i j)∧(∀i j,i<n→j<n→i<k₁→i≠t→N i j%p=(M i j-M i c*y j)%p)):=by
       have hsm:=fun j (hj:j<n)=>sweep_mod HQ.out HQQ.out.1 (by omega) (HNb.out k j hk hj) HO.out (HYB.out j hj);have hG:∀j,j<n→w6.cell? ⟨rb1 k,j,none⟩=some (.int .i64 (if c≤j then gq q (N k j+O*y j) else N k j)):=fun j hj=>by
        rw[←HRK.out];by_cases hcj:c≤j
        ·rw[if_pos hcj];have h:=hA6 (j-c) (by omega);rw[show c+(j-c)=j by omega]at h;rw[h];show some (Value.int .i64 (gq q (N k (c+(j-c))+O*N t (c+(j-c)))))=_;rw[show c+(j-c)=j by omega,HN.out.1 j hj]
        ·rw[if_neg hcj,hC6.cell j (.inl (by omega)),HRK.out];exact HMm.out.at hk hj
       have hfb:FB w6 b4 (.int .i64 p) (.int .i64 q):=(by have hne:b4≠rk:=fun e=>HRB4.out k hk (by rw[←HRK.out,e]);have hF:=HFm.out;exact⟨Nat.lt_of_lt_of_le hF.lt hC6.size,(hC6.cellAt hF.lt (.inl hne)).trans hF.c0,(hC6.cellAt hF.lt (.inl hne)).trans hF.c1,(hC6.frozAt hF.lt).trans hF.f0,(hC6.frozAt hF.lt).trans hF.f1⟩);have hbs:=HBr.out.b.size;have hbs0:=HBS.out;refine⟨k+1,_,by omega,congrArg (Value.int .i64) (by omega),HMm.out.chg hk (by rw[←HRK.out];exact hC6) _ hG,hfb,
        ⟨(HBr.out.b.trans (HW.out.mono (by omega))).trans (hC6.below (by rw[HRK.out];exact(HMm.out.row k hk).base) (by have:=HW.out.size;omega)),(HBr.out.k.trans (.of_below HW.out)).trans ((Kept.of_chg hC6).mono fun b hb=> .inr ⟨k,hk,by rw[hb,HRK.out,HRK1.out.2 k hkt]⟩)⟩,fun i j hi hj=>?_,fun j hj=>?_,fun i j hi hj h1 h2=>?_,fun i j hi hj h1 h2=>?_⟩
       ·show 0≤(if i=k then if c≤j then gq q (N k j+O*y j) else N k j else N i j)∧(if i=k then if c≤j then gq q (N k j+O*y j) else N k j else N i j)<q
        split
        ·split
         ·exact⟨(hsm j hj).2.2.1,(hsm j hj).2.2.2.1⟩
         ·exact HNb.out k j hk hj
        ·exact HNb.out i j hi hj
       ·show(if t=k then _ else N t j)=y j;rw[if_neg (fun e=>hkt e.symm)];exact HN.out.1 j hj
       ·show(if i=k then _ else N i j)=M i j;rw[if_neg (by omega)];exact HN.out.2.1 i j hi hj (by omega) h2
       ·show(if i=k then if c≤j then gq q (N k j+O*y j) else N k j else N i j)%p=_;by_cases hik:i=k
        ·subst hik;rw[if_pos rfl,←HN.out.2.1 i j hi hj (Nat.le_refl _) h2,←HN.out.2.1 i c hi HCN.out (Nat.le_refl _) h2];by_cases hcj:c≤j
         ·rw[if_pos hcj];exact(hsm j hj).2.2.2.2
         ·rw[if_neg hcj,HY.out.2 j hj,if_neg hcj,Int.mul_zero,Int.sub_zero]
        ·rw[if_neg hik];exact HN.out.2.2 i j hi hj (by omega) h2
      clear hC6 hA6 CG;go_wp2
      try rw[hw4]
      exact⟨HREL.out,meas_up hk⟩
   ·obtain rfl:k=n:=(by omega);have hki:¬((k:Int)<(k:Int)):=(by omega);go_wp2;go_end0;refine .mk rb1 N y r rfl HMr.out HBr.out.b HBr.out.k (fun i hi=>if h:i=t then .inr (by rw[h,HRB.out.1];exact HRK1.out.1) else .inl (HRK1.out.2 i h)) HNb.out HY.out.1 HY.out.2 fun i j hi hj=>?_;by_cases hit:i=t
    ·rw[if_pos hit,hit,HN.out.1 j hj]
    ·rw[if_neg hit];exact HN.out.2.2 i j hi hj hi hit
end Go.Proofs.YtffdemplaodbcaaDoor
