/- A part of the proof: ZD, LS. -/
import Derived.Test.YtffdemplaodbcaaDoorP24
import Derived.Test.YtffdemplaodbcaaDoorP18
import Derived.Test.YtffdemplaodbcaaDoorP22
import Derived.Laws.IdiomCopy
set_option linter.all false
namespace Go.Proofs.YtffdemplaodbcaaDoor
open Go Go.Proofs Go.RowKit Go.Rad
open _root_.Rad (CR Prm)
theorem act_zers (u:Nat→Int):∀(n j:Nat),act (List.replicate n 0) u j=0
 |0,_=>rfl
 |n+1,j=>by
  show 0*u j+sft (act (List.replicate n 0) u) j=0;cases j with
  |zero=>simp[sft]
  |succ j=>simp[sft,act_zers u n j]
theorem act_shf (c:Int) (n:Nat) (u:Nat→Int) (j:Nat):act (List.replicate n 0++[c]) u j=if n≤j then c*u (j-n) else 0:=by rw[act_app,act_zers,Int.zero_add,List.length_replicate]
structure Mo (p:Int) (m:List Int) (d:Nat):Prop where
 len:m.length=d+1
 inv:∃r,r*row m d%p=1%p
theorem Mo.big {p:Int} {m:List Int} {d:Nat} (h:Mo p m d) (j:Nat) (hj:d<j):row m j=0:=by rw[row_getD];exact getD_of_ge m j (by have:=h.len;omega)
theorem row_ge (x:List Int) (j:Nat) (h:x.length≤j):row x j=0:=by rw[row_getD];exact getD_of_ge x j h
theorem Mo.rest {p:Int} {m:List Int} {d:Nat} (h:Mo p m d):∀(n:Nat) (x:List Int),x.length≤n→∃z:List Int,z.length≤d∧Cg p m (row x) (row z)
 |0,x,hx=>⟨x,by omega, .refl _ _ _⟩
 |n+1,x,hx=>by
  rcases Nat.lt_or_ge d x.length with h1|h1
  ·obtain⟨r,hr⟩:=h.inv;obtain⟨k,hk⟩:∃k,x.length=k+1:=⟨x.length-1,by omega⟩;have key:∀j,row x j%p=(row (lst (fun j=>row x j-act (List.replicate (k-d) 0++[row x k*r]) (row m) j) k) j+act (List.replicate (k-d) 0++[row x k*r]) (row m) j)%p:=fun j=>by
    rw[row_lst];unfold cut
    split
    ·congr 1;exact(Int.sub_add_cancel _ _).symm
    ·rename_i hj
     rw[Int.zero_add,act_shf,if_pos (by omega)];rcases Nat.lt_or_ge k j with h2|h2
     ·rw[row_ge x j (by omega),h.big _ (by omega),Int.mul_zero]
     ·obtain rfl:j=k:=(by omega);rw[show j-(j-d)=d by omega,Int.mul_assoc,Int.mul_emod,hr,←Int.mul_emod,Int.mul_one]
   obtain⟨z,hz,hc⟩:=h.rest n (lst (fun j=>row x j-act (List.replicate (k-d) 0++[row x k*r]) (row m) j) k) (by rw[lst_length];omega);exact⟨z,hz,Cg.trans ⟨_,key⟩ hc⟩
  ·exact⟨x,h1, .refl _ _ _⟩
def allL (P:Nat):Nat→List (List Int)
 |0=>[[]]
 |n+1=>(List.range P).flatMap fun (c:Nat)=>(allL P n).map ((c:Int):: ·)
theorem allL_length (P:Nat):∀n,(allL P n).length=P^n
 |0=>rfl
 |n+1=>by show((List.range P).flatMap fun (c:Nat)=>(allL P n).map ((c:Int):: ·)).length=_;rw[List.length_flatMap];simp only[List.length_map,allL_length P n];rw[List.map_const',List.sum_replicate_nat,List.length_range,Nat.pow_succ,Nat.mul_comm]
theorem allL_mem {P:Nat}:∀ {n:Nat} {x:List Int},x∈allL P n↔x.length=n∧∀a,a∈x→0≤a∧a<P
 |0,x=>by
  show x∈[[]]↔_;rw[List.mem_singleton];constructor
  ·rintro rfl;exact⟨rfl,fun a h=>by cases h⟩
  ·intro h;exact List.length_eq_zero_iff.1 h.1
 |n+1,x=>by
  show x∈(List.range P).flatMap _↔_;rw[List.mem_flatMap];constructor
  ·rintro⟨c,hc,hx⟩;obtain⟨y,hy,rfl⟩:=List.mem_map.1 hx;obtain⟨h1,h2⟩:=allL_mem.1 hy;have hc:=List.mem_range.1 hc;refine⟨by rw[List.length_cons,h1],fun a ha=>?_⟩;rcases List.mem_cons.1 ha with rfl|ha
   ·omega
   ·exact h2 a ha
  ·rintro⟨h1,h2⟩;cases x with
   |nil=>simp at h1
   |cons a y=>have ha:=h2 a (by simp);refine⟨a.toNat,List.mem_range.2 (by omega),List.mem_map.2 ⟨y,allL_mem.2 ⟨by simpa using h1,fun b hb=>h2 b (List.mem_cons_of_mem _ hb)⟩,?_⟩⟩;show((a.toNat:Nat):Int)::y=a::y;rw[Int.toNat_of_nonneg ha.1]
theorem allL_nodup (P:Nat):∀n,(allL P n).Nodup
 |0=>by show[[]].Nodup;simp
 |n+1=>by
  show((List.range P).flatMap fun (c:Nat)=>(allL P n).map ((c:Int):: ·)).Nodup;rw[List.Nodup,List.pairwise_flatMap];constructor
  ·intro c _;exact List.pairwise_map.2 (List.Pairwise.imp (fun h e=>h (List.cons.inj e).2) (allL_nodup P n))
  ·refine List.Pairwise.imp ?_ (List.nodup_range (n:=P));intro a b hab x hx y hy e;obtain⟨x',_,rfl⟩:=List.mem_map.1 hx;obtain⟨y',_,rfl⟩:=List.mem_map.1 hy;have:=(List.cons.inj e).1;exact hab (by omega)
theorem getD_mem {x:List Int} {P:Int} (hP:0<P) (h:∀a,a∈x→0≤a∧a<P) (j:Nat):0≤row x j∧row x j<P:=by
 rw[row_getD];rcases Nat.lt_or_ge j x.length with h1|h1
 ·rw[List.getD_eq_getElem?_getD,List.getElem?_eq_getElem h1];exact h _ (List.getElem_mem h1)
 ·rw[getD_of_ge x j h1];omega
def allA (P:Nat) (m:List Int) (d:Nat):List (Am (P:Int) m):=(allL P d).map mq
theorem allA_length (P:Nat) (m:List Int) (d:Nat):(allA P m d).length=P^d:=by rw[allA,List.length_map,allL_length]
theorem Mo.gcd {p:Int} {m:List Int} {d:Nat} (h:Mo p m d) (hp:1<p):Int.gcd (row m d) p=1:=by obtain⟨r,hr⟩:=h.inv;obtain⟨k,hk⟩:=cong_sub.1 hr;have h1:((Int.gcd (row m d) p:Nat):Int) ∣ 1:=(by have e:(1:Int)=r*row m d-k*p:=(by omega);rw[e];exact Int.dvd_sub (Int.dvd_trans (Int.gcd_dvd_left ..) (Int.dvd_mul_left ..)) (Int.dvd_trans (Int.gcd_dvd_right ..) (Int.dvd_mul_left ..)));have h2:=Int.natCast_dvd_natCast.1 (show((Int.gcd (row m d) p:Nat):Int) ∣ ((1:Nat):Int)from h1);exact Nat.dvd_one.1 h2
theorem Mo.all {P:Nat} {m:List Int} {d:Nat} (h:Mo P m d) (hp:1<P) (a:Am (P:Int) m):a∈allA P m d:=by
 obtain⟨x,rfl⟩:=mk_rep a;obtain⟨z,hz,hc⟩:=h.rest _ x (Nat.le_refl _);refine List.mem_map.2 ⟨lst (fun j=>row z j%(P:Int)) d,allL_mem.2 ⟨lst_length _ _,fun a ha=>?_⟩,?_⟩
 ·obtain⟨j,_,rfl⟩:=List.mem_map.1 ha;exact⟨Int.emod_nonneg _ (by omega),Int.emod_lt_of_pos _ (by omega)⟩
 ·refine mk_eq.2 (Cg.trans (.of fun j=>?_) hc.symm);rw[row_lst];unfold cut
  split
  ·rw[Int.emod_emod]
  ·rw[row_ge z j (by omega)]
theorem Mo.same {P:Nat} {m:List Int} {d:Nat} (h:Mo P m d) (hp:1<P) {x y:List Int} (hx:∀j,d≤j→row x j=0) (hy:∀j,d≤j→row y j=0) (e:(mq x:Am (P:Int) m)=mq y):∀j,row x j%(P:Int)=row y j%(P:Int):=by
 have h1:=mk_eq.1 e;have hx':Cg (P:Int) m (fun j=>row x j%(P:Int)) (row x):= .of fun j=>by rw[Int.emod_emod]
 have hy':Cg (P:Int) m (row y) (fun j=>row y j%(P:Int)):= .of fun j=>by rw[Int.emod_emod]
 exact Cg.eq (p:=P) (m:=m) (n:=d) (fun j hj=>h.big j hj) (h.gcd (by omega)) (fun j hj=>by rw[hx j hj];rfl) (fun j hj=>by rw[hy j hj];rfl)
  (fun j=>⟨Int.emod_nonneg _ (by omega),Int.emod_lt_of_pos _ (by omega)⟩) (fun j=>⟨Int.emod_nonneg _ (by omega),Int.emod_lt_of_pos _ (by omega)⟩) ((hx'.trans h1).trans hy')
theorem Mo.nodup {P:Nat} {m:List Int} {d:Nat} (h:Mo P m d) (hp:1<P):(allA P m d).Nodup:=by refine List.pairwise_map.2 (List.Pairwise.imp_of_mem ?_ (allL_nodup P d));intro x y hx hy hne e;obtain⟨hx1,hx2⟩:=allL_mem.1 hx;obtain⟨hy1,hy2⟩:=allL_mem.1 hy;have h1:=h.same hp (fun j hj=>row_ge x j (by omega)) (fun j hj=>row_ge y j (by omega)) e;apply hne;refine List.ext_getElem (by omega) fun i h3 h4=>?_;have h5:=h1 i;have b1:=getD_mem (by omega:(0:Int)<P) hx2 i;have b2:=getD_mem (by omega:(0:Int)<P) hy2 i;rw[Int.emod_eq_of_lt b1.1 b1.2,Int.emod_eq_of_lt b2.1 b2.2,row_getD,row_getD]at h5;simpa [List.getD_eq_getElem?_getD,h3,h4]using h5
theorem Mo.power {P:Nat} {m:List Int} {d:Nat} (h:Mo P m d) (hp:1<P) (hf:∀a:Am (P:Int) m,a≠0→∃b,a*b=1) (a:Am (P:Int) m):CR.pw a (P^d)=a:=by
 have:=CR.lagrange (allA P m d) (h.all hp) (h.nodup hp) hf a
 rwa [allA_length]at this
theorem Mo.small {P:Nat} {m:List Int} {d:Nat} (h:Mo P m d) (hp:Prm P) (hc:∀a:Am (P:Int) m,CR.pw a P=a→∃k:Int,a=mq [k]) (r:Nat) (h0:0<r) (hr:r<d):
 CR.pw (mq [0,1]:Am (P:Int) m) (P^r)≠mq [0,1]:=by
 intro he;obtain⟨L,hl,ht,hf,hz⟩:=CR.small hp (am_char P m) h0 (mq [0,1]:Am (P:Int) m) he;have hK:∃K:List Int,L=K.map fun k=>(mq [k]:Am (P:Int) m):=by
  clear hl ht hz he
  induction L with
  |nil=>exact⟨[],rfl⟩
  |cons a L ih=>obtain⟨k,rfl⟩:=hc a (hf a (by simp));obtain⟨K,rfl⟩:=ih fun b hb=>hf b (List.mem_cons_of_mem _ hb);exact⟨k::K,rfl⟩
 obtain⟨K,rfl⟩:=hK;rw[mk_ev]at hz;rw[List.length_map]at hl;have h2:=hp.two;have h3:=h.same (by omega) (x:=K) (y:=[]) (fun j hj=>row_ge K j (by omega)) (fun j _=>rfl) hz r;rw[row_nil,row_getD]at h3;rw[List.getLast?_map,List.getLast?_eq_getElem?]at ht;have h4:K[K.length-1]? =some (K.getD r 0):=(by rw[show K.length-1=r by omega,List.getD_eq_getElem?_getD,List.getElem?_eq_getElem (by omega)];rfl);rw[h4]at ht;have h5:(mq [K.getD r 0]:Am (P:Int) m)=mq [1]:=(by have h8:(mq [K.getD r 0]:Am (P:Int) m)=1:=(by simpa using ht);exact h8);have h6:=h.same (by omega) (x:=[K.getD r 0]) (y:=[1]) (fun j hj=>row_ge _ j (by simp;omega)) (fun j hj=>row_ge _ j (by simp;omega)) h5 0;rw[row_getD,row_getD]at h6;have h7:K.getD r 0%(P:Int)=1%(P:Int):=h6;rw[h3]at h7;rw[Int.emod_eq_of_lt (by omega) (by omega:(1:Int)<P)]at h7;simp at h7
theorem Mo.fermat {P:Nat} {m:List Int} {d:Nat} (h:Mo P m d) (hp:Prm P) (hd:0<d) (hf:∀a:Am (P:Int) m,a≠0→∃b,a*b=1) (hc:∀a:Am (P:Int) m,CR.pw a P=a→∃k:Int,a=mq [k]) (n:Nat):
 CR.pw (mq [0,1]:Am (P:Int) m) (P^n)=mq [0,1]↔n%d=0:=by
 have h2:=hp.two;have e1:∀k (a:Am (P:Int) m),CR.pw a (P^(d*k))=a:=fun k a=>by
  induction k with
  |zero=>rw[Nat.mul_zero,Nat.pow_zero,CR.pw_one]
  |succ k ih=>rw[Nat.mul_succ,Nat.pow_add,CR.pw_mul,ih,h.power (by omega) hf]
 have e2:CR.pw (mq [0,1]:Am (P:Int) m) (P^n)=CR.pw (mq [0,1]:Am (P:Int) m) (P^(n%d)):=(by conv=>lhs;rw[←Nat.div_add_mod n d,Nat.pow_add,CR.pw_mul,e1]);rw[e2];constructor
 ·intro h1;rcases Nat.eq_zero_or_pos (n%d)with h3|h3
  ·exact h3
  ·exact absurd h1 (h.small hp hc _ h3 (Nat.mod_lt _ hd))
 ·intro h1;rw[h1,Nat.pow_zero,CR.pw_one]
end Go.Proofs.YtffdemplaodbcaaDoor
namespace Go.Proofs.YtffdemplaodbcaaDoor
open Go Go.Proofs Go.RowKit Go.Rad
theorem setCells_kept (b:Nat):∀(vs:List Value) (o:Nat) (w:World),Kept (·= b) w (w.setCells b o vs)
 |[],_,w=> .refl _ w
 |v::vs,o,w=>((Kept.refl (·= b) w).set (b:=b) (i:=o) rfl v).trans (setCells_kept b vs (o+1) _)
theorem wpList_copyI {w:World} {ops:Array Oper} {rest:List Oper} {o:Oper} {a:Act} {Q:Exit→Act→World→Prop} (hgd:o.guard=none) (d s:Operand)
 (ho:o.op= .call {callee:= .builtin .copy,args:=#[d,s],argTypes:=#[22,22]}) {B g n:Nat} {f:Nat→Int} (hO:OA w B g n f) {x:List Int} {c:Nat} {sa:Option Addr} (hd:a.eval d= .slice (some ⟨g,0,none⟩) n n) (hs:a.eval s= .slice sa x.length c) (hV:VW w (.slice sa x.length c) x) (hl:x.length≤n)
 (h:∀w',OA w' B g n (fun j=>if j<x.length then x.getD j 0 else f j)→Kept (·= g) w w'→wpList Tryd.prog ops Q rest (a.put o.dst (goInt x.length)) w'):wpList Tryd.prog ops Q (o::rest) a w:=by
 have hsz:(Tryd.prog.info? 3).map (·.size)=some 1:=(by kernel_rfl);refine wpList_plain hgd fun K hK=>?_;unfold Oper.wp;by_cases h0:x.length=0
 ·have hrun:=run_copy_none (P:=Tryd.prog) w 22 22 o.type 3 (some ⟨g,0,none⟩) sa n n x.length c Tryd.underlying22 hsz (by rw[h0];exact Nat.zero_min n);simp[execOp,ho,resolve,invoke,builtin,hd,hs,hrun,Result.andThen];have h1:=h w (by refine⟨hO.base,hO.lt,fun j hj=>?_,hO.z⟩;rw[if_neg (by omega)];exact hO.c j hj) (.refl _ w);rw[h0]at h1;exact hK _ _ h1
 ·obtain⟨a2,b2,o2,c2,hv,ha,hA⟩:=hV;simp only[Value.slice.injEq]at hv;obtain⟨rfl,-,-⟩:=hv;obtain rfl:=ha (by omega);have hrun:=run_copy_cells (P:=Tryd.prog) w 22 22 o.type 3 g 0 n n ⟨b2,o2,none⟩ x.length c (x.map (Value.int .i64)) Tryd.underlying22 hsz (by rw[List.length_map];exact(Nat.min_eq_left hl).symm)
   (fun j v hj=>by
    rw[List.getElem?_map]at hj;have hjl:j<x.length:=by
     rcases Nat.lt_or_ge j x.length with h9|h9
     ·exact h9
     ·rw[List.getElem?_eq_none h9]at hj;cases hj
    have h9:=hA j hjl;rw[List.getElem?_eq_getElem hjl]at hj;simp at hj;subst hj;have e:(⟨b2,o2,none⟩:Addr).add j=⟨b2,o2+j,none⟩:=by
     cases j with
     |zero=>rfl
     |succ j=>simp[Addr.add]
    rw[e];simpa [List.getD_eq_getElem?_getD,hjl]using h9)
   (fun j hj=>by rw[List.length_map]at hj;rw[hO.c j (by omega)];rfl)
   (fun j hj=>hO.z j (by rw[List.length_map]at hj;omega)) (fun v hv=>by obtain⟨z,_,rfl⟩:=List.mem_map.1 hv;rfl)
  rw[List.length_map]at hrun;simp[execOp,ho,resolve,invoke,builtin,hd,hs,hrun,Result.andThen];have hk:=setCells_kept g (x.map (Value.int .i64)) 0 w;refine hK _ _ (h _ ⟨hO.base,Nat.lt_of_lt_of_le hO.lt hk.size,fun j hj=>?_,fun j hj=>?_⟩ hk)
  ·by_cases hjl:j<x.length
   ·rw[if_pos hjl];have h9:=World.cell?_setCells_in g (x.map (Value.int .i64)) 0 w (fun j hj=>by rw[List.length_map]at hj;rw[hO.c j (by omega)];rfl) j (by rw[List.length_map];exact hjl);rw[h9];simp[List.getD_eq_getElem?_getD,hjl]
   ·rw[if_neg hjl,World.cell?_setCells_out g _ 0 w _ (fun _ _=> .inr (by rw[List.length_map];show 0+x.length≤0+j;omega))];exact hO.c j hj
  ·rw[World.frozen?_setCells];exact hO.z j hj
set_option maxRecDepth 10000 in
set_option maxHeartbeats 2000000 in
theorem less_any (w:World) (p q:Int) (v1 v2:Value) (x y:List Int) (h1:VW w v1 x) (h2:VW w v2 y) (hq:q=p*p) (hp:1<p∧p<2147483648) (hx:∀j,0≤x.getD j 0∧x.getD j 0<p) (hy:∀j,0≤y.getD j 0∧y.getD j 0<p)
 (hlx:x.length≤1000) (hly:y.length≤1000) (hy0:0<y.length):Calls Tryd.prog 74 #[FV p q,v1,v2] w fun e w'=>NrmPost w p (fun j=>row x j-row y j) e w':=by
 have H1:Hid (VW w v1 x):=h1;have H2:Hid (VW w v2 y):=h2;have HX:Hid (∀j,0≤x.getD j 0∧x.getD j 0<p):=hx;have HY:Hid (∀j,0≤y.getD j 0∧y.getD j 0<p):=hy;have HQ:Hid (q=p*p):=hq;obtain⟨a1,b1,o1,c1,rfl,ha1,hA1⟩:=h1;obtain⟨a2,b2,o2,c2,rfl,ha2,hA2⟩:=h2;obtain⟨Lx,hLx⟩:∃L,x.length=L:=⟨_,rfl⟩;obtain⟨Ly,hLy⟩:∃L,y.length=L:=⟨_,rfl⟩;obtain⟨N,hN⟩:∃N,N=max Lx Ly:=⟨_,rfl⟩;rw[hLx]at ha1 hA1 hlx⊢;rw[hLy]at ha2 hA2 hly hy0⊢;have HL:Hid (x.length=Lx∧y.length=Ly∧Lx≤N∧Ly≤N∧N≤1000∧0<Ly):=⟨hLx,hLy,by omega,by omega,by omega,hy0⟩;have hmx:max (Lx:Int) (Ly:Int)=(N:Int):=(by omega);have HA2:Hid (AR w b2 o2 Ly (fun j=>y.getD j 0)∧(0<Ly→a2=some ⟨b2,o2,none⟩)):=⟨hA2,ha2⟩;have HQQ:Hid (0<q∧q<4611686018427387904∧p≤q):=(by have h1:=sq_lt (by omega:(0:Int)≤p) hp.2 (by omega) hp.2;have h9:=Int.mul_le_mul_of_nonneg_left (show 1≤p by omega) (show 0≤p by omega);rw[Int.mul_one]at h9;rw[←hq]at h1 h9;show _∧_∧_;omega);clear hx hy hLx hLy hN hA1 ha1 hA2 ha2 hy0 hq;go_enter Tryd.func74,Tryd.ntmps74;go_upto_region 1 with fail;refine wp_world (fun w1=>Below w.heap.size w w1∧FB w1 w.heap.size (.int .i64 p) (.int .i64 q)) ⟨bel1 _ _,FB.mk0 _ _ _ _⟩ ?_;rintro w1 ⟨hB1,hF1⟩;obtain⟨b4,hb4⟩:∃x,x=w.heap.size:=⟨_,rfl⟩;rw[←hb4]at hF1⊢;have H4:Hid (b4=w.heap.size):=hb4;have HB1:Hid (Below w.heap.size w w1):=hB1;have HF1:Hid (FB w1 b4 (.int .i64 p) (.int .i64 q)):=hF1;clear hB1 hF1 hb4;go_upto_region 2 with (at_make;refine wpList_makeI rfl _ _ rfl _ N rfl rfl (by first|rfl|exact hmx) (by omega) ?_;intro w3 ho3 hb3);obtain⟨bl,hbl⟩:∃x,x=w1.heap.size:=⟨_,rfl⟩;rw[←hbl]at ho3⊢;have HBL:Hid (bl=w1.heap.size∧b4<bl∧w.heap.size≤bl):=(by have h1:=HF1.out.lt;have h2:=HB1.out.size;show _∧_∧_;omega);have HO3:Hid (OA w3 bl bl N (fun _=>0)):=ho3;have HF3:Hid (FB w3 b4 (.int .i64 p) (.int .i64 q)):=HF1.out.below hb3;have HB3:Hid (Below w.heap.size w w3):=HB1.out.trans (hb3.mono HB1.out.size);clear ho3 hb3 hbl HF1;have hV3:VW w3 (.slice a1 x.length c1) x:=H1.out.below HB3.out;go_upto_region 3 with (refine wpList_copyI (by rfl) _ _ (by rfl) HO3.out (by rfl) (by rw[HL.out.1];rfl) hV3 (by have:=HL.out;omega) ?_;intro w4 ho4 hk4);have HO4:Hid (OA w4 bl bl N (fun j=>if j<x.length then x.getD j 0 else 0)):=ho4;have HF4:Hid (FB w4 b4 (.int .i64 p) (.int .i64 q)):=HF3.out.kept hk4 (by have:=HBL.out;omega);have HB4:Hid (Below w.heap.size w w4):=HB3.out.trans (hk4.below HB3.out.size fun k hk e=>by have:=HBL.out;omega);clear ho4 hk4 hV3 HF3 HO3;obtain⟨l4,k40,k41,z4,z5⟩:=HF4.out;obtain rfl:=HA2.out.2 HL.out.2.2.2.2.2;have hbd:∀j,0≤(if j<x.length then x.getD j 0 else 0)∧(if j<x.length then x.getD j 0 else 0)<p:=fun j=>by
  have h1:=HX.out j
  split
  ·exact h1
  ·omega
 have HG:Hid (∀j,0≤(p-1)*y.getD j 0∧(p-1)*y.getD j 0<q):=fun j=>by have h1:=HY.out j;have h5:(p-1)*y.getD j 0≤(p-1)*(p-1):=Int.mul_le_mul_of_nonneg_left (by omega) (by omega);have h6:(p-1)*(p-1)<p*p:=(by have e:(p-1)*(p-1)=p*p-p-p+1:=(by rw[Int.sub_mul,Int.mul_sub];omega);omega);rw[←HQ.out]at h6;exact⟨Int.mul_nonneg (by omega) h1.1,by omega⟩
 have HBD:Hid (∀j,0≤(if j<x.length then x.getD j 0 else 0)∧(if j<x.length then x.getD j 0 else 0)<p):=hbd;have CG:=gather_any w4 p q (p-1) (some ⟨bl,0,none⟩) (some ⟨b2,o2,none⟩) bl 0 N N b2 o2 Ly c2 (fun j=>if j<x.length then x.getD j 0 else 0) (fun j=>y.getD j 0) (fun _=>rfl) (fun _=>rfl) HL.out.2.2.2.1 (Nat.le_refl _) HO4.out.lt
  (fun i hi=>HO4.out.c i (by have:=HL.out;omega)) (fun i hi=>HO4.out.z i (by have:=HL.out;omega)) (HA2.out.1.below HB4.out) (fun _ e=>by have:=block_lt (HA2.out.1 0 HL.out.2.2.2.2.2);have:=HBL.out;omega) ⟨HQQ.out.1,HQQ.out.2.1⟩ (by omega)
  (fun i _=>by have:=HBD.out i;have:=HQQ.out;show 0≤(if i<x.length then x.getD i 0 else 0)∧(if i<x.length then x.getD i 0 else 0)<q;omega) (fun i _=>HG.out i)
 have hwp:wrap64 (p-1)=p-1:=wrap_in (by omega) (by omega);clear hbd;go_wp2_with (go_at_call 57;fail);refine CG.mono ?_;rintro e w5 ⟨rfl,hC5,hA5⟩;obtain⟨F,hF⟩:∃F:Nat→Int,∀j,F j=if j<Ly then gq q ((if j<x.length then x.getD j 0 else 0)+(p-1)*y.getD j 0) else (if j<x.length then x.getD j 0 else 0):=⟨_,fun _=>rfl⟩;have hO5:OA w5 bl bl N F:=by
  have ho:=HO4.out;refine⟨ho.base,Nat.lt_of_lt_of_le ho.lt hC5.size,fun j hj=>?_,hC5.free ho.z (fun _=>ho.lt)⟩;rw[hF];by_cases hjl:j<Ly
  ·rw[if_pos hjl];exact hA5 j hjl
  ·rw[if_neg hjl];exact(hC5.cellAt ho.lt (.inr (.inr (by omega)))).trans (ho.c j hj)
 have hFb:∀j,0≤F j∧F j<q∧F j%p=(row x j-row y j)%p:=fun j=>by
  have h1:=HBD.out j;have h2:=HG.out j;have h3:row x j=if j<x.length then x.getD j 0 else 0:=by
   rw[row_getD]
   split
   ·rfl
   ·rw[getD_of_ge x j (by omega)]
  rw[hF];by_cases hjl:j<Ly
  ·rw[if_pos hjl];have h4:=HQQ.out;obtain⟨g1,g2,g3⟩:=gq_ok HQ.out (s:=(if j<x.length then x.getD j 0 else 0)+(p-1)*y.getD j 0) (by omega) (by omega) h4.1;refine⟨g1,g2,g3.trans ?_⟩;rw[h3,row_getD y];have e:(if j<x.length then x.getD j 0 else 0)+(p-1)*y.getD j 0=((if j<x.length then x.getD j 0 else 0)-y.getD j 0)+p*y.getD j 0:=(by rw[Int.sub_mul,Int.one_mul];omega);rw[e,Int.add_mul_emod_self_left]
  ·rw[if_neg hjl];have h4:=HQQ.out;refine⟨by omega,by omega,?_⟩;rw[h3,row_ge y j (by have:=HL.out;omega),Int.sub_zero]
 have HF5:Hid (FB w5 b4 (.int .i64 p) (.int .i64 q)):=HF4.out.kept (.of_chg hC5) (by have:=HBL.out;omega);have HB5:Hid (Below w.heap.size w w5):=HB4.out.trans (hC5.below HBL.out.2.2 HB4.out.size);have S6:SR w5 w.heap.size (.slice (some ⟨bl,0,none⟩) N N) (lst F N):=sr_lst (fun _=>rfl) (Nat.le_refl _) HBL.out.2.2 hO5.lt hO5.c hO5.z;have CS:=settled_sr w5 p q w.heap.size _ _ S6 HB5.out.size ⟨by omega,hp.2⟩ (fun j=>by
  rw[lst_getD];unfold cut
  split
  ·have:=hFb j;have:=HQQ.out;omega
  ·omega) (by rw[lst_length];have:=HL.out;omega)
 have HFB:Hid (∀j,F j%p=(row x j-row y j)%p):=fun j=>(hFb j).2.2;clear S6 hFb hF hO5 hC5 hA5 l4 k40 k41 z4 z5 CG;obtain⟨l4,k40,k41,z4,z5⟩:=HF5.out;go_wp2_with (go_at_call 32;fail);refine CS.mono ?_;rintro e w7 ⟨u,z,rfl,hS7,hb7,hN7⟩;have R:Hid (NrmPost w p (fun j=>row x j-row y j) (.returned u) w7):=by
  refine .mk u z rfl hS7 (HB5.out.trans hb7) ⟨fun j=>?_,hN7.top⟩;rw[hN7.eq,row_lst];unfold cut
  split
  ·exact HFB.out j
  ·rw[row_ge x j (by have:=HL.out;omega),row_ge y j (by have:=HL.out;omega)];simp
 clear hS7 hb7 hN7 CS;go_wp2;refine bodyPost_ret (v:=u) (by simp[results,go_sem,loadVar]) rfl ?_;exact R.out
end Go.Proofs.YtffdemplaodbcaaDoor
