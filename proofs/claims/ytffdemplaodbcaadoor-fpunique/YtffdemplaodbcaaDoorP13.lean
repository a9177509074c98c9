/- A part of the proof: FB, FC, FD. -/
import Derived.Test.YtffdemplaodbcaaDoorP11
import Derived.Test.YtffdemplaodbcaaDoorP12
import Derived.Deep.Cut
import Derived.Deep.CutRange
set_option linter.all false
namespace Go.Proofs.YtffdemplaodbcaaDoor
open Go Go.Proofs Go.RowKit Go.Rad
def svp (C y:Nat→Int) (n2 M:Nat):Nat→Nat→Int
 |0,_=>0
 |d+1,j=>svp C y n2 M d j+(if M-1-d≤j∧j<M-1-d+n2 then C (M-1-d)*y (j-(M-1-d)) else 0)
theorem svp_cvp (C y:Nat→Int) (n2 M j:Nat):∀d,d≤M→cvp C y n2 (M-d) j+svp C y n2 M d j=cvp C y n2 M j
 |0,_=>by show _+0=_;rw[Nat.sub_zero,Int.add_zero]
 |d+1,h=>by have ih:=svp_cvp C y n2 M j d (by omega);obtain⟨e,he⟩:∃e,M-d=e+1:=⟨M-d-1,by omega⟩;rw[he]at ih;have e1:cvp C y n2 (e+1) j=cvp C y n2 e j+(if e≤j∧j<e+n2 then C e*y (j-e) else 0):=rfl;have e2:svp C y n2 M (d+1) j=svp C y n2 M d j+(if M-1-d≤j∧j<M-1-d+n2 then C (M-1-d)*y (j-(M-1-d)) else 0):=rfl;rw[e2,show M-1-d=e by omega,show M-(d+1)=e by omega];omega
theorem svp_all (C y:Nat→Int) (n2 M j:Nat):svp C y n2 M M j=cvp C y n2 M j:=by have h:=svp_cvp C y n2 M j M (Nat.le_refl _);rw[Nat.sub_self]at h;have e:cvp C y n2 0 j=0:=rfl;omega
theorem svp_congr {C C':Nat→Int} {y:Nat→Int} {n2 M:Nat}:∀d j,d≤M→(∀t,M-d≤t→t<M→C t=C' t)→svp C y n2 M d j=svp C' y n2 M d j
 |0,_,_,_=>rfl
 |d+1,j,hd,h=>by have e1:svp C y n2 M (d+1) j=svp C y n2 M d j+(if M-1-d≤j∧j<M-1-d+n2 then C (M-1-d)*y (j-(M-1-d)) else 0):=rfl;have e2:svp C' y n2 M (d+1) j=svp C' y n2 M d j+(if M-1-d≤j∧j<M-1-d+n2 then C' (M-1-d)*y (j-(M-1-d)) else 0):=rfl;rw[e1,e2,svp_congr d j (by omega) (fun t h1 h2=>h t (by omega) h2),h (M-1-d) (by omega) (by omega)]
theorem div_step {p:Int} {f h h' y:Nat→Int} {n n1 M d t:Nat} {r c:Int} (hM:M=n1-n) (hn:n<n1) (hd:d<M) (ht:t=M-1-d) (hp:0<p) (hr:∃k,y n*r=1+k*p) (hc:c=h (t+n)%p*r%p)
 (h1:∀j,j<n1→f j%p=((if j<n1-d then h j else 0)+svp (fun t=>h (t+n)) y (n+1) M d j)%p)
 (g1:∀j,t≤j→j<t+n→h' j%p=(h j+ -c%p*y (j-t))%p) (g2:∀j,j<n1→¬(t≤j∧j<t+n)→j≠t+n→h' j=h j) (g3:h' (t+n)=c):
 ∀j,j<n1→f j%p=((if j<n1-(d+1) then h' j else 0)+svp (fun t=>h' (t+n)) y (n+1) M (d+1) j)%p:=by
 intro j hj;have e0:svp (fun t=>h' (t+n)) y (n+1) M d j=svp (fun t=>h (t+n)) y (n+1) M d j:=svp_congr d j (by omega) fun s s1 s2=>g2 (s+n) (by omega) (by omega) (by omega);have e1:svp (fun t=>h' (t+n)) y (n+1) M (d+1) j=svp (fun t=>h' (t+n)) y (n+1) M d j+(if t≤j∧j<t+(n+1) then h' (t+n)*y (j-t) else 0):=(by rw[ht];rfl);rw[e1,e0,g3,h1 j hj];obtain⟨S,hS⟩:∃S,svp (fun t=>h (t+n)) y (n+1) M d j=S:=⟨_,rfl⟩;rw[hS];have en:n1-d=t+n+1:=(by omega);rw[show n1-(d+1)=t+n by omega,en];rcases Nat.lt_trichotomy j (t+n)with h2|h2|h2
 ·rw[if_pos (by omega),if_pos h2];by_cases h3:t≤j
  ·rw[if_pos ⟨h3,by omega⟩];have g4:=g1 j h3 h2;have e3:(-c%p*y (j-t))%p=(-c*y (j-t))%p:=(by rw[Int.mul_emod,Int.emod_emod,←Int.mul_emod]);have e2:(h' j+(S+c*y (j-t)))%p=(h j+ -c%p*y (j-t)+(S+c*y (j-t)))%p:=(by rw[←Int.emod_add_emod,g4,Int.emod_add_emod]);have e4:h j+ -c%p*y (j-t)+(S+c*y (j-t))= -c%p*y (j-t)+(h j+(S+c*y (j-t))):=(by omega);have e5:(-c%p*y (j-t)+(h j+(S+c*y (j-t))))%p=(-c*y (j-t)+(h j+(S+c*y (j-t))))%p:=(by rw[←Int.emod_add_emod,e3,Int.emod_add_emod]);rw[e2,e4,e5];congr 1;rw[Int.neg_mul];omega
  ·rw[if_neg (by omega),g2 j hj (by omega) (by omega),Int.add_zero]
 ·rw[if_pos (by omega),if_neg (by omega),if_pos ⟨by omega,by omega⟩,h2,show t+n-t=n by omega,Int.zero_add];obtain⟨k,hk⟩:=hr;have e2:(c*y n)%p=h (t+n)%p:=(by rw[hc,Int.mul_emod,Int.emod_emod,←Int.mul_emod];have e3:h (t+n)%p*r*y n=h (t+n)%p+h (t+n)%p*k*p:=(by rw[Int.mul_assoc,Int.mul_comm r,hk,Int.mul_add,Int.mul_one,←Int.mul_assoc]);rw[e3,Int.add_mul_emod_self_right,Int.emod_emod]);rw[Int.add_emod,←e2,←Int.add_emod,Int.add_comm]
 ·rw[if_neg (by omega),if_neg (by omega),if_neg (by omega),Int.add_zero]
inductive IV1 (p a:Int) (w:World) (v:Value):Prop
 |mk (r:Int) (hv:v= .int .i64 r) (h0:0<r) (h1:r<p) (h:∃k,a*r=1+k*p)
inductive DivPost (w:World) (p:Int) (a:Option Addr) (b o n1 c1 n:Nat) (f y:Nat→Int) (e:Ending) (w':World):Prop
 |short (m:Nat) (he:e= .returned (.tuple #[.slice none 0 0, .slice a m c1])) (h1:n1≤n) (hm:m≤n1) (hC:Chg w w' b o (o+n1)) (hA:AR w' b o n1 (fun i=>f i%p)) (hz:∀i,m≤i→i<n1→f i%p=0) (hl:0<m→f (m-1)%p≠0)
 |long (m:Nat) (h:Nat→Int) (he:e= .returned (.tuple #[.slice (some ⟨b,o+n,none⟩) (n1-n) (c1-n), .slice (some ⟨b,o,none⟩) m c1])) (h1:n<n1) (hm:m≤n) (hC:Chg w w' b o (o+n1)) (hA:AR w' b o n1 h)
  (hb:∀i,i<n1→0≤h i∧h i<p) (hz:∀i,m≤i→i<n→h i=0) (hl:0<m→h (m-1)≠0) (hh:∀j,j<n1→f j%p=((if j<n then h j else 0)+cvp (fun t=>h (t+n)) y (n+1) (n1-n) j)%p)
set_option maxRecDepth 10000 in
set_option maxHeartbeats 2000000 in
theorem divide_any (w:World) (p q:Int) (a:Option Addr) (b o n1 c1 b2 o2 n c2:Nat) (f y:Nat→Int) (hs:0<n1→a=some ⟨b,o,none⟩) (hc:n1≤c1) (hb:b<w.heap.size) (hF:AR w b o n1 f) (hfz:Free w b o n1) (hY:AR w b2 o2 (n+1) y) (hne:b≠b2)
 (hq:q=p*p) (hp:1<p∧p<2147483648) (hc2:n+1≤c2) (hm1:n1≤2097152) (hm2:n≤1048576) (hf:∀i,i<n1→0≤f i∧f i<q) (hy:∀i,i<n+1→0≤y i∧y i<p) (hg:Int.gcd (y n) p=1) (hy0:y n≠0):
 Calls Tryd.prog 34 #[FV p q, .slice a n1 c1, .slice (some ⟨b2,o2,none⟩) (n+1:Nat) c2] w fun e w'=>DivPost w p a b o n1 c1 n f y e w':=by
 have HF:Hid (AR w b o n1 f):=hF;have HZ:Hid (Free w b o n1):=hfz;have HY:Hid (AR w b2 o2 (n+1) y):=hY;have HB:Hid (b<w.heap.size):=hb;have HNE:Hid (b≠b2):=hne;have HQ:Hid (q=p*p):=hq;have HFB:Hid (∀i,i<n1→0≤f i∧f i<q):=hf;have HYB:Hid (∀i,i<n+1→0≤y i∧y i<p):=hy;have HG:Hid (Int.gcd (y n) p=1∧y n≠0):=⟨hg,hy0⟩;have hqq:=sq_lt (by omega:(0:Int)≤p) hp.2 (by omega) hp.2;rw[←hq]at hqq;have hq0:0<q:=(by rw[hq];exact Int.mul_pos (by omega) (by omega));clear hF hfz hY hb hne hq hf hy hg hy0;go_enter Tryd.func34,Tryd.ntmps34;go_upto_region 1 with fail;refine wp_world (fun w1=>Chg w w1 b o o∧Below w.heap.size w w1∧w.heap.size<w1.heap.size∧w1.cell? ⟨w.heap.size,0,none⟩=some (.int .i64 p)∧w1.cell? ⟨w.heap.size,1,none⟩=some (.int .i64 q)) ⟨chg_of_below (bel1 _ _) HB.out _ _,bel1 _ _,by simp,by simp[go_sem],by simp[go_sem]⟩ ?_;rintro w1 ⟨hC1,hB1,l4,c0,c1'⟩;obtain⟨b4,hb4⟩:∃x,x=w.heap.size:=⟨_,rfl⟩;rw[←hb4]at c0 c1' l4⊢;have HB4:Hid (b≠b4):=(by have:=HB.out;show _≠_;omega);have HC1:Hid (Chg w w1 b o o):=hC1;have HB1:Hid (Below w.heap.size w w1):=hB1;have HF1:Hid (AR w1 b o n1 f):=HF.out.below hB1;have HZ1:Hid (Free w1 b o n1):=fun i hi=>(hC1.froz _).trans (HZ.out i hi);have HY1:Hid (AR w1 b2 o2 (n+1) y):=HY.out.below hB1;clear hC1 hB1 hb4;by_cases hsh:n1≤n
 ·have hsi:(n1:Int)≤(n:Int):=(by omega);have CS:=settled_any w1 p q a b o n1 c1 f hs hc (Nat.lt_of_lt_of_le HB.out HB1.out.size) HF1.out HZ1.out ⟨by omega,hp.2⟩ (by omega) (fun i hi=>⟨(HFB.out i hi).1,by have:=(HFB.out i hi).2;omega⟩);go_wp2_with (go_at_call 32;fail);refine CS.mono ?_;rintro e w2 ⟨m,rfl,hm,hC,hA,hz,hl⟩;have R:Hid (DivPost w p a b o n1 c1 n f y (.returned (.tuple #[.slice none 0 0, .slice a m c1])) w2):= .short m rfl hsh hm ((HC1.out.mono (Nat.le_refl _) (by omega)).trans hC) hA hz hl;clear CS hC hA hz hl;go_wp2;refine bodyPost_ret (v:= .tuple #[.slice none 0 0, .slice a m c1]) (by simp[results,go_sem,loadVar]) rfl ?_;exact R.out
 ·obtain rfl:=hs (by omega);have hsi:¬(n1:Int)≤(n:Int):=(by omega);have hsi2:(n:Int)<(n1:Int):=(by omega);obtain⟨yn,hyn⟩:∃z,y n=z:=⟨_,rfl⟩;have yk:w1.cell? ⟨b2,o2+n,none⟩=some (.int .i64 yn):=(by rw[←hyn];exact HY1.out n (by omega));have l2:b2<w1.heap.size:=block_lt yk;have HYN:Hid (y n=yn):=hyn;have CI:=fun w=>inverse_any w p q yn hp.2 (by have:=HG.out.2;have:=HYB.out n (by omega);omega) (by have:=HYB.out n (by omega);omega) (by rw[←hyn];exact HG.out.1);clear hyn;have hnn:(n:Int)<(n:Int)+1:=(by omega);go_upto_region 4 with fail;refine wp_drawn mixed [⟨22,[],[],[3]⟩,⟨23,[],[],[2]⟩,⟨24,[],[],[8]⟩,⟨25,[1,2],[1,2],[]⟩,⟨26,[3],[1,2,3],[]⟩,⟨27,[0,4],[0,1,2,3,4],[]⟩,⟨9,[0,1,2,3,4,5],[0,1,2,3,4,5],[]⟩] [] (by kernel_rfl) 74 rfl (by kernel_rfl) (fun (i:Nat) (v:Value) (wq:World)=>match i with|0=>v= .agg #[.int .i64 (p), .int .i64 (q)]|1=>v= .slice (some ⟨b2,o2,none⟩) (n+1) (c2)|2=>v= .int .i64 (n)|3=>v= .pointer (some ⟨b2,o2+n,none⟩)|4=>v= .int .i64 (yn)|5=>IV1 p yn wq v|6=>IV1 p yn wq v|_=>True) (fun _ wq=>Below w1.heap.size w1 wq) (fun wx wy=>Below wx.heap.size wx wy) (Below.refl _ _).drew (fun i v wx wy h hx=>match i,h with|0,h=>h|1,h=>h|2,h=>h|3,h=>h|4,h=>h|5,h=>(by obtain⟨r,h1,h2,h3,h4⟩:=h;exact⟨r,h1,h2,h3,h4⟩)|6,h=>(by obtain⟨r,h1,h2,h3,h4⟩:=h;exact⟨r,h1,h2,h3,h4⟩)|n+7,_=>trivial) ?_ ?_
  ·intro i o r ho hr L fr wx hW hL hpr hds hdef hpre hfree;clear hL hpr hds hdef
   match i,ho,hr with
   |0,ho,hr=>?_
   |1,ho,hr=>?_
   |2,ho,hr=>?_
   |3,ho,hr=>?_
   |4,ho,hr=>?_
   |5,ho,hr=>obtain rfl:=Option.some.inj ho;obtain rfl:=Option.some.inj hr;have e0:=ev_tmp (show fr.eval (.tmp 22)= .agg #[.int .i64 (p), .int .i64 (q)] from hpre 0 (by decide) _ rfl);have e4:=ev_tmp (show fr.eval (.tmp 26)= .int .i64 (yn)from hpre 4 (by decide) _ rfl);clear hpre hfree;refine stpK rfl rfl fun K hK=>?_;go_simp;refine(CI wx).mono ?_;rintro e wy ⟨r,rfl,hr0,hr1,hrk,hb⟩;exact hK _ _ ⟨⟨r,rfl,hr0,hr1,hrk⟩,hW.trans (hb.mono hW.size),hb,fun h=>(List.not_mem_nil h).elim⟩
   |6,ho,hr=>?_
   |n+7,ho,hr=>exact absurd hr (by simp)
   all_goals
    obtain rfl:=Option.some.inj ho;obtain rfl:=Option.some.inj hr;simp only[List.mem_cons,List.not_mem_nil,or_false,false_imp_iff,implies_true,forall_eq_or_imp,forall_eq,List.getElem?_cons_zero,List.getElem?_cons_succ,Option.some.injEq,forall_eq',evt]at hpre hfree;have c0:=(hW.cell (p:=⟨b4,0,none⟩) l4).trans c0;have c1:=(hW.cell (p:=⟨b4,1,none⟩) l4).trans c1';have c2:=(hW.cell (p:=⟨b2,o2+n,none⟩) l2).trans yk;refine stpK rfl rfl fun K hK=>?_ <;> (go_simp;exact hK _ _ ⟨(by first|rfl|exact hpre|exact hpre.1|exact hpre.2|(simp only[hpre];done)),hW,Below.refl _ _,fun h=>(List.not_mem_nil h).elim⟩)
  ·intro vs wn hvs hW1 hap0;clear hap0;have e0:vs 0= .agg #[.int .i64 (p), .int .i64 (q)]:=hvs 0 (by decide);have e1:vs 1= .slice (some ⟨b2,o2,none⟩) (n+1) (c2):=hvs 1 (by decide);have e2:vs 2= .int .i64 (n):=hvs 2 (by decide);have e3:vs 3= .pointer (some ⟨b2,o2+n,none⟩):=hvs 3 (by decide);have e4:vs 4= .int .i64 (yn):=hvs 4 (by decide);obtain⟨u5,e5⟩:∃u,vs 5=u:=⟨_,rfl⟩;have p5:IV1 p yn wn u5:=(by rw[←e5];exact hvs 5 (by decide));obtain⟨u6,e6⟩:∃u,vs 6=u:=⟨_,rfl⟩;have p6:IV1 p yn wn u6:=(by rw[←e6];exact hvs 6 (by decide));simp only[puts,Nat.reduceAdd,e0,e1,e2,e3,e4,e5,e6,Act.put,List.setIfInBounds_toArray,List.set_cons_zero,List.set_cons_succ,List.drop_succ_cons,List.drop_zero,List.length_cons,List.length_nil];clear hvs e0 e1 e2 e3 e4 e5 e6;obtain⟨r,rfl,hr0,hr1,hrk⟩:=p6;clear p5;replace c0:=(hW1.cell (p:=⟨b4,0,none⟩) l4).trans c0;replace c1':=(hW1.cell (p:=⟨b4,1,none⟩) l4).trans c1';have hl4:b4<wn.heap.size:=Nat.lt_of_lt_of_le l4 hW1.size;have HCn:Hid (Chg w wn b o o):=HC1.out.trans (chg_of_below hW1 (Nat.lt_of_lt_of_le HB.out HB1.out.size) _ _);have HFn:Hid (AR wn b o n1 f):=HF1.out.below hW1;have HRK:Hid (∃k,y n*r=1+k*p):=(by show ∃k,_;rw[HYN.out];exact hrk);clear hW1 CI hrk yk l2 l4;go_wp2;go_loopw [10] (fun iv wr=>∃(d:Nat) (h:Nat→Int) (v:Int),v+1+(d:Int)=(n1:Int)-(n:Int)∧(0:Int)≤v+1∧iv= .int .i64 v∧Chg w wr b o (o+n1)∧AR wr b o n1 h∧(∀j,j<n1→0≤h j∧h j<q)∧(∀j,n1-d≤j→j<n1→h j<p)∧
    (∀j,j<n1→f j%p=((if j<n1-d then h j else 0)+svp (fun t=>h (t+n)) y (n+1) (n1-n) d j)%p)∧b4<wr.heap.size∧wr.cell? ⟨b4,0,none⟩=some (.int .i64 p)∧wr.cell? ⟨b4,1,none⟩=some (.int .i64 q))
    (fun iv _=>(Lib.intOf iv+1).toNat)
   case atStart=>exact⟨0,f,(n1:Int)-1-(n:Int),by omega,by omega,rfl,HCn.out.mono (by omega) (by omega),HFn.out,HFB.out,fun j h1 h2=>by omega,fun j hj=>by rw[if_pos (by omega)];show _=(_+0)%p;rw[Int.add_zero],hl4,c0,c1'⟩
   case round=>
    obtain⟨d,h,v,hd,hv1,rfl,hC,hA,hhb,hhp,hh,hl4',d0,d1⟩:=hrel;have HC:Hid (Chg w wr b o (o+n1)):=hC;have HA:Hid (AR wr b o n1 h):=hA;have HHB:Hid (∀j,j<n1→0≤h j∧h j<q):=hhb;have HHP:Hid (∀j,n1-d≤j→j<n1→h j<p):=hhp;have HH:Hid (∀j,j<n1→f j%p=((if j<n1-d then h j else 0)+svp (fun t=>h (t+n)) y (n+1) (n1-n) d j)%p):=hh;have hlb:b<wr.heap.size:=Nat.lt_of_lt_of_le HB.out hC.size;clear hC hA hhb hhp hh c0 c1' hl4;have hl4:=hl4';clear hl4';by_cases hv:0≤v
    ·obtain⟨t,rfl⟩:∃t:Nat,v=(t:Int):=⟨v.toNat,by omega⟩;obtain⟨s,hs⟩:∃s,s=t+n:=⟨_,rfl⟩;have hsum:(t:Int)+(n:Int)=(s:Int):=(by omega);have hsn:(s:Int)<(n1:Int):=(by omega);have hsn':s<n1:=(by omega);have HS:Hid (s=t+n):=hs;clear hs;obtain⟨hx,hhx⟩:∃z,h s=z:=⟨_,rfl⟩;have hk:wr.cell? ⟨b,o+s,none⟩=some (.int .i64 hx):=(by rw[←hhx];exact HA.out s hsn');have hxb:=HHB.out s hsn';rw[hhx]at hxb;have HHX:Hid (h s=hx):=hhx;clear hhx;obtain⟨z1,hz1⟩:∃z,hx%p=z:=⟨_,rfl⟩;have z1b:0≤z1∧z1<p:=(by rw[←hz1];exact⟨Int.emod_nonneg _ (by omega),Int.emod_lt_of_pos _ (by omega)⟩);have zr:=sq_lt z1b.1 (by omega) (by omega:(0:Int)≤r) (by omega);have hwz:IntKind.i64.wrap (z1*r)=z1*r:=(by rw[IntKind.wrap_i64];omega);obtain⟨z2,hz2⟩:∃z,z1*r%p=z:=⟨_,rfl⟩;have z2b:0≤z2∧z2<p:=(by rw[←hz2];exact⟨Int.emod_nonneg _ (by omega),Int.emod_lt_of_pos _ (by omega)⟩);have HZZ:Hid (z2=h s%p*r%p):=(by show _=_;rw[HHX.out,hz1,hz2]);have CL1:=fun w=>least_any w p q hx (by omega) (by omega) (by omega) (by omega);simp only[hz1]at CL1;have CL2:=fun w=>least_any w p q (z1*r) (by omega) (by omega) zr.1 (by omega);simp only[hz2]at CL2;clear hz1 hz2 zr;go_upto_region 8 with fail;refine wp_drawn mixed [⟨37,[],[],[3]⟩,⟨38,[],[],[3]⟩,⟨39,[],[],[1]⟩,⟨40,[],[],[10]⟩,⟨41,[],[],[8]⟩,⟨42,[3,4],[3,4],[]⟩,⟨43,[2,5],[2,3,4,5],[]⟩,⟨44,[6],[2,3,4,5,6],[]⟩,⟨45,[1,7],[1,2,3,4,5,6,7],[]⟩,⟨46,[],[],[9]⟩,⟨47,[8,9],[1,2,3,4,5,6,7,8,9],[]⟩,⟨48,[0,8,10],[0,1,2,3,4,5,6,7,8,9,10],[]⟩,⟨11,[0,1,2,3,4,5,6,7,8,9,10,11],[0,1,2,3,4,5,6,7,8,9,10,11],[]⟩] [] (by kernel_rfl) 74 rfl (by kernel_rfl) (fun (i:Nat) (v:Value) (wq:World)=>match i with|0=>v= .agg #[.int .i64 (p), .int .i64 (q)]|1=>v= .agg #[.int .i64 (p), .int .i64 (q)]|2=>v= .slice (some ⟨b,o,none⟩) (n1) (c1)|3=>v= .int .i64 ((t:Int))|4=>v= .int .i64 ((n:Int))|5=>v= .int .i64 ((s:Int))|6=>v= .pointer (some ⟨b,o+s,none⟩)|7=>v= .int .i64 (hx)|8=>v= .int .i64 (z1)|9=>v= .int .i64 (r)|10=>v= .int .i64 (z1*r)|11=>v= .int .i64 (z2)|12=>v= .int .i64 (z2)|_=>True) (fun _ wq=>Below wr.heap.size wr wq) (fun wx wy=>Below wx.heap.size wx wy) (Below.refl _ _).drew (fun i v wx wy h hx=>match i,h with|0,h=>h|1,h=>h|2,h=>h|3,h=>h|4,h=>h|5,h=>h|6,h=>h|7,h=>h|8,h=>h|9,h=>h|10,h=>h|11,h=>h|12,h=>h|n+13,_=>trivial) ?_ ?_
     ·intro i o r ho hr L fr wx hW hL hpr hds hdef hpre hfree;clear hL hpr hds hdef
      match i,ho,hr with
      |0,ho,hr=>?_
      |1,ho,hr=>?_
      |2,ho,hr=>?_
      |3,ho,hr=>?_
      |4,ho,hr=>?_
      |5,ho,hr=>obtain rfl:=Option.some.inj ho;obtain rfl:=Option.some.inj hr;have e3:=ev_tmp (show fr.eval (.tmp 40)= .int .i64 ((t:Int))from hpre 3 (by decide) _ rfl);have e4:=ev_tmp (show fr.eval (.tmp 41)= .int .i64 ((n:Int))from hpre 4 (by decide) _ rfl);clear hpre hfree;refine stpK rfl rfl fun K hK=>?_;go_simp;exact hK _ _ ⟨(by first|(show Value.int _ (IntKind.i64.wrap _)=_;rw[IntKind.wrap_i64];exact congrArg (Value.int .i64) (by omega))|rfl),hW,Below.refl _ _,fun h=>(List.not_mem_nil h).elim⟩
      |6,ho,hr=>?_
      |7,ho,hr=>?_
      |8,ho,hr=>obtain rfl:=Option.some.inj ho;obtain rfl:=Option.some.inj hr;have e1:=ev_tmp (show fr.eval (.tmp 38)= .agg #[.int .i64 (p), .int .i64 (q)] from hpre 1 (by decide) _ rfl);have e7:=ev_tmp (show fr.eval (.tmp 44)= .int .i64 (hx)from hpre 7 (by decide) _ rfl);clear hpre hfree;refine stpK rfl rfl fun K hK=>?_;go_simp;refine(CL1 wx).mono ?_;rintro e wy ⟨rfl,hb⟩;exact hK _ _ ⟨rfl,hW.trans (hb.mono hW.size),hb,fun h=>(List.not_mem_nil h).elim⟩
      |9,ho,hr=>?_
      |10,ho,hr=>obtain rfl:=Option.some.inj ho;obtain rfl:=Option.some.inj hr;have e8:=ev_tmp (show fr.eval (.tmp 45)= .int .i64 (z1)from hpre 8 (by decide) _ rfl);have e9:=ev_tmp (show fr.eval (.tmp 46)= .int .i64 (r)from hpre 9 (by decide) _ rfl);clear hpre hfree;refine stpK rfl rfl fun K hK=>?_;go_simp;exact hK _ _ ⟨(by first|(show Value.int _ (IntKind.i64.wrap _)=_;rw[hwz])|rfl),hW,Below.refl _ _,fun h=>(List.not_mem_nil h).elim⟩
      |11,ho,hr=>obtain rfl:=Option.some.inj ho;obtain rfl:=Option.some.inj hr;have e0:=ev_tmp (show fr.eval (.tmp 37)= .agg #[.int .i64 (p), .int .i64 (q)] from hpre 0 (by decide) _ rfl);have e10:=ev_tmp (show fr.eval (.tmp 47)= .int .i64 (z1*r)from hpre 10 (by decide) _ rfl);clear hpre hfree;refine stpK rfl rfl fun K hK=>?_;go_simp;refine(CL2 wx).mono ?_;rintro e wy ⟨rfl,hb⟩;exact hK _ _ ⟨rfl,hW.trans (hb.mono hW.size),hb,fun h=>(List.not_mem_nil h).elim⟩
      |12,ho,hr=>?_
      |n+13,ho,hr=>exact absurd hr (by simp)
      all_goals
       obtain rfl:=Option.some.inj ho;obtain rfl:=Option.some.inj hr;simp only[List.mem_cons,List.not_mem_nil,or_false,false_imp_iff,implies_true,forall_eq_or_imp,forall_eq,List.getElem?_cons_zero,List.getElem?_cons_succ,Option.some.injEq,forall_eq',evt]at hpre hfree;have c0:=(hW.cell (p:=⟨b4,0,none⟩) hl4).trans d0;have c1:=(hW.cell (p:=⟨b4,1,none⟩) hl4).trans d1;have c2:=(hW.cell (p:=⟨b,o+s,none⟩) hlb).trans hk;refine stpK rfl rfl fun K hK=>?_ <;> (go_simp;exact hK _ _ ⟨rfl,hW,Below.refl _ _,fun h=>(List.not_mem_nil h).elim⟩)
     ·intro vs wm hvs hW1 hap0;clear hap0;have e0:vs 0= .agg #[.int .i64 (p), .int .i64 (q)]:=hvs 0 (by decide);have e1:vs 1= .agg #[.int .i64 (p), .int .i64 (q)]:=hvs 1 (by decide);have e2:vs 2= .slice (some ⟨b,o,none⟩) (n1) (c1):=hvs 2 (by decide);have e3:vs 3= .int .i64 ((t:Int)):=hvs 3 (by decide);have e4:vs 4= .int .i64 ((n:Int)):=hvs 4 (by decide);have e5:vs 5= .int .i64 ((s:Int)):=hvs 5 (by decide);have e6:vs 6= .pointer (some ⟨b,o+s,none⟩):=hvs 6 (by decide);have e7:vs 7= .int .i64 (hx):=hvs 7 (by decide);have e8:vs 8= .int .i64 (z1):=hvs 8 (by decide);have e9:vs 9= .int .i64 (r):=hvs 9 (by decide);have e10:vs 10= .int .i64 (z1*r):=hvs 10 (by decide);have e11:vs 11= .int .i64 (z2):=hvs 11 (by decide);have e12:vs 12= .int .i64 (z2):=hvs 12 (by decide);simp only[puts,Nat.reduceAdd,e0,e1,e2,e3,e4,e5,e6,e7,e8,e9,e10,e11,e12,Act.put,List.setIfInBounds_toArray,List.set_cons_zero,List.set_cons_succ,List.drop_succ_cons,List.drop_zero,List.length_cons,List.length_nil];clear hvs e0 e1 e2 e3 e4 e5 e6 e7 e8 e9 e10 e11 e12;replace d0:=(hW1.cell (p:=⟨b4,0,none⟩) hl4).trans d0;replace d1:=(hW1.cell (p:=⟨b4,1,none⟩) hl4).trans d1;replace hl4:b4<wm.heap.size:=Nat.lt_of_lt_of_le hl4 hW1.size;have HCm:Hid (Chg w wm b o (o+n1)):=HC.out.trans (chg_of_below hW1 hlb _ _);have HAm:Hid (AR wm b o n1 h):=HA.out.below hW1;clear hW1 CL1 CL2 hk hlb hwz;have hpre:∀i,i<n→0≤y i∧y i<p:=fun i hi=>HYB.out i (by omega);have CO:=fun w=>opposite_any w p q z2 hp.2 z2b.1 z2b.2;obtain⟨oc,hoc⟩:∃z,-z2%p=z:=⟨_,rfl⟩;have ocb:0≤oc∧oc<p:=(by rw[←hoc];exact⟨Int.emod_nonneg _ (by omega),Int.emod_lt_of_pos _ (by omega)⟩);have HOC:Hid (oc= -z2%p):=hoc.symm;simp only[hoc]at CO;clear hoc;have hyo:∀i,i<n→0≤oc*y i∧oc*y i<q:=fun i hi=>by have h3:=hpre i hi;have h4:=mul_lt_sq ocb.1 ocb.2 h3.1 h3.2;rw[←HQ.out]at h4;exact h4
      have hsub:t+n≤n1:=(by have:=HS.out;omega);have HYm:Hid (AR wm b2 o2 (n+1) y):=(by have h5:AR w b2 o2 (n+1) y:=HY.out;exact h5.chg HCm.out (fun _=> .inl HNE.out.symm));have CG:=fun wx (hbx:Below wm.heap.size wm wx)=>gather_any wx p q oc (some ⟨b,o+t,none⟩) (some ⟨b2,o2,none⟩) b (o+t) (n1-t) (c1-t) b2 o2 n c2 (fun i=>h (t+i)) y (fun _=>rfl) (fun _=>rfl) (by omega) (by omega)
       (Nat.lt_of_lt_of_le (Nat.lt_of_lt_of_le HB.out HCm.out.size) hbx.size)
       (fun i hi=>by have h5:=(HAm.out.below hbx) (t+i) (by omega);rw[←Nat.add_assoc]at h5;exact h5)
       (fun i hi=>by have h5:=HZ.out (t+i) (by omega);rw[←Nat.add_assoc]at h5;exact((hbx.frozen (p:=⟨b,o+t+i,none⟩) (Nat.lt_of_lt_of_le HB.out HCm.out.size)).trans (HCm.out.froz _)).trans h5)
       (fun i hi=>(HYm.out.below hbx) i (by omega)) (fun _=>HNE.out) ⟨hq0,hqq.2⟩ (by omega) (fun i hi=>HHB.out (t+i) (by omega)) hyo
      have hs1:¬c1=t:=(by omega);have hs2:(t:Int)≤(n1:Int):=(by omega);have hs3:(n:Int)≤(c2:Int):=(by omega);have HYO:Hid (∀i,i<n→0≤oc*y i∧oc*y i<q):=hyo;clear hpre hyo ocb;go_wp2;go_region_with (first
       |(go_at_call 59;refine(CO _).mono ?_;rintro e w5 ⟨rfl,hb5⟩;have f0:w5.cell? ⟨b4,0,none⟩=some (.int .i64 p):=(hb5.cell (p:=⟨b4,0,none⟩) hl4).trans d0;have f1:w5.cell? ⟨b4,1,none⟩=some (.int .i64 q):=(hb5.cell (p:=⟨b4,1,none⟩) hl4).trans d1)
       |(
        go_at_call 57;refine(CG w5 ((bel_drew wm).trans hb5)).mono ?_;rintro e w6 ⟨rfl,hC6,hA6⟩;have HB5:Hid (Below wm.heap.size wm w5):=(bel_drew wm).trans hb5;have HC6:Hid (Chg w w6 b o (o+n1)):=(HCm.out.trans (chg_of_below HB5.out (Nat.lt_of_lt_of_le HB.out HCm.out.size) _ _)).trans (hC6.mono (by omega) (by omega));obtain⟨h6,h6e⟩:∃h6:Nat→Int,∀i,h6 i=if t≤i∧i<t+n then gq q (h i+oc*y (i-t)) else h i:=⟨_,fun _=>rfl⟩;have HA6:Hid (AR w6 b o n1 h6):=fun i hi=>by
         rw[h6e];by_cases h5:t≤i∧i<t+n
         ·have h6:=hA6 (i-t) (by omega);simp only[]at h6;rw[if_pos h5];rw[show o+t+(i-t)=o+i by omega,show t+(i-t)=i by omega]at h6;exact h6
         ·rw[if_neg h5];exact(hC6.cell (o+i) (by omega)).trans ((HAm.out.below HB5.out) i hi)
        have ck6:w6.cell? ⟨b,o+s,none⟩=some (.int .i64 (h6 s)):=HA6.out s hsn';rw[h6e,if_neg (by have:=HS.out;omega),HHX.out]at ck6;have zk6:w6.frozen? ⟨b,o+s,none⟩=false:=(HC6.out.froz _).trans (HZ.out s hsn');have hm4:b4<wm.heap.size:=hl4;have hb44:b4<w6.heap.size:=Nat.lt_of_lt_of_le hm4 (Nat.le_trans HB5.out.size hC6.size);have e0:w6.cell? ⟨b4,0,none⟩=some (.int .i64 p):=(hC6.cellAt (Nat.lt_of_lt_of_le hm4 HB5.out.size) (.inl HB4.out.symm)).trans ((HB5.out.cell (p:=⟨b4,0,none⟩) hm4).trans d0);have e1:w6.cell? ⟨b4,1,none⟩=some (.int .i64 q):=(hC6.cellAt (Nat.lt_of_lt_of_le hm4 HB5.out.size) (.inl HB4.out.symm)).trans ((HB5.out.cell (p:=⟨b4,1,none⟩) hm4).trans d1);have HREL:Hid (∃(d:Nat) (h:Nat→Int) (v:Int),v+1+(d:Int)=(n1:Int)-(n:Int)∧(0:Int)≤v+1∧Value.int .i64 ((t:Int)-1)= .int .i64 v∧Chg w (w6.setCell ⟨b,o+s,none⟩ (.int .i64 z2)) b o (o+n1)∧AR (w6.setCell ⟨b,o+s,none⟩ (.int .i64 z2)) b o n1 h∧(∀j,j<n1→0≤h j∧h j<q)∧(∀j,n1-d≤j→j<n1→h j<p)∧
         (∀j,j<n1→f j%p=((if j<n1-d then h j else 0)+svp (fun t=>h (t+n)) y (n+1) (n1-n) d j)%p)∧b4<(w6.setCell ⟨b,o+s,none⟩ (.int .i64 z2)).heap.size∧(w6.setCell ⟨b,o+s,none⟩ (.int .i64 z2)).cell? ⟨b4,0,none⟩=some (.int .i64 p)∧(w6.setCell ⟨b,o+s,none⟩ (.int .i64 z2)).cell? ⟨b4,1,none⟩=some (.int .i64 q)):=by
         have hS:=HS.out;have hpq:p≤q:=(by have h9:=Int.mul_le_mul_of_nonneg_left (show 1≤p by omega) (show 0≤p by omega);rw[Int.mul_one,←HQ.out]at h9;exact h9);have hG:∀i,t≤i→i<t+n→0≤gq q (h i+oc*y (i-t))∧gq q (h i+oc*y (i-t))<q∧gq q (h i+oc*y (i-t))%p=(h i+oc*y (i-t))%p:=fun i i1 i2=>by have g4:=HYO.out (i-t) (by omega);have g5:=HHB.out i (by omega);exact gq_ok (p:=p) HQ.out (by omega) (by omega) hq0
         obtain⟨h7,h7e⟩:∃h7:Nat→Int,∀i,h7 i=if i=s then z2 else h6 i:=⟨_,fun _=>rfl⟩;refine⟨d+1,h7,(t:Int)-1,by omega,by omega,rfl,HC6.out.set (by omega) (by omega) _,?_,?_,?_,?_,by simpa using hb44,?_,?_⟩
         ·intro i hi;by_cases h5:i=s
          ·subst h5;rw[h7e,if_pos rfl];exact cell_same (u:= .int .i64 hx) ck6
          ·rw[h7e,if_neg h5,cell_other (.inr (by omega))];exact HA6.out i hi
         ·intro j hj;by_cases h5:j=s
          ·rw[h7e,if_pos h5];omega
          ·rw[h7e,if_neg h5,h6e];by_cases h8:t≤j∧j<t+n
           ·rw[if_pos h8];exact⟨(hG j h8.1 h8.2).1,(hG j h8.1 h8.2).2.1⟩
           ·rw[if_neg h8];exact HHB.out j hj
         ·intro j j1 j2;by_cases h5:j=s
          ·rw[h7e,if_pos h5];omega
          ·rw[h7e,if_neg h5,h6e,if_neg (by omega)];exact HHP.out j (by omega) j2
         ·refine div_step (h:=h) (t:=t) (r:=r) (c:=z2) rfl (by omega) (by omega) (by omega) (by omega) HRK.out ?_ HH.out ?_ ?_ ?_
          ·rw[←hS];exact HZZ.out
          ·intro j j1 j2;rw[h7e,if_neg (by omega),h6e,if_pos ⟨j1,j2⟩,(hG j j1 j2).2.2,HOC.out]
          ·intro j j1 j2 j3;rw[h7e,if_neg (by omega),h6e,if_neg j2]
          ·rw[h7e,if_pos hS.symm]
         ·rw[cell_other (.inl HB4.out.symm)];exact e0
         ·rw[cell_other (.inl HB4.out.symm)];exact e1
        clear hC6 hA6 h6e))
      all_goals
       go_wp2;exact⟨HREL.out,by simp only[Lib.intOf];omega⟩
    ·have hv':v= -1:=(by omega);have hdn:d=n1-n:=(by omega);subst hdn;subst hv';have CS:=fun wx (hbx:Below wr.heap.size wr wx)=>settled_any wx p q (some ⟨b,o,none⟩) b o n c1 h (fun _=>rfl) (by omega) (Nat.lt_of_lt_of_le hlb hbx.size) (fun i hi=>(HA.out.below hbx) i (by omega))
      (fun i hi=>(hbx.frozen (p:=⟨b,o+i,none⟩) hlb).trans ((HC.out.froz _).trans (HZ.out i (by omega)))) ⟨by omega,hp.2⟩ (by omega) (fun i hi=>⟨(HHB.out i (by omega)).1,by have:=(HHB.out i (by omega)).2;omega⟩)
     have hs1:¬c1=n:=(by omega);have hs3:(n:Int)≤(c1:Int):=(by omega);go_wp2;go_region_with (
      go_at_call 32;have HBX:Hid (Below wr.heap.size wr wr.drew):=bel_drew wr;refine(CS wr.drew HBX.out).mono ?_;rintro e w5 ⟨m,rfl,hm,hC5,hA5,hz5,hl5⟩;have R:Hid (DivPost w p (some ⟨b,o,none⟩) b o n1 c1 n f y (.returned (.tuple #[.slice (some ⟨b,o+n,none⟩) (n1-n) (c1-n), .slice (some ⟨b,o,none⟩) m c1])) w5):=by
       obtain⟨g,ge⟩:∃g:Nat→Int,∀j,g j=if j<n then h j%p else h j:=⟨_,fun _=>rfl⟩;refine .long m g rfl (by omega) hm ?_ ?_ ?_ ?_ ?_ ?_
       ·exact(HC.out.trans (chg_of_below HBX.out hlb _ _)).trans (hC5.mono (Nat.le_refl _) (by omega))
       ·intro j hj;by_cases h5:j<n
        ·rw[ge,if_pos h5];exact hA5 j h5
        ·rw[ge,if_neg h5];exact(hC5.cell (o+j) (by omega)).trans (HA.out j hj)
       ·intro j hj;by_cases h5:j<n
        ·rw[ge,if_pos h5];exact⟨Int.emod_nonneg _ (by omega),Int.emod_lt_of_pos _ (by omega)⟩
        ·rw[ge,if_neg h5];exact⟨(HHB.out j hj).1,HHP.out j (by omega) hj⟩
       ·intro j j1 j2;rw[ge,if_pos j2];exact hz5 j j1 j2
       ·intro j0;rw[ge,if_pos (by omega)];exact hl5 j0
       ·intro j hj;have h9:=HH.out j hj;rw[show n1-(n1-n)=n by omega,svp_all]at h9;have h10:(fun t=>g (t+n))=fun t=>h (t+n):=funext fun t=>by rw[ge,if_neg (by omega)]
        rw[h9,h10];by_cases h5:j<n
        ·rw[if_pos h5,if_pos h5,ge,if_pos h5,Int.emod_add_emod]
        ·rw[if_neg h5,if_neg h5]
      clear hC5 hA5 hz5 hl5 hm)
     all_goals
      first
      |(refine bodyPost_ret (v:= .tuple #[.slice (some ⟨b,o+n,none⟩) (n1-n) (c1-n), .slice (some ⟨b,o,none⟩) m c1]) (by simp[results,go_sem,loadVar]) rfl ?_;exact R.out)
      |(go_wp2;refine bodyPost_ret (v:= .tuple #[.slice (some ⟨b,o+n,none⟩) (n1-n) (c1-n), .slice (some ⟨b,o,none⟩) m c1]) (by simp[results,go_sem,loadVar]) rfl ?_;exact R.out)
end Go.Proofs.YtffdemplaodbcaaDoor
namespace Go.Proofs.YtffdemplaodbcaaDoor
open Go Go.Proofs Go.RowKit Go.Rad
inductive RestPost (w:World) (p:Int) (b o n1 c1 n:Nat) (f y:Nat→Int) (e:Ending) (w':World):Prop
 |mk (m:Nat) (aa:Option Addr) (r Q:Nat→Int) (he:e= .returned (.slice aa m c1)) (ha:0<m→aa=some ⟨b,o,none⟩) (hm:m≤n) (hn:m≤n1) (hC:Chg w w' b o (o+n1)) (hA:AR w' b o m r)
  (hb:∀i,i<m→0≤r i∧r i<p) (hl:0<m→r (m-1)≠0) (hh:∀j,j<n1→f j%p=((if j<m then r j else 0)+cvp Q y (n+1) (n1-n) j)%p)
theorem DivPost.rest {w w':World} {p:Int} {a:Option Addr} {b o n1 c1 n:Nat} {f y:Nat→Int} {e:Ending} (hp:0<p) (hs:0<n1→a=some ⟨b,o,none⟩) (h:DivPost w p a b o n1 c1 n f y e w'):
 ∃(v:Value) (u:Value),e= .returned (.tuple #[v,u])∧RestPost w p b o n1 c1 n f y (.returned u) w':=by
 cases h with
 |short m he h1 hm hC hA hz hl=>
  obtain⟨r,re⟩:∃r:Nat→Int,∀j,r j=f j%p:=⟨_,fun _=>rfl⟩;refine⟨_,_,he, .mk m a r (fun _=>0) rfl (fun h0=>hs (by omega)) (by omega) hm hC ?_ ?_ ?_ ?_⟩
  ·intro i hi;rw[re];exact hA i (by omega)
  ·intro i hi;rw[re];exact⟨Int.emod_nonneg _ (by omega),Int.emod_lt_of_pos _ hp⟩
  ·intro h0;rw[re];exact hl h0
  ·intro j hj;rw[show n1-n=0 by omega];show _=(_+0)%p;by_cases h5:j<m
   ·rw[if_pos h5,re,Int.add_zero,Int.emod_emod]
   ·rw[if_neg h5,Int.add_zero,hz j (by omega) hj];simp
 |long m h he h1 hm hC hA hb hz hl hh=>
  refine⟨_,_,he, .mk m _ h (fun t=>h (t+n)) rfl (fun _=>rfl) hm (by omega) hC (fun i hi=>hA i (by omega)) (fun i hi=>hb i (by omega)) hl ?_⟩;intro j hj;rw[hh j hj];by_cases h5:j<m
  ·rw[if_pos h5,if_pos (by omega)]
  ·by_cases h6:j<n
   ·rw[if_neg h5,if_pos h6,hz j (by omega) h6]
   ·rw[if_neg h5,if_neg h6]
set_option maxRecDepth 10000 in
set_option maxHeartbeats 1000000 in
theorem rest_any (w:World) (p q:Int) (a:Option Addr) (b o n1 c1 b2 o2 n c2:Nat) (f y:Nat→Int) (hs:0<n1→a=some ⟨b,o,none⟩) (hc:n1≤c1) (hb:b<w.heap.size) (hF:AR w b o n1 f) (hfz:Free w b o n1) (hY:AR w b2 o2 (n+1) y) (hne:b≠b2)
 (hq:q=p*p) (hp:1<p∧p<2147483648) (hc2:n+1≤c2) (hm1:n1≤2097152) (hm2:n≤1048576) (hf:∀i,i<n1→0≤f i∧f i<q) (hy:∀i,i<n+1→0≤y i∧y i<p) (hg:Int.gcd (y n) p=1) (hy0:y n≠0):
 Calls Tryd.prog 60 #[FV p q, .slice a n1 c1, .slice (some ⟨b2,o2,none⟩) (n+1:Nat) c2] w fun e w'=>RestPost w p b o n1 c1 n f y e w':=by
 have CD:=fun wx (hbx:Below w.heap.size w wx)=>divide_any wx p q a b o n1 c1 b2 o2 n c2 f y hs hc (Nat.lt_of_lt_of_le hb hbx.size) (hF.below hbx) (fun i hi=>(hbx.frozen (p:=⟨b,o+i,none⟩) hb).trans (hfz i hi)) (hY.below hbx) hne hq hp hc2 hm1 hm2 hf hy hg hy0;have HB:Hid (b<w.heap.size):=hb;clear hF hfz hY hq hf hy hg;go_enter Tryd.func60,Tryd.ntmps60;go_wp2_with (go_at_call 34;fail);refine(CD _ (by first|exact bel1 _ _|exact(bel1 _ _).drew)).mono ?_;rintro e w2 hd;obtain⟨v,u,rfl,hr⟩:=hd.rest (by omega) hs;have R:Hid (RestPost w p b o n1 c1 n f y (.returned u) w2):=(by obtain⟨m,aa,r,Q,he,ha,hm,hn,hC,hA,hb,hl,hh⟩:=hr;exact .mk m aa r Q he ha hm hn ((chg_of_below (by first|exact bel1 _ _|exact(bel1 _ _).drew) HB.out _ _).trans hC) hA hb hl hh);clear hd hr CD;go_wp2;refine bodyPost_ret (v:=u) (by simp[results,go_sem,loadVar]) rfl ?_;exact R.out
end Go.Proofs.YtffdemplaodbcaaDoor
namespace Go.Proofs.YtffdemplaodbcaaDoor
open Go Go.Proofs Go.RowKit Go.Rad
set_option maxRecDepth 10000 in
set_option maxHeartbeats 1000000 in
theorem settled_zero (w:World) (p q:Int) (a:Option Addr) (c:Nat):
 Calls Tryd.prog 32 #[FV p q, .slice a 0 c] w fun e w'=>e= .returned (.slice a 0 c)∧Below w.heap.size w w':=by
 go_enter Tryd.func32,Tryd.ntmps32;go_wp2;refine wp_world (fun w1=>Below w.heap.size w w1) (bel1 _ _) ?_;intro w1 hb1;have HB:Hid (Below w.heap.size w w1):=hb1;clear hb1;go_loopw [5,10] (fun mv i wr=>i= .int .i64 0∧mv= .int .i64 0∧Below w.heap.size w wr) (fun _ _ _=>0)
 case atStart=>exact⟨rfl,rfl,HB.out⟩
 case round=>obtain⟨rfl,rfl,hB⟩:=hrel;have HW:Hid (Below w.heap.size w wr):=hB;clear hB;have hc0:(0:Int)≤(c:Int):=(by omega);go_wp2;refine bodyPost_ret (v:= .slice a 0 c) (by simp[results,go_sem,loadVar]) rfl ?_;exact⟨rfl,HW.out⟩
set_option maxRecDepth 10000 in
set_option maxHeartbeats 1000000 in
theorem divide_zero (w:World) (p q:Int) (a:Option Addr) (c:Nat) (b2 o2 n c2:Nat) (hm2:n≤1048576):
 Calls Tryd.prog 34 #[FV p q, .slice a 0 c, .slice (some ⟨b2,o2,none⟩) (n+1:Nat) c2] w fun e w'=>e= .returned (.tuple #[.slice none 0 0, .slice a 0 c])∧Below w.heap.size w w':=by
 have CS:=fun w=>settled_zero w p q a c;have hsi:(0:Int)≤(n:Int):=(by omega);go_enter Tryd.func34,Tryd.ntmps34;go_wp2_with (go_at_call 32;fail);refine(CS _).mono ?_;rintro e w2 ⟨rfl,hb⟩;have R:Hid (Below w.heap.size w w2):=Below.trans (by first|exact bel1 _ _|exact(bel1 _ _).drew) (hb.mono (by simp));clear CS hb;go_wp2;refine bodyPost_ret (v:= .tuple #[.slice none 0 0, .slice a 0 c]) (by simp[results,go_sem,loadVar]) rfl ?_;exact⟨rfl,R.out⟩
set_option maxRecDepth 10000 in
set_option maxHeartbeats 1000000 in
theorem rest_zero (w:World) (p q:Int) (a:Option Addr) (c:Nat) (b2 o2 n c2:Nat) (hm2:n≤1048576):
 Calls Tryd.prog 60 #[FV p q, .slice a 0 c, .slice (some ⟨b2,o2,none⟩) (n+1:Nat) c2] w fun e w'=>e= .returned (.slice a 0 c)∧Below w.heap.size w w':=by
 have CS:=fun w=>divide_zero w p q a c b2 o2 n c2 hm2;go_enter Tryd.func60,Tryd.ntmps60;go_wp2_with (go_at_call 34;fail);refine(CS _).mono ?_;rintro e w2 ⟨rfl,hb⟩;have R:Hid (Below w.heap.size w w2):=Below.trans (by first|exact bel1 _ _|exact(bel1 _ _).drew) (hb.mono (by simp));clear CS hb;go_wp2;refine bodyPost_ret (v:= .slice a 0 c) (by simp[results,go_sem,loadVar]) rfl ?_;exact⟨rfl,R.out⟩
end Go.Proofs.YtffdemplaodbcaaDoor
