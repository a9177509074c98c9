/- A part of the proof: GF, FU, GU, GM, GP, GV. -/
import Derived.Test.YtffdemplaodbcaaDoorP45
set_option linter.all false
namespace Go.Proofs.YtffdemplaodbcaaDoor
open Go Go.Proofs Go.RowKit Go.Rad
open _root_.Rad (CR Prm PD Dv Irr Vl)
theorem prime_pr {P:Nat} (hP:PrC P) {h:Ap P} (hh:Pm P h):∀gs:List (List Int),Dv h (CR.pr (gs.map fun g=>(mq g:Ap P)))→∃g,g∈gs∧Dv h (mq g:Ap P)
 |[],hd=>by have h1:Dv h (1:Ap P):=hd;exact absurd h1 (hP.pd.ndv_one hh)
 |g::gs,hd=>by
  have h1:Dv h ((mq g:Ap P)*CR.pr (gs.map fun g=>(mq g:Ap P))):=hd;rcases hP.pd.prime hh h1 with h2|h2
  ·exact⟨g,by simp,h2⟩
  ·obtain⟨g',h3,h4⟩:=prime_pr hP hh gs h2;exact⟨g',List.mem_cons_of_mem _ h3,h4⟩
theorem GE.mem {P:Nat} {E G:List (List Int×Nat)} (h:GE P E G) {g:List Int} {n:Nat} (hm:(g,n)∈G):∃a,(a,n)∈E∧Dv (mq g:Ap P) (mq a)∧Mon P g∧2≤g.length∧Pm P (mq g):=by
 induction h with
 |nil=>simp at hm
 |snoc h a k gs hg hp hq hl ih=>
  rcases List.mem_append.1 hm with h1|h1
  ·obtain⟨a',h2,h3⟩:=ih h1;exact⟨a',List.mem_append_left _ h2,h3⟩
  ·obtain⟨g',h2,h3⟩:=List.mem_map.1 h1;injection h3 with h3 h4;subst h3;subst h4;exact⟨a,by simp,hg.dv h2,(hg.mon _ h2).1,(hg.mon _ h2).2,hp _ h2⟩
theorem GE.all {P:Nat} (hP:PrC P) {E G:List (List Int×Nat)} (h:GE P E G) {a:List Int} {n:Nat} (hm:(a,n)∈E) {p:Ap P} (hp:Pm P p) (hd:Dv p (mq a:Ap P)):∃g,(g,n)∈G∧Dv p (mq g:Ap P):=by
 induction h with
 |nil=>simp at hm
 |snoc h b k gs hg hpp hq hl ih=>
  rcases List.mem_append.1 hm with h1|h1
  ·obtain⟨g,h2,h3⟩:=ih h1;exact⟨g,List.mem_append_left _ h2,h3⟩
  ·have h2:(a,n)=(b,k):=(by simpa using h1);injection h2 with h2 h3;subst h2;subst h3;rw[hg.pr]at hd;obtain⟨g,h4,h5⟩:=prime_pr hP hp gs hd;exact⟨g,List.mem_append_right _ (List.mem_map.2 ⟨g,h4,rfl⟩),h5⟩
theorem fc_mem {P:Nat} {f0:Ap P} {E G:List (List Int×Nat)} (hE:EM P f0 E (fun _=>True)) (hG:GE P E G) {g:List Int} {n:Nat} (hm:(g,n)∈G):Mon P g∧2≤g.length∧Pm P (mq g)∧1≤n∧Vl (mq g) f0 n:=by obtain⟨a,ha,hd,hM,h2,hp⟩:=hG.mem hm;obtain⟨-,-,h1,-,h5⟩:=hE.mem a n ha;exact⟨hM,h2,hp,h1,(h5 _ hp hd).1⟩
theorem fc_all {P:Nat} (hP:PrC P) {f0:Ap P} {E G:List (List Int×Nat)} (hE:EM P f0 E (fun _=>True)) (hG:GE P E G) {g:Ap P} (hg:Pm P g) {e:Nat} (hv:Vl g f0 e) (he:1≤e):∃a,(a,e)∈G∧Dv g (mq a:Ap P):=by obtain⟨a,n,hm,hd⟩:=hE.all g hg e hv he trivial;have h1:=(hE.mem a n hm).2.2.2.2 g hg hd;rw[hP.pd.vl_uniq hg hv h1.1];exact hG.all hP hm hg hd
theorem gs_nodup {P:Nat} (hP:PrC P):∀gs:List (List Int),(∀g,g∈gs→Pm P (mq g))→SqF (CR.pr (gs.map fun g=>(mq g:Ap P)))→gs.Nodup
 |[],_,_=>List.nodup_nil
 |g::gs,hp,hq=>by have hq2:SqF ((mq g:Ap P)*CR.pr (gs.map fun g=>(mq g:Ap P))):=hq;refine List.nodup_cons.2 ⟨fun hm=>?_,gs_nodup hP gs (fun g hg=>hp g (List.mem_cons_of_mem _ hg)) hq2.right⟩;obtain⟨u,v,h1⟩:=hq2.cop;refine hP.pd.ndv_one (hp g (by simp)) ?_;rw[←h1];exact((Dv.refl _).lmul u).add ((dv_pr_mem hm).lmul v)
theorem GE.nodup {P:Nat} (hP:PrC P) {f0:Ap P} {E G:List (List Int×Nat)} (h:GE P E G):(E.map Prod.snd).Nodup→(∀a n,(a,n)∈E→∀g,Pm P g→Dv g (mq a:Ap P)→Vl g f0 n)→(G.map Prod.fst).Nodup:=by
 induction h with
 |nil=>exact fun _ _=>List.nodup_nil
 |snoc h a k gs hg hp hq hl ih=>intro hn hm;rw[List.map_append]at hn;have hn2:=List.nodup_append.1 hn;rw[List.map_append];have e1:((gs.map fun g=>(g,k)).map Prod.fst)=gs:=(by rw[List.map_map];exact List.map_id _);rw[e1];have hq2:=hq;rw[hg.pr]at hq2;refine List.nodup_append.2 ⟨ih hn2.1 fun a n hm2=>hm a n (List.mem_append_left _ hm2),gs_nodup hP gs hp hq2,fun g hgG g' hgg e=>?_⟩;subst e;obtain⟨⟨g0,n⟩,h1,h2⟩:=List.mem_map.1 hgG;have h3:g0=g:=h2;subst h3;obtain⟨b,hb,hd,-,-,hpg⟩:=h.mem h1;have v1:=hm b n (List.mem_append_left _ hb) _ hpg hd;have v2:=hm a k (List.mem_append_right _ (by simp)) _ (hp _ hgg) (hg.dv hgg);have e2:=hP.pd.vl_uniq hpg v1 v2;exact hn2.2.2 n (List.mem_map.2 ⟨(b,n),hb,rfl⟩) k (by simp) e2
theorem fc_nodup {P:Nat} (hP:PrC P) {f0:Ap P} {E G:List (List Int×Nat)} (hE:EM P f0 E (fun _=>True)) (hG:GE P E G):(G.map Prod.fst).Nodup:=hG.nodup hP hE.nd fun a n hm g hg hd=>((hE.mem a n hm).2.2.2.2 g hg hd).1
theorem fc_mul {P:Nat} (hP:PrC P) {f g:Ap P} {E1 G1 E2 G2 E3 G3:List (List Int×Nat)} (h1:EM P f E1 (fun _=>True)) (k1:GE P E1 G1) (h2:EM P g E2 (fun _=>True)) (k2:GE P E2 G2) (h3:EM P (f*g) E3 (fun _=>True)) (k3:GE P E3 G3) (hf:f≠0) (hg:g≠0) {a:List Int} {n:Nat} (hm:(a,n)∈G3):
 ∃i j,n=i+j∧(0<i→(a,i)∈G1)∧(0<j→(a,j)∈G2):=by
 obtain⟨hM,hl,hp,hn,hv⟩:=fc_mem h3 k3 hm;obtain⟨i,hi⟩:=hP.pd.vl hp hf;obtain⟨j,hj⟩:=hP.pd.vl hp hg;have key:∀ {F:Ap P} {E G:List (List Int×Nat)},EM P F E (fun _=>True)→GE P E G→∀e,Vl (mq a:Ap P) F e→0<e→(a,e)∈G:=fun {F E G} hE hG e hv he=>by
  obtain⟨b,hb,hd⟩:=fc_all hP hE hG hp hv he;obtain⟨hMb,-,hpb,-,-⟩:=fc_mem hE hG hb;have:a=b:=hM.same hP hMb fun q hq e he2=>by
   obtain⟨c,hc⟩:=hd;have hc0:c≠0:=fun e0=>hMb.ne hP (by rw[hc,e0,CR.mul_zero]);have hc1:sz c=1:=by
    rcases hpb.ir _ _ hc with h5|h5
    ·have:=hp.two;omega
    ·exact h5
   have h6:Vl q c 0:=hP.pd.vl_zero.2 (hP.pd.ndv_small hc0 (by have:=hq.two;omega));have h7:=hP.pd.vl_mul hq he2 h6;rw[hc];exact h7
  rw[this];exact hb
 exact⟨i,j,hP.pd.vl_uniq hp hv (hP.pd.vl_mul hp hi hj),key h1 k1 i hi,key h2 k2 j hj⟩
end Go.Proofs.YtffdemplaodbcaaDoor
namespace Go.Proofs.YtffdemplaodbcaaDoor
open Go Go.Proofs Go.RowKit Go.Rad
open _root_.Rad (CR Prm PD Dv Irr Vl)
inductive FcR (w:World) (p:Int) (xs:List Int) (e:Ending) (w':World):Prop
 |bad (c a:Int) (he:e= .returned (.tuple #[.int .i64 0, .slice none 0 0,Flt c a])) (hc:c≠0) (hcs:c=csC p xs) (hb:Below w.heap.size w w')
 |ok (P:Nat) (hp:p=P) (hP:PrC P) (hF:IsF p xs) (h0:0<xs.length) (hQ:FcQ w P xs e w')
theorem factor_any (w:World) (vf:Value) (xs:List Int) (p:Int) (hv:IL w vf xs) (ht:TabB w):Calls Tryd.prog 21 #[vf, .int .i64 p] w fun e w'=>FcR w p xs e w':=by
 by_cases h0:csC p xs=0
 ·obtain⟨hF,hx⟩:=csC_zero h0;obtain⟨P,hp,hpm,hlt⟩:=hF.pr;subst hp;have hP:PrC P:=⟨hpm,hF.pr⟩;exact(factor_walk w vf xs P hP ((P:Int)*P) rfl (by omega) hv ht h0).mono fun e w' h=> .ok P rfl hP hF hx h
 ·exact(factor_fault w vf xs p hv ht h0).mono fun e w' h=> .bad _ _ h.1 h0 rfl h.2
end Go.Proofs.YtffdemplaodbcaaDoor
namespace Go.Proofs.YtffdemplaodbcaaDoor
open Go Go.Proofs Go.RowKit Go.Rad
open _root_.Rad (CR Prm PD Dv Irr Vl)
theorem row_pmul_top:∀x y:List Int,0<x.length→0<y.length→row (pmul x y) (x.length+y.length-2)=x.getD (x.length-1) 0*y.getD (y.length-1) 0
 |[],y,h,_=>by simp at h
 |[a],y,_,hy=>by
  have e:([a]:List Int).length+y.length-2=y.length-1:=(by show 1+y.length-2=_;omega);rw[e];show row (pmul [a] y) (y.length-1)=a*y.getD (y.length-1) 0;rw[row_pmul,←row_getD];cases y.length-1 with
  |zero=>show a*row y 0+0=_;omega
  |succ k=>show a*row y (k+1)+0=_;omega
 |a::b::x,y,_,hy=>by have ih:=row_pmul_top (b::x) y (by simp) hy;have e:(a::b::x).length+y.length-2=((b::x).length+y.length-2)+1:=(by simp only[List.length_cons];omega);have e2:row (pmul (a::b::x) y) (((b::x).length+y.length-2)+1)=a*row y (((b::x).length+y.length-2)+1)+row (pmul (b::x) y) ((b::x).length+y.length-2):=(by rw[row_pmul,row_pmul];rfl);rw[e,e2,row_ge y _ (by simp only[List.length_cons];omega),ih,Int.mul_zero,Int.zero_add];rfl
theorem num_mul {P:Nat} (a b:Int):(mq [a]:Ap P)*mq [b]=mq [a*b]:=by
 rw[mk_mul];refine mk_row fun j=>?_;rw[row_pmul];cases j with
 |zero=>show a*row [b] 0+0=row [a*b] 0;rw[row_getD,row_getD];show a*b+0=a*b;omega
 |succ j=>show a*row [b] (j+1)+0=row [a*b] (j+1);rw[row_ge [b] _ (by simp),row_ge [a*b] _ (by simp)];omega
theorem scale_mq {P:Nat} {x z:List Int} {r:Int} (h:Nrm (P:Int) (fun j=>r*row x j) z):(mq z:Ap P)=mq [r]*mq x:=by
 rw[mk_mul];refine mq_all.2 fun j=>?_;rw[h.eq,Int.emod_emod,row_pmul];cases j with
 |zero=>show r*row x 0%_=(r*row x 0+0)%_;rw[Int.add_zero]
 |succ j=>show r*row x (j+1)%_=(r*row x (j+1)+0)%_;rw[Int.add_zero]
theorem num_one {P:Nat} {a:Int} (h:a%P=1%P):(mq [a]:Ap P)=1:=by
 rw[mk_one];refine mq_all.2 fun j=>?_;cases j with
 |zero=>rw[row_getD,row_getD];exact h
 |succ j=>rw[row_ge [a] _ (by simp),row_ge [1] _ (by simp)]
theorem mon_mul {P:Nat} (hP:PrC P) {xs ys z z1 z2 z3:List Int} (hx:IsF P xs) (hy:IsF P ys) (hx0:0<xs.length) (hy0:0<ys.length) (h1:IsMon (P:Int) xs z1) (h2:IsMon (P:Int) ys z2) (hz:Nrm (P:Int) (row (pmul xs ys)) z) (h3:IsMon (P:Int) z z3):
 (mq z3:Ap P)=mq z1*mq z2∧z.length=xs.length+ys.length-1∧z.getD (z.length-1) 0=xs.getD (xs.length-1) 0*ys.getD (ys.length-1) 0%P:=by
 have hp:=hP.two;have hlx:=hx.last hx0;have hly:=hy.last hy0;have htop:=row_pmul_top xs ys hx0 hy0;obtain⟨k,hk⟩:∃k,k=xs.length+ys.length-2:=⟨_,rfl⟩;rw[←hk]at htop;have ezk:z.getD k 0=xs.getD (xs.length-1) 0*ys.getD (ys.length-1) 0%P:=(by rw[←row_getD,hz.eq,htop]);have hle:z.length≤k+1:=hz.len fun j hj=>by rw[row_pmul_ge xs ys j (by omega)];rfl
 cases h1 with
 |nil h _=>rw[h]at hx0;simp at hx0
 |mk r1 _ hr1 hr1' e1 n1=>
  cases h2 with
  |nil h _=>rw[h]at hy0;simp at hy0
  |mk r2 _ hr2 hr2' e2 n2=>
   obtain⟨l1,hl1⟩:∃l,l=xs.getD (xs.length-1) 0:=⟨_,rfl⟩;obtain⟨l2,hl2⟩:∃l,l=ys.getD (ys.length-1) 0:=⟨_,rfl⟩;rw[←hl1]at e1 ezk;rw[←hl2]at e2 ezk;have m1:(mq [r1]:Ap P)*mq [l1]=1:=(by rw[num_mul];exact num_one (by rw[e1,Int.emod_eq_of_lt (by omega) hp]));have m2:(mq [r2]:Ap P)*mq [l2]=1:=(by rw[num_mul];exact num_one (by rw[e2,Int.emod_eq_of_lt (by omega) hp]));have hne:z.getD k 0≠0:=fun h0=>by
    rw[ezk]at h0;have m3:(mq [l1]:Ap P)*mq [l2]=0:=by
     rw[num_mul,mk_zero];exact mq_all.2 fun j=>by
      cases j with
      |zero=>rw[row_getD,row_getD];show l1*l2%_=0%_;rw[h0];rfl
      |succ j=>rw[row_ge [l1*l2] _ (by simp),row_ge [] _ (by simp)]
    have m4:(1:Ap P)=0:=(by have h5:(1:Ap P)=(mq [r1]*mq [l1])*(mq [r2]*mq [l2]):=(by rw[m1,m2,CR.one_mul]);have h6:(mq [r1]*mq [l1])*(mq [r2]*mq [l2])=(mq [r1]*mq [r2])*(mq [l1]*mq [l2]:Ap P):=(by ac_rfl);rw[h5,h6,m3,CR.mul_zero]);exact hP.pd.ne (by show 1≤sz (1:Ap P);rw[hP.pd.one];exact Nat.le_refl _) m4
   have hlen:z.length=k+1:=by
    rcases Nat.lt_or_ge k z.length with h5|h5
    ·omega
    ·exact absurd (by rw[List.getD_eq_getElem?_getD,List.getElem?_eq_none h5];rfl) hne
   cases h3 with
   |nil h _=>rw[h]at hlen;simp at hlen
   |mk r3 _ hr3 hr3' e3 n3=>
    rw[hlen,Nat.add_sub_cancel,ezk]at e3;have m3:(mq [r3]:Ap P)*(mq [l1]*mq [l2])=1:=(by rw[num_mul,num_mul];refine num_one ?_;rw[Int.mul_emod,Int.emod_emod,←Int.mul_emod]at e3;rw[e3,Int.emod_eq_of_lt (by omega) hp]);have m5:(mq [r3]:Ap P)=mq [r1]*mq [r2]:=(by have h5:(mq [r3]:Ap P)=mq [r3]*((mq [r1]*mq [l1])*(mq [r2]*mq [l2])):=(by rw[m1,m2,CR.one_mul,CR.mul_comm,CR.one_mul]);have h6:mq [r3]*((mq [r1]*mq [l1])*(mq [r2]*mq [l2]))=(mq [r3]*(mq [l1]*mq [l2]))*(mq [r1]*mq [r2]:Ap P):=(by ac_rfl);rw[h5,h6,m3,CR.one_mul]);have ez:(mq z:Ap P)=mq xs*mq ys:=(by rw[mk_mul];exact mq_all.2 fun j=>by rw[hz.eq,Int.emod_emod]);refine⟨?_,by omega,by rw[hlen,Nat.add_sub_cancel,ezk,hl1,hl2]⟩;rw[scale_mq n3,scale_mq n1,scale_mq n2,m5,ez]
    ac_rfl
end Go.Proofs.YtffdemplaodbcaaDoor
namespace Go.Proofs.YtffdemplaodbcaaDoor
open Go Go.Proofs Go.RowKit Go.Rad
open _root_.Rad (CR Prm PD Dv Irr Vl)
def Ris (R:List (List Int)):Prop:=∀(i j:Nat) a b,i<j→R[i]? =some a→R[j]? =some b→cmpL a b<0
structure Mg (R S:List (List Int)) (i t:Nat):Prop where
 le:i≤R.length
 iff:∀k a,R[k]? =some a→(k<i↔∃s,s<t∧S[s]? =some a)
theorem Mg.start (R S:List (List Int)):Mg R S 0 0:=⟨Nat.zero_le _,fun k a _=>⟨fun h=>by omega,fun⟨s,hs,_⟩=>by omega⟩⟩
theorem Ris.inj {R:List (List Int)} (h:Ris R) {i j:Nat} {a:List Int} (hi:R[i]? =some a) (hj:R[j]? =some a):i=j:=by
 rcases Nat.lt_trichotomy i j with h1|h1|h1
 ·exact absurd (h i j a a h1 hi hj) (cmpL_irrefl a)
 ·exact h1
 ·exact absurd (h j i a a h1 hj hi) (cmpL_irrefl a)
theorem Mg.hit {R S:List (List Int)} {i t:Nat} {a:List Int} (h:Mg R S i t) (hR:Ris R) (hi:R[i]? =some a) (ht:S[t]? =some a):Mg R S (i+1) (t+1):=by
 have hil:=(List.getElem?_eq_some_iff.1 hi).1;refine⟨hil,fun k b hk=>⟨fun hki=>?_,fun⟨s,hs,he⟩=>?_⟩⟩
 ·rcases Nat.lt_or_ge k i with h1|h1
  ·obtain⟨s,h2,h3⟩:=(h.iff k b hk).1 h1;exact⟨s,by omega,h3⟩
  ·have:k=i:=(by omega);rw[this,hi]at hk;injection hk with hk;subst hk;exact⟨t,by omega,ht⟩
 ·rcases Nat.lt_or_ge s t with h1|h1
  ·have:=(h.iff k b hk).2 ⟨s,h1,he⟩;omega
  ·have h2:s=t:=(by omega);rw[h2,ht]at he;injection he with he;subst he;have:=hR.inj hk hi;omega
theorem Mg.miss {R S:List (List Int)} {i t:Nat} {a:List Int} (h:Mg R S i t) (hR:Ris R) (hS:Ris S) (hsub:∀b,b∈R→b∈S) (ht:S[t]? =some a) (hi:R[i]?≠some a):a∉R∧Mg R S i (t+1):=by
 have hno:a∉R:=fun hm=>by
  obtain⟨k,hkl,hke⟩:=List.getElem_of_mem hm;have hk:R[k]? =some a:=List.getElem?_eq_some_iff.2 ⟨hkl,hke⟩;have h1:¬k<i:=fun h2=>by obtain⟨s,h3,h4⟩:=(h.iff k a hk).1 h2;have:=hS.inj h4 ht;omega
  have h2:i<k:=by
   rcases Nat.lt_or_ge i k with h3|h3
   ·exact h3
   ·have:k=i:=(by omega);rw[this]at hk;exact absurd hk hi
  have hil:i<R.length:=(by omega);obtain⟨b,hb⟩:∃b,R[i]? =some b:=⟨R[i],List.getElem?_eq_some_iff.2 ⟨hil,rfl⟩⟩;have h3:=hR i k b a h2 hb hk;have hbm:b∈S:=hsub b (List.mem_of_getElem? hb);obtain⟨s,hsl,hse⟩:=List.getElem_of_mem hbm;have hs:S[s]? =some b:=List.getElem?_eq_some_iff.2 ⟨hsl,hse⟩;have h4:s<t:=by
   rcases Nat.lt_trichotomy s t with h5|h5|h5
   ·exact h5
   ·rw[h5,ht]at hs;injection hs with hs;rw[hs]at h3;exact absurd h3 (cmpL_irrefl b)
   ·exact absurd (cmpL_trans _ _ _ h3 (hS t s a b h5 ht hs)) (cmpL_irrefl b)
  have:=(h.iff i b hb).2 ⟨s,h4,hs⟩;omega
 refine⟨hno,h.le,fun k b hk=>⟨fun hki=>?_,fun⟨s,hs,he⟩=>?_⟩⟩
 ·obtain⟨s,h2,h3⟩:=(h.iff k b hk).1 hki;exact⟨s,by omega,h3⟩
 ·rcases Nat.lt_or_ge s t with h1|h1
  ·exact(h.iff k b hk).2 ⟨s,h1,he⟩
  ·have h2:s=t:=(by omega);rw[h2,ht]at he;injection he with he;subst he;exact absurd (List.mem_of_getElem? hk) hno
theorem Mg.all {R S:List (List Int)} {i:Nat} (h:Mg R S i S.length) (hsub:∀b,b∈R→b∈S):i=R.length:=by
 rcases Nat.lt_or_ge i R.length with h1|h1
 ·have hb:R[i]? =some R[i]:=List.getElem?_eq_some_iff.2 ⟨h1,rfl⟩;obtain⟨s,hsl,hse⟩:=List.getElem_of_mem (hsub _ (List.getElem_mem h1));have:=(h.iff i _ hb).2 ⟨s,hsl,List.getElem?_eq_some_iff.2 ⟨hsl,hse⟩⟩;omega
 ·have:=h.le;omega
end Go.Proofs.YtffdemplaodbcaaDoor
namespace Go.Proofs.YtffdemplaodbcaaDoor
open Go Go.Proofs Go.RowKit Go.Rad
open _root_.Rad (CR Prm PD Dv Irr Vl)
structure FcS (P:Nat) (z:List Int) (Q:List (List Int×Nat)):Prop where
 ris:Ris (Q.map Prod.fst)
 mem:∀a n,(a,n)∈Q→Mon P a∧Pm P (mq a)∧1≤n∧Vl (mq a) (mq z:Ap P) n
 all:∀a e,Mon P a→Pm P (mq a)→Vl (mq a) (mq z:Ap P) e→1≤e→(a,e)∈Q
theorem pm_same {P:Nat} (hP:PrC P) {a b:List Int} (hM:Mon P a) (hMb:Mon P b) (hp:Pm P (mq a)) (hpb:Pm P (mq b)) (hd:Dv (mq a:Ap P) (mq b)):a=b:=hM.same hP hMb fun q hq e he2=>by
 obtain⟨c,hc⟩:=hd;have hc0:c≠0:=fun e0=>hMb.ne hP (by rw[hc,e0,CR.mul_zero]);have hc1:sz c=1:=by
  rcases hpb.ir _ _ hc with h5|h5
  ·have:=hp.two;omega
  ·exact h5
 have h6:Vl q c 0:=hP.pd.vl_zero.2 (hP.pd.ndv_small hc0 (by have:=hq.two;omega));have h7:=hP.pd.vl_mul hq he2 h6;rw[hc];exact h7
theorem FcS.mk' {P:Nat} (hP:PrC P) {z:List Int} {E G Q:List (List Int×Nat)} (hE:EM P (mq z:Ap P) E (fun _=>True)) (hG:GE P E G) (hp:Q.Perm G) (hs:∀(i j:Nat) a n b m,i<j→Q[i]? =some (a,n)→Q[j]? =some (b,m)→¬cmpL b a<0):FcS P z Q:=by
 have hnd:(Q.map Prod.fst).Nodup:=(hp.map Prod.fst).nodup_iff.2 (fc_nodup hP hE hG);refine⟨fun i j a b hij hi hj=>?_,fun a n hm=>?_,fun a e hM hpa hv he=>?_⟩
 ·have hil:i<Q.length:=(by have:=(List.getElem?_eq_some_iff.1 hi).1;simpa using this);have hjl:j<Q.length:=(by have:=(List.getElem?_eq_some_iff.1 hj).1;simpa using this);have hqi:Q[i]? =some (Q[i].1,Q[i].2):=List.getElem?_eq_some_iff.2 ⟨hil,rfl⟩;have hqj:Q[j]? =some (Q[j].1,Q[j].2):=List.getElem?_eq_some_iff.2 ⟨hjl,rfl⟩;have ea:Q[i].1=a:=(by have h1:(Q.map Prod.fst)[i]? =some Q[i].1:=(by simp[hil]);rw[h1]at hi;injection hi);have eb:Q[j].1=b:=(by have h1:(Q.map Prod.fst)[j]? =some Q[j].1:=(by simp[hjl]);rw[h1]at hj;injection hj);have h2:=hs i j _ _ _ _ hij hqi hqj;rw[ea,eb]at h2;refine Classical.byContradiction fun h3=>?_;have h4:=cmpL_same a b h3 h2;subst h4;have h5:=List.pairwise_iff_getElem.1 hnd i j (by simpa using hil) (by simpa using hjl) hij;obtain⟨_,ei⟩:=List.getElem?_eq_some_iff.1 hi;obtain⟨_,ej⟩:=List.getElem?_eq_some_iff.1 hj;rw[ei,ej]at h5;exact h5 rfl
 ·obtain⟨h1,h2,h3,h4,h5⟩:=fc_mem hE hG (hp.mem_iff.1 hm);exact⟨h1,h3,h4,h5⟩
 ·obtain⟨b,hb,hd⟩:=fc_all hP hE hG hpa hv he;obtain⟨hMb,-,hpb,-,-⟩:=fc_mem hE hG hb;rw[pm_same hP hM hMb hpa hpb hd];exact hp.mem_iff.2 hb
theorem FcS.mul {P:Nat} (hP:PrC P) {z1 z2 z3:List Int} {Q1 Q2 Q3:List (List Int×Nat)} (h1:FcS P z1 Q1) (h2:FcS P z2 Q2) (h3:FcS P z3 Q3) (hM1:Mon P z1) (hM2:Mon P z2) (hz:(mq z3:Ap P)=mq z1*mq z2) {a:List Int} {n:Nat} (hm:(a,n)∈Q3):
 ∃i j,n=i+j∧(0<i→(a,i)∈Q1)∧(i=0→a∉Q1.map Prod.fst)∧(0<j→(a,j)∈Q2)∧(j=0→a∉Q2.map Prod.fst):=by
 obtain⟨hM,hp,hn,hv⟩:=h3.mem a n hm;obtain⟨i,hi⟩:=hP.pd.vl hp (hM1.ne hP);obtain⟨j,hj⟩:=hP.pd.vl hp (hM2.ne hP);rw[hz]at hv;refine⟨i,j,hP.pd.vl_uniq hp hv (hP.pd.vl_mul hp hi hj),fun h=>h1.all a i hM hp hi h,fun h hm1=>?_,fun h=>h2.all a j hM hp hj h,fun h hm1=>?_⟩
 ·obtain⟨⟨a',k⟩,h4,h5⟩:=List.mem_map.1 hm1;have h6:a'=a:=h5;subst h6;obtain⟨-,-,h7,h8⟩:=h1.mem _ k h4;have:=hP.pd.vl_uniq hp hi h8;omega
 ·obtain⟨⟨a',k⟩,h4,h5⟩:=List.mem_map.1 hm1;have h6:a'=a:=h5;subst h6;obtain⟨-,-,h7,h8⟩:=h2.mem _ k h4;have:=hP.pd.vl_uniq hp hj h8;omega
theorem FcS.sub {P:Nat} (hP:PrC P) {z1 z2 z3:List Int} {Q1 Q3:List (List Int×Nat)} (h1:FcS P z1 Q1) (h3:FcS P z3 Q3) (hM2:Mon P z2) (hz:(mq z3:Ap P)=mq z1*mq z2):∀b,b∈Q1.map Prod.fst→b∈Q3.map Prod.fst:=fun b hb=>by obtain⟨⟨a,n⟩,h4,h5⟩:=List.mem_map.1 hb;have h6:a=b:=h5;subst h6;obtain⟨hM,hp,hn,hv⟩:=h1.mem _ n h4;obtain⟨j,hj⟩:=hP.pd.vl hp (hM2.ne hP);have h7:=hP.pd.vl_mul hp hv hj;rw[←hz]at h7;exact List.mem_map.2 ⟨(_,n+j),h3.all _ _ hM hp h7 (by omega),rfl⟩
end Go.Proofs.YtffdemplaodbcaaDoor
namespace Go.Proofs.YtffdemplaodbcaaDoor
open Go Go.Proofs Go.RowKit Go.Rad
open _root_.Rad (CR Prm PD Dv Irr Vl)
inductive FcD (w':World) (p:Int) (xs:List Int) (la:Int) (u:Value):Prop
 |mk (P:Nat) (z:List Int) (R:List (Value×Int×List Int)) (hp:p=P) (hP:PrC P) (hF:IsF P xs) (h0:0<xs.length) (hm:IsMon (P:Int) xs z) (hM:Mon P z) (hl:la=xs.getD (xs.length-1) 0) (hL:FcL w' u R)
  (hS:FcS P z (R.map fun r=>(r.2.2,r.2.1.toNat))) (hn:∀v n l,(v,n,l)∈R→n=(n.toNat:Int)) (hR:R.length≤100000)
theorem FcR.val {w w':World} {p:Int} {xs:List Int} {e:Ending} (h:FcR w p xs e w'):∃la u c a,e= .returned (.tuple #[.int .i64 la,u,Flt c a])∧Below w.heap.size w w'∧(∃au nu ku,u= .slice au nu ku)∧(c=0→FcD w' p xs la u)∧(c=0↔csC p xs=0):=by
 cases h with
 |bad c a he hc hcs hb=>exact⟨0,_,c,a,he,hb,⟨_,_,_,rfl⟩,fun h=>absurd h hc,by rw[hcs]⟩
 |ok P hp hP hF h0 hQ=>
  obtain⟨z,E,G,R,u,he,hm,hM,hE,hG,hL,hpm,hs,hb⟩:=hQ;subst hp;have hcz:csC (P:Int) xs=0:=(by unfold csC;rw[hF.ck.1,if_neg (by simp),if_neg (by omega)]);refine⟨_,u,0,0,he,hb,?_,fun _=>?_,by rw[hcz]⟩
  ·obtain⟨a,k,h1,-⟩:=hL.form;exact⟨_,_,_,h1⟩
  ·have hRl:R.length≤100000:=(by have h1:=hG.len hP;have h2:=hE.len hP (by rw[hM.sz];have:=(hm.mon hP h0).2;have:=hF.len;omega);have h3:=hpm.length_eq;simp only[List.length_map]at h3;omega);have hn:∀v n l,(v,n,l)∈R→n=(n.toNat:Int):=fun v n l hm2=>by have h1:(l,n)∈G.map fun g=>(g.1,(g.2:Int)):=hpm.mem_iff.1 (List.mem_map.2 ⟨(v,n,l),hm2,rfl⟩);obtain⟨g,-,h2⟩:=List.mem_map.1 h1;injection h2 with h2 h3;rw[←h3];simp
   have hpq:(R.map fun r=>(r.2.2,r.2.1.toNat)).Perm G:=(by have h1:=hpm.map fun q:List Int×Int=>(q.1,q.2.toNat);rw[List.map_map,List.map_map]at h1;have e2:(G.map ((fun q:List Int×Int=>(q.1,q.2.toNat)) ∘ fun g=>(g.1,(g.2:Int))))=G:=(by have:((fun q:List Int×Int=>(q.1,q.2.toNat)) ∘ fun g:List Int×Nat=>(g.1,(g.2:Int)))=id:=(by funext g;simp);rw[this,List.map_id]);rw[e2]at h1;exact h1);refine⟨P,z,R,rfl,hP,hF,h0,hm,hM,rfl,hL,FcS.mk' hP hE hG hpq (fun i j a n b m hij hi hj=>?_),hn,hRl⟩;rw[List.getElem?_map]at hi hj;obtain⟨⟨v,n',l⟩,h1,h2⟩:=Option.map_eq_some_iff.1 hi;obtain⟨⟨v',m',l'⟩,h3,h4⟩:=Option.map_eq_some_iff.1 hj;injection h2 with h2 _;injection h4 with h4 _;have h2':l=a:=h2;have h4':l'=b:=h4;rw[←h2',←h4'];exact hs i j v n' l v' m' l' hij h1 h3
end Go.Proofs.YtffdemplaodbcaaDoor
