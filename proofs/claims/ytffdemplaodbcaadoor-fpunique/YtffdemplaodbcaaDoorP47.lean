/- A part of the proof: UM, Draw2. -/
import Derived.Test.YtffdemplaodbcaaDoorP46
import Derived.Test.YtffdemplaodbcaaDoorP42
import Derived.Test.YtffdemplaodbcaaDoorP01
set_option linter.all false
namespace Go.Proofs.YtffdemplaodbcaaDoor
open Go Go.Proofs Go.RowKit Go.Rad
open _root_.Rad (CR Prm PD Dv Irr Vl)
theorem pw_szU {P:Nat} (hP:PrC P) {g:Ap P} (hg:Pm P g):∀e:Nat,e<sz (CR.pw g e)
 |0=>by show 0<sz (1:Ap P);rw[hP.pd.one];exact Nat.zero_lt_one
 |e+1=>by have h0:=hP.pd.ir_ne hg;have h1:=hP.pd.m _ _ (hP.pd.pw_ne h0 e) h0;have h2:=pw_szU hP hg e;have h3:=hg.two;have h4:sz (CR.pw g (e+1))+1=sz (CR.pw g e)+sz g:=h1.2;omega
theorem vl_small {P:Nat} (hP:PrC P) {g a:Ap P} (hg:Pm P g) {e:Nat} (hv:Vl g a e) (ha:a≠0):e<sz a:=by have h1:=pw_szU hP hg e;have h2:=hP.pd.dv_sz (hP.pd.vl_dv hv (Nat.le_refl _)) ha;omega
theorem FcS.small {P:Nat} (hP:PrC P) {z:List Int} {Q:List (List Int×Nat)} (h:FcS P z Q) (hM:Mon P z) {a:List Int} {n:Nat} (hm:(a,n)∈Q):n<z.length:=by
 obtain⟨-,hp,-,hv⟩:=h.mem a n hm;have:=vl_small hP hp hv (hM.ne hP)
 rwa [hM.sz]at this
theorem FcS.sum {P:Nat} (hP:PrC P) {z1 z2 z3:List Int} {Q1 Q2 Q3:List (List Int×Nat)} (h1:FcS P z1 Q1) (h2:FcS P z2 Q2) (h3:FcS P z3 Q3) (hM1:Mon P z1) (hM2:Mon P z2) (hz:(mq z3:Ap P)=mq z1*mq z2) {a:List Int} {n:Nat} (hm:(a,n)∈Q3) {s t:Nat}
 (k1:0<s→(a,s)∈Q1) (l1:s=0→a∉Q1.map Prod.fst) (k2:0<t→(a,t)∈Q2) (l2:t=0→a∉Q2.map Prod.fst):n=s+t:=by
 obtain⟨i,j,rfl,i1,i0,j1,j0⟩:=h1.mul hP h2 h3 hM1 hM2 hz hm;have one:∀(z:List Int) (Q:List (List Int×Nat)),FcS P z Q→∀i s:Nat,(0<i→(a,i)∈Q)→(i=0→a∉Q.map Prod.fst)→(0<s→(a,s)∈Q)→(s=0→a∉Q.map Prod.fst)→i=s:=by
  intro z Q h i s i1 i0 s1 s0;rcases Nat.eq_zero_or_pos i with hi|hi
  ·rcases Nat.eq_zero_or_pos s with hs|hs
   ·omega
   ·exact absurd (List.mem_map.2 ⟨_,s1 hs,rfl⟩) (i0 hi)
  ·rcases Nat.eq_zero_or_pos s with hs|hs
   ·exact absurd (List.mem_map.2 ⟨_,i1 hi,rfl⟩) (s0 hs)
   ·obtain⟨-,hp,-,hv⟩:=h.mem a i (i1 hi);obtain⟨-,-,-,hw⟩:=h.mem a s (s1 hs);exact hP.pd.vl_uniq hp hv hw
 rw[one z1 Q1 h1 i s i1 i0 k1 l1,one z2 Q2 h2 j t j1 j0 k2 l2]
structure MgS (Q1 Q3:List (List Int×Nat)) (i k:Nat) (a:List Int) (r:Bool) (i' t:Nat):Prop where
 mg:Mg (Q1.map Prod.fst) (Q3.map Prod.fst) i' (k+1)
 pos:0<t→(a,t)∈Q1
 zero:t=0→a∉Q1.map Prod.fst
 yes:r=true→i'=i+1∧Q1[i]? =some (a,t)
 no:r=false→i'=i∧t=0
theorem mg_step {P:Nat} {z z3:List Int} {Q1 Q3:List (List Int×Nat)} {i k:Nat} {a:List Int} {n:Nat} (h:Mg (Q1.map Prod.fst) (Q3.map Prod.fst) i k) (h1:FcS P z Q1) (h3:FcS P z3 Q3) (hsub:∀b,b∈Q1.map Prod.fst→b∈Q3.map Prod.fst) (hk:Q3[k]? =some (a,n)):
 ∃(r:Bool) (i' t:Nat),MgS Q1 Q3 i k a r i' t∧(r=true↔∃m,Q1[i]? =some (a,m)):=by
 have hk':(Q3.map Prod.fst)[k]? =some a:=(by rw[List.getElem?_map,hk];rfl);by_cases he:∃m,Q1[i]? =some (a,m)
 ·obtain⟨m,hm⟩:=he;have hi':(Q1.map Prod.fst)[i]? =some a:=(by rw[List.getElem?_map,hm];rfl);have h4:=h1.mem a m (List.mem_of_getElem? hm);exact⟨true,i+1,m,⟨h.hit h1.ris hi' hk',fun _=>List.mem_of_getElem? hm,fun h0=>by have:=h4.2.2.1;omega,fun _=>⟨rfl,hm⟩,fun h=>nomatch h⟩,⟨fun _=>⟨m,hm⟩,fun _=>rfl⟩⟩
 ·have hi':(Q1.map Prod.fst)[i]?≠some a:=fun h5=>he (by rw[List.getElem?_map]at h5;obtain⟨⟨b,m⟩,h6,h7⟩:=Option.map_eq_some_iff.1 h5;have h8:b=a:=h7;subst h8;exact⟨m,h6⟩);obtain⟨h5,h6⟩:=h.miss h1.ris h3.ris hsub hk' hi';exact⟨false,i,0,⟨h6,fun h0=>absurd h0 (Nat.lt_irrefl 0),fun _=>h5,fun h=>(nomatch h),fun _=>⟨rfl,rfl⟩⟩,⟨fun h=>(nomatch h),fun h=>absurd h he⟩⟩
theorem mul_isF {P:Nat} (hP:PrC P) {xs ys z:List Int} (hx:IsF P xs) (hy:IsF P ys) (hx0:0<xs.length) (hy0:0<ys.length) (hl:xs.length+ys.length≤60) (hz:Nrm (P:Int) (row (pmul xs ys)) z):IsF P z∧0<z.length:=by
 have hp:=hP.two;have hlx:=hx.last hx0;have hly:=hy.last hy0;have hox:=hx.ok _ (Nat.sub_lt hx0 Nat.one_pos);have hoy:=hy.ok _ (Nat.sub_lt hy0 Nat.one_pos);have htop:=row_pmul_top xs ys hx0 hy0;obtain⟨l1,hl1⟩:∃l,l=xs.getD (xs.length-1) 0:=⟨_,rfl⟩;obtain⟨l2,hl2⟩:∃l,l=ys.getD (ys.length-1) 0:=⟨_,rfl⟩;rw[←hl1]at hlx hox;rw[←hl2]at hly hoy;rw[←hl1,←hl2]at htop;obtain⟨k,hk⟩:∃k,k=xs.length+ys.length-2:=⟨_,rfl⟩;rw[←hk]at htop;have hle:z.length≤k+1:=hz.len fun j hj=>by rw[row_pmul_ge xs ys j (by omega)];rfl
 have ezk:row z k=l1*l2%P:=(by rw[hz.eq,htop]);have hne:row z k≠0:=fun h0=>by
  rw[ezk]at h0;have hd:(P:Int) ∣ l1*l2:=Int.dvd_of_emod_eq_zero h0;have hd2:P ∣ l1.natAbs*l2.natAbs:=by
   have:=Int.natAbs_dvd_natAbs.2 hd
   rwa [Int.natAbs_mul,Int.natAbs_natCast]at this
  rcases hP.pm.mul hd2 with h5|h5
  ·have:=Nat.le_of_dvd (by omega) h5;omega
  ·have:=Nat.le_of_dvd (by omega) h5;omega
 have hlen:0<z.length:=by
  rcases Nat.eq_zero_or_pos z.length with h5|h5
  ·exact absurd (row_ge z k (by omega)) hne
  ·exact h5
 refine⟨⟨hx.pr,by omega,fun j hj=>?_,hz.top⟩,hlen⟩;rw[←row_getD,hz.eq];exact⟨Int.emod_nonneg _ (by omega),Int.emod_lt_of_pos _ (by omega)⟩
theorem FcL.below {w w':World} {u:Value} {R:List (Value×Int×List Int)} (h:FcL w u R) (hb:Below w.heap.size w w'):FcL w' u R:=h.kept (.of_below (S:=fun _=>False) hb) (fun _ _ h=>h) fun _ _ _ _ _ _ h=>h
theorem FcL.get {w:World} {u:Value} {R:List (Value×Int×List Int)} (h:FcL w u R) {i:Nat} (hi:i<R.length):∃g k v n l,u= .slice (some ⟨g,0,none⟩) R.length k∧R[i]? =some (v,n,l)∧g<w.heap.size∧w.cell? ⟨g,i*2,none⟩=some v∧w.cell? ⟨g,i*2+1,none⟩=some (.int .i64 n)∧VC w v l:=by obtain⟨a,k,he,hf⟩:=h.form;obtain⟨g,hg,hlt,hc⟩:=hf (by omega);have hget:R[i]? =some (R[i].1,R[i].2.1,R[i].2.2):=List.getElem?_eq_some_iff.2 ⟨hi,rfl⟩;obtain⟨c1,c2⟩:=hc i _ _ _ hget;rw[Nat.mul_comm]at c1 c2;exact⟨g,k,_,_,_,by rw[he,hg],hget,hlt,c1,c2,h.vc _ _ _ (List.mem_of_getElem? hget)⟩
def qs (R:List (Value×Int×List Int)):List (List Int×Nat):=R.map fun r=>(r.2.2,r.2.1.toNat)
theorem qs_get {R:List (Value×Int×List Int)} {i:Nat} {v:Value} {n:Int} {l:List Int} (h:R[i]? =some (v,n,l)):(qs R)[i]? =some (l,n.toNat):=by unfold qs;rw[List.getElem?_map,h];rfl
structure LQ (P:Nat) (z z3:List Int) (R R3:List (Value×Int×List Int)):Prop where
 hP:PrC P
 S:FcS P z (qs R)
 S3:FcS P z3 (qs R3)
 M:Mon P z
 sub:∀b,b∈(qs R).map Prod.fst→b∈(qs R3).map Prod.fst
 len:z.length≤65
 num:∀v n l,(v,n,l)∈R→n=(n.toNat:Int)
 many:R.length≤100000
structure LS (R R3:List (Value×Int×List Int)) (i k:Nat) (l3:List Int) (r:Bool) (i' t:Nat):Prop where
 g:MgS (qs R) (qs R3) i k l3 r i' t
 le:i'≤R.length
 t65:t≤65
 eq:∀v n l,R[i]? =some (v,n,l)→(r=true↔l=l3)∧(r=true→n=(t:Int))
 out:¬i<R.length→r=false
theorem LQ.step {P:Nat} {z z3:List Int} {R R3:List (Value×Int×List Int)} (h:LQ P z z3 R R3) {i k:Nat} {v3:Value} {n3:Int} {l3:List Int} (hm:Mg ((qs R).map Prod.fst) ((qs R3).map Prod.fst) i k) (hk:R3[k]? =some (v3,n3,l3)):∃(r:Bool) (i' t:Nat),LS R R3 i k l3 r i' t:=by
 obtain⟨r,i',t,hg,hr⟩:=mg_step hm h.S h.S3 h.sub (qs_get hk);refine⟨r,i',t,hg,?_,?_,fun v n l hi=>⟨hr.trans ⟨fun⟨m,h5⟩=>?_,fun e=>⟨n.toNat,?_⟩⟩,fun h6=>?_⟩,fun hi=>?_⟩
 ·have:=hg.mg.le;rw[List.length_map]at this;unfold qs at this
  rwa [List.length_map]at this
 ·rcases Nat.eq_zero_or_pos t with h5|h5
  ·omega
  ·have:=h.S.small h.hP h.M (hg.pos h5);have:=h.len;omega
 ·rw[qs_get hi]at h5;injection h5 with h5;injection h5 with h5 _
 ·rw[qs_get hi,e]
 ·have h7:=(hg.yes h6).2;rw[qs_get hi]at h7;injection h7 with h7;injection h7 with _ h7;rw[h.num v n l (List.mem_of_getElem? hi),h7]
 ·cases r with
  |false=>rfl
  |true=>obtain⟨m,h5⟩:=hr.1 rfl;have h6:=(List.getElem?_eq_some_iff.1 h5).1;unfold qs at h6;rw[List.length_map]at h6;exact absurd h6 hi
theorem LQ.all {P:Nat} {z z3:List Int} {R R3:List (Value×Int×List Int)} (h:LQ P z z3 R R3) {i:Nat} (hm:Mg ((qs R).map Prod.fst) ((qs R3).map Prod.fst) i R3.length):i=R.length:=by have e:((qs R3).map Prod.fst).length=R3.length:=(by unfold qs;simp);have e1:((qs R).map Prod.fst).length=R.length:=(by unfold qs;simp);rw[←e]at hm;rw[hm.all h.sub,e1]
theorem FcS.llen {P:Nat} (hP:PrC P) {z:List Int} {Q:List (List Int×Nat)} (h:FcS P z Q) (hM:Mon P z) {a:List Int} {n:Nat} (hm:(a,n)∈Q):a.length≤z.length:=by
 obtain⟨hMa,hp,hn,hv⟩:=h.mem a n hm;have h1:=hP.pd.dv_sz ((hP.pd.vl_pos hp hv).2 (by omega)) (hM.ne hP)
 rwa [hM.sz,hMa.sz]at h1
theorem qs_mem {R:List (Value×Int×List Int)} {i:Nat} {v:Value} {n:Int} {l:List Int} (h:R[i]? =some (v,n,l)):(l,n.toNat)∈qs R:=List.mem_of_getElem? (qs_get h)
theorem csC_ok {p:Int} {xs:List Int} (h:IsF p xs) (h0:0<xs.length):csC p xs=0:=by unfold csC;rw[h.ck.1,if_neg (by simp),if_neg (by omega)]
theorem mul_bd {a b p:Int} (ha:0≤a) (ha':a<p) (hb:0≤b) (hb':b<p) (hp:p<2147483648):0≤a*b∧a*b<4611686018427387904:=by refine⟨Int.mul_nonneg ha hb,?_⟩;have h1:a*b≤2147483647*2147483647:=Int.mul_le_mul (by omega) (by omega) hb (by omega);omega
end Go.Proofs.YtffdemplaodbcaaDoor
namespace Go.Rad
open Go Go.RowKit
theorem stpN {P:Program} {ops:List Oper} {Q:Exit→Act→World→Prop} {o:Oper} {a:Act} {w:World} {K:Act→World→Prop} {E:Prop} {j:Nat} {b c:Bool} {d:Nat} (hg:o.guard=some (j,b)) (hd:dstOf ops j=some d)
 (hv:a.tmps[d]?.getD undef= .bool c) (hc:c≠b) (h:E):if Region.wanted o (yielded ops.toArray a.tmps)=true then o.wp P a w K Q else E:=by
 have hy:yielded ops.toArray a.tmps j=some c:=by
  unfold yielded;unfold dstOf at hd;have:(ops.toArray[j]?.bind (·.dst))=some d:=(by simpa using hd);rw[this];cases h2:a.tmps[d]? with
  |none=>rw[h2]at hv;simp[undef]at hv
  |some u=>rw[h2]at hv;simp at hv;subst hv;simp[h2]
 rw[if_neg]
 ·exact h
 ·simp[Region.wanted,hg,hy,hc]
end Go.Rad
