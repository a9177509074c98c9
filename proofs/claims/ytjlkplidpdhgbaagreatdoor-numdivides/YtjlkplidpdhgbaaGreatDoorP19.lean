/- A part of the proof: W30, W31, W32, W33, W29. -/
import Derived.Test.YtjlkplidpdhgbaaGreatDoorP00
import Derived.Test.YtjlkplidpdhgbaaGreatDoorP08
import Derived.Test.YtjlkplidpdhgbaaGreatDoorP03
import Derived.Deep.RegionHeld
import Derived.Lib.MakeNoZero
import Derived.Deep.RegionHeld3
import Derived.Deep.RegionHeldLaw
import Derived.Test.YtjlkplidpdhgbaaGreatDoorP18
import Derived.Test.YtjlkplidpdhgbaaGreatDoorP05
set_option linter.all false
set_option maxRecDepth 10000
set_option maxHeartbeats 2000000
namespace Go.Proofs.YtjlkplidpdhgbaaGreatDoor
open Go Go.Proofs Go.RowKit Go.Rad
theorem chg_new {a w w':World} {b lo hi p q r:Nat} (h:Chg a w b lo hi) (k:Chg w w' p q r) (j:a.heap.size≤p) (f:b<a.heap.size):Chg a w' b lo hi:=
 ⟨k.os.trans h.os,k.tape.trans h.tape,k.output.trans h.output,Nat.le_trans h.size k.size,
  fun c g d=>(k.block c (Nat.lt_of_lt_of_le g h.size) om).trans (h.block c g d),
  fun i hi=>(k.cellAt (Nat.lt_of_lt_of_le f h.size) (.inl om)).trans (h.cell i hi),
  fun i=>(k.frozAt (Nat.lt_of_lt_of_le f h.size)).trans (h.froz i)⟩
def Dig (w:World) (b o n m x:Nat):Prop:=∀i,i<m→w.cell? ⟨b,o+(n-1-i),none⟩=some (.int .u8 ((48+x / 10^i%10:Nat):Int))
def CH:Nat:=10000000000000000000
theorem CH_eq:CH=10^19:=by decide
theorem ch_pos:0<CH:=by decide
theorem ch_lt:CH<B:=by decide
theorem ze9 (x j t:Nat) (c:t<19):x / 10^(19*j)%CH / 10^t%10=x / 10^(19*j+t)%10:=by rw[CH_eq,Nat.pow_add 10 (19*j) t,←Nat.div_div_eq_div_mul];generalize x / 10^(19*j)=y;have e:(10:Nat)^19=10^t*10^(19-t):=(by rw[←Nat.pow_add];congr 1;omega);rw[e,Nat.mod_mul_right_div_self];obtain⟨k,b⟩:∃k,19-t=k+1:=⟨19-t-1,by omega⟩;rw[b,Nat.pow_succ,Nat.mul_comm];exact Nat.mod_mod_of_dvd _ ⟨_,rfl⟩
theorem Mag.of_num {w:World} {b o n c x:Nat} (g:Arr .u64 B w b o n) (k:n≤c) (h:num B w b o n=x) (d:n=0∨B^(n-1)≤x):Mag w (.slice (some ⟨b,o,none⟩) n c) x n:=by
 refine⟨_,b,o,c,rfl,Sl.mk _ _ _,k,g,h,?_⟩;rcases d with d|d
 ·exact .inl d
 ·rcases Nat.eq_zero_or_pos n with f|f
  ·exact .inl f
  ·right;intro j;obtain⟨m,rfl⟩:∃m,n=m+1:=⟨n-1,by omega⟩;rw[Nat.add_sub_cancel]at j d;rw[zaj,j,Nat.mul_zero,Nat.add_zero]at h;have l:num B w b o m<B^m:=za1 (fun i hi=>g i om);omega
theorem zfw (w:World) (b o n c m:Nat) (v:Value) (x k:Nat) (xb:0<n) (hm:m≤n) (hn:n≤1099511627776) (hz:Dig w b o n m 0) (hf:Free w b o n) (hx:Mag w v x k) (hk:k≤35184372088832)
 (ma:x<10^m) (hl:b<w.heap.size) (yb:n≤c):
 Calls Tryz.prog 108 #[.slice (some ⟨b,o,none⟩) n c,v] w fun e w'=>e=.returned (.tuple #[])∧Chg w w' b (o+(n-m)) (o+n)∧Dig w' b o n m x:=by
 obtain⟨i0,bb,ib,jb,kb⟩:=info_parts zb0;have ua:Hid (k=0∨B^(k-1)≤x):=by
  rcases Nat.eq_zero_or_pos k with h|h
  ·exact .inl h
  ·exact .inr (hx.ge h)
 obtain⟨ax,bx,ox,cx,rfl,gb,sb,ea,ja,fb⟩:=hx;have HX:Hid (num B w bx ox k=x):=ja;clear ja fb;go_enter Tryz.func108,Tryz.ntmps108;go_wp2_with (first
  |(at_make;refine zap .u64 B za2 rfl _ _ 22 rfl 98 i0 Tryz.underlying22 bb ib jb .i64 .i64 _ _ k rfl rfl om om (by rw[kb];omega) (by unfold maxLen;omega) ?_;intro w2 E)
  |(refine zal .u64 B rfl _ _ 22 22 rfl 98 Tryz.underlying22 zb2 _ _ _ _ _ _ rfl rfl w.heap.size 0 bx ox (Sl.mk _ _ _) gb E.arr E.free (zae ea E.below) ?_;intro w3 T;rw[Nat.min_self]at T))
 obtain⟨S,P,U,Y,Z⟩:=zb9 E ea (Nat.le_refl _) T;rw[HX.out]at Y;have C3:Chg w w3 b (o+(n-m)) (o+n):=zd0 S hl;have D3:∀i,i<m→w3.cell? ⟨b,o+(n-1-i),none⟩=some (.int .u8 ((48+(if i<19*0 then x / 10^i%10 else 0):Nat):Int)):=fun i hi=>by rw[S.cell (p:=⟨b,o+(n-1-i),none⟩) hl,hz i hi];simp
 have M3:Mag w3 (.slice (some ⟨w.heap.size,0,none⟩) k k) x k:=Mag.of_num P (Nat.le_refl _) Y ua.out;obtain⟨q,J⟩:∃q,q=w.heap.size:=⟨_,rfl⟩;rw[←J]at P U Z M3⊢;have rb:b<q:=(by rw[J];exact hl);have oa:Hid (q=w.heap.size):=J;clear E T S Y J;go_loopw [4,5] (fun l e wr=>∃j G cl:Nat,l=.slice (some ⟨q,0,none⟩) G cl∧e=.int .i64 ((n:Int)-19*(j:Int))∧Chg w wr b (o+(n-m)) (o+n)∧
  Mag wr (.slice (some ⟨q,0,none⟩) G cl) (x / 10^(19*j)) G∧Free wr q 0 G∧q<wr.heap.size∧G≤k∧19*j≤m+19∧
  (∀i,i<m→wr.cell? ⟨b,o+(n-1-i),none⟩=some (.int .u8 ((48+(if i<19*j then x / 10^i%10 else 0):Nat):Int))))
  (fun _ e _=>(intOf e).toNat)
 case atStart=>exact⟨0,k,k,rfl,by go_num,C3,by rw[Nat.mul_zero,Nat.pow_zero,Nat.div_one];exact M3,U,Z,Nat.le_refl _,by omega,D3⟩
 case round=>
  obtain⟨j,G,cl,rfl,rfl,f,hM,V,W,wb,hj,H⟩:=hrel;clear C3 D3 M3 P U Z;by_cases h0:G=0
  ·subst h0;have la:x / 10^(19*j)=0:=hM.zero_iff.2 rfl;have HD:Hid (Dig wr b o n m x):=fun i hi=>by
    rw[H i hi];by_cases D:i<19*j
    ·rw[if_pos D]
    ·rw[if_neg D];have I:x / 10^i=0:=(by obtain⟨t,ht⟩:=Nat.exists_eq_add_of_le (Nat.le_of_not_lt D);rw[ht,Nat.pow_add,←Nat.div_div_eq_div_mul,la,Nat.zero_div]);rw[I]
   have HC:Hid _:=f;clear H f hM la;go_wp2;go_end0;exact⟨rfl,HC.out,HD.out⟩
  ·have r:0<x / 10^(19*j):=hM.pos om;have vb:19*j<m:=(by have D:10^(19*j)≤x:=(by refine Nat.le_of_not_lt fun h=>?_;rw[Nat.div_eq_of_lt h]at r;omega);exact(Nat.pow_lt_pow_iff_right (by decide:1<10)).1 (Nat.lt_of_le_of_lt D ma));obtain⟨pb,ac,qb,hv,ya,da,L,_⟩:=hM.row om;simp only[Value.slice.injEq,Option.some.injEq,Addr.mk.injEq,and_true,true_and]at hv;obtain⟨⟨rfl,rfl⟩,rfl⟩:=hv;have CD:=zd1 wr (some ⟨q,0,none⟩) q 0 G cl CH (Sl.mk _ _ _) (by unfold maxLen;omega) da V ch_pos ch_lt;rw[L]at CD;obtain⟨y,hy⟩:∃y,x / 10^(19*j)%CH=y:=⟨_,rfl⟩;rw[hy]at CD;have na:y<CH:=(by rw[←hy];exact Nat.mod_lt _ ch_pos);have HY:Hid _:=hy;clear hy;have eb:(0:Int)<(G:Int):=om;have aa:Hid _:=H;clear hM da L r H;go_wp2_with (go_at_call 134;fail);refine CD.mono ?_;rintro e w4 ⟨rfl,A,R,ia⟩;clear CD;have CF:=zbj w4 (some ⟨q,0,none⟩) q 0 G cl G (Sl.mk _ _ _) ya (by unfold maxLen;omega) (by unfold maxLen;omega) R;rw[Nat.min_self,ia]at CF;have ha:q<w4.heap.size:=Nat.lt_of_lt_of_le W A.size;have O:Hid (Chg w w4 b (o+(n-m)) (o+n)):=chg_new f A (by have:=oa.out;omega) hl;have ga:=A.free V (fun _=>W);have ba:Hid (∀i,i<m→w4.cell? ⟨b,o+(n-1-i),none⟩=some (.int .u8 ((48+(if i<19*j then x / 10^i%10 else 0):Nat):Int))):=fun i hi=>by rw[A.cellAt (by have:=f.size;omega) (.inl om)];exact aa.out i hi
   have ca:=R;clear ia R f A aa;go_wp2_with (go_at_call 86;fail);refine CF.mono ?_;rintro e w5 ⟨k5,rfl,hb,db,_,X⟩;subst hb;clear CF;have M:x / 10^(19*j) / CH=x / 10^(19*(j+1)):=(by rw[CH_eq,Nat.div_div_eq_div_mul,←Nat.pow_add];rfl);rw[M]at X;have wa:Hid _:=X;have ab:Free w5 q 0 k5:=zc6 ga db;clear M X ca V W ga;have za:=ba.out;have A:=O.out;go_wp2;clear za A;go_loopw [6,7] (fun d e wr=>∃t z:Nat,t≤19∧z=y / 10^t∧d=.int .u64 (z:Int)∧e=.int .i64 ((n:Int)-19*(j:Int)-1-(t:Int))∧Chg w5 wr b (o+(n-m)) (o+n)∧
    (∀i,i<m→wr.cell? ⟨b,o+(n-1-i),none⟩=some (.int .u8 ((48+(if i<19*j+t then x / 10^i%10 else 0):Nat):Int))))
    (fun d _ _=>(intOf d).toNat)
   case atStart=>exact⟨0,y,by omega,by rw[Nat.pow_zero,Nat.div_one],rfl,by go_num,Chg.refl _ _ _ _,ba.out⟩
   case round=>
    obtain⟨t,z,ht,s,rfl,rfl,f,H⟩:=hrel;by_cases F:z=0
    ·subst F;have ra:Hid (∀i,i<m→wr.cell? ⟨b,o+(n-1-i),none⟩=some (.int .u8 ((48+(if i<19*(j+1) then x / 10^i%10 else 0):Nat):Int))):=fun i hi=>by
      rw[H i hi];by_cases D:i<19*j+t
      ·rw[if_pos D,if_pos om]
      ·rw[if_neg D];by_cases I:i<19*(j+1)
       ·rw[if_pos I];obtain⟨u,rfl⟩:=Nat.exists_eq_add_of_le (show 19*j≤i by omega);rw[←ze9 x j u om,HY.out];obtain⟨e,he⟩:=Nat.exists_eq_add_of_le (show t≤u by omega);rw[he,Nat.pow_add,←Nat.div_div_eq_div_mul,←s,Nat.zero_div]
       ·rw[if_neg I]
     have xa:Hid (Mag wr (.slice (some ⟨q,0,none⟩) k5 k5) (x / 10^(19*(j+1))) k5):=Mag.chg wa.out f (fun _=> .inl om);have pa:Hid (Chg w wr b (o+(n-m)) (o+n)):=O.out.trans f;have ta:Hid (Free wr q 0 k5):=f.free ab (fun _=>ha);have va:Hid (q<wr.heap.size):=Nat.lt_of_lt_of_le ha f.size;clear H f s;go_wp2;go_roundw
     case rel=>exact⟨j+1,k5,k5,rfl,by go_num,pa.out,xa.out,ta.out,va.out,by omega,by omega,ra.out⟩
     case measure=>simp[intOf];omega
    ·have r:0<x / 10^(19*j+t):=(by rw[Nat.pow_add,←Nat.div_div_eq_div_mul];refine Nat.pos_of_ne_zero fun h=>F ?_;rw[s,←HY.out];exact Nat.le_zero.1 (Nat.le_trans (Nat.div_le_div_right (Nat.mod_le _ _)) (Nat.le_of_eq h)));have cb:19*j+t<m:=(by have D:10^(19*j+t)≤x:=(by refine Nat.le_of_not_lt fun h=>?_;rw[Nat.div_eq_of_lt h]at r;omega);exact(Nat.pow_lt_pow_iff_right (by decide:1<10)).1 (Nat.lt_of_le_of_lt D ma));have ka:t<19:=(by refine Nat.lt_of_not_le fun h=>F ?_;rw[s];exact Nat.div_eq_of_lt (Nat.lt_of_lt_of_le na (by rw[CH_eq];exact Nat.pow_le_pow_right dd h)));have fa:z%10=x / 10^(19*j+t)%10:=(by rw[s,←HY.out,ze9 x j t ka]);have lb:z<B:=Nat.lt_of_le_of_lt (by rw[s];exact Nat.div_le_self _ _) (Nat.lt_trans na ch_lt);have C:=H (19*j+t) cb;rw[if_neg om]at C;obtain⟨p,hp⟩:∃p,p=n-1-(19*j+t):=⟨_,rfl⟩;rw[←hp]at C;have tb:wr.frozen? ⟨b,o+p,none⟩=false:=(by have D:=(O.out.trans f).free hf (fun _=>hl) p om;exact D);have e1:(n:Int)-19*(j:Int)-1-(t:Int)=(p:Int):=om;rw[e1];have nb:(z:Int)%10=((z%10:Nat):Int):=om;obtain⟨g,hg⟩:∃g,z%10=g:=⟨_,rfl⟩;have ub:g≤9:=om;rw[hg]at nb;have hq:z / 10=y / 10^(t+1):=(by rw[s,Nat.div_div_eq_div_mul,Nat.pow_succ]);have mb:(z:Int) / 10=((z / 10:Nat):Int):=om;obtain⟨z2,N⟩:∃g,z / 10=g:=⟨_,rfl⟩;have ob:z2<z:=om;rw[N]at mb hq;have zb:p<n:=om;have qa:Hid _:=f;have sa:Hid _:=H;have HQ:Hid _:=hq;have HG:Hid (g=x / 10^(19*j+t)%10):=(by show _=_;rw[←hg];exact fa);have HP:Hid (p=n-1-(19*j+t)):=hp;clear f H s r hq fa hg hp e1 N;unfold B at lb;go_wp2;go_roundw
     case rel=>
      refine⟨t+1,z2,by omega,HQ.out,rfl,by have:=HP.out;go_num,qa.out.set (by have:=HP.out;omega) (by have:=HP.out;omega) _,fun i hi=>?_⟩;by_cases D:n-1-i=p
      ·have I:i=19*j+t:=(by have:=HP.out;omega);subst I;rw[D,zar C,if_pos om,←HG.out];rfl
      ·rw[zaa (.inr om),sa.out i hi];by_cases I:i<19*j+t
       ·rw[if_pos I,if_pos om]
       ·rw[if_neg I,if_neg (by have:=HP.out;omega)]
     case measure=>simp[intOf];omega
theorem Mag.chg8 {w w':World} {v:Value} {x n b lo hi:Nat} (h:Mag w v x n) (t:Chg w w' b lo hi) (s:∀i,lo≤i→i<hi→∃y,w.cell? ⟨b,i,none⟩=some (.int .u8 y)):Mag w' v x n:=by
 obtain⟨p,d,o',q,z,u,k,g,A,f⟩:=h;have j:∀i,i<n→d≠b∨o'+i<lo∨hi≤o'+i:=fun i hi'=>by
  by_cases l:d=b
  ·subst l;refine .inr (Classical.byContradiction fun m=>?_);obtain⟨y,o⟩:=s (o'+i) om om;rw[(g i hi').1]at o;simp at o
  ·exact .inl l
 have c:∀i,i<n→w'.cell? ⟨d,o'+i,none⟩=w.cell? ⟨d,o'+i,none⟩:=fun i hi'=>t.cellAt (g.lt om) (j i hi');refine⟨p,d,o',q,z,u,k,fun i hi'=>?_,(zaz fun i hi'=>zab (c i hi')).trans A,?_⟩
 ·rw[zab (c i hi'),c i hi'];exact g i hi'
 ·rcases f with f|f
  ·exact .inl f
  ·by_cases r:n=0
   ·exact .inl r
   ·right;rw[zab (c (n-1) om)];exact f
theorem Dig.bytes {w:World} {b o n m x:Nat} (h:Dig w b o n m x) (f:m≤n):∀i,o+(n-m)≤i→i<o+n→∃y,w.cell? ⟨b,i,none⟩=some (.int .u8 y):=fun i c d=>by have:=h (o+n-1-i) om;rw[show o+(n-1-(o+n-1-i))=i by omega]at this;exact⟨_,this⟩
def Lad (w:World) (bp op D K:Nat):Prop:=∀i,i<K→∃v n,w.cell? ⟨bp,op+i,none⟩=some v∧Mag w v (10^(D*2^i)) n∧n≤35184372088832
theorem Lad.below {w w':World} {b c D K:Nat} (h:Lad w b c D K) (f:Below w.heap.size w w'):Lad w' b c D K:=fun i hi=>by obtain⟨v,n,d,g,j⟩:=h i hi;exact⟨v,n,(f.cell (p:=⟨b,c+i,none⟩) (zby d)).trans d,g.below f,j⟩
theorem Lad.chg8 {w w':World} {c f D K b lo hi:Nat} (h:Lad w c f D K) (l:Chg w w' b lo hi) (j:∀i,lo≤i→i<hi→∃y,w.cell? ⟨b,i,none⟩=some (.int .u8 y)):Lad w' c f D K:=fun i hi'=>by
 obtain⟨v,n,d,g,p⟩:=h i hi';refine⟨v,n,?_,g.chg8 l j,p⟩;rw[l.cellAt (zby d) ?_];·exact d
 by_cases k:c=b
 ·subst k;refine .inr (Classical.byContradiction fun m=>?_);obtain⟨y,o⟩:=j (f+i) om om;rw[d]at o;obtain rfl:=oi o;obtain⟨r,s,o',t,q,_⟩:=g;exact Value.noConfusion q
 ·exact .inl k
theorem Dig.chg {w w':World} {b o n m x lo hi:Nat} (h:Dig w b o n m x) (c:Chg w w' b lo hi) (d:∀i,i<m→o+(n-1-i)<lo∨hi≤o+(n-1-i)):Dig w' b o n m x:=fun i hi'=>by rw[c.cell _ (d i hi')];exact h i hi'
theorem ze8 {w c w':World} {b lo hi:Nat} (h:Below w.heap.size w c) (k:Chg c w' b lo hi) (d:b<w.heap.size):Chg w w' b lo hi:=(zd0 h d).trans k
def WriteOk (K k:Nat):Prop:=
 ∀(w:World) (ap:Option Addr) (kp cp bp op D b o n c m:Nat) (v:Value) (x nx:Nat),Sl ap bp op kp→k≤K→K≤kp→kp≤35184372088832→kp≤cp→Lad w bp op D K→0<D→D*2^K≤1099511627776→
  0<n→m≤n→n≤1099511627776→n≤c→c≤9223372036854775807→Dig w b o n m 0→Free w b o n→Mag w v x nx→nx<160→x<10^m→b<w.heap.size→
  Calls Tryz.prog 72 #[.agg #[.int .i64 D,.slice ap kp cp],.slice (some ⟨b,o,none⟩) n c,v,.int .i64 k] w fun e w'=>e=.returned (.tuple #[])∧Chg w w' b (o+(n-m)) (o+n)∧Dig w' b o n m x
theorem write_zero (K:Nat):WriteOk K 0:=by
 intro w q y r M S D b o n c m v x L R P O G F C B N g H I j E u s t J k f;have d:=zau w (Obj.cells #[Value.int IntKind.i64 D,Value.slice q y r] 95);have l:=zfw (w.alloc (Obj.cells #[Value.int IntKind.i64 D,Value.slice q y r] 95)) b o n c m v x L g H I
  (fun i hi=>(d.cell (p:=⟨b,o+(n-1-i),none⟩) f).trans (u i hi)) (zb7 s d f) (t.below d) om k (by simp;omega) j
 have HB:Hid (b<w.heap.size):=f;clear u s t f C;go_enter Tryz.func72,Tryz.ntmps72;go_wp2_with (go_at_call 108;fail);refine l.mono ?_;rintro e T ⟨rfl,z,A⟩;clear l;go_wp2;refine bodyPost_ret (results_none rfl _ _ _) rfl ?_;exact⟨rfl,ze8 d z HB.out,A⟩
theorem digit_low {x e i:Nat} (hi:i<e):x%10^e / 10^i%10=x / 10^i%10:=by have b:(10:Nat)^e=10^i*10^(e-i):=(by rw[←Nat.pow_add];congr 1;omega);rw[b,Nat.mod_mul_right_div_self];obtain⟨k,c⟩:∃k,e-i=k+1:=⟨e-i-1,by omega⟩;rw[c,Nat.pow_succ,Nat.mul_comm];exact Nat.mod_mod_of_dvd _ ⟨_,rfl⟩
theorem digit_high {x e i:Nat} (hi:e≤i):x / 10^e / 10^(i-e)%10=x / 10^i%10:=by rw[Nat.div_div_eq_div_mul,←Nat.pow_add,show e+(i-e)=i by omega]
theorem write_step (K k:Nat) (ih:WriteOk K k) (dc:k+1≤K):WriteOk K (k+1):=by
 intro w ap J P u G D b o n c m v x nx hs hk hK W U hL z hD pa hm hn ra T hz hf hx H Y hb;obtain rfl:=hs om;obtain⟨DD,A⟩:∃e,D*2^k=e:=⟨_,rfl⟩;have tb:DD≤1099511627776:=(by rw[←A];exact Nat.le_trans (Nat.mul_le_mul_left D (Nat.pow_le_pow_right dd om)) hD);have eb:0<DD:=(by rw[←A];exact Nat.mul_pos z (Nat.pow_pos dd));have B1:=zau w (Obj.cells #[Value.int IntKind.i64 D,Value.slice (some ⟨u,G,none⟩) J P] 95);have q:(w.alloc (Obj.cells #[Value.int IntKind.i64 D,Value.slice (some ⟨u,G,none⟩) J P] 95)).heap.size=w.heap.size+1:=(by simp);obtain⟨pv,pn,kb,E,lb⟩:=(hL.below B1) k om;rw[A]at E;have B:0<10^DD:=Nat.pow_pos dd;have sa:0<pn:=by
  rcases Nat.eq_zero_or_pos pn with h|h
  ·have:=E.zero_iff.2 h;omega
  ·exact h
 have CD:=zep _ v pv x (10^DD) nx pn (hx.below B1) E sa H lb;have HX:Hid _:=hx;have HL:Hid _:=hL;have HZ:Hid _:=hz;have HF:Hid _:=hf;have HB:Hid (b<w.heap.size):=hb;have xb:Hid _:=E;have e1:((k+1:Nat):Int)-1=(k:Int):=om;have ec:(k:Int)<(J:Int):=om;have cc:¬((k+1:Nat):Int)=0:=om;have wa:Hid _:=B1;clear hx hL hz hf hb E B1;go_enter Tryz.func72,Tryz.ntmps72;go_wp2_with (go_at_call 109;fail);refine CD.mono ?_;rintro e M ⟨vq,vr,nq,nr,rfl,C,s,t⟩;clear CD;obtain⟨qa,qb,qo,qc,rfl,_⟩:=id s;have B2:Below w.heap.size w M:=wa.out.trans (C.mono (by rw[q];omega));have k0:=(C.cell (p:=⟨w.heap.size,0,none⟩) (by rw[q];show w.heap.size<_;omega)).trans (by simp[go_sem]:_=some (.int .i64 (D:Int)));have k1:=(C.cell (p:=⟨w.heap.size,1,none⟩) (by rw[q];show w.heap.size<_;omega)).trans (by simp[go_sem]:_=some (.slice (some ⟨u,G,none⟩) J P));have L2:Lad M u G D K:=Lad.below HL.out B2;have Z2:Dig M b o n m 0:=fun i hi=>(B2.cell (p:=⟨b,o+(n-1-i),none⟩) HB.out).trans (HZ.out i hi);have F2:=zb7 HF.out B2 HB.out;have F:b<M.heap.size:=Nat.lt_of_lt_of_le HB.out B2.size;have l2:w.heap.size<M.heap.size:=Nat.lt_of_lt_of_le (by rw[q];omega) C.size;have O:Hid _:=B2;have ba:Hid _:=A;clear C kb B2 q A;by_cases nb:nq=0
 ·subst nb;have pb:x / 10^DD=0:=s.zero_iff.2 rfl;have ua:x<10^DD:=(Nat.div_eq_zero_iff_lt B).1 pb;rw[Nat.mod_eq_of_lt ua]at t;have X:nr<160:=Nat.lt_of_le_of_lt (t.len_le (Mag.lt HX.out)) H;have CW:=ih M (some ⟨u,G,none⟩) J P u G D b o n c m vr x nr (Sl.mk _ _ _) om hK W U L2 z hD pa hm hn ra T Z2 F2 t X Y F;have HK:Hid _:=And.intro k0 k1;clear L2 Z2 F2 s t;go_wp2_with (go_at_call 72;fail);refine CW.mono ?_;rintro e w3 ⟨rfl,I,h2⟩;clear CW;go_wp2;go_end0;exact⟨rfl,ze8 O.out I HB.out,h2⟩
 ·have ob:=s.pos om;have gb:10^DD≤x:=(by refine Nat.le_of_not_lt fun h=>?_;rw[Nat.div_eq_of_lt h]at ob;omega);have ac:DD<m:=(Nat.pow_lt_pow_iff_right (by decide:1<10)).1 (Nat.lt_of_le_of_lt gb Y);have jb:nq<160:=Nat.lt_of_le_of_lt (s.len_le (Nat.lt_of_le_of_lt (Nat.div_le_self _ _) (Mag.lt HX.out))) H;have X:nr<160:=Nat.lt_of_le_of_lt (t.len_le (Nat.lt_of_le_of_lt (Nat.mod_le _ _) (Mag.lt HX.out))) H;have rb:x / 10^DD<10^(m-DD):=(by refine Nat.div_lt_of_lt_mul ?_;rw[←Nat.pow_add,show DD+(m-DD)=m by omega];exact Y);have Zq:Dig M b o (n-DD) (m-DD) 0:=fun i hi=>by have:=Z2 (i+DD) om;rw[Nat.zero_div,Nat.zero_mod]at this⊢;rw[show o+(n-DD-1-i)=o+(n-1-(i+DD))by omega];exact this
  have wb:(0:Int)<(nq:Int):=om;have e2:IntKind.i64.wrap ((D:Int)*2^k)=(DD:Int):=(by rw[show(D:Int)*2^k=((D*2^k:Nat):Int)by rw[Int.natCast_mul,Int.natCast_pow];rfl,ba.out,IntKind.wrap_i64];omega);have bc:¬c=n-DD:=om;have ub:k<41:=(by refine(Nat.pow_lt_pow_iff_right (by decide:1<2)).1 ?_;have I:=Nat.le_mul_of_pos_left (2^k) z;rw[ba.out]at I;exact Nat.lt_of_le_of_lt I om);have vb:min k 64=k:=om;have i0:IntKind.i64.wrap (k:Int)=(k:Int):=(by rw[IntKind.wrap_i64];omega);have i4:IntKind.i64.wrap ((n:Int)-(DD:Int))=(n:Int)-(DD:Int):=(by rw[IntKind.wrap_i64];omega);have i5:DD≤n:=om;have i1:(0:Int)≤(n:Int)-(DD:Int):=om;have i2:(n:Int)-(DD:Int)≤(c:Int):=om;have i3:((n:Int)-(DD:Int)).toNat=n-DD:=om;have ja:Hid _:=t;have fb:Hid _:=s;clear t s;go_wp2;refine zac (fun w1=>w1=M) rfl ?_;rintro w1 rfl;refine zaq zbf [⟨29,[],[],[4]⟩,⟨30,[],[],[1]⟩,⟨31,[],[],[1]⟩,⟨32,[2],[2],[]⟩,⟨33,[],[],[4]⟩,⟨34,[4],[4],[]⟩,⟨35,[],[],[3]⟩,⟨36,[6],[6],[]⟩,⟨37,[5,7],[4,5,6,7],[]⟩,⟨38,[3,8],[2,3,4,5,6,7,8],[]⟩,⟨39,[1,9],[1,2,3,4,5,6,7,8,9],[]⟩,⟨40,[],[],[8]⟩,⟨41,[],[],[3]⟩,⟨42,[12],[12],[]⟩] [] kfl 50 rfl kfl (fun (i:Nat) (v:Value) (wq:World)=>match i with|0=>v=.agg #[.int .i64 ((D:Int)),.slice (some ⟨u,G,none⟩) J P]|1=>v=.slice (some ⟨b,o,none⟩) n (c)|2=>v=.slice (some ⟨b,o,none⟩) n (c)|3=>v=.int .i64 ((n:Int))|4=>v=.pointer (some ⟨w.heap.size,0,none⟩)|5=>v=.int .i64 ((D:Int))|6=>v=.int .i64 (((k+1:Nat):Int))|7=>v=.int .i64 ((k:Int))|8=>v=.int .i64 ((DD:Int))|9=>v=.int .i64 ((n:Int)-(DD:Int))|10=>v=.slice (some ⟨b,o,none⟩) (n-DD) (c)|11=>v=.slice qa nq (qc)|12=>v=.int .i64 (((k+1:Nat):Int))|13=>v=.int .i64 ((k:Int))|_=>True) (fun _ wq=>Below w1.heap.size w1 wq) (fun wx wy=>Below wx.heap.size wx wy) (zz).drew (fun i v wx wy h hx=>match i,h with|0,h=>h|1,h=>h|2,h=>h|3,h=>h|4,h=>h|5,h=>h|6,h=>h|7,h=>h|8,h=>h|9,h=>h|10,h=>h|11,h=>h|12,h=>h|13,h=>h|n+14,_=>trivial) ?_ ?_
  ·intro i o r l j L fr wx hW hL mb ib oa ta V;clear hL mb ib oa
   match i,l,j with
   |0,l,j=>?_
   |1,l,j=>?_
   |2,l,j=>?_
   |3,l,j=>?_
   |4,l,j=>?_
   |5,l,j=>?_
   |6,l,j=>?_
   |7,l,j=>?_
   |8,l,j=>?_
   |9,l,j=>?_
   |10,l,j=>?_
   |11,l,j=>?_
   |12,l,j=>?_
   |13,l,j=>?_
   |n+14,l,j=>exact absurd j (by simp)
   all_goals obtain rfl:=oi l;obtain rfl:=oi j;simp only[uxw,uw,evt]at ta V;have yb:=(hW.cell (p:=⟨w.heap.size,0,none⟩) l2).trans k0;have zb:=(hW.cell (p:=⟨w.heap.size,1,none⟩) l2).trans k1;refine zam rfl rfl fun K hK=>?_;go_simp;exact hK _ _ ⟨rfl,hW,zz,nn⟩
  ·intro vs N d f la;clear la;have e0:vs 0=_:=d 0 dd;have e1:vs 1=_:=d 1 dd;have e2:vs 2=_:=d 2 dd;have e3:vs 3=_:=d 3 dd;have e4:vs 4=_:=d 4 dd;have e5:vs 5=_:=d 5 dd;have e6:vs 6=_:=d 6 dd;have e7:vs 7=_:=d 7 dd;have e8:vs 8=_:=d 8 dd;have e9:vs 9=_:=d 9 dd;have fa:vs 10=_:=d 10 dd;have ga:vs 11=_:=d 11 dd;have ha:vs 12=_:=d 12 dd;have ia:vs 13=_:=d 13 dd;simp only[zbx,Nat.reduceAdd,e0,e1,e2,e3,e4,e5,e6,e7,e8,e9,fa,ga,ha,ia,Act.put,ll];clear d e0 e1 e2 e3 e4 e5 e6 e7 e8 e9 fa ga ha ia;have Z:=(f.cell (p:=⟨w.heap.size,0,none⟩) l2).trans k0;have va:=(f.cell (p:=⟨w.heap.size,1,none⟩) l2).trans k1;have ea:Dig N b o (n-DD) (m-DD) 0:=fun i hi=>(f.cell (p:=⟨b,o+(n-DD-1-i),none⟩) F).trans (Zq i hi);have Zn:Dig N b o n m 0:=fun i hi=>(f.cell (p:=⟨b,o+(n-1-i),none⟩) F).trans (Z2 i hi);have Fn:=zb7 F2 f F;have aa:b<N.heap.size:=Nat.lt_of_lt_of_le F f.size;have ln:w.heap.size<N.heap.size:=Nat.lt_of_lt_of_le l2 f.size;have Ln:=L2.below f;have CQ:=ih N (some ⟨u,G,none⟩) J P u G D b o (n-DD) c (m-DD) _ (x / 10^DD) nq (Sl.mk _ _ _) om hK W U Ln z hD om om om om T ea (zc6 Fn om) (Mag.below fb.out f) jb rb aa;have ka:Hid _:=Mag.below ja.out f;have xa:Hid (Below w.heap.size w N):=O.out.trans (f.mono O.out.size);have ca:Hid _:=Zn;have cb:Hid _:=Fn;have db:Hid _:=Ln;clear k0 k1 Zq Z2 F2 L2 ea Zn Fn Ln f ja;go_wp2_with (go_at_call 72;fail);refine CQ.mono ?_;rintro e w3 ⟨rfl,g,ma⟩;clear CQ;have R:∀i,o+(n-DD-(m-DD))≤i→i<o+(n-DD)→∃y,N.cell? ⟨b,i,none⟩=some (.int .u8 y):=fun i I h2=>Dig.bytes ca.out hm i om om;have bx:∀y,N.cell? ⟨w.heap.size,0,none⟩≠some (.int .u8 y):=(by rw[Z];intro y;simp);have fc:=(g.cellAt ln (.inl (by have:=HB.out;omega)):w3.cell? ⟨w.heap.size,0,none⟩=_).trans Z;have gc:=(g.cellAt ln (.inl (by have:=HB.out;omega)):w3.cell? ⟨w.heap.size,1,none⟩=_).trans va;have da:=Mag.chg8 ka.out g R;have L3:=Lad.chg8 db.out g R;have Z3:Dig w3 b o n DD 0:=fun i hi=>(g.cell _ (.inr om)).trans (ca.out i om);have F3:=g.free cb.out (fun _=>aa);have sb:b<w3.heap.size:=Nat.lt_of_lt_of_le aa g.size;have CR:=ih w3 (some ⟨u,G,none⟩) J P u G D b o n c DD vr (x%10^DD) nr (Sl.mk _ _ _) om hK W U L3 z hD pa om hn ra T Z3 F3 da X (Nat.mod_lt _ B) sb;have ya:Hid (Chg w w3 b (o+(n-m)) (o+n)):=ze8 xa.out (g.mono om om) HB.out;have ab:Hid _:=ma;clear R bx da L3 Z3 F3 g ma Z va;go_wp2_with (go_at_call 72;fail);refine CR.mono ?_;rintro e w4 ⟨rfl,S,na⟩;clear CR;have za:Hid (Chg w w4 b (o+(n-m)) (o+n)):=ya.out.trans (S.mono om om);have bb:Hid (Dig w4 b o n m x):=fun i hi=>by
    by_cases I:i<DD
    ·rw[na i I,digit_low I]
    ·have h3:=ab.out (i-DD) om;rw[show o+(n-DD-1-(i-DD))=o+(n-1-i)by omega,digit_high om]at h3;exact(S.cell (o+(n-1-i)) (.inl om)).trans h3
   clear S na;go_wp2;go_end0;exact⟨rfl,za.out,bb.out⟩
theorem write_any (K:Nat):∀k,k≤K→WriteOk K k
 |0,_=>write_zero K
 |k+1,h=>write_step K k (write_any K k om) h
theorem za7:Tryz.prog.underlying 91=some (.slice 5):=by kernel_rfl
theorem size5:(Tryz.prog.info? 5).map (·.size)=some 1:=by kernel_rfl
def Cells (w:World) (b o n:Nat):Prop:=∀i,i<n→(w.cell? ⟨b,o+i,none⟩).isSome=true
theorem zfr {P:Program} {w:World} (k:IntKind) (β:Nat) (u D F:TypeId)
 (d:TypeId) (G:P.underlying u=some (.slice d)) (t:(P.info? d).map (·.size)=some 1)
 (z E:Option Addr) (b y c cs:Nat) (g n o os:Nat)
 (A:Sl z g n b) (C:Sl E o os c) (p:Cells w g n b) (B:Free w g n b) (q:Arr k β w o os c):
 ∃w',(Builtin.copy_ #[u,D] F #[.slice z b y,.slice E c cs]).run P w=.ok (.int .i64 (min c b:Nat)) w'∧Copied k β w w' g n (min c b) o os:=by
 have s:Nat.min c b=min c b:=rfl;by_cases x:min c b=0
 ·have f:=run_copy_none (P:=P) w u D F d z E b y c cs G t x;refine⟨w,by rw[x];exact f,Chg.refl _ _ _ _,by rw[x];intro i hi;omega,by rw[x];intro i hi;omega⟩
 ·obtain rfl:=A om;obtain rfl:=C om;have f:=run_copy_cells (P:=P) w u D F d g n b y ⟨o,os,none⟩ c cs ((List.range (min c b)).map fun i=>Value.int k ((word w o (os+i):Nat):Int)) G t
   (by simp[s]) (zeg q om) (fun j r=>p j (by simp at r;omega)) (fun j r=>B j (by simp at r;omega))
   (fun v H=>by obtain⟨_,_,rfl⟩:=List.mem_map.1 H;rfl)
  simp only[List.length_map,List.length_range]at f;have l:∀i,i<min c b→(w.setCells g n ((List.range (min c b)).map fun i=>Value.int k ((word w o (os+i):Nat):Int))).cell? ⟨g,n+i,none⟩=some (.int k ((word w o (os+i):Nat):Int)):=(by intro i hi;rw[World.cell?_setCells_in g _ n w (fun j r=>p j (by simp at r;omega)) i (by simpa using hi)];simp);have m:∀i,i<min c b→word (w.setCells g n ((List.range (min c b)).map fun i=>Value.int k ((word w o (os+i):Nat):Int))) g (n+i)=word w o (os+i):=fun i hi=>zbv (l i hi);refine⟨_,f,?_,fun i hi=>?_,m⟩
  ·have:=zcn g ((List.range (min c b)).map fun i=>Value.int k ((word w o (os+i):Nat):Int)) n w;simpa using this
  ·rw[m i hi];exact⟨l i hi,zat q om⟩
theorem step_copyRow {P:Program} {w:World} {l:Array Oper} {o:Oper} {a:Act} {K:Act→World→Prop} {Q:Exit→Act→World→Prop} {E:Prop} (k:IntKind) (β:Nat)
 (x:o.guard=none) (d s:Operand) (n D:TypeId) (I:o.op=.call {callee:= .builtin .copy,args:=#[d,s],argTypes:=#[n,D]})
 (b:TypeId) (M:P.underlying n=some (.slice b)) (z:(P.info? b).map (·.size)=some 1)
 (p B:Option Addr) (c C f cs:Nat) (H:a.eval d=.slice p c C) (L:a.eval s=.slice B f cs) (g j m os:Nat)
 (t:Sl p g j c) (y:Sl B m os f) (q:Cells w g j c) (u:Free w g j c) (r:Arr k β w m os f)
 (F:Option Tmp) (A:o.dst=F) (h:∀w',Copied k β w w' g j (min f c) m os→K (a.put F (.int .i64 (min f c:Nat))) w'):
 if Region.wanted o (yielded l a.tmps)=true then Oper.wp P o a w K Q else E:=by
 have N:Region.wanted o (yielded l a.tmps)=true:=(by simp[Region.wanted,x]);rw[if_pos N];obtain⟨w',J,G⟩:=zfr (P:=P) (w:=w) k β n D o.type b M z p B c C f cs g j m os t y q u r;unfold Oper.wp execOp;simp only[I,resolve,invoke,builtin,Sem.run_bind,Sem.run_pure,Result.andThen_ok,List.map_toArray,List.map_cons,List.map_nil,H,L,J];subst A;exact h w' G
theorem made_bytes {w:World} {cs:Array Value} {n:Nat} (b:n≤cs.size):
 Cells (w.alloc (.cells cs 5)) w.heap.size 0 n∧Free (w.alloc (.cells cs 5)) w.heap.size 0 n:=by
 refine⟨fun i hi=>?_,fun i hi=>?_⟩
 ·rw[Nat.zero_add,World.cell?_alloc_at (w:=w) cs 5 w.heap.size i rfl,Array.getElem?_eq_getElem om];rfl
 ·rw[Nat.zero_add];exact World.frozen?_alloc_at (w:=w) cs 5 w.heap.size i rfl
theorem bitsMul_any (x y:Nat) (b:x<B) (c:y<B) (w:World):Calls Tryz.prog 106 #[.int .u64 x,.int .u64 y] w fun e w'=>e=.returned (.tuple #[.int .u64 (hi (x*y):Nat),.int .u64 (lo (x*y):Nat)])∧w'=w:=by have f:=zch (x*y);have g:=hi_lt (Nat.mul_lt_mul'' b c);unfold B at f g;go_enter Tryz.func106,Tryz.ntmps106;go_wp2_with (go_at_call 85;refine(mul64 x y b c _).mono ?_;rintro e w' ⟨rfl,d⟩;subst d);go_ret2;exact⟨rfl,rfl⟩
theorem repeat_any (w:World) (y os cs n:Nat) (hs:Arr .u8 256 w y os 1) (F:word w y os=48) (ka:0<n) (hn:n≤8192):
 Calls Tryz.prog 70 #[.slice (some ⟨y,os,none⟩) 1 cs,.int .i64 n] w fun e w'=>∃f c:Nat,e=.returned (.slice (some ⟨f,0,none⟩) n c)∧n≤c∧c≤9223372036854775807∧w.heap.size≤f∧f<w'.heap.size∧Below w.heap.size w w'∧Free w' f 0 n∧
  (∀i,i<n→w'.cell? ⟨f,i,none⟩=some (.int .u8 48)):=by
 obtain⟨q,p,ea,o⟩:=Lib.run_makeNoZero (P:=Tryz.prog) w #[3] 91 5 za7 n om;have A:(callFunc 107 #[.int .i64 n]).run Tryz.prog w=.ok (.value (.slice (some ⟨w.heap.size,0,none⟩) n q.size)) (w.drew.drew.alloc (.cells q 5)):=(by rw[run_callFunc_extern Tryz.func107 kfl kfl kfl (e:=Extern.BytealgMakeNoZero.makeNoZero #[3] #[91]) kfl,p];rfl);have V:=bitsMul_any 1 n dd (by unfold B;omega) w;have m1:hi (1*n)=0:=(by unfold hi;omega);have m2:lo (1*n)=n:=(by unfold lo;omega);rw[m1,m2]at V;have J:=o (by unfold maxLen;omega);unfold maxLen at J;have ga:¬(n:Int)=0:=om;have ha:¬(n:Int)<0:=om;have ia:¬(8192:Int)<(n:Int):=om;have ja:¬(9223372036854775807:Int)<(n:Int):=om;have hb:y<w.heap.size:=hs.lt om;have HS:Hid _:=hs;have E:Hid _:=F;clear hs F p o m1 m2;go_enter Tryz.func70,Tryz.ntmps70;go_wp2_with (go_at_call 106;refine V.mono ?_;rintro e w' ⟨rfl,hw⟩;subst hw);obtain⟨T,W⟩:=made_bytes (w:=w') (cs:=q) ea;have B2:Below w'.heap.size w' (w'.alloc (Obj.cells q 5)).drew.drew:=(zau w' (Obj.cells q 5)).drew.drew;obtain⟨N,hr,b⟩:=zfr (P:=Tryz.prog) (w:=(w'.alloc (Obj.cells q 5)).drew.drew) .u8 256 91 91 3 5 za7 size5 (some ⟨w'.heap.size,0,none⟩) (some ⟨y,os,none⟩) n n 1 cs w'.heap.size 0 y os
  (Sl.mk _ _ _) (Sl.mk _ _ _) T W (zae HS.out B2)
 rw[hr];have L:min 1 n=1:=om;rw[L]at b⊢;have l:word (w'.alloc (Obj.cells q 5)).drew.drew y os=48:=(by have g:=zbp HS.out B2 (i:=0) om;rw[Nat.add_zero]at g;rw[g];exact E.out);have P3:∀i,i<1→N.cell? ⟨w'.heap.size,i,none⟩=some (.int .u8 48):=fun i hi=>by have g:=(b.arr i hi).1;rw[b.same i hi,show os+i=os by omega,l,Nat.zero_add]at g;exact g
 have U:Cells N w'.heap.size 0 n:=fun i hi=>by
  by_cases g:i<1
  ·rw[(b.arr i g).1];rfl
  ·have e:=b.chg.cell (0+i) om;rw[e];exact T i hi
 have C:w'.heap.size<(w'.alloc (Obj.cells q 5)).drew.drew.heap.size:=(by simp);have X:Free N w'.heap.size 0 n:=b.chg.free W (fun _=>C);have B3:Below w'.heap.size w' N:=B2.trans (b.chg.below (Nat.le_refl _) (by simp));have L3:w'.heap.size<N.heap.size:=Nat.lt_of_lt_of_le C b.chg.size;obtain⟨f,z⟩:∃x,x=w'.heap.size:=⟨_,rfl⟩;have r:Hid (f=w'.heap.size):=z;rw[←z]at P3 U X L3⊢;have Z:Hid _:=B3;clear hr b T W B2 A V z C l HS E B3 J;go_wp2;go_loopw [10] (fun s wr=>∃t:Nat,1≤t∧t≤n∧s=.int .i64 (t:Int)∧(∀i,i<t→wr.cell? ⟨f,i,none⟩=some (.int .u8 48))∧Cells wr f 0 n∧Free wr f 0 n∧f<wr.heap.size∧Below f w' wr)
  (fun s _=>n-(intOf s).toNat)
 case atStart=>exact⟨1,Nat.le_refl _,by omega,rfl,P3,U,X,L3,by have:=Z.out;rw[←r.out]at this;exact this⟩
 case round=>
  obtain⟨t,g,ht,rfl,D,R,G,I,S⟩:=hrel;clear P3 U X L3;by_cases M:t=n
  ·subst M;have HP:Hid _:=D;have HF:Hid _:=G;have HB:Hid _:=S;clear D G R S;go_wp2;go_ret;exact⟨f,_,rfl,Nat.le_refl _,by omega,by have:=r.out;omega,I,by have:=HB.out;rw[←r.out];exact this,HF.out,HP.out⟩
  ·have c1:(t:Int)<(n:Int):=om;have c2:¬n=t:=om;have e1:min (t:Int) (n:Int)=(t:Int):=om;go_wp2;have hA1:Cells wr f t (n-t):=fun i hi=>by have:=R (t+i) om;rwa [Nat.zero_add]at this
   have H:Free wr f t (n-t):=(by have:=G.sub (d:=t) (m:=n-t) om;rwa [Nat.zero_add]at this);have hA2:Arr .u8 256 wr f 0 t:=fun i hi=>by have e:=D i hi;rw[Nat.zero_add,zbv (k:= .u8) (x:=48) e];exact⟨e,by omega⟩
   have c3:¬t=n:=M;have c4:t<n:=om;go_region_held_law (fun _=>True) (trivial)
    ((refine step_copyRow .u8 256 (by rfl) _ _ 91 91 (by rfl) 5 za7 size5 (some ⟨f,t,none⟩) (some ⟨f,0,none⟩) (n-t) (n-t) t n (by rfl) (by rfl) f t f 0 (Sl.mk _ _ _) (Sl.mk _ _ _) hA1 H hA2 (some 74) (by rfl) ?_;intro O b))
   clear hA1 H hA2 c3 c4;obtain⟨u,hu⟩:∃u,u=min t (n-t):=⟨_,rfl⟩;rw[←hu]at b⊢;have la:1≤u:=om;have fa:t+u≤n:=om;have HU:Hid _:=hu;have da:Hid (∀i,i<t+u→O.cell? ⟨f,i,none⟩=some (.int .u8 48)):=fun i hi=>by
    by_cases h2:i<t
    ·rw[b.chg.cell i om];exact D i h2
    ·obtain⟨j,rfl⟩:=Nat.exists_eq_add_of_le (show t≤i by omega);have h3:=(b.arr j om).1;have h4:=D j om;have h5:word wr.drew f (0+j)=48:=(by rw[Nat.zero_add];exact zbv (k:= .u8) (x:=48) h4);rw[b.same j om,h5]at h3;exact h3
   have Y:Hid (Cells O f 0 n):=fun i hi=>by
    by_cases h2:i<t∨t+u≤i
    ·have e:=b.chg.cell (0+i) om;rw[e];exact R i hi
    ·obtain⟨j,rfl⟩:=Nat.exists_eq_add_of_le (show t≤i by omega);rw[Nat.zero_add,(b.arr j om).1];rfl
   have ba:Hid (Free O f 0 n):=b.chg.free G (fun _=>I);have ca:Hid (f<O.heap.size):=Nat.lt_of_lt_of_le I b.chg.size;have aa:Hid (Below f w' O):=S.drew.trans (b.chg.below (Nat.le_refl _) (Nat.le_of_lt I));clear b D R G I S hu;have i1:IntKind.i64.wrap ((t:Int)+(u:Int))=(t:Int)+(u:Int):=(by rw[IntKind.wrap_i64];omega);go_wp2;go_roundw
   case rel=>exact⟨t+u,by omega,fa,by go_num,da.out,Y.out,ba.out,ca.out,aa.out⟩
   case measure=>simp[intOf];omega
theorem i64_and_one (n:Int):bits .and .i64 n 1=n%2:=by have c:(BitVec.ofInt 64 1).toNat=2^1-1:=dd;have b:(BitVec.ofInt 64 n &&& BitVec.ofInt 64 1).toNat=(n%((2^64:Nat):Int)).toNat%2^1:=(by rw[BitVec.toNat_and,BitVec.toNat_ofInt,c,Nat.and_two_pow_sub_one_eq_mod]);show IntKind.i64.wrap ((BitVec.ofInt 64 n &&& BitVec.ofInt 64 1).toNat:Nat)=n%2;rw[b,IntKind.wrap_i64];omega
theorem pow_bound {a:Int} {L m:Nat} (h:a.natAbs<B^L):(a^m).natAbs<B^(L*m+1):=by
 induction m with
 |zero=>simp;decide
 |succ k ih=>rw[Int.pow_succ,Int.natAbs_mul,Nat.mul_succ,Nat.add_right_comm,Nat.pow_add];exact Nat.mul_lt_mul'' ih h
structure PowW (w wr:World) (bp:Nat) (s:Int) (ao:Option Addr) (n c:Nat):Prop where
 below:Below w.heap.size w wr
 hp:w.heap.size+1<bp
 lt:bp<wr.heap.size
 k0:wr.cell? ⟨w.heap.size,0,none⟩=some (.int .i64 s)
 k1:wr.cell? ⟨w.heap.size,1,none⟩=some (.slice ao n c)
 r0:wr.cell? ⟨w.heap.size+1,0,none⟩=some (.int .i64 0)
 r1:wr.cell? ⟨w.heap.size+1,1,none⟩=some (.slice none 0 0)
 f0:wr.frozen? ⟨w.heap.size+1,0,none⟩=false
 f1:wr.frozen? ⟨w.heap.size+1,1,none⟩=false
 g0:wr.frozen? ⟨bp,0,none⟩=false
 g1:wr.frozen? ⟨bp,1,none⟩=false
theorem PowW.step {w wr k:World} {b:Nat} {s:Int} {m:Option Addr} {n c:Nat} (h:PowW w wr b s m n c) (g:Below wr.heap.size wr k) (u1 u2:Value):
 PowW w ((k.setCell ⟨b,0,none⟩ u1).setCell ⟨b,1,none⟩ u2) b s m n c:=by
 have q:w.heap.size<wr.heap.size:=(by have:=h.lt;have:=h.hp;omega);have j:w.heap.size+1<wr.heap.size:=(by have:=h.lt;have:=h.hp;omega);have r:=h.hp;have d:=h.lt;have t:=g.size;have e:∀c i,c<wr.heap.size→c≠b→((k.setCell ⟨b,0,none⟩ u1).setCell ⟨b,1,none⟩ u2).cell? ⟨c,i,none⟩=wr.cell? ⟨c,i,none⟩:=fun c i l o=>by rw[zaa (.inl o),zaa (.inl o)];exact g.cell (p:=⟨c,i,none⟩) l
 have f:∀c i,c<wr.heap.size→((k.setCell ⟨b,0,none⟩ u1).setCell ⟨b,1,none⟩ u2).frozen? ⟨c,i,none⟩=wr.frozen? ⟨c,i,none⟩:=fun c i l=>by rw[World.frozen?_setCell,World.frozen?_setCell];exact g.frozen (p:=⟨c,i,none⟩) l
 refine⟨?_,r,by simp;omega,?_,?_,?_,?_,?_,?_,?_,?_⟩
 ·exact((h.below.trans (g.mono h.below.size)).setCell (by show w.heap.size≤b;omega) _).setCell (by show w.heap.size≤b;omega) _
 ·rw[e _ _ q om];exact h.k0
 ·rw[e _ _ q om];exact h.k1
 ·rw[e _ _ j om];exact h.r0
 ·rw[e _ _ j om];exact h.r1
 ·rw[f _ _ j];exact h.f0
 ·rw[f _ _ j];exact h.f1
 ·rw[f _ _ d];exact h.g0
 ·rw[f _ _ d];exact h.g1
theorem power_any (w:World) (va:Value) (a:Int) (L n:Nat) (ha:IsInt w va a) (hb:a.natAbs<B^L) (hn:n≤1048576) (hL:L*n≤274877906944) (bb:L≤274877906944):
 Calls Tryz.prog 88 #[va,.int .i64 n] w fun e w'=>∃v,e=.returned v∧Below w.heap.size w w'∧IsInt w' v (a^n):=by
 obtain⟨s,ao,k,c,rfl⟩:=ha.form;have hA:∀w1,Below w.heap.size w w1→IsInt w1 (.agg #[.int .i64 s,.slice ao k c]) a:=fun w1 h=>ha.below h;clear ha;have HB:Hid _:=hb;have e0:((n:Int))%18446744073709551616=(n:Int):=om;go_enter Tryz.func88,Tryz.ntmps88;go_wp2_with (go_at_call 16;fail);refine(zfm _ 1 om om).mono ?_;rintro e g ⟨v2,rfl,d,ba⟩;obtain⟨R,M,P,N,rfl⟩:=ba.form;go_wp2_with (go_at_call 117;fail);have b2:=bel2 w (Obj.cells #[Value.int IntKind.i64 s,Value.slice ao k c] 24) (Obj.cells #[Value.int IntKind.i64 0,Value.slice none 0 0] 24);have J:((w.alloc (Obj.cells #[Value.int IntKind.i64 s,Value.slice ao k c] 24)).alloc (Obj.cells #[Value.int IntKind.i64 0,Value.slice none 0 0] 24)).heap.size=w.heap.size+1+1:=(by simp);have P0:PowW w (g.alloc (Obj.cells #[Value.int IntKind.i64 R,Value.slice M P N] 24)) g.heap.size s ao k c:=by
  have xa:=d.size;rw[J]at xa;have c0:=(d.cell (p:=⟨w.heap.size,0,none⟩) (by rw[J];show w.heap.size<_;omega)).trans (by simp[go_sem]:_=some (.int .i64 s));have c1:=(d.cell (p:=⟨w.heap.size,1,none⟩) (by rw[J];show w.heap.size<_;omega)).trans (by simp[go_sem]:_=some (.slice ao k c));have d0:=(d.cell (p:=⟨w.heap.size+1,0,none⟩) (by rw[J];show w.heap.size+1<_;omega)).trans (by simp[go_sem]:_=some (.int .i64 0));have d1:=(d.cell (p:=⟨w.heap.size+1,1,none⟩) (by rw[J];show w.heap.size+1<_;omega)).trans (by simp[go_sem]:_=some (.slice none 0 0));have f0:=(d.frozen (p:=⟨w.heap.size+1,0,none⟩) (by rw[J];show w.heap.size+1<_;omega)).trans (by simp[go_sem]:_=false);have f1:=(d.frozen (p:=⟨w.heap.size+1,1,none⟩) (by rw[J];show w.heap.size+1<_;omega)).trans (by simp[go_sem]:_=false);have B2:=(b2.trans (d.mono (by rw[J];omega)));have q:=zau g (Obj.cells #[Value.int IntKind.i64 R,Value.slice M P N] 24);exact⟨B2.trans (q.mono B2.size),by omega,by simp,(q.cell (p:=⟨w.heap.size,0,none⟩) (by show w.heap.size<_;omega)).trans c0,(q.cell (p:=⟨w.heap.size,1,none⟩) (by show w.heap.size<_;omega)).trans c1,
   (q.cell (p:=⟨w.heap.size+1,0,none⟩) (by show w.heap.size+1<_;omega)).trans d0,(q.cell (p:=⟨w.heap.size+1,1,none⟩) (by show w.heap.size+1<_;omega)).trans d1,
   (q.frozen (p:=⟨w.heap.size+1,0,none⟩) (by show w.heap.size+1<_;omega)).trans f0,(q.frozen (p:=⟨w.heap.size+1,1,none⟩) (by show w.heap.size+1<_;omega)).trans f1,
   World.frozen?_alloc_at (w:=g) _ _ g.heap.size 0 rfl,World.frozen?_alloc_at (w:=g) _ _ g.heap.size 1 rfl⟩
 have T:(g.alloc (Obj.cells #[Value.int IntKind.i64 R,Value.slice M P N] 24)).cell? ⟨g.heap.size,0,none⟩=some (.int .i64 R):=(by rw[World.cell?_alloc_at (w:=g) _ _ g.heap.size 0 rfl];rfl);have U:(g.alloc (Obj.cells #[Value.int IntKind.i64 R,Value.slice M P N] 24)).cell? ⟨g.heap.size,1,none⟩=some (.slice M P N):=(by rw[World.cell?_alloc_at (w:=g) _ _ g.heap.size 1 rfl];rfl);have I0:=ba.below (zau g (Obj.cells #[Value.int IntKind.i64 R,Value.slice M P N] 24));obtain⟨w3,ea⟩:∃x,x=g.alloc (Obj.cells #[Value.int IntKind.i64 R,Value.slice M P N] 24):=⟨_,rfl⟩;obtain⟨b,aa⟩:∃x,x=g.heap.size:=⟨_,rfl⟩;rw[←ea,←aa]at P0 T U;rw[←ea]at I0⊢;rw[←aa];clear ea aa d ba J b2;refine(len_any n (by unfold B;omega) _).mono ?_;rintro e w4 ⟨Lb,rfl,ya,O,ab⟩;subst ya;have la:n / 2^Lb=0:=by
  rcases O with⟨h1,h2⟩|⟨h1,h2,h3⟩
  ·rw[h1,Nat.zero_div]
  ·exact Nat.div_eq_of_lt h3
 clear O;go_wp2;go_loopw [6] (fun i wr=>∃j:Nat,j≤Lb∧i=.int .i64 ((j:Int)-1)∧PowW w wr b s ao k c∧∃s' W n' X,wr.cell? ⟨b,0,none⟩=some (.int .i64 s')∧wr.cell? ⟨b,1,none⟩=some (.slice W n' X)∧IsInt wr (.agg #[.int .i64 s',.slice W n' X]) (a^(n / 2^j)))
  (fun i _=>(intOf i+1).toNat)
 case atStart=>exact⟨Lb,Nat.le_refl _,by go_num,P0,R,M,P,N,T,U,by rw[la,Int.pow_zero];exact I0⟩
 case round=>
  obtain⟨j,hj,rfl,Z,s',W,n',X,g0,g1,Y⟩:=hrel;clear P0 T U I0 la;obtain⟨l,eb,G,k0,k1,r0,r1,f0,f1,ta,ua⟩:=id Z;by_cases h0:j=0
  ·subst h0;rw[Nat.pow_zero,Nat.div_one]at Y;have HE:Hid _:=((l.setCell (p:=⟨w.heap.size+1,0,none⟩) (by simp) (.int .i64 s')).setCell (p:=⟨w.heap.size+1,1,none⟩) (by simp) (.slice W n' X));have HI:Hid _:=Y.stored (u1:= .int .i64 s') (u2:= .slice W n' X) r0 r1 (by intro q;simp);clear Y Z hA l;go_wp2;refine bodyPost_ret (v:= .agg #[.int .i64 s',.slice W n' X]) rt rfl ?_;exact⟨_,rfl,HE.out,HI.out⟩
  ·obtain⟨i,rfl⟩:∃i,j=i+1:=⟨j-1,by omega⟩;have he:((i+1:Nat):Int)-1=(i:Int):=om;rw[he];have hq:n / 2^i=n / 2^(i+1)+n / 2^(i+1)+n / 2^i%2:=(by rw[Nat.pow_succ,←Nat.div_div_eq_div_mul];omega);have wa:n / 2^i≤n:=Nat.div_le_self _ _;obtain⟨q,da⟩:∃q,n / 2^(i+1)=q:=⟨_,rfl⟩;obtain⟨t,C⟩:∃t,n / 2^i=t:=⟨_,rfl⟩;rw[da,C]at hq;rw[C]at wa;rw[da]at Y;have z:=pow_bound (m:=q) HB.out;have cb:L*q≤274877906944:=Nat.le_trans (Nat.mul_le_mul_left L om) hL;have V:=mul_any wr _ _ _ _ (L*q+1) (L*q+1) Y Y z z om;rw[←Int.pow_add]at V;have fb:(n:Int) / 2^i=(t:Int):=(by rw[zbn,C]);have o:bits .and .i64 (t:Int) 1=((t%2:Nat):Int):=(by rw[i64_and_one];omega);have db:L*(q+q)≤274877906944:=Nat.le_trans (Nat.mul_le_mul_left L om) hL;have za:Hid _:=l;have ia:Hid (n / 2^i=t):=C;clear he z da C l Y k0 k1 r0 r1 f0 f1;go_wp2_with (go_at_call 26;fail);refine V.mono ?_;rintro e w5 ⟨v5,rfl,f,H⟩;clear V;obtain⟨S,E,I,F,rfl⟩:=H.form;have P5:=Z.step f (.int .i64 S) (.slice E I F);have q0:=(f.cell (p:=⟨b,0,none⟩) G).trans g0;have q1:=(f.cell (p:=⟨b,1,none⟩) G).trans g1;have p0:=(f.frozen (p:=⟨b,0,none⟩) G).trans ta;have p1:=(f.frozen (p:=⟨b,1,none⟩) G).trans ua;have I5:=H.stored (u1:= .int .i64 S) (u2:= .slice E I F) q0 q1 (by intro q;simp);have T:((w5.setCell ⟨b,0,none⟩ (.int .i64 S)).setCell ⟨b,1,none⟩ (.slice E I F)).cell? ⟨b,0,none⟩=some (.int .i64 S):=(by rw[zaa (.inr om),zar q0]);have U:((w5.setCell ⟨b,0,none⟩ (.int .i64 S)).setCell ⟨b,1,none⟩ (.slice E I F)).cell? ⟨b,1,none⟩=some (.slice E I F):=(by rw[zar (u:= .slice W n' X) (by rw[zaa (.inr om)];exact q1)]);have y:Hid _:=P5;have oa:Hid _:=I5;have fa:Hid _:=T;have ga:Hid _:=U;by_cases A:t%2=1
   ·have z:bits .and .i64 (t:Int) 1=1:=(by rw[o,A];rfl);have ht:t=q+q+1:=om;have HT:Hid _:=ht;have ka:b<((w5.setCell ⟨b,0,none⟩ (.int .i64 S)).setCell ⟨b,1,none⟩ (.slice E I F)).heap.size:=y.out.lt;have ja:=pow_bound (m:=q+q) HB.out;have V:=mul_any ((w5.setCell ⟨b,0,none⟩ (.int .i64 S)).setCell ⟨b,1,none⟩ (.slice E I F)) _ _ _ _ (L*(q+q)+1) L I5 (hA _ P5.below) ja HB.out om;rw[←Int.pow_succ,show(q+q).succ=t from ht.symm]at V;have ra:=(f.cell (p:=⟨w.heap.size,0,none⟩) (by show w.heap.size<_;omega)).trans Z.k0;have sa:=(f.cell (p:=⟨w.heap.size,1,none⟩) (by show w.heap.size<_;omega)).trans Z.k1;have D:Hid _:=ka;clear P5 I5 T U o H Z g0 g1 f hq ht ja A ka;go_wp2_with (go_at_call 26;fail);refine V.mono ?_;rintro e w6 ⟨v6,rfl,r,ca⟩;clear V q0 q1 p0 p1 ra sa;obtain⟨s6,a6,n6,c6,rfl⟩:=ca.form;have P6:=y.out.step r (.int .i64 s6) (.slice a6 n6 c6);have q0:=(r.cell (p:=⟨b,0,none⟩) D.out).trans fa.out;have q1:=(r.cell (p:=⟨b,1,none⟩) D.out).trans ga.out;have p0:=(r.frozen (p:=⟨b,0,none⟩) D.out).trans y.out.g0;have p1:=(r.frozen (p:=⟨b,1,none⟩) D.out).trans y.out.g1;have I6:=ca.stored (u1:= .int .i64 s6) (u2:= .slice a6 n6 c6) q0 q1 (by intro q;simp);have qa:Hid _:=P6;have pa:Hid _:=I6;have ma:Hid (((w6.setCell ⟨b,0,none⟩ (.int .i64 s6)).setCell ⟨b,1,none⟩ (.slice a6 n6 c6)).cell? ⟨b,0,none⟩=some (.int .i64 s6)):=(by show _=_;rw[zaa (.inr om),zar q0]);have na:Hid (((w6.setCell ⟨b,0,none⟩ (.int .i64 s6)).setCell ⟨b,1,none⟩ (.slice a6 n6 c6)).cell? ⟨b,1,none⟩=some (.slice a6 n6 c6)):=(by show _=_;rw[zar (u:= .slice E I F) (by rw[zaa (.inr om)];exact q1)]);clear P6 I6 ca r;go_wp2;go_roundw
    case rel=>exact⟨i,by omega,by go_num,qa.out,s6,a6,n6,c6,ma.out,na.out,by rw[ia.out];exact pa.out⟩
    case measure=>simp[intOf]
   ·have z:bits .and .i64 (t:Int) 1=0:=(by rw[o,show t%2=0 by omega];rfl);have ht:t=q+q:=om;have HT:Hid _:=ht;clear P5 I5 T U o H Z g0 g1 f A hq ht;go_wp2;go_roundw
    case rel=>exact⟨i,by omega,by go_num,y.out,S,E,I,F,fa.out,ga.out,by rw[ia.out,HT.out];exact oa.out⟩
    case measure=>simp[intOf]
end Go.Proofs.YtjlkplidpdhgbaaGreatDoor
