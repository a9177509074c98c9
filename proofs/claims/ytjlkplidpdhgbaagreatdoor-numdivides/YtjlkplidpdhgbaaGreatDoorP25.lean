/- A part of the proof: S1, S2, Pm14, G14. -/
import Derived.Test.YtjlkplidpdhgbaaGreatDoorP00
import Derived.Test.YtjlkplidpdhgbaaGreatDoorP24
import Derived.Test.YtjlkplidpdhgbaaGreatDoorP23
set_option linter.all false
set_option maxRecDepth 10000
set_option maxHeartbeats 4000000
namespace Go.Rad
open Go Go.RowKit
theorem lv_set {β:Nat}:∀ {xs:List Nat} {k v:Nat} (h:k<xs.length),lv β (xs.set k v)+β^k*xs[k]=lv β xs+β^k*v
 |x::r,0,v,_=>by simp[lv];omega
 |x::r,k+1,v,h=>by have b:=lv_set (β:=β) (xs:=r) (k:=k) (v:=v) (by simpa using h);simp only[List.set_cons_succ,lv,List.getElem_cons_succ,Nat.pow_succ];rw[Nat.mul_comm (β^k) β,Nat.mul_assoc,Nat.mul_assoc,Nat.add_assoc,←Nat.mul_add,b,Nat.mul_add,Nat.add_assoc]
theorem zer (β:Nat):∀n,lv β (List.replicate n 0)=0
 |0=>rfl
 |n+1=>by simp[List.replicate_succ,lv,zer β n]
theorem zey {P:Program} {w:World} {j:Array Oper} {rest:List Oper} {o:Oper} {a:Act} {Q:Exit→Act→World→Prop} (k:IntKind) (e:TypeId)
 (F:o.guard=none) (l c:Operand) (t:TypeId) (r:o.op=Op.makeSlice t l c) (I:P.underlying t=some (.slice e)) (bytes:Nat)
 (hi:(P.info? e).map (fun i=>(i.zero,i.size,i.bytes))=some (some (.int k 0),1,bytes)) (B:bytes≤8) (u s:IntKind) (L C:Int) (n:Nat) (H:a.eval l=.int u L) (E:a.eval c=.int s C) (A:L=(n:Int)) (y:C=(n:Int)) (N:n≤1099511627776) (base:Nat) (b:base≤w.heap.size)
 (z:∀w',RowN k e w' base (.slice (some ⟨w.heap.size,0,none⟩) n n) (List.replicate n 0)→Below w.heap.size w w'→wpList P j Q rest (a.put o.dst (.slice (some ⟨w.heap.size,0,none⟩) n n)) w'):
 wpList P j Q (o::rest) a w:=by
 obtain⟨i,q,d⟩:=Option.map_eq_some_iff.1 hi;simp only[Prod.mk.injEq]at d;obtain⟨J,M,O⟩:=d;subst y A;refine wpList_plain F fun K m=>?_;have D:i.bytes*n≤8*n:=Nat.mul_le_mul_right _ om;obtain⟨w',g,f,p⟩:=run_make_full (P:=P) w base t e i (.int k 0) 1 I q J M u s n om (by unfold maxLen;omega) b;unfold Oper.wp;simp[execOp,r,H,E,g,Result.andThen];refine m _ _ (z _ ?_ ((zz).grown p (Nat.le_refl _) (fun k G=>by cases G)));unfold RowN;rw[List.length_replicate,List.map_replicate];have x:(madeCells (Value.int k 0).cells (n*1)).toList=List.replicate n (Value.int k ((0:Nat):Int)):=(by rw[Nat.mul_one];exact toList_madeCells_one _ _);rw[←x];exact f
end Go.Rad
namespace Go.Proofs.YtjlkplidpdhgbaaGreatDoor
open Go Go.Proofs Go.RowKit Go.Rad
theorem mul_place {L g p z d c f b R j:Nat} (o:g+p*z=L+p*d) (q:L+p*c=R) (r:j=R+p*b) (n:d=(c+z+b)%10000) (m:f=(c+z+b) / 10000):g+p*10000*f=j:=by have k:=Nat.mod_add_div (c+z+b) 10000;have l:p*d+p*10000*f=p*(c+z+b):=(by rw[Nat.mul_assoc,←Nat.mul_add,n,m,k]);rw[Nat.mul_add,Nat.mul_add]at l;omega
structure MW (w wr:World) (sx:Bool) (a:Option Addr) (n ca:Nat) (sy:Bool) (b:Option Addr) (m cb:Nat) (v:Value) (zs:List Nat):Prop where
 x2:Box2 wr w.heap.size (.bool sx) (.slice a n ca)
 x3:Box2 wr (w.heap.size+1) (.bool sy) (.slice b m cb)
 rz:Rez w wr (w.heap.size+2)
 row:RowN .i64 3 wr (w.heap.size+3) v zs
 lt:∀z∈zs,z<10000
 len:zs.length=n+m+1
theorem MW.step {w wr w':World} {o:Bool} {a:Option Addr} {n k:Nat} {p:Bool} {b:Option Addr} {m l:Nat} {v:Value} {q c:List Nat} (h:MW w wr o a n k p b m l v q)
 (g:Below (w.heap.size+3) wr w') (f:RowN .i64 3 w' (w.heap.size+3) v c) (j:∀z∈c,z<10000) (d:c.length=n+m+1):MW w w' o a n k p b m l v c:=
 ⟨h.x2.step g om,h.x3.step g om,h.rz.step g om,f,j,d⟩
theorem ze1 (w:World) (vx vy:Value) (x y:Int) (LX:Nat) (hx:IsZ w vx x) (hy:IsZ w vy y) (db:x.natAbs<10000^LX) (eb:y.natAbs<10000^LX) (hL:LX≤268435456):
 Calls Tryz.prog 27 #[vx,vy] w fun e w'=>∃v,e=.returned v∧Below w.heap.size w w'∧IsZ w' v (x*y):=by
 obtain⟨Z,a,n,ca,rfl⟩:=hx.form;obtain⟨sy,b,m,cb,rfl⟩:=hy.form;obtain⟨tb,ib⟩:=hx.dg;obtain⟨ub,jb⟩:=hy.dg;have zc:n≤268435456:=Nat.le_trans (ib.len_le db) hL;have yc:m≤268435456:=Nat.le_trans (jb.len_le eb) hL;obtain⟨ao,F,G,c1,he,ec,rc,lc,xa,pb,-⟩:=ib;simp only[Value.slice.injEq]at he;obtain⟨rfl,-,rfl⟩:=he;obtain⟨bo,bb,ob,c2,he,fc,sc,mc,ya,qb,-⟩:=jb;simp only[Value.slice.injEq]at he;obtain⟨rfl,-,rfl⟩:=he;have ia:sgn (Z !=sy) (x.natAbs*y.natAbs)=x*y:=by
  rw[tb,ub,←Int.natAbs_mul];unfold sgn;by_cases h1:x<0
  ·by_cases h2:y<0
   ·have:=Int.mul_pos_of_neg_of_neg h1 h2;simp[h1,h2];omega
   ·have:=Int.mul_nonpos_of_nonpos_of_nonneg (Int.le_of_lt h1) (show 0≤y by omega);simp[h1,h2];omega
  ·by_cases h2:y<0
   ·have:=Int.mul_nonpos_of_nonneg_of_nonpos (show 0≤x by omega) (Int.le_of_lt h2);simp[h1,h2];omega
   ·have:=Int.mul_nonneg (show 0≤x by omega) (show 0≤y by omega);simp[h1,h2];omega
 have wa:Hid _:=ia;have ja:Hid (Arr .i64 10000 w F G n):=xa;have ka:Hid (Arr .i64 10000 w bb ob m):=ya;have yb:Hid (num 10000 w F G n=x.natAbs):=pb;have zb:Hid (num 10000 w bb ob m=y.natAbs):=qb;have hN:((n:Int)+(m:Int)+1)=((n+m+1:Nat):Int):=om;obtain⟨N,sa⟩:∃N,N=n+m+1:=⟨_,rfl⟩;rw[←sa]at hN;have la:Hid _:=sa;have bc:N≤1099511627776:=om;have HF:Hid (Box2 (((w.alloc (Obj.cells #[Value.bool Z,Value.slice a n ca] 31)).alloc (Obj.cells #[Value.bool sy,Value.slice b m cb] 31)).alloc (Obj.cells #[Value.bool false,Value.slice none 0 0] 31)) w.heap.size (.bool Z) (.slice a n ca)∧
  Box2 (((w.alloc (Obj.cells #[Value.bool Z,Value.slice a n ca] 31)).alloc (Obj.cells #[Value.bool sy,Value.slice b m cb] 31)).alloc (Obj.cells #[Value.bool false,Value.slice none 0 0] 31)) (w.heap.size+1) (.bool sy) (.slice b m cb)∧
  Rez w (((w.alloc (Obj.cells #[Value.bool Z,Value.slice a n ca] 31)).alloc (Obj.cells #[Value.bool sy,Value.slice b m cb] 31)).alloc (Obj.cells #[Value.bool false,Value.slice none 0 0] 31)) (w.heap.size+2)):=
  ⟨⟨by simp;omega,qq,qq⟩,⟨by simp,qq,qq⟩,⟨zcr _ _ _ _,by omega,by simp,qq,qq,qq,qq⟩⟩
 clear hx hy db eb tb ub xa ya pb qb ia sa;go_enter Tryz.func27,Tryz.ntmps27;go_wp2_with (at_make;refine zey .i64 3 rfl _ _ 29 rfl Tryz.underlying29 8 zdq dd .i64 .i64 _ _ N rfl rfl rfl rfl bc (w.heap.size+3) (by simp) ?_;intro w3 T za);have da:Below (w.heap.size+3) _ w3:=za.mono (by simp);obtain⟨g,hg⟩:∃g,w.heap.size+1+1+1=g:=⟨_,rfl⟩;have pa:MW w w3 Z a n ca sy b m cb (.slice (some ⟨g,0,none⟩) N N) (List.replicate N 0):=(by refine⟨HF.out.1.step da om,HF.out.2.1.step da om,HF.out.2.2.step da om,?_,fun z M=>by rw[(List.mem_replicate.1 M).2];decide,by rw[List.length_replicate];exact la.out⟩;rw[←hg];simpa using T);have fa:Hid _:=pa;obtain⟨⟨l2,U,V⟩,⟨l3,W,X⟩,-,-,-,-⟩:=id pa;clear HF T za da pa;have tc:w.heap.size+3≤g:=om;rw[hg];clear hg;go_loopw [6] (fun s6 wr=>∃(i:Nat) (u:List Nat),i≤n∧s6=.int .i64 (i:Int)∧MW w wr Z a n ca sy b m cb (.slice (some ⟨g,0,none⟩) N N) u∧lv 10000 u=num 10000 w F G i*y.natAbs∧(∀k,i+m≤k→∀(hk:k<u.length),u[k]=0))
  (fun s6 _=>n-(intOf s6).toNat)
 case atStart=>exact⟨0,_,by omega,rfl,fa.out,by rw[zer,zao,Nat.zero_mul],fun k _ hk=>by rw[List.getElem_replicate]⟩
 case round=>
  obtain⟨i,jc,vc,rfl,qa,ha,ea⟩:=hrel;clear fa U V W X l2 l3;obtain⟨⟨l2,U,V⟩,⟨l3,W,X⟩,-,-,-,-⟩:=id qa;have J:Hid _:=qa;have aa:Hid _:=ha;have na:Hid _:=ea;clear qa ha ea;by_cases hi:i=n
  ·subst hi;have c1:¬(i:Int)<(i:Int):=om;have CZ:=ze2 wr (Z !=sy) _ _ (row_pl J.out.row J.out.lt rfl);rw[aa.out,yb.out,wa.out]at CZ;have ma:Hid _:=J.out.rz;clear J aa na;go_wp2_with (go_at_call 73;fail);refine CZ.mono ?_;rintro e w4 ⟨v4,rfl,ab,hI⟩;have R5:Rez w w4 (w.heap.size+1+1):=ma.out.step ab ma.out.lt;clear CZ ma U V W X l2 l3;obtain⟨s5,a5,n5,c5,rfl⟩:=hI.form;obtain⟨HE,HI⟩:=R5.done hI;have vb:Hid _:=HE;have wb:Hid _:=HI;obtain⟨-,-,lt,k0,k1,f0,f1⟩:=R5;clear HE HI hI ab;go_wp2;refine bodyPost_ret (v:= .agg #[.bool s5,.slice a5 n5 c5]) rt rfl ?_;exact⟨_,rfl,vb.out,wb.out⟩
  ·have c1:(i:Int)<(n:Int):=om;go_wp2;go_loopw [7,8] (fun s7 s8 wr=>∃(c j:Nat) (u:List Nat),s7=.int .i64 (c:Int)∧s8=.int .i64 (j:Int)∧c≤9999∧(j≤m∨j=m+1∧c=0)∧MW w wr Z a n ca sy b m cb (.slice (some ⟨g,0,none⟩) N N) u∧
    lv 10000 u+10000^(i+j)*c=num 10000 w F G i*y.natAbs+10000^i*word w F (G+i)*num 10000 w bb ob (min j m)∧(∀k,i+max j m≤k→∀(hk:k<u.length),u[k]=0))
    (fun _ s8 _=>m+1-(intOf s8).toNat)
   case atStart=>exact⟨0,0,jc,rfl,rfl,by omega,by omega,J.out,by rw[aa.out];simp[zao],fun k hk=>na.out k om⟩
   case round=>
    obtain⟨c,j,u,rfl,rfl,qc,xc,s,D,l⟩:=hrel;clear J na aa U V W X l2 l3;obtain⟨⟨l2,U,V⟩,⟨l3,W,X⟩,-,-,-,-⟩:=id s;by_cases hj:j<m
    ·obtain⟨t,Y⟩:∃t:Nat,t=i+j:=⟨_,rfl⟩;have eT:(i:Int)+(j:Int)=(t:Int):=om;have B:t<u.length:=(by rw[s.len];omega);have gc:t<N:=(by have:=s.len;have:=la.out;omega);have hc:(t:Int)<(N:Int):=om;obtain⟨z,M⟩:∃z,u[t]=z:=⟨_,rfl⟩;have ic:z<10000:=(by rw[←M];exact s.lt _ (List.getElem_mem B));have C:=s.row.cell B;rw[M]at C;have kb:=s.row.free t;have ra:∀k,MW w (wr.drewN k) Z a n ca sy b m cb (.slice (some ⟨g,0,none⟩) N N) u:=fun k=>s.step (za8 _ _ _) (s.row.below (za8 _ _ _)) s.lt s.len;obtain rfl:=ec om;obtain rfl:=fc om;have mb:=zat ja.out (i:=i) om;have nb:=zat ka.out (i:=j) om;have gb:=(s.rz.below.cell (p:=⟨F,G+i,none⟩) (ja.out.lt om)).trans (zag ja.out (i:=i) om);have hb:=(s.rz.below.cell (p:=⟨bb,ob+j,none⟩) (ka.out.lt om)).trans (zag ka.out (i:=j) om);obtain⟨p,hp⟩:∃p,word w F (G+i)=p:=⟨_,rfl⟩;obtain⟨q,hq⟩:∃q,word w bb (ob+j)=q:=⟨_,rfl⟩;rw[hp]at mb gb;rw[hq]at nb hb;have rb:p*q≤9999*9999:=Nat.mul_le_mul om om;have sb:(p:Int)*(q:Int)=((p*q:Nat):Int):=(by rw[Int.natCast_mul]);obtain⟨r,hr⟩:∃r,p*q=r:=⟨_,rfl⟩;rw[hr]at rb sb;have hR:num 10000 w F G i*y.natAbs+10000^i*word w F (G+i)*num 10000 w bb ob (min (j+1) m)=num 10000 w F G i*y.natAbs+10000^i*word w F (G+i)*num 10000 w bb ob (min j m)+10000^t*r:=(by rw[zbl hj,Nat.mul_add,←Nat.add_assoc,hq,hp,Y,Nat.pow_add,←hr];congr 1;rw[Nat.mul_assoc,Nat.mul_assoc];congr 1;rw[Nat.mul_left_comm]);have uc:(i:Int)<(n:Int):=om;have lb:(j:Int)<(m:Int):=om;have nc:i<ca:=om;have oc:j<cb:=om;obtain⟨d,hd⟩:∃d,d=(c+z+r)%10000:=⟨_,rfl⟩;obtain⟨L,R⟩:∃L,L=(c+z+r) / 10000:=⟨_,rfl⟩;have ua:d<10000:=om;have ta:L≤9999:=om;have eD:((c:Int)+(z:Int)+(r:Int))%10000=(d:Int):=om;have eC:((c:Int)+(z:Int)+(r:Int)) / 10000=(L:Int):=om;have A:=lv_set (β:=10000) (v:=d) B;rw[M]at A;rw[←Y]at D;have f:=mul_place A D hR hd R;rw[←Nat.pow_succ,Y,Nat.succ_eq_add_one,Nat.add_assoc i j 1,←Y]at f;have E:∀x∈u.set t d,x<10000:=fun x hx=>by
      rcases List.mem_or_eq_of_mem_set hx with h|h
      ·exact s.lt x h
      ·rw[h];exact ua
     have P:=fun k=>(ra k).step ((Below.refl (w.heap.size+3) (wr.drewN k)).setCell (p:=⟨g,t,none⟩) (show w.heap.size+3≤g by omega) (.int .i64 (d:Int))) ((ra k).row.set t d) E (by rw[List.length_set];exact s.len);clear ra;have o:∀k,i+max (j+1) m≤k→∀(hk:k<(u.set t d).length),(u.set t d)[k]=0:=fun k dc S=>by rw[List.getElem_set_ne om];exact l k om (by rw[List.length_set]at S;exact S)
     have O:Hid _:=P;have I:Hid _:=o;have H:Hid _:=f;have HQ:Hid _:=eC;have cc:j+1≤m:=om;clear s l D A f P o E hR hd R M Y B hp hq hr rb;go_wp2;go_quiet (fail);go_wp2;refine⟨⟨L,j+1,u.set t d,congrArg (Value.int .i64) HQ.out,by go_num,ta,by omega,O.out _,H.out,I.out⟩,by simp[intOf];omega⟩
    ·by_cases fb:c=0
     ·have lb:¬(j:Int)<(m:Int):=om;have kc:¬(0:Int)<(c:Int):=om;have ga:lv 10000 u=num 10000 w F G (i+1)*y.natAbs:=(by rw[fb,Nat.mul_zero,Nat.add_zero,Nat.min_eq_right om,zb.out]at D;rw[D,zaj,Nat.add_mul]);have va:Hid _:=ga;have ac:Hid (∀k,i+1+m≤k→∀(hk:k<u.length),u[k]=0):=fun k hk=>l k om;have xb:Hid _:=s;clear s l D ga;go_wp2;refine⟨⟨i+1,u,by omega,by go_num,xb.out,va.out,ac.out⟩,by simp[intOf];omega⟩
     ·obtain⟨t,Y⟩:∃t:Nat,t=i+j:=⟨_,rfl⟩;have eT:(i:Int)+(j:Int)=(t:Int):=om;have B:t<u.length:=(by rw[s.len];omega);have gc:t<N:=(by have:=s.len;have:=la.out;omega);have hc:(t:Int)<(N:Int):=om;obtain⟨z,M⟩:∃z,u[t]=z:=⟨_,rfl⟩;have ic:z<10000:=(by rw[←M];exact s.lt _ (List.getElem_mem B));have C:=s.row.cell B;rw[M]at C;have kb:=s.row.free t;have lb:¬(j:Int)<(m:Int):=om;have pc:(0:Int)<(c:Int):=om;have ea:z=0:=(by rw[←M];exact l t om B);obtain⟨r,hr⟩:∃r,r=0:=⟨_,rfl⟩;have hR:num 10000 w F G i*y.natAbs+10000^i*word w F (G+i)*num 10000 w bb ob (min (j+1) m)=num 10000 w F G i*y.natAbs+10000^i*word w F (G+i)*num 10000 w bb ob (min j m)+10000^t*r:=(by rw[zbw om,hr,Nat.mul_zero,Nat.add_zero]);obtain⟨d,hd⟩:∃d,d=(c+z+r)%10000:=⟨_,rfl⟩;obtain⟨L,R⟩:∃L,L=(c+z+r) / 10000:=⟨_,rfl⟩;have ua:d<10000:=om;have ta:L≤9999:=om;have eD:((c:Int)+(z:Int))%10000=(d:Int):=om;have eC:((c:Int)+(z:Int)) / 10000=(L:Int):=om;have A:=lv_set (β:=10000) (v:=d) B;rw[M]at A;rw[←Y]at D;have f:=mul_place A D hR hd R;rw[←Nat.pow_succ,Y,Nat.succ_eq_add_one,Nat.add_assoc i j 1,←Y]at f;have E:∀x∈u.set t d,x<10000:=fun x hx=>by
       rcases List.mem_or_eq_of_mem_set hx with h|h
       ·exact s.lt x h
       ·rw[h];exact ua
      have P:=s.step ((Below.refl (w.heap.size+3) wr).setCell (p:=⟨g,t,none⟩) (by show w.heap.size+3≤g;omega) (.int .i64 (d:Int))) (s.row.set t d) E (by rw[List.length_set];exact s.len);have o:∀k,i+max (j+1) m≤k→∀(hk:k<(u.set t d).length),(u.set t d)[k]=0:=fun k dc S=>by rw[List.getElem_set_ne om];exact l k om (by rw[List.length_set]at S;exact S)
      have O:Hid _:=P;have I:Hid _:=o;have H:Hid _:=f;have HQ:Hid _:=eC;have cc:L=0:=om;clear s l D A f P o E hR hd R M Y B hr ea;go_wp2;refine⟨⟨L,j+1,u.set t d,congrArg (Value.int .i64) HQ.out,by go_num,ta,by omega,O.out,H.out,I.out⟩,by simp[intOf];omega⟩
end Go.Proofs.YtjlkplidpdhgbaaGreatDoor
namespace Rad
theorem euclid_unique (a b:Int) (g:b≠0) (q r:Int) (h:b*q+r=a) (m:0≤r) (p:r<b.natAbs):a / b=q∧a%b=r:=by
 have n:=Int.emod_nonneg a g;have j:=Int.emod_lt_of_neg a (b:=b);have k:=Int.emod_lt_of_pos a (b:=b);have o:=Int.mul_ediv_add_emod a b;have e:b*(q-a / b)=a%b-r:=(by rw[Int.mul_sub];omega);have l:q-a / b=0:=by
  rcases Int.lt_trichotomy (q-a / b) 0 with d|d|d
  ·exfalso;rcases Int.lt_or_lt_of_ne g with c|c
   ·have f:=Int.mul_le_mul_of_nonpos_left (show b≤0 by omega) (show q-a / b≤ -1 by omega);have:=j c;omega
   ·have f:=Int.mul_le_mul_of_nonneg_left (show q-a / b≤ -1 by omega) (show 0≤b by omega);have:=k c;omega
  ·exact d
  ·exfalso;rcases Int.lt_or_lt_of_ne g with c|c
   ·have f:=Int.mul_le_mul_of_nonpos_left (show b≤0 by omega) (show 1≤q-a / b by omega);have:=j c;omega
   ·have f:=Int.mul_le_mul_of_nonneg_left (show 1≤q-a / b by omega) (show 0≤b by omega);have:=k c;omega
 rw[l,Int.mul_zero]at e;omega
def dq (a b:Int):Nat:=if a<0∧a.natAbs%b.natAbs≠0 then a.natAbs / b.natAbs+1 else a.natAbs / b.natAbs
def dr (a b:Int):Nat:=if a<0∧a.natAbs%b.natAbs≠0 then b.natAbs-a.natAbs%b.natAbs else a.natAbs%b.natAbs
theorem dqr_aux (A D Q R:Nat) (b sb:Bool) (h:D*Q+R=A) (g:R<D):
 (if sb=true then -(D:Int) else D)*(if (b !=sb)=true then -((if b=true∧R≠0 then Q+1 else Q:Nat):Int) else ((if b=true∧R≠0 then Q+1 else Q:Nat):Int))+
  ((if b=true∧R≠0 then D-R else R:Nat):Int)=(if b=true then -(A:Int) else A):=by
 have f:((D*Q:Nat):Int)=(D:Int)*Q:=Int.natCast_mul ..;have d:(D:Int)*((Q+1:Nat):Int)=(D:Int)*Q+D:=(by rw[Int.natCast_add,Int.mul_add];simp);by_cases c:R=0
 ·cases b <;> cases sb <;> simp[c,Int.neg_mul,Int.mul_neg] <;> omega
 ·cases b <;> cases sb <;> simp only[c,Int.neg_mul,Int.mul_neg,ne_eq,not_false_eq_true,and_true,if_true,bne_self_eq_false,Bool.false_eq_true,if_false,false_and,Bool.true_bne,Bool.false_bne,Bool.not_true,Bool.not_false,Int.neg_neg,d] <;> omega
theorem dqr (a b:Int) (l:b≠0):(if (decide (a<0) !=decide (b<0))=true then -((dq a b:Nat):Int) else ((dq a b:Nat):Int))=a / b∧((dr a b:Nat):Int)=a%b:=by
 have k:0<b.natAbs:=om;have f:=Nat.mod_lt a.natAbs k;have c:=dqr_aux a.natAbs b.natAbs (a.natAbs / b.natAbs) (a.natAbs%b.natAbs) (decide (a<0)) (decide (b<0)) (Nat.div_add_mod _ _) f;have g:(if decide (a<0)=true then -(a.natAbs:Int) else (a.natAbs:Int))=a:=by
  by_cases h:a<0
  ·rw[if_pos (by simpa using h)];omega
  ·rw[if_neg (by simpa using h)];omega
 have j:(if decide (b<0)=true then -(b.natAbs:Int) else (b.natAbs:Int))=b:=by
  by_cases h:b<0
  ·rw[if_pos (by simpa using h)];omega
  ·rw[if_neg (by simpa using h)];omega
 rw[g,j]at c;simp only[decide_eq_true_eq]at c;have d:=euclid_unique a b l _ ((dr a b:Nat):Int) c om (by unfold dr;split <;> omega);exact⟨d.1.symm,d.2.symm⟩
theorem div_place {X x D:Nat} (c:0<D):(x+10000*X) / D=(x+10000*(X%D)) / D+10000*(X / D)∧(x+10000*X)%D=(x+10000*(X%D))%D:=by have e:x+10000*X=(x+10000*(X%D))+D*(10000*(X / D)):=(by have b:=Nat.mod_add_div X D;have d:10000*X=10000*(X%D)+10000*(D*(X / D)):=(by rw[←Nat.mul_add,b]);rw[Nat.mul_left_comm D 10000];omega);rw[e];exact⟨Nat.add_mul_div_left _ _ c,Nat.add_mul_mod_self_left _ _ _⟩
theorem half_done {b D R:Nat} (f:b*D≤R) (c:R<(b+1)*D):R / D=b∧R%D=R-b*D:=by
 have d:0<D:=by
  rcases Nat.eq_zero_or_pos D with h|h
  ·subst h;omega
  ·exact h
 have e:R / D=b:=(by rw[Nat.div_eq_iff d];rw[Nat.add_mul]at c;omega);refine⟨e,?_⟩;have:=Nat.div_add_mod R D;rw[e,Nat.mul_comm]at this;omega
end Rad
namespace Go.Proofs.YtjlkplidpdhgbaaGreatDoor
open Go Go.Proofs Go.RowKit Go.Rad
def Kq (w w':World):Prop:=Below w.heap.size w w'
theorem IsZ.away {w:World} {s:Bool} {a:Option Addr} {n c:Nat} {z:Int} (h:IsZ w (.agg #[.bool s,.slice a n c]) z) {p i:Nat} (y:∀x,a=some x→x.block≠p) (v:Value):IsZ (w.setCell ⟨p,i,none⟩ v) (.agg #[.bool s,.slice a n c]) z:=by
 obtain⟨D,m,l,B,b,o,C,rfl,k,u,j,t,q,A⟩:=h;have f:=l;simp only[Value.agg.injEq,Array.mk.injEq,List.cons.injEq,Value.slice.injEq,and_true]at f;obtain⟨-,rfl,rfl,rfl⟩:=f;have g:0<n→b≠p:=fun d=>by have:=y _ (k d);exact this
 refine⟨_,n,l,a,b,o,c,rfl,k,u,j,?_,?_,?_⟩
 ·by_cases d:0<n
  ·exact t.set' (.inl (g d).symm)
  ·exact fun i hi=>absurd hi om
 ·by_cases d:0<n
  ·rw[zan (.inl (g d).symm)];exact q
  ·obtain rfl:n=0:=om;exact q
 ·rcases A with d|d
  ·exact .inl d
  ·by_cases r:0<n
   ·right;rw[za0 (.inl (g r))];exact d
   ·left;omega
theorem IsZ.storedF {w:World} {b:Nat} {s x:Bool} {a:Option Addr} {n c:Nat} {v u1 u2:Value} {z:Int} (h:IsZ w v z) (d:FB w b (.bool s) (.slice a n c)):IsZ ((w.setCell ⟨b,0,none⟩ u1).setCell ⟨b,1,none⟩ u2) v z:=h.stored d.c0 d.c1 (by intro q;simp) (by intro q;simp)
theorem FB.setB {w:World} {b:Nat} {u0 u1:Value} (h:FB w b u0 u1) {p i:Nat} (c:b≠p) (v:Value):FB (w.setCell ⟨p,i,none⟩ v) b u0 u1:=⟨by simp;exact h.lt,(zaa (.inl c)).trans h.c0,(zaa (.inl c)).trans h.c1,(World.frozen?_setCell _ _ _ _).trans h.f0,(World.frozen?_setCell _ _ _ _).trans h.f1⟩
structure DI (w wr:World) (b2 b3 b4 b5 b6 b7 b8:Nat) (sa:Bool) (aa:Option Addr) (na ca:Nat) (sb:Bool) (ab:Option Addr) (nb cb:Nat) (s7:Bool) (a7:Option Addr) (n7 c7:Nat) (D:Int) (k qk:Nat):Prop where
 bel:Below w.heap.size w wr
 f2:FB wr b2 (.bool sa) (.slice aa na ca)
 f3:FB wr b3 (.bool sb) (.slice ab nb cb)
 f4:FB wr b4 (.bool false) (.slice none 0 0)
 f5:FB wr b5 (.bool false) (.slice none 0 0)
 f6:FB wr b6 (.int .i64 0) (.int .i64 0)
 f7:FB wr b7 (.bool s7) (.slice a7 n7 c7)
 i7:IsZ wr (.agg #[.bool s7,.slice a7 n7 c7]) D
 l7:∀x,a7=some x→x.block≠b8
 l8:b8<wr.heap.size
 qa:Arr .i64 10000 wr b8 0 na
 qf:Free wr b8 0 na
 qn:num 10000 wr b8 (0+k) (na-k)=qk
theorem DI.step {w wr w':World} {m n o p q r d:Nat} {C:Bool} {j:Option Addr} {y t:Nat} {sb:Bool} {l:Option Addr} {z u:Nat} {B:Bool} {g:Option Addr} {x s:Nat} {D:Int} {k A:Nat}
 (h:DI w wr m n o p q r d C j y t sb l z u B g x s D k A) (b:Below wr.heap.size wr w'):DI w w' m n o p q r d C j y t sb l z u B g x s D k A:=by
 obtain⟨c,E,F,G,H,I,J,L,M,f,N,O,P⟩:=h;refine⟨c.trans (b.mono c.size),E.below b,F.below b,G.below b,H.below b,I.below b,J.below b,L.below b,M,Nat.lt_of_lt_of_le f b.size,zae N b,fun i hi=>(World.frozen?_of_block (b.block d f)).trans (O i hi),?_⟩;rw[←P];exact zaz fun i hi=>zab (World.cell?_of_block (b.block d f))
theorem DI.setr {w wr:World} {d f g j l m n b:Nat} {F:Bool} {r:Option Addr} {A u:Nat} {sb:Bool} {s:Option Addr} {B y:Nat} {E:Bool} {q:Option Addr} {z t:Nat} {D:Int} {k C:Nat}
 (h:DI w wr d f g j l m n F r A u sb s B y E q z t D k C) {s9:Bool} {G:Option Addr} {n9 H:Nat} (P:FB wr b (.bool s9) (.slice G n9 H)) (R:w.heap.size≤b)
 (S:d≠b∧f≠b∧g≠b∧j≠b∧l≠b∧m≠b∧b≠n) (v0 v1:Value):DI w ((wr.setCell ⟨b,0,none⟩ v0).setCell ⟨b,1,none⟩ v1) d f g j l m n F r A u sb s B y E q z t D k C:=by
 obtain⟨o,I,J,L,M,N,O,T,U,V,qa,qf,qn⟩:=h;obtain⟨W,X,Y,Z,n6,p,c⟩:=S;refine⟨zaf o R _ _,I.other _ _ W,J.other _ _ X,L.other _ _ Y,M.other _ _ Z,N.other _ _ n6,O.other _ _ p,T.storedF (x:=false) P,U,by simp;exact V,(qa.set' (.inl c)).set' (.inl c),
  fun i hi=>(World.frozen?_setCell _ _ _ _).trans ((World.frozen?_setCell _ _ _ _).trans (qf i hi)),?_⟩
 rw[zan (.inl c),zan (.inl c)];exact qn
theorem zgc (w:World) (b o n:Nat):num 10000 w b o (n+1)=word w b o+10000*num 10000 w b (o+1) n:=by rw[Nat.add_comm n 1,za5,zaj,zao,Nat.pow_zero,Nat.one_mul,Nat.zero_add,Nat.pow_one,Nat.add_zero]
theorem DI.setq {w wr:World} {f g k l m n b:Nat} {F:Bool} {r:Option Addr} {c u:Nat} {sb:Bool} {s:Option Addr} {A x:Nat} {E:Bool} {q:Option Addr} {z t:Nat} {D:Int} {j C:Nat}
 (h:DI w wr f g k l m n b F r c u sb s A x E q z t D (j+1) C) (R:j<c) (N:w.heap.size≤b)
 (S:f≠b∧g≠b∧k≠b∧l≠b∧m≠b∧n≠b) {d:Nat} (P:d<10000):DI w (wr.setCell ⟨b,0+j,none⟩ (.int .i64 (d:Int))) f g k l m n b F r c u sb s A x E q z t D j (d+10000*C):=by
 obtain⟨o,G,H,I,J,L,M,T,y,U,B,qf,qn⟩:=h;obtain⟨V,W,X,Y,Z,p⟩:=S;refine⟨o.setCell N _,G.setB V _,H.setB W _,I.setB X _,J.setB Y _,L.setB Z _,M.setB p _,T.away y _,y,by simp;exact U,B.set P,fun i hi=>(World.frozen?_setCell _ _ _ _).trans (qf i hi),?_⟩;have O:(wr.cell? ⟨b,0+j,none⟩).isSome=true:=(by rw[zag B R];rfl);rw[show c-j=c-(j+1)+1 by omega,zgc,zbq O,zan (.inr (.inl om))];rw[←qn];rfl
end Go.Proofs.YtjlkplidpdhgbaaGreatDoor
