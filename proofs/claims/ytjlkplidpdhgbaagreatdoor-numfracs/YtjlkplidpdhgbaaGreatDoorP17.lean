/- A part of the proof: W31, W32, W33, W29, W34a. -/
import Derived.Test.YtjlkplidpdhgbaaGreatDoorP00
import Derived.Test.YtjlkplidpdhgbaaGreatDoorP16
import Derived.Test.YtjlkplidpdhgbaaGreatDoorP03
import Derived.Deep.RegionHeld
import Derived.Lib.MakeNoZero
import Derived.Deep.RegionHeld3
import Derived.Deep.RegionHeldLaw
import Derived.Test.YtjlkplidpdhgbaaGreatDoorP15
import Derived.Test.YtjlkplidpdhgbaaGreatDoorP08
import Derived.Deep.AppendLies
set_option linter.all false
set_option maxRecDepth 10000
set_option maxHeartbeats 2000000
namespace Go.Proofs.YtjlkplidpdhgbaaGreatDoor
open Go Go.Proofs Go.RowKit Go.Rad
theorem Mag.chg8 {w w':World} {v:Value} {x n b lo hi:Nat} (h:Mag w v x n) (t:Chg w w' b lo hi) (s:∀i,lo≤i→i<hi→∃y,w.cell? ⟨b,i,none⟩=some (.int .u8 y)):Mag w' v x n:=by
 obtain⟨p,d,o',q,z,u,k,g,A,f⟩:=h;have j:∀i,i<n→d≠b∨o'+i<lo∨hi≤o'+i:=fun i hi'=>by
  by_cases l:d=b
  ·subst l;refine .inr (Classical.byContradiction fun m=>?_);obtain⟨y,o⟩:=s (o'+i) om om;rw[(g i hi').1]at o;simp at o
  ·exact .inl l
 have c:∀i,i<n→w'.cell? ⟨d,o'+i,none⟩=w.cell? ⟨d,o'+i,none⟩:=fun i hi'=>t.cellAt (g.lt om) (j i hi');refine⟨p,d,o',q,z,u,k,fun i hi'=>?_,(za1 fun i hi'=>zac (c i hi')).trans A,?_⟩
 ·rw[zac (c i hi'),c i hi'];exact g i hi'
 ·rcases f with f|f
  ·exact .inl f
  ·by_cases r:n=0
   ·exact .inl r
   ·right;rw[zac (c (n-1) om)];exact f
theorem Dig.bytes {w:World} {b o n m x:Nat} (h:Dig w b o n m x) (f:m≤n):∀i,o+(n-m)≤i→i<o+n→∃y,w.cell? ⟨b,i,none⟩=some (.int .u8 y):=fun i c d=>by have:=h (o+n-1-i) om;rw[show o+(n-1-(o+n-1-i))=i by omega]at this;exact⟨_,this⟩
def Lad (w:World) (bp op D K:Nat):Prop:=∀i,i<K→∃v n,w.cell? ⟨bp,op+i,none⟩=some v∧Mag w v (10^(D*2^i)) n∧n≤35184372088832
theorem Lad.below {w w':World} {b c D K:Nat} (h:Lad w b c D K) (f:Below w.heap.size w w'):Lad w' b c D K:=fun i hi=>by obtain⟨v,n,d,g,j⟩:=h i hi;exact⟨v,n,(f.cell (p:=⟨b,c+i,none⟩) (zb6 d)).trans d,g.below f,j⟩
theorem Lad.chg8 {w w':World} {c f D K b lo hi:Nat} (h:Lad w c f D K) (l:Chg w w' b lo hi) (j:∀i,lo≤i→i<hi→∃y,w.cell? ⟨b,i,none⟩=some (.int .u8 y)):Lad w' c f D K:=fun i hi'=>by
 obtain⟨v,n,d,g,p⟩:=h i hi';refine⟨v,n,?_,g.chg8 l j,p⟩;rw[l.cellAt (zb6 d) ?_];·exact d
 by_cases k:c=b
 ·subst k;refine .inr (Classical.byContradiction fun m=>?_);obtain⟨y,o⟩:=j (f+i) om om;rw[d]at o;obtain rfl:=oi o;obtain⟨r,s,o',t,q,_⟩:=g;exact Value.noConfusion q
 ·exact .inl k
theorem Dig.chg {w w':World} {b o n m x lo hi:Nat} (h:Dig w b o n m x) (c:Chg w w' b lo hi) (d:∀i,i<m→o+(n-1-i)<lo∨hi≤o+(n-1-i)):Dig w' b o n m x:=fun i hi'=>by rw[c.cell _ (d i hi')];exact h i hi'
theorem zfs {w c w':World} {b lo hi:Nat} (h:Below w.heap.size w c) (k:Chg c w' b lo hi) (d:b<w.heap.size):Chg w w' b lo hi:=(zef h d).trans k
def WriteOk (K k:Nat):Prop:=
 ∀(w:World) (ap:Option Addr) (kp cp bp op D b o n c m:Nat) (v:Value) (x nx:Nat),Sl ap bp op kp→k≤K→K≤kp→kp≤35184372088832→kp≤cp→Lad w bp op D K→0<D→D*2^K≤1099511627776→
  0<n→m≤n→n≤1099511627776→n≤c→c≤9223372036854775807→Dig w b o n m 0→Free w b o n→Mag w v x nx→nx<160→x<10^m→b<w.heap.size→
  Calls Tryz.prog 72 #[.agg #[.int .i64 D,.slice ap kp cp],.slice (some ⟨b,o,none⟩) n c,v,.int .i64 k] w fun e w'=>e=.returned (.tuple #[])∧Chg w w' b (o+(n-m)) (o+n)∧Dig w' b o n m x
theorem write_zero (K:Nat):WriteOk K 0:=by
 intro w q y r M S D b o n c m v x L R P O G F C B N g H I j E u s t J k f;have d:=zao w (Obj.cells #[Value.int IntKind.i64 D,Value.slice q y r] 95);have l:=zgm (w.alloc (Obj.cells #[Value.int IntKind.i64 D,Value.slice q y r] 95)) b o n c m v x L g H I
  (fun i hi=>(d.cell (p:=⟨b,o+(n-1-i),none⟩) f).trans (u i hi)) (zcd s d f) (t.below d) om k (by simp;omega) j
 have HB:Hid (b<w.heap.size):=f;clear u s t f C;go_enter Tryz.func72,Tryz.ntmps72;go_wp2_with (go_at_call 108;fail);refine l.mono ?_;rintro e T ⟨rfl,z,A⟩;clear l;go_wp2;refine bodyPost_ret (results_none rfl _ _ _) rfl ?_;exact⟨rfl,zfs d z HB.out,A⟩
theorem digit_low {x e i:Nat} (hi:i<e):x%10^e / 10^i%10=x / 10^i%10:=by have b:(10:Nat)^e=10^i*10^(e-i):=(by rw[←Nat.pow_add];congr 1;omega);rw[b,Nat.mod_mul_right_div_self];obtain⟨k,c⟩:∃k,e-i=k+1:=⟨e-i-1,by omega⟩;rw[c,Nat.pow_succ,Nat.mul_comm];exact Nat.mod_mod_of_dvd _ ⟨_,rfl⟩
theorem digit_high {x e i:Nat} (hi:e≤i):x / 10^e / 10^(i-e)%10=x / 10^i%10:=by rw[Nat.div_div_eq_div_mul,←Nat.pow_add,show e+(i-e)=i by omega]
theorem write_step (K k:Nat) (ih:WriteOk K k) (ec:k+1≤K):WriteOk K (k+1):=by
 intro w ap M R z H D b o n c m v x nx hs hk hK X V hL A hD ra hm hn sa U hz hf hx I Z hb;obtain rfl:=hs om;obtain⟨d,B⟩:∃e,D*2^k=e:=⟨_,rfl⟩;have ub:d≤1099511627776:=(by rw[←B];exact Nat.le_trans (Nat.mul_le_mul_left D (Nat.pow_le_pow_right dd om)) hD);have fb:0<d:=(by rw[←B];exact Nat.mul_pos A (Nat.pow_pos dd));have B1:=zao w (Obj.cells #[Value.int IntKind.i64 D,Value.slice (some ⟨z,H,none⟩) M R] 95);have s:(w.alloc (Obj.cells #[Value.int IntKind.i64 D,Value.slice (some ⟨z,H,none⟩) M R] 95)).heap.size=w.heap.size+1:=(by simp);obtain⟨pv,pn,lb,F,mb⟩:=(hL.below B1) k om;rw[B]at F;have C:0<10^d:=Nat.pow_pos dd;have ta:0<pn:=by
  rcases Nat.eq_zero_or_pos pn with h|h
  ·have:=F.zero_iff.2 h;omega
  ·exact h
 have CD:=ze9 _ v pv x (10^d) nx pn (hx.below B1) F ta I mb;have HX:Hid _:=hx;have HL:Hid _:=hL;have HZ:Hid _:=hz;have HF:Hid _:=hf;have HB:Hid (b<w.heap.size):=hb;have yb:Hid _:=F;have e1:((k+1:Nat):Int)-1=(k:Int):=om;have fc:(k:Int)<(M:Int):=om;have dc:¬((k+1:Nat):Int)=0:=om;have xa:Hid _:=B1;clear hx hL hz hf hb F B1;go_enter Tryz.func72,Tryz.ntmps72;go_wp2_with (go_at_call 109;fail);refine CD.mono ?_;rintro e N ⟨vq,vr,nq,nr,rfl,E,t,u⟩;clear CD;obtain⟨qa,qb,qo,qc,rfl,_⟩:=id t;have B2:Below w.heap.size w N:=xa.out.trans (E.mono (by rw[s];omega));have k0:=(E.cell (p:=⟨w.heap.size,0,none⟩) (by rw[s];show w.heap.size<_;omega)).trans (by simp[go_sem]:_=some (.int .i64 (D:Int)));have k1:=(E.cell (p:=⟨w.heap.size,1,none⟩) (by rw[s];show w.heap.size<_;omega)).trans (by simp[go_sem]:_=some (.slice (some ⟨z,H,none⟩) M R));have L2:Lad N z H D K:=Lad.below HL.out B2;have Z2:Dig N b o n m 0:=fun i hi=>(B2.cell (p:=⟨b,o+(n-1-i),none⟩) HB.out).trans (HZ.out i hi);have F2:=zcd HF.out B2 HB.out;have G:b<N.heap.size:=Nat.lt_of_lt_of_le HB.out B2.size;have l2:w.heap.size<N.heap.size:=Nat.lt_of_lt_of_le (by rw[s];omega) E.size;have P:Hid _:=B2;have ca:Hid _:=B;clear E lb B2 s B;by_cases ob:nq=0
 ·subst ob;have rb:x / 10^d=0:=t.zero_iff.2 rfl;have va:x<10^d:=(Nat.div_eq_zero_iff_lt C).1 rb;rw[Nat.mod_eq_of_lt va]at u;have Y:nr<160:=Nat.lt_of_le_of_lt (u.len_le (Mag.lt HX.out)) I;have CW:=ih N (some ⟨z,H,none⟩) M R z H D b o n c m vr x nr (Sl.mk _ _ _) om hK X V L2 A hD ra hm hn sa U Z2 F2 u Y Z G;have HK:Hid _:=And.intro k0 k1;clear L2 Z2 F2 t u;go_wp2_with (go_at_call 72;fail);refine CW.mono ?_;rintro e w3 ⟨rfl,J,h2⟩;clear CW;go_wp2;go_end0;exact⟨rfl,zfs P.out J HB.out,h2⟩
 ·have pb:=t.pos om;have ib:10^d≤x:=(by refine Nat.le_of_not_lt fun h=>?_;rw[Nat.div_eq_of_lt h]at pb;omega);have bc:d<m:=(Nat.pow_lt_pow_iff_right (by decide:1<10)).1 (Nat.lt_of_le_of_lt ib Z);have kb:nq<160:=Nat.lt_of_le_of_lt (t.len_le (Nat.lt_of_le_of_lt (Nat.div_le_self _ _) (Mag.lt HX.out))) I;have Y:nr<160:=Nat.lt_of_le_of_lt (u.len_le (Nat.lt_of_le_of_lt (Nat.mod_le _ _) (Mag.lt HX.out))) I;have sb:x / 10^d<10^(m-d):=(by refine Nat.div_lt_of_lt_mul ?_;rw[←Nat.pow_add,show d+(m-d)=m by omega];exact Z);have Zq:Dig N b o (n-d) (m-d) 0:=fun i hi=>by have:=Z2 (i+d) om;rw[Nat.zero_div,Nat.zero_mod]at this⊢;rw[show o+(n-d-1-i)=o+(n-1-(i+d))by omega];exact this
  have xb:(0:Int)<(nq:Int):=om;have e2:IntKind.i64.wrap ((D:Int)*2^k)=(d:Int):=(by rw[show(D:Int)*2^k=((D*2^k:Nat):Int)by rw[Int.natCast_mul,Int.natCast_pow];rfl,ca.out,IntKind.wrap_i64];omega);have cc:¬c=n-d:=om;have vb:k<41:=(by refine(Nat.pow_lt_pow_iff_right (by decide:1<2)).1 ?_;have J:=Nat.le_mul_of_pos_left (2^k) A;rw[ca.out]at J;exact Nat.lt_of_le_of_lt J om);have wb:min k 64=k:=om;have i0:IntKind.i64.wrap (k:Int)=(k:Int):=(by rw[IntKind.wrap_i64];omega);have i4:IntKind.i64.wrap ((n:Int)-(d:Int))=(n:Int)-(d:Int):=(by rw[IntKind.wrap_i64];omega);have i5:d≤n:=om;have i1:(0:Int)≤(n:Int)-(d:Int):=om;have i2:(n:Int)-(d:Int)≤(c:Int):=om;have i3:((n:Int)-(d:Int)).toNat=n-d:=om;have ka:Hid _:=u;have gb:Hid _:=t;clear u t;go_wp2;refine zab (fun w1=>w1=N) rfl ?_;rintro w1 rfl;refine zaq za6 [⟨29,[],[],[4]⟩,⟨30,[],[],[1]⟩,⟨31,[],[],[1]⟩,⟨32,[2],[2],[]⟩,⟨33,[],[],[4]⟩,⟨34,[4],[4],[]⟩,⟨35,[],[],[3]⟩,⟨36,[6],[6],[]⟩,⟨37,[5,7],[4,5,6,7],[]⟩,⟨38,[3,8],[2,3,4,5,6,7,8],[]⟩,⟨39,[1,9],[1,2,3,4,5,6,7,8,9],[]⟩,⟨40,[],[],[8]⟩,⟨41,[],[],[3]⟩,⟨42,[12],[12],[]⟩] [] kfl 50 rfl kfl (fun (i:Nat) (v:Value) (wq:World)=>match i with|0=>v=.agg #[.int .i64 ((D:Int)),.slice (some ⟨z,H,none⟩) M R]|1=>v=.slice (some ⟨b,o,none⟩) n (c)|2=>v=.slice (some ⟨b,o,none⟩) n (c)|3=>v=.int .i64 ((n:Int))|4=>v=.pointer (some ⟨w.heap.size,0,none⟩)|5=>v=.int .i64 ((D:Int))|6=>v=.int .i64 (((k+1:Nat):Int))|7=>v=.int .i64 ((k:Int))|8=>v=.int .i64 ((d:Int))|9=>v=.int .i64 ((n:Int)-(d:Int))|10=>v=.slice (some ⟨b,o,none⟩) (n-d) (c)|11=>v=.slice qa nq (qc)|12=>v=.int .i64 (((k+1:Nat):Int))|13=>v=.int .i64 ((k:Int))|_=>True) (fun _ wq=>Below w1.heap.size w1 wq) (fun wx wy=>Below wx.heap.size wx wy) (zz).drew (fun i v wx wy h hx=>match i,h with|0,h=>h|1,h=>h|2,h=>h|3,h=>h|4,h=>h|5,h=>h|6,h=>h|7,h=>h|8,h=>h|9,h=>h|10,h=>h|11,h=>h|12,h=>h|13,h=>h|n+14,_=>trivial) ?_ ?_
  ·intro i o r q l L fr wx hW hL nb jb pa ua W;clear hL nb jb pa
   match i,q,l with
   |0,q,l=>?_
   |1,q,l=>?_
   |2,q,l=>?_
   |3,q,l=>?_
   |4,q,l=>?_
   |5,q,l=>?_
   |6,q,l=>?_
   |7,q,l=>?_
   |8,q,l=>?_
   |9,q,l=>?_
   |10,q,l=>?_
   |11,q,l=>?_
   |12,q,l=>?_
   |13,q,l=>?_
   |n+14,q,l=>exact absurd l (by simp)
   all_goals obtain rfl:=oi q;obtain rfl:=oi l;simp only[uxw,uw,evt]at ua W;have zb:=(hW.cell (p:=⟨w.heap.size,0,none⟩) l2).trans k0;have ac:=(hW.cell (p:=⟨w.heap.size,1,none⟩) l2).trans k1;refine zap rfl rfl fun K hK=>?_;go_simp;exact hK _ _ ⟨rfl,hW,zz,nn⟩
  ·intro vs O f g ma;clear ma;have e0:vs 0=_:=f 0 dd;have e1:vs 1=_:=f 1 dd;have e2:vs 2=_:=f 2 dd;have e3:vs 3=_:=f 3 dd;have e4:vs 4=_:=f 4 dd;have e5:vs 5=_:=f 5 dd;have e6:vs 6=_:=f 6 dd;have e7:vs 7=_:=f 7 dd;have e8:vs 8=_:=f 8 dd;have e9:vs 9=_:=f 9 dd;have ga:vs 10=_:=f 10 dd;have ha:vs 11=_:=f 11 dd;have ia:vs 12=_:=f 12 dd;have ja:vs 13=_:=f 13 dd;simp only[zbp,Nat.reduceAdd,e0,e1,e2,e3,e4,e5,e6,e7,e8,e9,ga,ha,ia,ja,Act.put,ll];clear f e0 e1 e2 e3 e4 e5 e6 e7 e8 e9 ga ha ia ja;have aa:=(g.cell (p:=⟨w.heap.size,0,none⟩) l2).trans k0;have wa:=(g.cell (p:=⟨w.heap.size,1,none⟩) l2).trans k1;have fa:Dig O b o (n-d) (m-d) 0:=fun i hi=>(g.cell (p:=⟨b,o+(n-d-1-i),none⟩) G).trans (Zq i hi);have Zn:Dig O b o n m 0:=fun i hi=>(g.cell (p:=⟨b,o+(n-1-i),none⟩) G).trans (Z2 i hi);have Fn:=zcd F2 g G;have ba:b<O.heap.size:=Nat.lt_of_lt_of_le G g.size;have ln:w.heap.size<O.heap.size:=Nat.lt_of_lt_of_le l2 g.size;have Ln:=L2.below g;have CQ:=ih O (some ⟨z,H,none⟩) M R z H D b o (n-d) c (m-d) _ (x / 10^d) nq (Sl.mk _ _ _) om hK X V Ln A hD om om om om U fa (zdk Fn om) (Mag.below gb.out g) kb sb ba;have la:Hid _:=Mag.below ka.out g;have ya:Hid (Below w.heap.size w O):=P.out.trans (g.mono P.out.size);have da:Hid _:=Zn;have db:Hid _:=Fn;have eb:Hid _:=Ln;clear k0 k1 Zq Z2 F2 L2 fa Zn Fn Ln g ka;go_wp2_with (go_at_call 72;fail);refine CQ.mono ?_;rintro e w3 ⟨rfl,j,na⟩;clear CQ;have S:∀i,o+(n-d-(m-d))≤i→i<o+(n-d)→∃y,O.cell? ⟨b,i,none⟩=some (.int .u8 y):=fun i J h2=>Dig.bytes da.out hm i om om;have bx:∀y,O.cell? ⟨w.heap.size,0,none⟩≠some (.int .u8 y):=(by rw[aa];intro y;simp);have gc:=(j.cellAt ln (.inl (by have:=HB.out;omega)):w3.cell? ⟨w.heap.size,0,none⟩=_).trans aa;have hc:=(j.cellAt ln (.inl (by have:=HB.out;omega)):w3.cell? ⟨w.heap.size,1,none⟩=_).trans wa;have ea:=Mag.chg8 la.out j S;have L3:=Lad.chg8 eb.out j S;have Z3:Dig w3 b o n d 0:=fun i hi=>(j.cell _ (.inr om)).trans (da.out i om);have F3:=j.free db.out (fun _=>ba);have tb:b<w3.heap.size:=Nat.lt_of_lt_of_le ba j.size;have CR:=ih w3 (some ⟨z,H,none⟩) M R z H D b o n c d vr (x%10^d) nr (Sl.mk _ _ _) om hK X V L3 A hD ra om hn sa U Z3 F3 ea Y (Nat.mod_lt _ C) tb;have za:Hid (Chg w w3 b (o+(n-m)) (o+n)):=zfs ya.out (j.mono om om) HB.out;have bb:Hid _:=na;clear S bx ea L3 Z3 F3 j na aa wa;go_wp2_with (go_at_call 72;fail);refine CR.mono ?_;rintro e w4 ⟨rfl,T,oa⟩;clear CR;have ab:Hid (Chg w w4 b (o+(n-m)) (o+n)):=za.out.trans (T.mono om om);have cb:Hid (Dig w4 b o n m x):=fun i hi=>by
    by_cases J:i<d
    ·rw[oa i J,digit_low J]
    ·have h3:=bb.out (i-d) om;rw[show o+(n-d-1-(i-d))=o+(n-1-i)by omega,digit_high om]at h3;exact(T.cell (o+(n-1-i)) (.inl om)).trans h3
   clear T oa;go_wp2;go_end0;exact⟨rfl,ab.out,cb.out⟩
theorem write_any (K:Nat):∀k,k≤K→WriteOk K k
 |0,_=>write_zero K
 |k+1,h=>write_step K k (write_any K k om) h
theorem zbe:Tryz.prog.underlying 91=some (.slice 5):=by kernel_rfl
theorem size5:(Tryz.prog.info? 5).map (·.size)=some 1:=by kernel_rfl
def Cells (w:World) (b o n:Nat):Prop:=∀i,i<n→(w.cell? ⟨b,o+i,none⟩).isSome=true
theorem zgg {P:Program} {w:World} (k:IntKind) (β:Nat) (u D F:TypeId)
 (d:TypeId) (G:P.underlying u=some (.slice d)) (t:(P.info? d).map (·.size)=some 1)
 (z E:Option Addr) (b y c cs:Nat) (g n o os:Nat)
 (A:Sl z g n b) (C:Sl E o os c) (p:Cells w g n b) (B:Free w g n b) (q:Arr k β w o os c):
 ∃w',(Builtin.copy_ #[u,D] F #[.slice z b y,.slice E c cs]).run P w=.ok (.int .i64 (min c b:Nat)) w'∧Copied k β w w' g n (min c b) o os:=by
 have s:Nat.min c b=min c b:=rfl;by_cases x:min c b=0
 ·have f:=run_copy_none (P:=P) w u D F d z E b y c cs G t x;refine⟨w,by rw[x];exact f,Chg.refl _ _ _ _,by rw[x];intro i hi;omega,by rw[x];intro i hi;omega⟩
 ·obtain rfl:=A om;obtain rfl:=C om;have f:=run_copy_cells (P:=P) w u D F d g n b y ⟨o,os,none⟩ c cs ((List.range (min c b)).map fun i=>Value.int k ((word w o (os+i):Nat):Int)) G t
   (by simp[s]) (zez q om) (fun j r=>p j (by simp at r;omega)) (fun j r=>B j (by simp at r;omega))
   (fun v H=>by obtain⟨_,_,rfl⟩:=List.mem_map.1 H;rfl)
  simp only[List.length_map,List.length_range]at f;have l:∀i,i<min c b→(w.setCells g n ((List.range (min c b)).map fun i=>Value.int k ((word w o (os+i):Nat):Int))).cell? ⟨g,n+i,none⟩=some (.int k ((word w o (os+i):Nat):Int)):=(by intro i hi;rw[World.cell?_setCells_in g _ n w (fun j r=>p j (by simp at r;omega)) i (by simpa using hi)];simp);have m:∀i,i<min c b→word (w.setCells g n ((List.range (min c b)).map fun i=>Value.int k ((word w o (os+i):Nat):Int))) g (n+i)=word w o (os+i):=fun i hi=>zb9 (l i hi);refine⟨_,f,?_,fun i hi=>?_,m⟩
  ·have:=zcz g ((List.range (min c b)).map fun i=>Value.int k ((word w o (os+i):Nat):Int)) n w;simpa using this
  ·rw[m i hi];exact⟨l i hi,zaz q om⟩
theorem step_copyRow {P:Program} {w:World} {l:Array Oper} {o:Oper} {a:Act} {K:Act→World→Prop} {Q:Exit→Act→World→Prop} {E:Prop} (k:IntKind) (β:Nat)
 (x:o.guard=none) (d s:Operand) (n D:TypeId) (I:o.op=.call {callee:= .builtin .copy,args:=#[d,s],argTypes:=#[n,D]})
 (b:TypeId) (M:P.underlying n=some (.slice b)) (z:(P.info? b).map (·.size)=some 1)
 (p B:Option Addr) (c C f cs:Nat) (H:a.eval d=.slice p c C) (L:a.eval s=.slice B f cs) (g j m os:Nat)
 (t:Sl p g j c) (y:Sl B m os f) (q:Cells w g j c) (u:Free w g j c) (r:Arr k β w m os f)
 (F:Option Tmp) (A:o.dst=F) (h:∀w',Copied k β w w' g j (min f c) m os→K (a.put F (.int .i64 (min f c:Nat))) w'):
 if Region.wanted o (yielded l a.tmps)=true then Oper.wp P o a w K Q else E:=by
 have N:Region.wanted o (yielded l a.tmps)=true:=(by simp[Region.wanted,x]);rw[if_pos N];obtain⟨w',J,G⟩:=zgg (P:=P) (w:=w) k β n D o.type b M z p B c C f cs g j m os t y q u r;unfold Oper.wp execOp;simp only[I,resolve,invoke,builtin,Sem.run_bind,Sem.run_pure,Result.andThen_ok,List.map_toArray,List.map_cons,List.map_nil,H,L,J];subst A;exact h w' G
theorem made_bytes {w:World} {cs:Array Value} {n:Nat} (b:n≤cs.size):
 Cells (w.alloc (.cells cs 5)) w.heap.size 0 n∧Free (w.alloc (.cells cs 5)) w.heap.size 0 n:=by
 refine⟨fun i hi=>?_,fun i hi=>?_⟩
 ·rw[Nat.zero_add,World.cell?_alloc_at (w:=w) cs 5 w.heap.size i rfl,Array.getElem?_eq_getElem om];rfl
 ·rw[Nat.zero_add];exact World.frozen?_alloc_at (w:=w) cs 5 w.heap.size i rfl
theorem bitsMul_any (x y:Nat) (b:x<B) (c:y<B) (w:World):Calls Tryz.prog 106 #[.int .u64 x,.int .u64 y] w fun e w'=>e=.returned (.tuple #[.int .u64 (hi (x*y):Nat),.int .u64 (lo (x*y):Nat)])∧w'=w:=by have f:=zdm (x*y);have g:=hi_lt (Nat.mul_lt_mul'' b c);unfold B at f g;go_enter Tryz.func106,Tryz.ntmps106;go_wp2_with (go_at_call 85;refine(mul64 x y b c _).mono ?_;rintro e w' ⟨rfl,d⟩;subst d);go_ret2;exact⟨rfl,rfl⟩
theorem repeat_any (w:World) (y os cs n:Nat) (hs:Arr .u8 256 w y os 1) (F:word w y os=48) (ka:0<n) (hn:n≤8192):
 Calls Tryz.prog 70 #[.slice (some ⟨y,os,none⟩) 1 cs,.int .i64 n] w fun e w'=>∃f c:Nat,e=.returned (.slice (some ⟨f,0,none⟩) n c)∧n≤c∧c≤9223372036854775807∧w.heap.size≤f∧f<w'.heap.size∧Below w.heap.size w w'∧Free w' f 0 n∧
  (∀i,i<n→w'.cell? ⟨f,i,none⟩=some (.int .u8 48)):=by
 obtain⟨q,p,ea,o⟩:=Lib.run_makeNoZero (P:=Tryz.prog) w #[3] 91 5 zbe n om;have A:(callFunc 107 #[.int .i64 n]).run Tryz.prog w=.ok (.value (.slice (some ⟨w.heap.size,0,none⟩) n q.size)) (w.drew.drew.alloc (.cells q 5)):=(by rw[run_callFunc_extern Tryz.func107 kfl kfl kfl (e:=Extern.BytealgMakeNoZero.makeNoZero #[3] #[91]) kfl,p];rfl);have V:=bitsMul_any 1 n dd (by unfold B;omega) w;have m1:hi (1*n)=0:=(by unfold hi;omega);have m2:lo (1*n)=n:=(by unfold lo;omega);rw[m1,m2]at V;have J:=o (by unfold maxLen;omega);unfold maxLen at J;have ga:¬(n:Int)=0:=om;have ha:¬(n:Int)<0:=om;have ia:¬(8192:Int)<(n:Int):=om;have ja:¬(9223372036854775807:Int)<(n:Int):=om;have hb:y<w.heap.size:=hs.lt om;have HS:Hid _:=hs;have E:Hid _:=F;clear hs F p o m1 m2;go_enter Tryz.func70,Tryz.ntmps70;go_wp2_with (go_at_call 106;refine V.mono ?_;rintro e w' ⟨rfl,hw⟩;subst hw);obtain⟨T,W⟩:=made_bytes (w:=w') (cs:=q) ea;have B2:Below w'.heap.size w' (w'.alloc (Obj.cells q 5)).drew.drew:=(zao w' (Obj.cells q 5)).drew.drew;obtain⟨N,hr,b⟩:=zgg (P:=Tryz.prog) (w:=(w'.alloc (Obj.cells q 5)).drew.drew) .u8 256 91 91 3 5 zbe size5 (some ⟨w'.heap.size,0,none⟩) (some ⟨y,os,none⟩) n n 1 cs w'.heap.size 0 y os
  (Sl.mk _ _ _) (Sl.mk _ _ _) T W (zaf HS.out B2)
 rw[hr];have L:min 1 n=1:=om;rw[L]at b⊢;have l:word (w'.alloc (Obj.cells q 5)).drew.drew y os=48:=(by have g:=zb5 HS.out B2 (i:=0) om;rw[Nat.add_zero]at g;rw[g];exact E.out);have P3:∀i,i<1→N.cell? ⟨w'.heap.size,i,none⟩=some (.int .u8 48):=fun i hi=>by have g:=(b.arr i hi).1;rw[b.same i hi,show os+i=os by omega,l,Nat.zero_add]at g;exact g
 have U:Cells N w'.heap.size 0 n:=fun i hi=>by
  by_cases g:i<1
  ·rw[(b.arr i g).1];rfl
  ·have e:=b.chg.cell (0+i) om;rw[e];exact T i hi
 have C:w'.heap.size<(w'.alloc (Obj.cells q 5)).drew.drew.heap.size:=(by simp);have X:Free N w'.heap.size 0 n:=b.chg.free W (fun _=>C);have B3:Below w'.heap.size w' N:=B2.trans (b.chg.below (Nat.le_refl _) (by simp));have L3:w'.heap.size<N.heap.size:=Nat.lt_of_lt_of_le C b.chg.size;obtain⟨f,z⟩:∃x,x=w'.heap.size:=⟨_,rfl⟩;have r:Hid (f=w'.heap.size):=z;rw[←z]at P3 U X L3⊢;have Z:Hid _:=B3;clear hr b T W B2 A V z C l HS E B3 J;go_wp2;go_loopw [10] (fun s wr=>∃t:Nat,1≤t∧t≤n∧s=.int .i64 (t:Int)∧(∀i,i<t→wr.cell? ⟨f,i,none⟩=some (.int .u8 48))∧Cells wr f 0 n∧Free wr f 0 n∧f<wr.heap.size∧Below f w' wr)
  (fun s _=>n-(intOf s).toNat)
 case atStart=>exact⟨1,Nat.le_refl _,by omega,rfl,P3,U,X,L3,by have:=Z.out;rw[←r.out]at this;exact this⟩
 case round=>
  obtain⟨t,g,ht,rfl,D,R,G,I,S⟩:=hrel;clear P3 U X L3;by_cases M:t=n
  ·subst M;have HP:Hid _:=D;have HF:Hid _:=G;have HB:Hid _:=S;clear D G R S;go_wp2;go_ret;exact⟨f,_,rfl,Nat.le_refl _,by omega,by have:=r.out;omega,I,by have:=HB.out;rw[←r.out];exact this,HF.out,HP.out⟩
  ·have c1:(t:Int)<(n:Int):=om;have c2:¬n=t:=om;have e1:min (t:Int) (n:Int)=(t:Int):=om;go_wp2;have hA1:Cells wr f t (n-t):=fun i hi=>by have:=R (t+i) om;rwa [Nat.zero_add]at this
   have H:Free wr f t (n-t):=(by have:=G.sub (d:=t) (m:=n-t) om;rwa [Nat.zero_add]at this);have hA2:Arr .u8 256 wr f 0 t:=fun i hi=>by have e:=D i hi;rw[Nat.zero_add,zb9 (k:= .u8) (x:=48) e];exact⟨e,by omega⟩
   have c3:¬t=n:=M;have c4:t<n:=om;go_region_held_law (fun _=>True) (trivial)
    ((refine step_copyRow .u8 256 (by rfl) _ _ 91 91 (by rfl) 5 zbe size5 (some ⟨f,t,none⟩) (some ⟨f,0,none⟩) (n-t) (n-t) t n (by rfl) (by rfl) f t f 0 (Sl.mk _ _ _) (Sl.mk _ _ _) hA1 H hA2 (some 74) (by rfl) ?_;intro O b))
   clear hA1 H hA2 c3 c4;obtain⟨u,hu⟩:∃u,u=min t (n-t):=⟨_,rfl⟩;rw[←hu]at b⊢;have la:1≤u:=om;have fa:t+u≤n:=om;have HU:Hid _:=hu;have da:Hid (∀i,i<t+u→O.cell? ⟨f,i,none⟩=some (.int .u8 48)):=fun i hi=>by
    by_cases h2:i<t
    ·rw[b.chg.cell i om];exact D i h2
    ·obtain⟨j,rfl⟩:=Nat.exists_eq_add_of_le (show t≤i by omega);have h3:=(b.arr j om).1;have h4:=D j om;have h5:word wr.drew f (0+j)=48:=(by rw[Nat.zero_add];exact zb9 (k:= .u8) (x:=48) h4);rw[b.same j om,h5]at h3;exact h3
   have Y:Hid (Cells O f 0 n):=fun i hi=>by
    by_cases h2:i<t∨t+u≤i
    ·have e:=b.chg.cell (0+i) om;rw[e];exact R i hi
    ·obtain⟨j,rfl⟩:=Nat.exists_eq_add_of_le (show t≤i by omega);rw[Nat.zero_add,(b.arr j om).1];rfl
   have ba:Hid (Free O f 0 n):=b.chg.free G (fun _=>I);have ca:Hid (f<O.heap.size):=Nat.lt_of_lt_of_le I b.chg.size;have aa:Hid (Below f w' O):=S.drew.trans (b.chg.below (Nat.le_refl _) (Nat.le_of_lt I));clear b D R G I S hu;have i1:IntKind.i64.wrap ((t:Int)+(u:Int))=(t:Int)+(u:Int):=(by rw[IntKind.wrap_i64];omega);go_wp2;go_roundw
   case rel=>exact⟨t+u,by omega,fa,by go_num,da.out,Y.out,ba.out,ca.out,aa.out⟩
   case measure=>simp[intOf];omega
theorem i64_and_one (n:Int):bits .and .i64 n 1=n%2:=by have c:(BitVec.ofInt 64 1).toNat=2^1-1:=dd;have b:(BitVec.ofInt 64 n &&& BitVec.ofInt 64 1).toNat=(n%((2^64:Nat):Int)).toNat%2^1:=(by rw[BitVec.toNat_and,BitVec.toNat_ofInt,c,Nat.and_two_pow_sub_one_eq_mod]);show IntKind.i64.wrap ((BitVec.ofInt 64 n &&& BitVec.ofInt 64 1).toNat:Nat)=n%2;rw[b,IntKind.wrap_i64];omega
theorem pow_bound {a:Int} {L m:Nat} (h:a.natAbs<B^L):(a^m).natAbs<B^(L*m+1):=by
 induction m with
 |zero=>simp;decide
 |succ k ih=>rw[Int.pow_succ,Int.natAbs_mul,Nat.mul_succ,Nat.add_right_comm,Nat.pow_add];exact Nat.mul_lt_mul'' ih h
structure PowW (w wr:World) (bp:Nat) (s:Int) (ao:Option Addr) (n c:Nat):Prop where
 below:Below w.heap.size w wr
 hp:w.heap.size+1<bp
 lt:bp<wr.heap.size
 k0:wr.cell? ⟨w.heap.size,0,none⟩=some (.int .i64 s)
 k1:wr.cell? ⟨w.heap.size,1,none⟩=some (.slice ao n c)
 r0:wr.cell? ⟨w.heap.size+1,0,none⟩=some (.int .i64 0)
 r1:wr.cell? ⟨w.heap.size+1,1,none⟩=some (.slice none 0 0)
 f0:wr.frozen? ⟨w.heap.size+1,0,none⟩=false
 f1:wr.frozen? ⟨w.heap.size+1,1,none⟩=false
 g0:wr.frozen? ⟨bp,0,none⟩=false
 g1:wr.frozen? ⟨bp,1,none⟩=false
theorem PowW.step {w wr k:World} {b:Nat} {s:Int} {m:Option Addr} {n c:Nat} (h:PowW w wr b s m n c) (g:Below wr.heap.size wr k) (u1 u2:Value):
 PowW w ((k.setCell ⟨b,0,none⟩ u1).setCell ⟨b,1,none⟩ u2) b s m n c:=by
 have q:w.heap.size<wr.heap.size:=(by have:=h.lt;have:=h.hp;omega);have j:w.heap.size+1<wr.heap.size:=(by have:=h.lt;have:=h.hp;omega);have r:=h.hp;have d:=h.lt;have t:=g.size;have e:∀c i,c<wr.heap.size→c≠b→((k.setCell ⟨b,0,none⟩ u1).setCell ⟨b,1,none⟩ u2).cell? ⟨c,i,none⟩=wr.cell? ⟨c,i,none⟩:=fun c i l o=>by rw[zaa (.inl o),zaa (.inl o)];exact g.cell (p:=⟨c,i,none⟩) l
 have f:∀c i,c<wr.heap.size→((k.setCell ⟨b,0,none⟩ u1).setCell ⟨b,1,none⟩ u2).frozen? ⟨c,i,none⟩=wr.frozen? ⟨c,i,none⟩:=fun c i l=>by rw[World.frozen?_setCell,World.frozen?_setCell];exact g.frozen (p:=⟨c,i,none⟩) l
 refine⟨?_,r,by simp;omega,?_,?_,?_,?_,?_,?_,?_,?_⟩
 ·exact((h.below.trans (g.mono h.below.size)).setCell (by show w.heap.size≤b;omega) _).setCell (by show w.heap.size≤b;omega) _
 ·rw[e _ _ q om];exact h.k0
 ·rw[e _ _ q om];exact h.k1
 ·rw[e _ _ j om];exact h.r0
 ·rw[e _ _ j om];exact h.r1
 ·rw[f _ _ j];exact h.f0
 ·rw[f _ _ j];exact h.f1
 ·rw[f _ _ d];exact h.g0
 ·rw[f _ _ d];exact h.g1
theorem power_any (w:World) (va:Value) (a:Int) (L n:Nat) (ha:IsInt w va a) (hb:a.natAbs<B^L) (hn:n≤1048576) (hL:L*n≤274877906944) (bb:L≤274877906944):
 Calls Tryz.prog 88 #[va,.int .i64 n] w fun e w'=>∃v,e=.returned v∧Below w.heap.size w w'∧IsInt w' v (a^n):=by
 obtain⟨s,ao,k,c,rfl⟩:=ha.form;have hA:∀w1,Below w.heap.size w w1→IsInt w1 (.agg #[.int .i64 s,.slice ao k c]) a:=fun w1 h=>ha.below h;clear ha;have HB:Hid _:=hb;have e0:((n:Int))%18446744073709551616=(n:Int):=om;go_enter Tryz.func88,Tryz.ntmps88;go_wp2_with (go_at_call 16;fail);refine(zga _ 1 om om).mono ?_;rintro e g ⟨v2,rfl,d,ba⟩;obtain⟨R,M,P,N,rfl⟩:=ba.form;go_wp2_with (go_at_call 117;fail);have b2:=zd2 w (Obj.cells #[Value.int IntKind.i64 s,Value.slice ao k c] 24) (Obj.cells #[Value.int IntKind.i64 0,Value.slice none 0 0] 24);have J:((w.alloc (Obj.cells #[Value.int IntKind.i64 s,Value.slice ao k c] 24)).alloc (Obj.cells #[Value.int IntKind.i64 0,Value.slice none 0 0] 24)).heap.size=w.heap.size+1+1:=(by simp);have P0:PowW w (g.alloc (Obj.cells #[Value.int IntKind.i64 R,Value.slice M P N] 24)) g.heap.size s ao k c:=by
  have xa:=d.size;rw[J]at xa;have c0:=(d.cell (p:=⟨w.heap.size,0,none⟩) (by rw[J];show w.heap.size<_;omega)).trans (by simp[go_sem]:_=some (.int .i64 s));have c1:=(d.cell (p:=⟨w.heap.size,1,none⟩) (by rw[J];show w.heap.size<_;omega)).trans (by simp[go_sem]:_=some (.slice ao k c));have d0:=(d.cell (p:=⟨w.heap.size+1,0,none⟩) (by rw[J];show w.heap.size+1<_;omega)).trans (by simp[go_sem]:_=some (.int .i64 0));have d1:=(d.cell (p:=⟨w.heap.size+1,1,none⟩) (by rw[J];show w.heap.size+1<_;omega)).trans (by simp[go_sem]:_=some (.slice none 0 0));have f0:=(d.frozen (p:=⟨w.heap.size+1,0,none⟩) (by rw[J];show w.heap.size+1<_;omega)).trans (by simp[go_sem]:_=false);have f1:=(d.frozen (p:=⟨w.heap.size+1,1,none⟩) (by rw[J];show w.heap.size+1<_;omega)).trans (by simp[go_sem]:_=false);have B2:=(b2.trans (d.mono (by rw[J];omega)));have q:=zao g (Obj.cells #[Value.int IntKind.i64 R,Value.slice M P N] 24);exact⟨B2.trans (q.mono B2.size),by omega,by simp,(q.cell (p:=⟨w.heap.size,0,none⟩) (by show w.heap.size<_;omega)).trans c0,(q.cell (p:=⟨w.heap.size,1,none⟩) (by show w.heap.size<_;omega)).trans c1,
   (q.cell (p:=⟨w.heap.size+1,0,none⟩) (by show w.heap.size+1<_;omega)).trans d0,(q.cell (p:=⟨w.heap.size+1,1,none⟩) (by show w.heap.size+1<_;omega)).trans d1,
   (q.frozen (p:=⟨w.heap.size+1,0,none⟩) (by show w.heap.size+1<_;omega)).trans f0,(q.frozen (p:=⟨w.heap.size+1,1,none⟩) (by show w.heap.size+1<_;omega)).trans f1,
   World.frozen?_alloc_at (w:=g) _ _ g.heap.size 0 rfl,World.frozen?_alloc_at (w:=g) _ _ g.heap.size 1 rfl⟩
 have T:(g.alloc (Obj.cells #[Value.int IntKind.i64 R,Value.slice M P N] 24)).cell? ⟨g.heap.size,0,none⟩=some (.int .i64 R):=(by rw[World.cell?_alloc_at (w:=g) _ _ g.heap.size 0 rfl];rfl);have U:(g.alloc (Obj.cells #[Value.int IntKind.i64 R,Value.slice M P N] 24)).cell? ⟨g.heap.size,1,none⟩=some (.slice M P N):=(by rw[World.cell?_alloc_at (w:=g) _ _ g.heap.size 1 rfl];rfl);have I0:=ba.below (zao g (Obj.cells #[Value.int IntKind.i64 R,Value.slice M P N] 24));obtain⟨w3,ea⟩:∃x,x=g.alloc (Obj.cells #[Value.int IntKind.i64 R,Value.slice M P N] 24):=⟨_,rfl⟩;obtain⟨b,aa⟩:∃x,x=g.heap.size:=⟨_,rfl⟩;rw[←ea,←aa]at P0 T U;rw[←ea]at I0⊢;rw[←aa];clear ea aa d ba J b2;refine(len_any n (by unfold B;omega) _).mono ?_;rintro e w4 ⟨Lb,rfl,ya,O,ab⟩;subst ya;have la:n / 2^Lb=0:=by
  rcases O with⟨h1,h2⟩|⟨h1,h2,h3⟩
  ·rw[h1,Nat.zero_div]
  ·exact Nat.div_eq_of_lt h3
 clear O;go_wp2;go_loopw [6] (fun i wr=>∃j:Nat,j≤Lb∧i=.int .i64 ((j:Int)-1)∧PowW w wr b s ao k c∧∃s' W n' X,wr.cell? ⟨b,0,none⟩=some (.int .i64 s')∧wr.cell? ⟨b,1,none⟩=some (.slice W n' X)∧IsInt wr (.agg #[.int .i64 s',.slice W n' X]) (a^(n / 2^j)))
  (fun i _=>(intOf i+1).toNat)
 case atStart=>exact⟨Lb,Nat.le_refl _,by go_num,P0,R,M,P,N,T,U,by rw[la,Int.pow_zero];exact I0⟩
 case round=>
  obtain⟨j,hj,rfl,Z,s',W,n',X,g0,g1,Y⟩:=hrel;clear P0 T U I0 la;obtain⟨l,eb,G,k0,k1,r0,r1,f0,f1,ta,ua⟩:=id Z;by_cases h0:j=0
  ·subst h0;rw[Nat.pow_zero,Nat.div_one]at Y;have HE:Hid _:=((l.setCell (p:=⟨w.heap.size+1,0,none⟩) (by simp) (.int .i64 s')).setCell (p:=⟨w.heap.size+1,1,none⟩) (by simp) (.slice W n' X));have HI:Hid _:=Y.stored (u1:= .int .i64 s') (u2:= .slice W n' X) r0 r1 (by intro q;simp);clear Y Z hA l;go_wp2;refine bodyPost_ret (v:= .agg #[.int .i64 s',.slice W n' X]) rt rfl ?_;exact⟨_,rfl,HE.out,HI.out⟩
  ·obtain⟨i,rfl⟩:∃i,j=i+1:=⟨j-1,by omega⟩;have he:((i+1:Nat):Int)-1=(i:Int):=om;rw[he];have hq:n / 2^i=n / 2^(i+1)+n / 2^(i+1)+n / 2^i%2:=(by rw[Nat.pow_succ,←Nat.div_div_eq_div_mul];omega);have wa:n / 2^i≤n:=Nat.div_le_self _ _;obtain⟨q,da⟩:∃q,n / 2^(i+1)=q:=⟨_,rfl⟩;obtain⟨t,C⟩:∃t,n / 2^i=t:=⟨_,rfl⟩;rw[da,C]at hq;rw[C]at wa;rw[da]at Y;have z:=pow_bound (m:=q) HB.out;have cb:L*q≤274877906944:=Nat.le_trans (Nat.mul_le_mul_left L om) hL;have V:=zct wr _ _ _ _ (L*q+1) (L*q+1) Y Y z z om;rw[←Int.pow_add]at V;have fb:(n:Int) / 2^i=(t:Int):=(by rw[zbv,C]);have o:bits .and .i64 (t:Int) 1=((t%2:Nat):Int):=(by rw[i64_and_one];omega);have db:L*(q+q)≤274877906944:=Nat.le_trans (Nat.mul_le_mul_left L om) hL;have za:Hid _:=l;have ia:Hid (n / 2^i=t):=C;clear he z da C l Y k0 k1 r0 r1 f0 f1;go_wp2_with (go_at_call 26;fail);refine V.mono ?_;rintro e w5 ⟨v5,rfl,f,H⟩;clear V;obtain⟨S,E,I,F,rfl⟩:=H.form;have P5:=Z.step f (.int .i64 S) (.slice E I F);have q0:=(f.cell (p:=⟨b,0,none⟩) G).trans g0;have q1:=(f.cell (p:=⟨b,1,none⟩) G).trans g1;have p0:=(f.frozen (p:=⟨b,0,none⟩) G).trans ta;have p1:=(f.frozen (p:=⟨b,1,none⟩) G).trans ua;have I5:=H.stored (u1:= .int .i64 S) (u2:= .slice E I F) q0 q1 (by intro q;simp);have T:((w5.setCell ⟨b,0,none⟩ (.int .i64 S)).setCell ⟨b,1,none⟩ (.slice E I F)).cell? ⟨b,0,none⟩=some (.int .i64 S):=(by rw[zaa (.inr om),zav q0]);have U:((w5.setCell ⟨b,0,none⟩ (.int .i64 S)).setCell ⟨b,1,none⟩ (.slice E I F)).cell? ⟨b,1,none⟩=some (.slice E I F):=(by rw[zav (u:= .slice W n' X) (by rw[zaa (.inr om)];exact q1)]);have y:Hid _:=P5;have oa:Hid _:=I5;have fa:Hid _:=T;have ga:Hid _:=U;by_cases A:t%2=1
   ·have z:bits .and .i64 (t:Int) 1=1:=(by rw[o,A];rfl);have ht:t=q+q+1:=om;have HT:Hid _:=ht;have ka:b<((w5.setCell ⟨b,0,none⟩ (.int .i64 S)).setCell ⟨b,1,none⟩ (.slice E I F)).heap.size:=y.out.lt;have ja:=pow_bound (m:=q+q) HB.out;have V:=zct ((w5.setCell ⟨b,0,none⟩ (.int .i64 S)).setCell ⟨b,1,none⟩ (.slice E I F)) _ _ _ _ (L*(q+q)+1) L I5 (hA _ P5.below) ja HB.out om;rw[←Int.pow_succ,show(q+q).succ=t from ht.symm]at V;have ra:=(f.cell (p:=⟨w.heap.size,0,none⟩) (by show w.heap.size<_;omega)).trans Z.k0;have sa:=(f.cell (p:=⟨w.heap.size,1,none⟩) (by show w.heap.size<_;omega)).trans Z.k1;have D:Hid _:=ka;clear P5 I5 T U o H Z g0 g1 f hq ht ja A ka;go_wp2_with (go_at_call 26;fail);refine V.mono ?_;rintro e w6 ⟨v6,rfl,r,ca⟩;clear V q0 q1 p0 p1 ra sa;obtain⟨s6,a6,n6,c6,rfl⟩:=ca.form;have P6:=y.out.step r (.int .i64 s6) (.slice a6 n6 c6);have q0:=(r.cell (p:=⟨b,0,none⟩) D.out).trans fa.out;have q1:=(r.cell (p:=⟨b,1,none⟩) D.out).trans ga.out;have p0:=(r.frozen (p:=⟨b,0,none⟩) D.out).trans y.out.g0;have p1:=(r.frozen (p:=⟨b,1,none⟩) D.out).trans y.out.g1;have I6:=ca.stored (u1:= .int .i64 s6) (u2:= .slice a6 n6 c6) q0 q1 (by intro q;simp);have qa:Hid _:=P6;have pa:Hid _:=I6;have ma:Hid (((w6.setCell ⟨b,0,none⟩ (.int .i64 s6)).setCell ⟨b,1,none⟩ (.slice a6 n6 c6)).cell? ⟨b,0,none⟩=some (.int .i64 s6)):=(by show _=_;rw[zaa (.inr om),zav q0]);have na:Hid (((w6.setCell ⟨b,0,none⟩ (.int .i64 s6)).setCell ⟨b,1,none⟩ (.slice a6 n6 c6)).cell? ⟨b,1,none⟩=some (.slice a6 n6 c6)):=(by show _=_;rw[zav (u:= .slice E I F) (by rw[zaa (.inr om)];exact q1)]);clear P6 I6 ca r;go_wp2;go_roundw
    case rel=>exact⟨i,by omega,by go_num,qa.out,s6,a6,n6,c6,ma.out,na.out,by rw[ia.out];exact pa.out⟩
    case measure=>simp[intOf]
   ·have z:bits .and .i64 (t:Int) 1=0:=(by rw[o,show t%2=0 by omega];rfl);have ht:t=q+q:=om;have HT:Hid _:=ht;clear P5 I5 T U o H Z g0 g1 f A hq ht;go_wp2;go_roundw
    case rel=>exact⟨i,by omega,by go_num,y.out,S,E,I,F,fa.out,ga.out,by rw[ia.out,HT.out];exact oa.out⟩
    case measure=>simp[intOf]
theorem zff:Tryz.prog.underlying 93=some (.slice 22):=by kernel_rfl
theorem info22:(Tryz.prog.info? 22).map (fun i=>(i.zero,i.size,i.bytes))=some (some (.slice none 0 0),1,24):=by kernel_rfl
theorem info_parts' {o:Option TypeInfo} {z:Value} {s b:Nat} (h:o.map (fun i=>(i.zero,i.size,i.bytes))=some (some z,s,b)):∃i,o=some i∧i.zero=some z∧i.size=s∧i.bytes=b:=by
 cases o with
 |none=>simp at h
 |some i=>simp at h;exact⟨i,rfl,h.1,h.2.1,h.2.2⟩
structure Pows (w:World) (base D:Nat) (v:Value) (xs:List Value):Prop where
 row:w.ownsRow base 22 1 v xs.length xs
 mag:∀t (h:t<xs.length),∃n,Mag w xs[t] (10^(D*2^t)) n∧n≤128*2^t
 off:∀t (h:t<xs.length),∀b o n c:Nat,xs[t]=.slice (some ⟨b,o,none⟩) n c→some b≠v.ownBlock
theorem below_grownBy {w w':World} (h:Below w.heap.size w w'):w.grownBy w' none:=⟨h.os,h.tape,h.output,h.size,fun k b _=>h.block k b⟩
theorem Pows.below {w w':World} {b D:Nat} {v:Value} {xs:List Value} (h:Pows w b D v xs) (c:Below w.heap.size w w'):Pows w' b D v xs:=by
 refine⟨h.row.kept (below_grownBy c) ?_,fun t g=>?_,h.off⟩
 ·cases hv:v.ownBlock with
  |none=>exact .inl rfl
  |some k=>exact .inr (by simp)
 ·obtain⟨n,d,f⟩:=h.mag t g;exact⟨n,d.below c,f⟩
theorem Pows.cell {w:World} {c D:Nat} {v:Value} {xs:List Value} (h:Pows w c D v xs) (k:0<xs.length):∃g b,v=.slice (some ⟨g,0,none⟩) xs.length b∧c≤g∧g<w.heap.size∧xs.length≤b∧b≤maxLen∧
 ∀t (j:t<xs.length),w.cell? ⟨g,t,none⟩=some xs[t]:=by
 rcases h.row.2 with⟨rfl,hn⟩|⟨g,b,cur,rfl,hb,hg,hnc,hcm,hsz,htk⟩
 ·omega
 ·refine⟨g,b,rfl,hb,(Array.getElem?_eq_some_iff.1 hg).1,hnc,hcm,fun t j=>?_⟩;have f:cur.toList[t]? =some xs[t]:=by
   have d:(cur.toList.take (xs.length*1))[t]? =some xs[t]:=(by rw[htk];simp);rw[List.getElem?_take]at d
   split at d
   ·exact d
   ·simp at d
  unfold World.cell?;rw[show(⟨g,t,none⟩:Addr).block=g from rfl,hg];simpa using f
theorem Mag.grown {w w':World} {v:Value} {x n:Nat} {row:Option Nat} (h:Mag w v x n) (r:w.grownBy w' row) (s:∀b o n c:Nat,v=.slice (some ⟨b,o,none⟩) n c→some b≠row):Mag w' v x n:=by
 obtain⟨m,b,o,c,rfl,g,k,j,l,f⟩:=h;by_cases p:n=0
 ·subst p;exact⟨m,b,o,c,rfl,g,k,fun i hi=>by omega,by rw[←l];rfl,.inl rfl⟩
 ·obtain rfl:=g om;have q:=s b o n c rfl;have d:∀i,i<n→w'.cell? ⟨b,o+i,none⟩=w.cell? ⟨b,o+i,none⟩:=fun i hi=>World.cell?_of_block (r.block b (j.lt om) q);refine⟨_,b,o,c,rfl,g,k,fun i hi=>?_,(za1 fun i hi=>zac (d i hi)).trans l,?_⟩
  ·rw[zac (d i hi),d i hi];exact j i hi
  ·rcases f with f|f
   ·exact .inl f
   ·right;rw[zac (d (n-1) om)];exact f
theorem Pows.appended {w w':World} {d D m g:Nat} {v u:Value} {xs:List Value} {n:Nat} (h:Pows w d D v xs) (B:Mag w u (10^(D*2^xs.length)) n) (A:n≤128*2^xs.length)
 (k:∀b o n c:Nat,u=.slice (some ⟨b,o,none⟩) n c→some b≠v.ownBlock∧b<w.heap.size) (q:∀t (x:t<xs.length),∀b o n c:Nat,xs[t]=.slice (some ⟨b,o,none⟩) n c→b<w.heap.size)
 (r:w'.ownsRow d 22 1 (.slice (some ⟨g,0,none⟩) (xs.length+1) m) (xs.length+1) (xs++[u])) (z:w.grownBy w' v.ownBlock) (p:v.ownBlock=some g∨g=w.heap.size):
 Pows w' d D (.slice (some ⟨g,0,none⟩) (xs.length+1) m) (xs++[u]):=by
 refine⟨by rw[List.length_append];exact r,fun t x=>?_,fun t x b o s c j=>?_⟩
 ·rw[List.length_append,List.length_singleton]at x;rcases Nat.lt_or_ge t xs.length with f|f
  ·rw[List.getElem_append_left f];obtain⟨s,l,y⟩:=h.mag t f;exact⟨s,l.grown z (h.off t f),y⟩
  ·obtain rfl:t=xs.length:=om;rw[List.getElem_append_right f];simp only[Nat.sub_self,List.getElem_singleton];exact⟨n,B.grown z (fun b o n c j=>(k b o n c j).1),A⟩
 ·rw[List.length_append,List.length_singleton]at x;show some b≠some g;rcases Nat.lt_or_ge t xs.length with f|f
  ·rw[List.getElem_append_left f]at j;rcases p with l|l
   ·rw[←l];exact h.off t f b o s c j
   ·have:=q t f b o s c j;simp;omega
  ·obtain rfl:t=xs.length:=om;rw[List.getElem_append_right f]at j;simp only[Nat.sub_self,List.getElem_singleton]at j;have y:=k b o s c j;rcases p with l|l
   ·rw[←l];exact y.1
   ·simp;omega
end Go.Proofs.YtjlkplidpdhgbaaGreatDoor
