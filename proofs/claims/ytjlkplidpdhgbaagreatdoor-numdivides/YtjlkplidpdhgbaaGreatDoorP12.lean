/- A part of the proof: H6, G6. -/
import Derived.Test.YtjlkplidpdhgbaaGreatDoorP00
import Derived.Test.YtjlkplidpdhgbaaGreatDoorP11
import Derived.Test.YtjlkplidpdhgbaaGreatDoorP04
import Derived.Deep.LoopGhost
import Derived.Test.YtjlkplidpdhgbaaGreatDoorP10
set_option linter.all false
set_option maxRecDepth 10000
set_option maxHeartbeats 4000000
namespace Go.Proofs.YtjlkplidpdhgbaaGreatDoor
open Go Go.Proofs Go.RowKit Go.Rad
open _root_.Rad Rl
inductive NR (base:Nat) (w:World) (v:Value) (z:Nat):Prop
 |mk (g n:Nat) (hv:v=.slice (some ⟨g,0,none⟩) n n) (hb:base≤g) (hl:g<w.heap.size) (h0:0<n) (ha:Arr .u64 B w g 0 n) (hf:Free w g 0 n) (hx:num B w g 0 n=z) (ht:B^(n-1)≤z)
theorem NR.below {base:Nat} {w w':World} {v:Value} {z:Nat} (h:NR base w v z) (b:Below w.heap.size w w'):NR base w' v z:=by obtain⟨g,n,o,f,c,j,d,k,l,m⟩:=h;exact .mk g n o f (Nat.lt_of_lt_of_le c b.size) j (zae d b) (freeB k c b) ((zah d b).trans l) m
theorem Mag.blk {w w':World} {b o c n x:Nat} (h:Mag w (.slice (some ⟨b,o,none⟩) n c) x n) (g:0<n) (e:w'.heap[b]? =w.heap[b]?):Mag w' (.slice (some ⟨b,o,none⟩) n c) x n:=by obtain⟨p,o',q,f,j,d,m,k⟩:=h.row g;simp only[Value.slice.injEq,Option.some.injEq,Addr.mk.injEq,and_true,true_and]at f;obtain⟨⟨rfl,rfl⟩,rfl⟩:=f;have l:∀i,word w' b i=word w b i:=fun i=>zab (World.cell?_of_block e);exact⟨_,b,o,c,rfl,Sl.mk _ _ _,j,(zcs d e).1,(zcs d e).2.trans m,.inr (by rw[l];exact k)⟩
theorem NR.of {base:Nat} {w w':World} {z n:Nat} (h:NRow w w' z n) (c:base≤w.heap.size) (d:0<z):NR base w' (.slice (some ⟨w.heap.size,0,none⟩) n n) z:=by
 have b:0<n:=Nat.pos_of_ne_zero fun e=>by have:=h.hm.zero_iff.2 e;omega
 exact .mk _ n rfl c (h.ha.lt b) b h.ha h.hf h.num (h.hm.ge b)
inductive PadI (base:Nat) (w:World) (p n' X Y bx cx by' cy U V n g cg:Nat) (mi:Bool) (gk:Nat) (wr:World):Prop
 |mk (k bu cu:Nat) (us:List Nat) (hk:k+gk=n) (hb:Below base w wr) (c:ChC wr p (.slice (some ⟨bx,0,none⟩) n' cx) (.slice (some ⟨by',0,none⟩) n' cy) true (.slice (some ⟨bu,0,none⟩) k cu) (.slice (some ⟨g,0,none⟩) n cg) mi)
  (r:XY base wr p n' X Y bx cx by' cy) (wu:Wr wr base bu k cu us) (eu:lv B us=U) (wv:∃vs,Wr wr base g n cg vs∧lv B vs=V) (a:bu≠g∧bu≠p∧bu≠bx∧bu≠by') (k0:0<k)
theorem stepF_any (base:Nat) (w:World) (p n X Y a b:Nat) (hC:ChF base w p n X Y a b) (fc:0<Y) (gb:base≤w.heap.size) (qe:b<B^157):
 Calls Tryz.prog 125 #[.pointer (some ⟨p,0,none⟩)] w fun e w'=>e=.returned (.tuple #[])∧Below base w w'∧ChF base w' p n Y (X%Y) a b:=by
 obtain⟨x,H,j,G,m,U,V,bu,cu,bv,cv,mi,C,R,nd,L⟩:=hC;obtain⟨i0,ve,ze,uf,vf⟩:=info_parts zb0;have rd:X / Y*Y+X%Y=X:=Nat.div_add_mod' X Y;have lb:0<X / Y:=Nat.div_pos R.le fc;have L2:=L.step rd lb;have HZ:Hid (0<U+X / Y*V):=by
  show 0<U+X / Y*V;have T:=Nat.le_mul_of_pos_left V lb;rcases L2.o with h|h
  ·exact h.2
  ·omega
 have jd:Hid (V≤U+X / Y*V∧U+X / Y*V<B^157):=(by have F:=L2.vle fc;have T:=Nat.le_mul_of_pos_left V lb;exact⟨by omega,by omega⟩);have je:Hid (Rl a b Y (X%Y) V (U+X / Y*V) (!mi)):=L2;have me:Hid (X<B^n):=(by rw[←R.ex];exact za1 R.ax);have ke:Hid (0<X / Y):=lb;have HC:Hid (ChC w p (.slice (some ⟨x,0,none⟩) n H) (.slice (some ⟨j,0,none⟩) n G) true (.slice (some ⟨bu,0,none⟩) m cu) (.slice (some ⟨bv,0,none⟩) m cv) mi):=C;have HR:Hid (XY base w p n X Y x H j G):=R;have HU:Hid (UV base w p x j m U V bu cu bv cv):=nd;have ec:Hid (Y≠0):=(by show Y≠0;omega);have yc:Hid (Y≤X):=R.le;have rb:Hid (n≤maxLen):=(by have:=R.nm;show n≤maxLen;unfold maxLen;omega);have hn:=R.nm;have qf:=R.cx1;have rf:=R.cy1;have ha:Hid (base≤w.heap.size):=gb;have AX:∀t,Below w.heap.size w t→Arr .u64 B t x 0 n∧num B t x 0 n=X:=fun t h=>⟨zae R.ax h,(zah R.ax h).trans R.ex⟩;have AY:∀t,Below w.heap.size w t→Arr .u64 B t j 0 n∧num B t j 0 n=Y:=fun t h=>⟨zae R.ay h,(zah R.ay h).trans R.ey⟩;obtain⟨lp,k0,k1,k2,k3,k4,-,-,-,-,-,-⟩:=id C;clear C R nd L L2 gb fc rd lb qe k3 k4;go_enter Tryz.func125,Tryz.ntmps125;go_wp2;refine zac (fun y=>y=w) rfl ?_;rintro y rfl;refine zaq zbf [⟨6,[],[],[0]⟩,⟨7,[0],[0],[]⟩,⟨8,[1],[0,1],[]⟩,⟨9,[2],[0,1,2],[]⟩,⟨10,[],[],[0]⟩,⟨11,[4],[4],[]⟩,⟨12,[5],[4,5],[]⟩,⟨13,[6],[4,5,6],[]⟩,⟨14,[7],[4,5,6,7],[]⟩,⟨15,[3,8],[0,1,2,3,4,5,6,7,8],[]⟩,⟨16,[],[],[0]⟩,⟨17,[10],[10],[]⟩,⟨18,[11],[10,11],[]⟩,⟨19,[12],[10,11,12],[]⟩,⟨20,[],[],[0]⟩,⟨21,[14],[14],[]⟩,⟨22,[15],[14,15],[]⟩,⟨23,[16],[14,15,16],[]⟩,⟨24,[17],[14,15,16,17],[]⟩,⟨25,[9,13,18],[0,1,2,3,4,5,6,7,8,9,10,11,12,13,14,15,16,17,18],[]⟩,⟨26,[9,19],[0,1,2,3,4,5,6,7,8,9,10,11,12,13,14,15,16,17,18,19],[]⟩,⟨5,[20],[0,1,2,3,4,5,6,7,8,9,10,11,12,13,14,15,16,17,18,19,20],[]⟩,⟨27,[21],[0,1,2,3,4,5,6,7,8,9,10,11,12,13,14,15,16,17,18,19,20,21],[]⟩,⟨28,[21],[0,1,2,3,4,5,6,7,8,9,10,11,12,13,14,15,16,17,18,19,20,21],[]⟩,⟨2,[0,1,2,3,4,5,6,7,8,9,10,11,12,13,14,15,16,17,18,19,20,21,22],[0,1,2,3,4,5,6,7,8,9,10,11,12,13,14,15,16,17,18,19,20,21,22],[]⟩,⟨3,[0,1,2,3,4,5,6,7,8,9,10,11,12,13,14,15,16,17,18,19,20,21,22,23,24],[0,1,2,3,4,5,6,7,8,9,10,11,12,13,14,15,16,17,18,19,20,21,22,23,24],[]⟩] [] kfl 120 rfl kfl (fun (i:Nat) (v:Value) (wq:World)=>match i with|0=>v=.pointer (some ⟨p,0,none⟩)|1=>v=.pointer (some ⟨p,0,none⟩)|2=>v=.pointer (some ⟨p,0,none⟩)|3=>v=.slice (some ⟨x,0,none⟩) n (H)|4=>v=.pointer (some ⟨p,0,none⟩)|5=>v=.pointer (some ⟨p,0,none⟩)|6=>v=.pointer (some ⟨p,0,none⟩)|7=>v=.slice (some ⟨x,0,none⟩) n (H)|8=>v=.int .i64 (((n:Nat):Int))|9=>∃k,k≤n∧Mag wq v X k|10=>v=.pointer (some ⟨p,0,none⟩)|11=>v=.pointer (some ⟨p,0,none⟩)|12=>v=.pointer (some ⟨p,1,none⟩)|13=>v=.slice (some ⟨j,0,none⟩) n (G)|14=>v=.pointer (some ⟨p,0,none⟩)|15=>v=.pointer (some ⟨p,0,none⟩)|16=>v=.pointer (some ⟨p,1,none⟩)|17=>v=.slice (some ⟨j,0,none⟩) n (G)|18=>v=.int .i64 (((n:Nat):Int))|19=>∃k,k≤n∧Mag wq v Y k|20=>∃D E nq M,v=.tuple #[D,E]∧Mag wq D (X / Y) nq∧Mag wq E (X%Y) M∧Fr y.heap.size E∧Fr y.heap.size D|21=>∃D E nq M,v=.tuple #[D,E]∧Mag wq D (X / Y) nq∧Mag wq E (X%Y) M∧Fr y.heap.size E∧Fr y.heap.size D|22=>∃n,Mag wq v (X / Y) n∧Fr y.heap.size v|23=>∃n,Mag wq v (X%Y) n∧Fr y.heap.size v|24=>∃n,Mag wq v (X / Y) n∧Fr y.heap.size v|25=>∃n,Mag wq v (X%Y) n∧Fr y.heap.size v|_=>True) (fun _ wq=>Below y.heap.size y wq) (fun t wy=>Below t.heap.size t wy) (zz).drew (fun i v t wy h hx=>match i,h with|0,h=>h|1,h=>h|2,h=>h|3,h=>h|4,h=>h|5,h=>h|6,h=>h|7,h=>h|8,h=>h|10,h=>h|11,h=>h|12,h=>h|13,h=>h|14,h=>h|15,h=>h|16,h=>h|17,h=>h|18,h=>h|9,h=>by obtain⟨k,F,T⟩:=h;exact⟨k,F,T.below hx⟩|19,h=>by obtain⟨k,F,T⟩:=h;exact⟨k,F,T.below hx⟩|20,h=>by obtain⟨D,E,nq,M,h0,F,T,h3⟩:=h;exact⟨D,E,nq,M,h0,F.below hx,T.below hx,h3⟩|21,h=>by obtain⟨D,E,nq,M,h0,F,T,h3⟩:=h;exact⟨D,E,nq,M,h0,F.below hx,T.below hx,h3⟩|22,h=>by obtain⟨n,h,F⟩:=h;exact⟨n,h.below hx,F⟩|23,h=>by obtain⟨n,h,F⟩:=h;exact⟨n,h.below hx,F⟩|24,h=>by obtain⟨n,h,F⟩:=h;exact⟨n,h.below hx,F⟩|25,h=>by obtain⟨n,h,F⟩:=h;exact⟨n,h.below hx,F⟩|n+26,_=>trivial) ?_ ?_
 ·intro i o r s l L fr t A hL lc ic ib d u;clear hL lc ic ib
  match i,s,l with
  |0,s,l=>?_
  |1,s,l=>?_
  |2,s,l=>?_
  |3,s,l=>?_
  |4,s,l=>?_
  |5,s,l=>?_
  |6,s,l=>?_
  |7,s,l=>?_
  |8,s,l=>?_
  |9,s,l=>obtain rfl:=oi s;obtain rfl:=oi l;have e3:=evs 9 (d 3 dd _ rfl);have e8:=evs 14 (d 8 dd _ rfl);clear d u;refine zam rfl rfl fun K hK=>?_;go_simp;refine(za3 t (some ⟨x,0,none⟩) x 0 n _ n (Sl.mk _ _ _) om rb.out rb.out (AX t A).1).mono ?_;rintro e wy ⟨v4,k4,rfl,nc,kb,fa,J⟩;subst wy;exact hK _ _ ⟨⟨k4,fa,by rw[Nat.min_self,(AX t A).2]at J;exact J⟩,A,zz,nn⟩
  |10,s,l=>?_
  |11,s,l=>?_
  |12,s,l=>?_
  |13,s,l=>?_
  |14,s,l=>?_
  |15,s,l=>?_
  |16,s,l=>?_
  |17,s,l=>?_
  |18,s,l=>?_
  |19,s,l=>obtain rfl:=oi s;obtain rfl:=oi l;have na:=evs 19 (d 13 dd _ rfl);have pa:=evs 24 (d 18 dd _ rfl);clear d u;refine zam rfl rfl fun K hK=>?_;go_simp;refine(za3 t (some ⟨j,0,none⟩) j 0 n _ n (Sl.mk _ _ _) om rb.out rb.out (AY t A).1).mono ?_;rintro e wy ⟨v4,k4,rfl,nc,kb,fa,J⟩;subst wy;exact hK _ _ ⟨⟨k4,fa,by rw[Nat.min_self,(AY t A).2]at J;exact J⟩,A,zz,nn⟩
  |20,s,l=>obtain rfl:=oi s;obtain rfl:=oi l;obtain⟨u9,e9,p9⟩:=evr 15 (P:=fun u9=>∃k,k≤n∧Mag t u9 X k) (d 9 dd _ rfl);obtain⟨u19,da,ra⟩:=evr 25 (P:=fun u19=>∃k,k≤n∧Mag t u19 Y k) (d 19 dd _ rfl);clear d u;refine zam rfl rfl fun K hK=>?_;obtain⟨k9,h9,p9⟩:=p9;obtain⟨af,mf,ra⟩:=ra;go_simp;refine(zdn t _ _ _ _ k9 af p9 ra (Nat.pos_of_ne_zero (fun h=>ec.out (ra.zero_iff.2 h))) om om).mono ?_;rintro e wy ⟨D,E,nq,M,rfl,hb,wb,ca,jb⟩;exact hK _ _ ⟨⟨D,E,nq,M,rfl,wb,ca,Fr_mono A.size (jb yc.out).1,Fr_mono A.size (jb yc.out).2⟩,A.trans (hb.mono A.size),hb,nn⟩
  |21,s,l=>?_
  |22,s,l=>obtain rfl:=oi s;obtain rfl:=oi l;obtain⟨u21,ba,O⟩:=evr 5 (P:=fun u21=>∃D E nq M,u21=.tuple #[D,E]∧Mag t D (X / Y) nq∧Mag t E (X%Y) M∧Fr y.heap.size E∧Fr y.heap.size D) (d 21 dd _ rfl);clear d u;refine zam rfl rfl fun K hK=>?_;obtain⟨D,E,nq,M,rfl,wb,ca,jb,xd⟩:=O;go_simp;exact hK _ _ ⟨⟨nq,wb,xd⟩,A,zz,nn⟩
  |23,s,l=>obtain rfl:=oi s;obtain rfl:=oi l;obtain⟨u21,ba,O⟩:=evr 5 (P:=fun u21=>∃D E nq M,u21=.tuple #[D,E]∧Mag t D (X / Y) nq∧Mag t E (X%Y) M∧Fr y.heap.size E∧Fr y.heap.size D) (d 21 dd _ rfl);clear d u;refine zam rfl rfl fun K hK=>?_;obtain⟨D,E,nq,M,rfl,wb,ca,jb,xd⟩:=O;go_simp;exact hK _ _ ⟨⟨M,ca,jb⟩,A,zz,nn⟩
  |24,s,l=>?_
  |25,s,l=>?_
  |n+26,s,l=>exact absurd l (by simp)
  all_goals
   obtain rfl:=oi s;obtain rfl:=oi l;simp only[uxw,uw,evt]at d u;have c0:=(A.cell (p:=⟨p,0,none⟩) lp).trans k0;have c1:=(A.cell (p:=⟨p,1,none⟩) lp).trans k1;refine zam rfl rfl fun K hK=>?_ <;> (go_simp;exact hK _ _ ⟨(by first|rfl|exact d|exact d.1|exact d.2|(simp only[d];done)),A,zz,nn⟩)
 ·intro vs I f N db;clear db;have e0:vs 0=_:=f 0 dd;have e1:vs 1=_:=f 1 dd;have e2:vs 2=_:=f 2 dd;have e3:vs 3=_:=f 3 dd;have e4:vs 4=_:=f 4 dd;have e5:vs 5=_:=f 5 dd;have e6:vs 6=_:=f 6 dd;have e7:vs 7=_:=f 7 dd;have e8:vs 8=_:=f 8 dd;obtain⟨u9,e9,p9⟩:∃u9,vs 9=u9∧(∃k,k≤n∧Mag I u9 X k):=⟨_,rfl,f 9 dd⟩;have ma:vs 10=_:=f 10 dd;have wa:vs 11=_:=f 11 dd;have xa:vs 12=_:=f 12 dd;have na:vs 13=_:=f 13 dd;have oa:vs 14=_:=f 14 dd;have ya:vs 15=_:=f 15 dd;have za:vs 16=_:=f 16 dd;have ab:vs 17=_:=f 17 dd;have pa:vs 18=_:=f 18 dd;obtain⟨u19,da,ra⟩:∃u19,vs 19=u19∧(∃k,k≤n∧Mag I u19 Y k):=⟨_,rfl,f 19 dd⟩;obtain⟨u20,qa,ga⟩:∃u20,vs 20=u20∧(∃D E nq M,u20=.tuple #[D,E]∧Mag I D (X / Y) nq∧Mag I E (X%Y) M∧Fr y.heap.size E∧Fr y.heap.size D):=⟨_,rfl,f 20 dd⟩;obtain⟨u21,ba,O⟩:∃u21,vs 21=u21∧(∃D E nq M,u21=.tuple #[D,E]∧Mag I D (X / Y) nq∧Mag I E (X%Y) M∧Fr y.heap.size E∧Fr y.heap.size D):=⟨_,rfl,f 21 dd⟩;obtain⟨u22,bb,rc⟩:∃u22,vs 22=u22∧(∃n,Mag I u22 (X / Y) n∧Fr y.heap.size u22):=⟨_,rfl,f 22 dd⟩;obtain⟨u23,cb,sc⟩:∃u23,vs 23=u23∧(∃n,Mag I u23 (X%Y) n∧Fr y.heap.size u23):=⟨_,rfl,f 23 dd⟩;obtain⟨u24,od,ef⟩:∃u24,vs 24=u24∧(∃n,Mag I u24 (X / Y) n∧Fr y.heap.size u24):=⟨_,rfl,f 24 dd⟩;obtain⟨u25,pd,ff⟩:∃u25,vs 25=u25∧(∃n,Mag I u25 (X%Y) n∧Fr y.heap.size u25):=⟨_,rfl,f 25 dd⟩;simp only[zbx,Nat.reduceAdd,e0,e1,e2,e3,e4,e5,e6,e7,e8,e9,ma,wa,xa,na,oa,ya,za,ab,pa,da,qa,ba,bb,cb,od,pd,Act.put,ll];clear f e0 e1 e2 e3 e4 e5 e6 e7 e8 e9 ma wa xa na oa ya za ab pa da qa ba bb cb od pd;obtain⟨nq,hq,vd⟩:=ef;obtain⟨M,l,wd⟩:=ff;have kc:0<nq:=Nat.pos_of_ne_zero fun e=>by have:=hq.zero_iff.2 e;have:=ke.out;omega
  have ae:nq≤n:=hq.len_le (Nat.lt_of_le_of_lt (Nat.div_le_self _ _) me.out);obtain⟨bq,oq,cq,rfl,-,-,-,-⟩:=hq.row kc;have re:=vd _ _ _ _ rfl;obtain⟨ar,br,qc,cr,rfl,xb,td,fb,pc,be⟩:=l;have C1:=HC.out.below N;have R1:=HR.out.below N;have U1:=HU.out.below N;have sd:Below base y I:=N.mono ha.out;have lf:x<y.heap.size:=HR.out.ax.lt HR.out.n0;have mc:M≤n:=(by have hm:Mag I (.slice ar M cr) (X%Y) M:=⟨ar,br,qc,cr,rfl,xb,td,fb,pc,be⟩;refine hm.len_le ?_;have F:Y<B^n:=(by rw[←R1.ey];exact za1 R1.ay);exact Nat.lt_trans (Nat.mod_lt _ (Nat.pos_of_ne_zero ec.out)) F);have eb:0<M→br≠x:=fun h=>by obtain rfl:=xb h;have:=wd _ _ _ _ rfl;omega
  have A1:=R1.ax;have F1:=R1.fx;have md:Hid (num B I br qc M=X%Y):=pc;have uc:Hid (ChC I p (.slice (some ⟨x,0,none⟩) n H) (.slice (some ⟨j,0,none⟩) n G) true (.slice (some ⟨bu,0,none⟩) m cu) (.slice (some ⟨bv,0,none⟩) m cv) mi):=C1;have ia:Hid (XY base I p n X Y x H j G):=R1;have ka:Hid (UV base I p x j m U V bu cu bv cv):=U1;have ac:Hid (Below base y I):=sd;have bd:Hid (Mag I (.slice (some ⟨bq,oq,none⟩) nq cq) (X / Y) nq):=hq;have ad:Hid (nq<160):=(by show nq<160;omega);have bc:Hid (bq≠x∧bq≠p):=(by have:=HC.out.lt;show bq≠x∧bq≠p;omega);have zc:Hid (0<nq):=kc;obtain⟨lq,q0,q1,q2,-,-,-,-,-,-,-,-⟩:=id C1;have ce:∀t,Chg I t x 0 (0+n)→∀i,t.cell? ⟨p,i,none⟩=I.cell? ⟨p,i,none⟩:=fun t h i=>World.cell?_of_block (h.block p lq ia.out.xp.symm);clear p9 ra ga O rc sc wd vd pc be hq kc ae re C1 R1 U1 sd k0 k1 k2 lp AX AY HC HR HU N;go_wp2_with (first
   |(refine zb3 .u64 B za2 rfl _ 22 rfl 98 i0 Tryz.underlying22 ve ze _ _ _ rfl x 0 (Sl.mk _ _ _) A1 F1 ?_;intro w2 ea;have gf:=(ce w2 ea.chg 0).trans q0;have zb:=ea.chg.arr fb fb.lt (fun h=> .inl (eb h));have F2:=ea.chg.free F1 (fun _=>A1.lt ia.out.n0))
   |(refine zal .u64 B rfl _ _ 22 22 rfl 98 Tryz.underlying22 zb2 _ _ _ _ _ _ rfl rfl x 0 br qc (Sl.mk _ _ _) xb ea.arr F2 zb ?_;intro w3 hc))
  rw[Nat.min_eq_left mc]at hc;obtain⟨A3,N3,H3⟩:=zdi ea hc mc;rw[ea.chg.num fb.lt (fun h=> .inl (eb h)),md.out]at N3;have C3:=uc.out.chg H3 ia.out.xp.symm;have R3:XY base w3 p n Y (X%Y) j G x H:=(by obtain⟨F,T,h3,h4,h5,h6,ax,ay,fx,fy,ex,ey,n0,nm,g1,g2,g3,g4,le⟩:=ia.out;exact⟨F,h3,T,h4.symm,h6,h5,H3.arr ay ay.lt (fun _=> .inl h4.symm),A3,H3.free fy (fun _=>ay.lt n0),H3.free fx (fun _=>ax.lt n0),(H3.num (fun _=>ay.lt n0) (fun _=> .inl h4.symm)).trans ey,N3,n0,nm,g2,g1,g4,g3,Nat.le_of_lt (Nat.mod_lt _ (Nat.pos_of_ne_zero ec.out))⟩);have U3:=(ka.out.blocks (H3.block bu ka.out.ltu.1 ka.out.ux) (H3.block bv ka.out.ltu.2 ka.out.vx)).swap;have Q3:=Mag.chg bd.out H3 (fun _=> .inl bc.out.1);have B3:Below base y w3:=ac.out.trans (H3.below ia.out.hx (Nat.le_trans ha.out ac.out.size));obtain⟨lp,k0,k1,k2,-,-,-,z0,z1,-,-,-,-⟩:=id C3;have vc:Hid (ChC w3 p (.slice (some ⟨x,0,none⟩) n H) (.slice (some ⟨j,0,none⟩) n G) true (.slice (some ⟨bu,0,none⟩) m cu) (.slice (some ⟨bv,0,none⟩) m cv) mi):=C3;have sb:Hid (XY base w3 p n Y (X%Y) j G x H):=R3;have la:Hid (UV base w3 p j x m U V bu cu bv cv):=U3;have cd:Hid (Mag w3 (.slice (some ⟨bq,oq,none⟩) nq cq) (X / Y) nq):=Q3;have tc:Hid (Below base y w3):=B3;clear uc ia ka bd ac C3 R3 U3 Q3 B3 A3 N3 H3 ea hc fb zb eb ce q0 q1 q2 gf lq A1 F1 F2 md xb td mc;go_wp2;have CF:=((vc.out.set0 (.slice (some ⟨j,0,none⟩) n G)).set1 (.slice (some ⟨x,0,none⟩) n H)).below (zad _);have RF:=((sb.out.other 0 (.slice (some ⟨j,0,none⟩) n G)).other 1 (.slice (some ⟨x,0,none⟩) n H)).below (zad _);have UF:=((la.out.other la.out.up la.out.vp 0 (.slice (some ⟨j,0,none⟩) n G)).other la.out.up la.out.vp 1 (.slice (some ⟨x,0,none⟩) n H)).below (zad _);have BF:=(((tc.out.setCell (p:=⟨p,0,none⟩) sb.out.hp (.slice (some ⟨j,0,none⟩) n G)).setCell (p:=⟨p,1,none⟩) sb.out.hp (.slice (some ⟨x,0,none⟩) n H)).drew);have QF:=((cd.out.blk zc.out (heap_setCell_other w3 ⟨p,0,none⟩ bq (.slice (some ⟨j,0,none⟩) n G) (by simpa using bc.out.2))).blk zc.out (heap_setCell_other (w3.setCell ⟨p,0,none⟩ (.slice (some ⟨j,0,none⟩) n G)) ⟨p,1,none⟩ bq (.slice (some ⟨x,0,none⟩) n H) (by simpa using bc.out.2))).below (zad _);have HF:Hid _:=(⟨BF,CF,RF,UF,QF⟩:_∧_∧_∧_∧_);clear CF RF UF BF QF tc vc sb la cd;go_upto_region 3 with fail;simp only[Act.put,List.setIfInBounds_toArray,List.set_cons_zero,List.set_cons_succ];go_cut [] from 39 to 52 (fun S=>Below base y S∧ChC S p (.slice (some ⟨j,0,none⟩) n G) (.slice (some ⟨x,0,none⟩) n H) true (.slice (some ⟨bu,0,none⟩) m cu) (.slice (some ⟨bv,0,none⟩) m cv) mi∧XY base S p n Y (X%Y) j G x H∧UV base S p j x m U V bu cu bv cv∧Mag S (.slice (some ⟨bq,oq,none⟩) nq cq) (X / Y) nq)
  case first=>
   go_region
   all_goals
    go_wp2_with fail;go_meet
    case rel=>exact HF.out
  case rest=>
  obtain⟨B5,C5,R5,U5,Q5⟩:=hcut;obtain⟨S,ee⟩:∃S,S=wc:=⟨_,rfl⟩;rw[←ee]at B5 C5 R5 U5 Q5⊢;clear ee wc HF lp k0 k1 k2 z0 z1 w3;have k2:=C5.c2;go_upto_region 5 with fail;clear k2;have ob:Hid (Below base y S):=B5;have cc:Hid (ChC S p (.slice (some ⟨j,0,none⟩) n G) (.slice (some ⟨x,0,none⟩) n H) true (.slice (some ⟨bu,0,none⟩) m cu) (.slice (some ⟨bv,0,none⟩) m cv) mi):=C5;have ja:Hid (XY base S p n Y (X%Y) j G x H):=R5;have dc:Hid (UV base S p j x m U V bu cu bv cv):=U5;have ed:Hid (Mag S (.slice (some ⟨bq,oq,none⟩) nq cq) (X / Y) nq):=Q5;have ta:Hid (m≤maxLen):=(by have:=U5.mm;show m≤maxLen;unfold maxLen;omega);have sf:=U5.mm;obtain⟨us,wu,eu⟩:=U5.ou;obtain⟨wf,wv,ev⟩:=U5.ov;have te:=wu.hc;have ue:=wv.hc;have AU:∀t,Below S.heap.size S t→Arr .u64 B t bu 0 m∧num B t bu 0 m=U:=fun t h=>⟨(wu.below h).arr.1,(wu.below h).arr.2.1.trans eu⟩;have AV:∀t,Below S.heap.size S t→Arr .u64 B t bv 0 m∧num B t bv 0 m=V:=fun t h=>⟨(wv.below h).arr.1,(wv.below h).arr.2.1.trans ev⟩;obtain⟨lp,-,-,-,k3,k4,-,-,-,-,-,-,-⟩:=id C5;have HH:Hid (m≤cu∧m≤cv):=⟨te,ue⟩;clear C5 R5 U5 Q5 B5 wu eu wv ev;refine zaq zbf [⟨58,[],[],[0]⟩,⟨59,[0],[0],[]⟩,⟨60,[1],[0,1],[]⟩,⟨61,[2],[0,1,2],[]⟩,⟨62,[],[],[0]⟩,⟨63,[4],[4],[]⟩,⟨64,[5],[4,5],[]⟩,⟨65,[6],[4,5,6],[]⟩,⟨66,[7],[4,5,6,7],[]⟩,⟨67,[3,8],[0,1,2,3,4,5,6,7,8],[]⟩,⟨68,[],[],[2]⟩,⟨69,[],[],[0]⟩,⟨70,[11],[11],[]⟩,⟨71,[12],[11,12],[]⟩,⟨72,[13],[11,12,13],[]⟩,⟨73,[],[],[0]⟩,⟨74,[15],[15],[]⟩,⟨75,[16],[15,16],[]⟩,⟨76,[17],[15,16,17],[]⟩,⟨77,[18],[15,16,17,18],[]⟩,⟨78,[9,14,19],[0,1,2,3,4,5,6,7,8,9,11,12,13,14,15,16,17,18,19],[]⟩,⟨79,[10,20],[0,1,2,3,4,5,6,7,8,9,10,11,12,13,14,15,16,17,18,19,20],[]⟩,⟨80,[9,21],[0,1,2,3,4,5,6,7,8,9,10,11,12,13,14,15,16,17,18,19,20,21],[]⟩,⟨4,[0,1,2,3,4,5,6,7,8,9,10,11,12,13,14,15,16,17,18,19,20,21,22],[0,1,2,3,4,5,6,7,8,9,10,11,12,13,14,15,16,17,18,19,20,21,22],[]⟩] [] kfl 120 rfl kfl (fun (i:Nat) (v:Value) (wq:World)=>match i with|0=>v=.pointer (some ⟨p,0,none⟩)|1=>v=.pointer (some ⟨p,0,none⟩)|2=>v=.pointer (some ⟨p,3,none⟩)|3=>v=.slice (some ⟨bu,0,none⟩) m (cu)|4=>v=.pointer (some ⟨p,0,none⟩)|5=>v=.pointer (some ⟨p,0,none⟩)|6=>v=.pointer (some ⟨p,3,none⟩)|7=>v=.slice (some ⟨bu,0,none⟩) m (cu)|8=>v=.int .i64 (((m:Nat):Int))|9=>∃k,k≤m∧Mag wq v U k|10=>v=.slice (some ⟨bq,oq,none⟩) nq (cq)|11=>v=.pointer (some ⟨p,0,none⟩)|12=>v=.pointer (some ⟨p,0,none⟩)|13=>v=.pointer (some ⟨p,4,none⟩)|14=>v=.slice (some ⟨bv,0,none⟩) m (cv)|15=>v=.pointer (some ⟨p,0,none⟩)|16=>v=.pointer (some ⟨p,0,none⟩)|17=>v=.pointer (some ⟨p,4,none⟩)|18=>v=.slice (some ⟨bv,0,none⟩) m (cv)|19=>v=.int .i64 (((m:Nat):Int))|20=>∃k,k≤m∧Mag wq v V k|21=>∃n,n≤400∧Mag wq v (X / Y*V) n|22=>NR S.heap.size wq v (U+X / Y*V)|23=>NR S.heap.size wq v (U+X / Y*V)|_=>True) (fun _ wq=>Below S.heap.size S wq) (fun t wy=>Below t.heap.size t wy) (zz).drew (fun i v t wy h hx=>match i,h with|0,h=>h|1,h=>h|2,h=>h|3,h=>h|4,h=>h|5,h=>h|6,h=>h|7,h=>h|8,h=>h|10,h=>h|11,h=>h|12,h=>h|13,h=>h|14,h=>h|15,h=>h|16,h=>h|17,h=>h|18,h=>h|19,h=>h|9,h=>by obtain⟨k,F,T⟩:=h;exact⟨k,F,T.below hx⟩|20,h=>by obtain⟨k,F,T⟩:=h;exact⟨k,F,T.below hx⟩|21,h=>by obtain⟨n,F,T⟩:=h;exact⟨n,F,T.below hx⟩|22,h=>h.below hx|23,h=>h.below hx|n+24,_=>trivial) ?_ ?_
  ·intro i o r s l L fr t A hL lc ic ib d u;clear hL lc ic ib
   match i,s,l with
   |0,s,l=>?_
   |1,s,l=>?_
   |2,s,l=>?_
   |3,s,l=>?_
   |4,s,l=>?_
   |5,s,l=>?_
   |6,s,l=>?_
   |7,s,l=>?_
   |8,s,l=>?_
   |9,s,l=>obtain rfl:=oi s;obtain rfl:=oi l;have e3:=evs 61 (d 3 dd _ rfl);have e8:=evs 66 (d 8 dd _ rfl);clear d u;refine zam rfl rfl fun K hK=>?_;go_simp;refine(za3 t (some ⟨bu,0,none⟩) bu 0 m _ m (Sl.mk _ _ _) om ta.out ta.out (AU t A).1).mono ?_;rintro e wy ⟨v4,k4,rfl,nc,kb,fa,J⟩;subst wy;exact hK _ _ ⟨⟨k4,fa,by rw[Nat.min_self,(AU t A).2]at J;exact J⟩,A,zz,nn⟩
   |10,s,l=>?_
   |11,s,l=>?_
   |12,s,l=>?_
   |13,s,l=>?_
   |14,s,l=>?_
   |15,s,l=>?_
   |16,s,l=>?_
   |17,s,l=>?_
   |18,s,l=>?_
   |19,s,l=>?_
   |20,s,l=>obtain rfl:=oi s;obtain rfl:=oi l;have oa:=evs 72 (d 14 dd _ rfl);have da:=evs 77 (d 19 dd _ rfl);clear d u;refine zam rfl rfl fun K hK=>?_;go_simp;refine(za3 t (some ⟨bv,0,none⟩) bv 0 m _ m (Sl.mk _ _ _) om ta.out ta.out (AV t A).1).mono ?_;rintro e wy ⟨v4,k4,rfl,nc,kb,fa,J⟩;subst wy;exact hK _ _ ⟨⟨k4,fa,by rw[Nat.min_self,(AV t A).2]at J;exact J⟩,A,zz,nn⟩
   |21,s,l=>obtain rfl:=oi s;obtain rfl:=oi l;have ma:=evs 68 (d 10 dd _ rfl);obtain⟨u20,qa,ga⟩:=evr 78 (P:=fun u20=>∃k,k≤m∧Mag t u20 V k) (d 20 dd _ rfl);clear d u;refine zam rfl rfl fun K hK=>?_;obtain⟨bf,nf,ga⟩:=ga;go_simp;refine(zc8 t _ _ _ nq _ bf (ed.out.below A) ga (by have:=ad.out;omega)).mono ?_;rintro e wy ⟨v4,n4,rfl,hb,J,tf,-⟩;exact hK _ _ ⟨⟨n4,by have:=ad.out;omega,J⟩,A.trans (hb.mono A.size),hb,nn⟩
   |22,s,l=>obtain rfl:=oi s;obtain rfl:=oi l;obtain⟨u9,e9,p9⟩:=evr 67 (P:=fun u9=>∃k,k≤m∧Mag t u9 U k) (d 9 dd _ rfl);obtain⟨u21,ba,O⟩:=evr 79 (P:=fun u21=>∃n,n≤400∧Mag t u21 (X / Y*V) n) (d 21 dd _ rfl);clear d u;refine zam rfl rfl fun K hK=>?_;obtain⟨k9,h9,p9⟩:=p9;obtain⟨cf,pf,O⟩:=O;go_simp;refine(addWords_row t _ _ _ _ k9 cf p9 O om om).mono ?_;rintro e wy ⟨n4,rfl,ca,-⟩;exact hK _ _ ⟨NR.of ca A.size HZ.out,A.trans (ca.hb.mono A.size),ca.hb,nn⟩
   |23,s,l=>?_
   |n+24,s,l=>exact absurd l (by simp)
   all_goals
    obtain rfl:=oi s;obtain rfl:=oi l;simp only[uxw,uw,evt]at d u;have c0:=(A.cell (p:=⟨p,3,none⟩) lp).trans k3;have c1:=(A.cell (p:=⟨p,4,none⟩) lp).trans k4;refine zam rfl rfl fun K hK=>?_ <;> (go_simp;exact hK _ _ ⟨(by first|rfl|exact d|exact d.1|exact d.2|(simp only[d];done)),A,zz,nn⟩)
  ·intro vs I f N db;clear db;have e0:vs 0=_:=f 0 dd;have e1:vs 1=_:=f 1 dd;have e2:vs 2=_:=f 2 dd;have e3:vs 3=_:=f 3 dd;have e4:vs 4=_:=f 4 dd;have e5:vs 5=_:=f 5 dd;have e6:vs 6=_:=f 6 dd;have e7:vs 7=_:=f 7 dd;have e8:vs 8=_:=f 8 dd;obtain⟨u9,e9,p9⟩:∃u9,vs 9=u9∧(∃k,k≤m∧Mag I u9 U k):=⟨_,rfl,f 9 dd⟩;have ma:vs 10=_:=f 10 dd;have wa:vs 11=_:=f 11 dd;have xa:vs 12=_:=f 12 dd;have na:vs 13=_:=f 13 dd;have oa:vs 14=_:=f 14 dd;have ya:vs 15=_:=f 15 dd;have za:vs 16=_:=f 16 dd;have ab:vs 17=_:=f 17 dd;have pa:vs 18=_:=f 18 dd;have da:vs 19=_:=f 19 dd;obtain⟨u20,qa,ga⟩:∃u20,vs 20=u20∧(∃k,k≤m∧Mag I u20 V k):=⟨_,rfl,f 20 dd⟩;obtain⟨u21,ba,O⟩:∃u21,vs 21=u21∧(∃n,n≤400∧Mag I u21 (X / Y*V) n):=⟨_,rfl,f 21 dd⟩;obtain⟨u22,bb,rc⟩:∃u22,vs 22=u22∧(NR S.heap.size I u22 (U+X / Y*V)):=⟨_,rfl,f 22 dd⟩;obtain⟨u23,cb,sc⟩:∃u23,vs 23=u23∧(NR S.heap.size I u23 (U+X / Y*V)):=⟨_,rfl,f 23 dd⟩;simp only[zbx,Nat.reduceAdd,e0,e1,e2,e3,e4,e5,e6,e7,e8,e9,ma,wa,xa,na,oa,ya,za,ab,pa,da,qa,ba,bb,cb,Act.put,ll];clear f e0 e1 e2 e3 e4 e5 e6 e7 e8 e9 ma wa xa na oa ya za ab pa da qa ba bb cb;obtain⟨g,z,rfl,hg,yd,xe,gc,ud,oc,de⟩:=sc;have jc:z<158:=(by have F:=jd.out.2;have T:B^(z-1)<B^157:=om;have:=(Nat.pow_lt_pow_iff_right (show 1<B by decide)).1 T;omega);have oe:=N.size;obtain⟨jf,wg,eg⟩:=Wr.ofArr (base:=base) gc ud (Nat.le_trans ha.out (Nat.le_trans ob.out.size hg)) yd (by unfold maxLen;omega);have C6:=cc.out.below N;have R6:=ja.out.below N;have U6:=dc.out.below N;have B6:Below base y I:=ob.out.trans (N.mono (Nat.le_trans ha.out ob.out.size));have l1:=dc.out.ltu;have l2:=cc.out.lt;have l3:=ja.out.ax.lt ja.out.n0;have l4:=ja.out.ay.lt ja.out.n0;have HG:Hid (g≠p∧g≠j∧g≠x∧bv≠g∧z<158∧0<z):=(by show _∧_∧_∧_∧_∧_;omega);have we:m≤z:=by
    rcases U6.top with h|h
    ·have F:=jd.out.1;have T:U+X / Y*V<B^z:=(by rw[←oc];exact za1 gc);have h3:B^(m-1)<B^z:=om;have:=(Nat.pow_lt_pow_iff_right (show 1<B by decide)).1 h3;omega
    ·omega
   have HT:Hid (B^(z-1)≤U+X / Y*V):=de;obtain⟨hf,ie,qd⟩:=U6.ov;have yb:=U6.vp;have vb:=HG.out.1;have HS:Hid (PadI base y p n Y (X%Y) j G x H V (U+X / Y*V) z g z (!mi) (z-m) (((I.setCell ⟨p,3,none⟩ (.slice (some ⟨bv,0,none⟩) m cv)).setCell ⟨p,4,none⟩ (.slice (some ⟨g,0,none⟩) z z)).setCell ⟨p,5,none⟩ (.bool (!mi))).drew):=by
    refine .mk m bv cv hf om ((((B6.setCell (p:=⟨p,3,none⟩) R6.hp _).setCell (p:=⟨p,4,none⟩) R6.hp _).setCell (p:=⟨p,5,none⟩) R6.hp _).drew) ((((C6.set3 _).set4 _).set5 _).below (zad _)) ((((R6.other 3 _).other 4 _).other 5 _).below (zad _))
     ((((ie.other yb).other yb).other yb).below (zad _)) qd ⟨jf,((((wg.other vb).other vb).other vb).below (zad _)),eg.trans oc⟩ ⟨HG.out.2.2.2.1,U6.vp,U6.vx,U6.vy⟩ U6.m0
   obtain⟨lp,-,-,-,k3,k4,k5,-,-,-,z3,z4,z5⟩:=id C6;clear hg yd xe gc ud oc de jc wg eg C6 R6 U6 B6 l1 l2 l3 l4 we ie qd yb vb N oe p9 ga O rc AU AV ed cc ja dc ob HH ta;go_upto_region 6 with fail;go_cut [] from 81 to 100 (fun W=>Hid (PadI base y p n Y (X%Y) j G x H V (U+X / Y*V) z g z (!mi) (z-m) W))
   case first=>
    go_region
    all_goals
     go_wp2_with fail;go_meet
     case rel=>exact HS
   case rest=>
   have gd:Hid (PadI base y p n Y (X%Y) j G x H V (U+X / Y*V) z g z (!mi) (z-m) wc):=hcut;clear HS hcut lp k3 k4 k5 z3 z4 z5;go_wp2;go_loopg [] (z-m) (fun gk wr=>Hid (PadI base y p n Y (X%Y) j G x H V (U+X / Y*V) z g z (!mi) gk wr))
   case atStart=>exact gd
   case round=>
    clear gd;obtain⟨k,Z,va,mb,hk,hb,c,r,wu,eu,⟨nb,wv,ev⟩,⟨a1,a2,a3,a4⟩,k0⟩:=hrel.out;have HK:Hid (k+gk=z∧0<k):=⟨hk,k0⟩;have HB:Hid (Below base y wr):=hb;have xc:Hid (ChC wr p (.slice (some ⟨j,0,none⟩) n G) (.slice (some ⟨x,0,none⟩) n H) true (.slice (some ⟨Z,0,none⟩) k va) (.slice (some ⟨g,0,none⟩) z z) (!mi)):=c;have fd:Hid (XY base wr p n Y (X%Y) j G x H):=r;have kd:Hid (Wr wr base Z k va mb):=wu;have ld:Hid (Wr wr base g z z nb):=wv;have qb:Hid (lv B mb=V∧lv B nb=U+X / Y*V):=⟨eu,ev⟩;have HA:Hid (Z≠g∧Z≠p∧Z≠j∧Z≠x):=⟨a1,a2,a3,a4⟩;obtain⟨lp,-,-,-,k3,k4,-,-,-,-,z3,-,-⟩:=id c;clear hrel hb c r wu wv eu ev a1 a2 a3 a4 hk k0;go_upto_region 7 with fail;go_cut [110] from 100 to 110 (fun v t=>v=.bool (decide (k<z))∧t=wr.drew)
    case first=>
     go_region
     all_goals
      go_wp2_with fail;go_meet
      case rel=>exact⟨congrArg Value.bool (decide_eq_decide.2 om),rfl⟩
    case rest=>
    obtain⟨rfl,fe⟩:=hcut;have B7:Below wr.heap.size wr wc:=(by rw[fe];exact zad _);have pb:Hid (Below base y wc):=HB.out.trans (B7.mono (Nat.le_trans ha.out HB.out.size));have sa:Hid (ChC wc p (.slice (some ⟨j,0,none⟩) n G) (.slice (some ⟨x,0,none⟩) n H) true (.slice (some ⟨Z,0,none⟩) k va) (.slice (some ⟨g,0,none⟩) z z) (!mi)):=xc.out.below B7;have aa:Hid (XY base wc p n Y (X%Y) j G x H):=fd.out.below B7;have tb:Hid (Wr wc base Z k va mb):=kd.out.below B7;have ua:Hid (Wr wc base g z z nb):=ld.out.below B7;clear fe B7 HB xc fd kd ld lp k3 k4 z3 wr;by_cases zd:k<z
    ·have hd:decide (k<z)=true:=decide_eq_true zd;rw[hd];obtain⟨lp,-,-,-,k3,-,-,-,-,-,z3,-,-⟩:=id sa.out;have he:=fun o=>tb.out.below (zau wc o);have kb:k≤1099511627776:=(by have:=HG.out.2.2.2.2.1;omega);have se:base≤wc.heap.size:=Nat.le_trans ha.out pb.out.size;have pe:=HA.out.2.1;clear hd;go_wp2_with (first
      |(refine zf7 (by rfl) _ _ (by rfl) (by rfl) (he _) _ _ 0 (by rfl) qq za2 kb (by simp;omega) ?_;intro b9 c9 w9 A1 A2 A3 A4;have ub:w9.heap[p]? =wc.heap[p]?:=(A4 p (by simp;omega) pe.symm).trans ((zau wc _).block p lp);have df:=(World.cell?_of_block (a:=⟨p,3,none⟩) ub).trans k3;have kf:=(World.frozen?_of_block (a:=⟨p,3,none⟩) ub).trans z3))
     have HN:Hid (PadI base y p n Y (X%Y) j G x H V (U+X / Y*V) z g z (!mi) (gk-1) (w9.setCell ⟨p,3,none⟩ (.slice (some ⟨b9,0,none⟩) (k+1:Nat) c9))):=by
      obtain⟨a1,a2,a3,a4⟩:=HA.out;obtain⟨e1,e2⟩:=qb.out;have s2:=A2.size;have ye:(wc.alloc (Obj.cells #[Value.int IntKind.u64 0] 98)).heap.size=wc.heap.size+1:=(by simp);rw[ye]at s2 A3 A4;have hb:∀q,q<wc.heap.size→q≠Z→w9.heap[q]? =wc.heap[q]?:=fun q F T=>(A4 q om T).trans ((zau wc _).block q F);have lx:=aa.out.ax.lt aa.out.n0;have ly:=aa.out.ay.lt aa.out.n0;have lg:=ua.out.lt;have g1:b9≠g∧b9≠p∧b9≠j∧b9≠x:=(by rcases A3 with h|h <;> subst h <;> refine⟨?_,?_,?_,?_⟩ <;> omega);have R9:=aa.out.blocks (hb j lx a3.symm) (hb x ly a4.symm);exact .mk (k+1) b9 c9 (mb++[0]) (by have:=HK.out.1;omega) ((pb.out.trans (((zau wc _).mono se).trans A2)).setCell (p:=⟨p,3,none⟩) R9.hp _) ((sa.out.block om ub).set3 _) (R9.other 3 _)
       (A1.other g1.2.1) (by rw[zbi,Nat.mul_zero];exact e1) ⟨nb,(ua.out.block (hb g lg a1.symm)).other HG.out.1,e2⟩ g1 om
     have HM:Hid (gk-1<gk):=(by have:=HK.out.1;show gk-1<gk;omega);clear A1 A2 A3 A4 ub df kf he pb sa aa tb ua lp k3 z3;go_roundg (gk-1)
     case measure=>exact HM.out
     case rel=>exact HN
    ·have hd:decide (k<z)=false:=decide_eq_false zd;rw[hd];obtain rfl:k=z:=(by have:=HK.out.1;omega);have HF:Hid (ChF base wc p n Y (X%Y) a b):= .mk j G x H k V (U+X / Y*V) Z va g k (!mi) sa.out aa.out
      ⟨⟨mb,tb.out,qb.out.1⟩,⟨nb,ua.out,qb.out.2⟩,HA.out.1,HA.out.2.1,HG.out.1,HA.out.2.2.1,HA.out.2.2.2,HG.out.2.1,HG.out.2.2.1,HK.out.2,by have:=HG.out.2.2.2.2.1;omega,.inl HT.out⟩ je.out
     clear sa aa tb ua qb HA HK hd;go_wp2;go_end0;exact⟨rfl,pb.out,HF.out⟩
end Go.Proofs.YtjlkplidpdhgbaaGreatDoor
namespace Go.Proofs.YtjlkplidpdhgbaaGreatDoor
open Go Go.Proofs Go.RowKit Go.Rad
open _root_.Rad TurnOk
theorem wcount {X n:Nat} (g:0<X) (h:X<B^n):∃k,0<k∧k≤n∧B^(k-1)≤X∧X<B^k:=by
 induction n with
 |zero=>rw[Nat.pow_zero]at h;omega
 |succ n ih=>
  by_cases f:X<B^n
  ·obtain⟨k,a,b,c,d⟩:=ih f;exact⟨k,a,by omega,c,d⟩
  ·exact⟨n+1,by omega,Nat.le_refl _,by rw[Nat.add_sub_cancel];omega,h⟩
theorem Mag.count {w:World} {v:Value} {X k j:Nat} (h:Mag w v X j) (c:0<k) (d:B^(k-1)≤X) (b:X<B^k):j=k:=by refine Nat.le_antisymm (h.len_le b) (Nat.le_of_not_lt fun l=>?_);have f:=h.lt;have g:B^j≤B^(k-1):=Nat.pow_le_pow_right za2 om;omega
theorem zfe (w:World) (b n c X k:Nat) (o:n≤c) (q:n<160) (m:Arr .u64 B w b 0 n) (p:num B w b 0 n=X) (f:0<k) (g:B^(k-1)≤X) (l:X<B^k):
 Calls Tryz.prog 86 #[.slice (some ⟨b,0,none⟩) n c,.int .i64 n] w fun e w'=>e=.returned (.slice (some ⟨b,0,none⟩) k k)∧w'=w:=by
 refine(zbj w _ b 0 n c n (Sl.mk _ _ _) o (by unfold maxLen;omega) (by unfold maxLen;omega) m).mono ?_;rintro e w' ⟨j,rfl,rfl,_,_,d⟩;rw[Nat.min_self,p]at d;rw[d.count f g l];exact⟨rfl,rfl⟩
theorem zfk {w:World} {b n k X:Nat} (c:num B w b 0 n=X) (g:k≤n) (j:X<B^k):num B w b 0 k=X:=by obtain⟨d,rfl⟩:=Nat.exists_eq_add_of_le g;rw[za5,Nat.zero_add]at c;have f:num B w b k d=0:=(by refine Nat.eq_zero_of_not_pos fun h=>?_;have:=Nat.le_mul_of_pos_right (B^k) h;omega);rw[f]at c;omega
theorem top_ne {w:World} {b m X:Nat} (c:Arr .u64 B w b 0 (m+1)) (d:num B w b 0 (m+1)=X) (h:B^m≤X):word w b (0+m)≠0:=by intro e;rw[zaj,e,Nat.mul_zero]at d;have:num B w b 0 m<B^m:=za1 (fun i hi=>c i om);omega
theorem XY.cut {base:Nat} {w:World} {p n X Y c d b f k:Nat} (h:XY base w p n X Y c d b f) (u:0<k) (g:k≤n) (E:X<B^k):XY base w p k X Y c d b f:=by obtain⟨x,y,z,A,C,D,j,l,q,r,m,o,I,J,G,H,s,t,F⟩:=h;exact⟨x,y,z,A,C,D,fun i hi=>j i om,fun i hi=>l i om,fun i hi=>q i om,fun i hi=>r i om,zfk m g E,zfk o g om,u,by omega,by omega,by omega,s,t,F⟩
def Kp (w w':World):Prop:=Below w.heap.size w w'
inductive RunDone (base:Nat) (w:World) (pc X Y:Nat) (e:Ending) (w':World):Prop
 |mk (n x y:Nat) (he:e=.returned (.tuple #[])) (hb:Below base w w') (hc:Ch base w' pc n x y) (hg:Nat.gcd x y=Nat.gcd X Y) (h0:0<x) (hy:y<B)
inductive RunI (base:Nat) (w:World) (pc X Y g:Nat) (w':World):Prop
 |mk (n x y:Nat) (hb:Below base w w') (hc:Ch base w' pc n x y) (hg:Nat.gcd x y=Nat.gcd X Y) (h0:0<x) (hm:x+y=g)
theorem run_any (base:Nat) (w:World) (d n X Y:Nat) (hC:Ch base w d n X Y) (hX:0<X) (E:base≤w.heap.size):
 Calls Tryz.prog 124 #[.pointer (some ⟨d,0,none⟩)] w fun e w'=>RunDone base w d X Y e w':=by
 have HS:Hid (RunI base w d X Y (X+Y) w):= .mk n X Y zz hC rfl hX rfl;have aa:Hid (base≤w.heap.size):=E;clear hC hX E;go_enter Tryz.func124,Tryz.ntmps124;go_wp2;go_loopg [] (X+Y) (fun g wr=>Hid (RunI base w d X Y g wr))
 case atStart=>exact HS
 case round=>
  clear HS;obtain⟨I,x,y,hb,hC,hg,h0,O⟩:=hrel.out;obtain⟨t,f,b,l,uv,vv,Z,C,R⟩:=hC;have ea:x<B^I:=(by rw[←R.ex];exact za1 R.ax);obtain⟨k,k0,kn,k1,k2⟩:=wcount h0 ea;have V:=fun nq=>zfe (wr.drewN nq) t I f x k R.cx1 R.nm R.ax R.ex k0 k1 k2;have hn:=R.nm;have ka:=R.cx1;have la:=R.cy1;have ia:=R.cx2;have ja:=R.cy2;have RC:=R.cut k0 kn k2;have HG:Hid (Nat.gcd x y=Nat.gcd X Y):=hg;have HM:Hid (x+y=gk):=O;have HB:Hid (Below base w wr):=hb;have H:Hid (ChC wr d (.slice (some ⟨t,0,none⟩) I f) (.slice (some ⟨b,0,none⟩) I l) false uv vv Z):=C;have o:Hid (XY base wr d k x y t f b l):=RC;have HK:Hid (B^(k-1)≤x∧x<B^k∧0<x):=⟨k1,k2,h0⟩;obtain⟨lp,c0,c1,c2,-,-,-,z0,z1,-,-,-,-⟩:=id C;clear hrel hb C R RC hg O ea k1 k2 h0;go_wp2;go_quiet ((go_at_call 86;refine(V _).mono ?_;rintro e qa ⟨rfl,rfl⟩;exact⟨rfl,_,rfl⟩));clear V;go_upto_region 1 with fail;refine zac (fun J=>Below base w J∧ChC J d (.slice (some ⟨t,0,none⟩) I f) (.slice (some ⟨b,0,none⟩) I l) false uv vv Z∧XY base J d k x y t f b l)
   ⟨HB.out.trans (belN _ _ _),H.out.below (belN _ _ _),o.out.below (belN _ _ _)⟩ ?_
  clear HB H o lp c0 c1 c2 z0 z1;rintro J ⟨B1,C1,R1⟩;clear wr;obtain⟨lp,c0,c1,c2,-,-,-,z0,z1,-,-,-,-⟩:=id C1;have HB:Hid _:=B1;have H:Hid (ChC J d (.slice (some ⟨t,0,none⟩) I f) (.slice (some ⟨b,0,none⟩) I l) false uv vv Z):=C1;have o:Hid (XY base J d k x y t f b l):=R1;clear B1 C1 R1;have fa:(0:Int)≤(k:Int)∧(k:Int)≤(f:Int):=om;have ga:(k:Int)≤(l:Int):=om;go_region;go_upto_region 2 with fail;have ba:Hid (ChC (((J.setCell ⟨d,0,none⟩ (.slice (some ⟨t,0,none⟩) k f)).setCell ⟨d,1,none⟩ (.slice (some ⟨b,0,none⟩) k l)).drew) d (.slice (some ⟨t,0,none⟩) k f) (.slice (some ⟨b,0,none⟩) k l) false uv vv Z):=((H.out.set0 _).set1 _).below (zad _);refine zac (fun c=>Below base w c∧ChC c d (.slice (some ⟨t,0,none⟩) k f) (.slice (some ⟨b,0,none⟩) k l) false uv vv Z∧XY base c d k x y t f b l)
   ⟨((HB.out.setCell (p:=⟨d,0,none⟩) o.out.hp _).setCell (p:=⟨d,1,none⟩) o.out.hp _).drew,ba.out,((o.out.other 0 _).other 1 _).below (zad _)⟩ ?_
  clear HB H o lp c0 c1 c2 z0 z1 ba fa ga;rintro c ⟨B2,C2,R⟩;clear J;obtain⟨lp,c0,c1,c2,-,-,-,-,-,-,-,-,-⟩:=id C2;have V:=zbj c (some ⟨b,0,none⟩) b 0 k l k (Sl.mk _ _ _) R.cy1 (by unfold maxLen;omega) (by unfold maxLen;omega) R.ay;rw[Nat.min_self,R.ey]at V;have HB:Hid _:=B2;have H:Hid (ChC c d (.slice (some ⟨t,0,none⟩) k f) (.slice (some ⟨b,0,none⟩) k l) false uv vv Z):=C2;have HR:Hid (XY base c d k x y t f b l):=R;clear B2 C2 R;go_wp2_with (go_at_call 86;fail);refine V.mono ?_;rintro e T ⟨j,rfl,hw,_,na,O⟩;subst T;clear V;by_cases hj:j<2
  ·have HY:Hid (y<B):=(by have h1:=O.lt;have h2:B^j≤B^1:=Nat.pow_le_pow_right za2 om;rw[Nat.pow_one]at h2;exact Nat.lt_of_lt_of_le h1 h2);clear O;go_wp2;refine bodyPost_ret (results_none rfl _ _ _) rfl ?_;exact .mk k x y rfl HB.out (.mk _ _ _ _ _ _ _ H.out HR.out) HG.out HK.out.2.2 HY.out
  ·obtain⟨m,rfl⟩:∃m,k=m+2:=⟨k-2,by omega⟩;have R:=HR.out;have CT:∀wx,Below c.heap.size c wx→Calls Tryz.prog 150 #[.slice (some ⟨t,0,none⟩) (m+2) f,.slice (some ⟨b,0,none⟩) (m+2) l] wx fun e w'=>TurnPost wx x y e w':=(by intro wx h;refine zgg wx t 0 f b 0 l m x y (zae R.ax h) (zae R.ay h) ((zah R.ax h).trans R.ex) ((zah R.ay h).trans R.ey) ?_ R.le om R.cx1 R.cy1;rw[zbp R.ax h om];exact top_ne R.ax R.ex HK.out.1);have S:Hid (0<y):=(by have:=O.pos om;exact this);have ma:¬((j:Int)<2):=om;clear R O hj;go_wp2;go_region_with (go_at_call 150;refine(CT _ (by first|exact(zz).drew|exact(((zz).drew).alloc (by simp) _)|exact(((zz).alloc (Nat.le_refl _) _).drew))).mono ?_;rintro e T ⟨p,q,r,s,odd,rfl,u,P⟩;first|(have T3:=((TB.mk0 c 0 0 0 0 false 152).below (zad _) (by simp)).below u (by simp);obtain⟨lt,t0,t1,t2,t3,t4,y0,y1,y2,y3,y4⟩:=T3)|skip)
   all_goals
    go_upto_region 4 with fail
    first
     |(refine zac (fun w4=>Kp c w4∧TB w4 T.heap.size p q r s odd) ⟨((zad c).trans u).alloc u.size _,TB.mk0 T p q r s odd 152⟩ ?_;clear u CT;obtain⟨W,F⟩:∃W,T.heap.size=W:=⟨_,rfl⟩;rw[F];clear F)
     |(
      have z:Below c.heap.size c T:=(((zau c _).trans ((zad _).mono (by simp))).trans (u.mono (by simp)));have T4:=(((((((TB.mk0 c 0 0 0 0 false 152).below (zad _) (by simp)).below u (by simp)).set0 p).set1 q).set2 r).set3 s).set4 odd;refine zac (fun w4=>Kp c w4∧TB w4 c.heap.size p q r s odd)
       ⟨((((z.setCell (p:=⟨c.heap.size,0,none⟩) (Nat.le_refl _) _).setCell (p:=⟨c.heap.size,1,none⟩) (Nat.le_refl _) _).setCell (p:=⟨c.heap.size,2,none⟩) (Nat.le_refl _) _).setCell (p:=⟨c.heap.size,3,none⟩) (Nat.le_refl _) _).setCell (p:=⟨c.heap.size,4,none⟩) (Nat.le_refl _) _,T4⟩ ?_
      clear CT T4 z u lt t0 t1 t2 t3 t4 y0 y1 y2 y3 y4;obtain⟨W,F⟩:∃W,c.heap.size=W:=⟨_,rfl⟩;rw[F];clear F)
    clear c0 c1 c2 lp T;rintro w4 ⟨U,T4⟩;replace U:Below c.heap.size c w4:=U;have R4:=HR.out.below U;have C4:Ch base w4 d (m+2) x y:= .mk _ _ _ _ _ _ _ (H.out.below U) R4;have N:=R4.le;have A:Hid (Below base w w4):=HB.out.trans (U.mono (Nat.le_trans aa.out HB.out.size));have z:base≤w4.heap.size:=Nat.le_trans aa.out A.out.size;obtain⟨lt,t0,t1,t2,t3,t4,y0,y1,y2,y3,y4⟩:=T4;clear U HB H HR R4;by_cases hq:q=0
    ·subst hq;have CS:=step_any base w4 d (m+2) x y C4 S.out z;have pa:w4.cell? ⟨W,1,none⟩=some (.int .u64 0):=t1;clear C4 z t1 P;go_wp2_with (go_at_call 125;fail);refine CS.mono ?_;rintro e w5 ⟨rfl,D,G⟩;have M:Hid (RunI base w d X Y (y+x%y) w5):=(by refine .mk (m+2) y (x%y) (A.out.trans D) G ?_ S.out rfl;rw[←HG.out,Nat.gcd_comm x y,Nat.gcd_rec y x,Nat.gcd_comm]);have L:Hid (y+x%y<gk):=(by have h1:=Nat.mod_lt x S.out;have h2:=HM.out;show y+x%y<gk;omega);clear CS D G HG HM HK A N;go_wp2;go_roundg (y+x%y)
     case measure=>exact L.out
     case rel=>exact M
    ·have CS:=turn_any base w4 d (m+2) x y p q r s odd C4 P om z;have ha:¬(q:Int)=0:=om;have oa:((q:Int)==0)=false:=(by simpa using ha);have ca:Hid (y≤x):=N;clear C4 z P hq N;go_wp2_with (go_at_call 151;fail);refine CS.mono ?_;rintro e w5 ⟨x',y',rfl,D,G,da,h0,h1,h2⟩;have M:Hid (RunI base w d X Y (x'+y') w5):= .mk (m+2) x' y' (A.out.trans D) G (da.trans HG.out) om rfl;have L:Hid (x'+y'<gk):=(by have h3:=HM.out;have h4:=ca.out;show x'+y'<gk;omega);clear CS D G da h0 h1 h2 HG HM HK A ca;go_wp2;go_roundg (x'+y')
     case measure=>exact L.out
     case rel=>exact M
end Go.Proofs.YtjlkplidpdhgbaaGreatDoor
