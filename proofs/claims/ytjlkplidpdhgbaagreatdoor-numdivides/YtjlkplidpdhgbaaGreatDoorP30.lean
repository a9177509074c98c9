/- A part of the proof: G15. -/
import Derived.Test.YtjlkplidpdhgbaaGreatDoorP00
import Derived.Test.YtjlkplidpdhgbaaGreatDoorP25
import Derived.Test.YtjlkplidpdhgbaaGreatDoorP16
import Derived.Test.YtjlkplidpdhgbaaGreatDoorP23
import Derived.Deep.RegionLaw
import Derived.Deep.RegionHeld
set_option linter.all false
set_option maxRecDepth 10000
set_option maxHeartbeats 8000000
namespace Go.Proofs.YtjlkplidpdhgbaaGreatDoor
open Go Go.Proofs Go.RowKit Go.Rad
theorem zft {P:Program} {w:World} {c:Array Oper} {o:Oper} {a:Act} {K:Act→World→Prop} {Q:Exit→Act→World→Prop} {E:Prop} (d:o.guard=none) (s x:Operand) (t:TypeId)
 (f:o.op=.call {callee:= .builtin .append,args:=#[s,x],argTypes:=#[t,t]}) (v u v':Value) (w':World) (g:a.eval s=v) (k:a.eval x=u)
 (b:(Builtin.append_ #[t,t] o.type #[v,u]).run P w=.ok v' w') (h:K (a.put o.dst v') w'):if Region.wanted o (yielded c a.tmps)=true then Oper.wp P o a w K Q else E:=by
 have j:Region.wanted o (yielded c a.tmps)=true:=(by simp[Region.wanted,d]);rw[if_pos j];unfold Oper.wp execOp;simp only[f,resolve,invoke,builtin,Sem.run_bind,Sem.run_pure,Result.andThen_ok,List.map_toArray,List.map_cons,List.map_nil,g,k,b];exact h
inductive RZ (w:World) (b8 b9 R:Nat):Prop
 |mk (s:Bool) (a:Option Addr) (n c:Nat) (f:FB w b9 (.bool s) (.slice a n c)) (i:IsZ w (.agg #[.bool s,.slice a n c]) (R:Int)) (l:∀x,a=some x→x.block≠b8)
theorem zf8 {b D M R:Nat} (f:D<10000^b) (g:M<10001) (j:R<10000*D):
 (D:Int).natAbs<10000^(b+2)∧(M:Int).natAbs<10000^(b+2)∧((D:Int)*(M:Int)).natAbs<10000^(b+2)∧((R:Nat):Int).natAbs<10000^(b+2):=by
 have e:10000^(b+2)=10000^b*100000000:=(by rw[Nat.pow_add]);have c:0<10000^b:=Nat.pow_pos dd;have d:D*M≤D*10000:=Nat.mul_le_mul_left _ om;rw[Int.natAbs_mul,Int.natAbs_natCast,Int.natAbs_natCast,Int.natAbs_natCast,e];omega
theorem IsZ.setSame {w:World} {v u:Value} {z:Int} (h:IsZ w v z) {p i:Nat} (j:w.cell? ⟨p,i,none⟩=some u):IsZ (w.setCell ⟨p,i,none⟩ u) v z:=by
 obtain⟨r,m,B,n,b,o,c,t,y,f,g,s,C,A⟩:=h;have e:∀q k,(w.setCell ⟨p,i,none⟩ u).cell? ⟨q,k,none⟩=w.cell? ⟨q,k,none⟩:=by
  intro q k;by_cases x:q=p∧k=i
  ·obtain⟨rfl,rfl⟩:=x;rw[zar j,j]
  ·exact zaa om
 refine⟨r,m,B,n,b,o,c,t,y,f,g,fun k l=>?_,?_,?_⟩
 ·rw[zab (e b (o+k)),e];exact s k l
 ·rw[←C];exact zaz fun k l=>zab (e b (o+k))
 ·rcases A with d|d
  ·exact .inl d
  ·right;rw[zab (e b _)];exact d
structure HV (D R lo hi:Nat):Prop where
 lt:lo<hi
 le:hi≤10000
 l1:lo*D≤R
 l2:R<hi*D
def ZW (w:World) (b:Nat) (z:Int):Prop:=∃s a n c,FB w b (.bool s) (.slice a n c)∧IsZ w (.agg #[.bool s,.slice a n c]) z
theorem ZW.below {w w':World} {b:Nat} {z:Int} (h:ZW w b z) (d:Below w.heap.size w w'):ZW w' b z:=by obtain⟨s,a,n,c,f,g⟩:=h;exact⟨s,a,n,c,f.below d,g.below d⟩
theorem ZW.set {w:World} {b:Nat} {z:Int} {x s:Bool} {a d:Option Addr} {n c j f:Nat} (h:FB w b (.bool x) (.slice d j f)) (g:IsZ w (.agg #[.bool s,.slice a n c]) z):
 ZW ((w.setCell ⟨b,0,none⟩ (.bool s)).setCell ⟨b,1,none⟩ (.slice a n c)) b z:=⟨s,a,n,c,h.set _ _,g.storedF (x:=false) h⟩
structure EX (w wx:World) (b2 b3 b4 b5 b6 b9 b14:Nat) (sa:Bool) (aa:Option Addr) (na ca:Nat) (sb:Bool) (ab:Option Addr) (nb cb:Nat) (q r:Nat):Prop where
 bel:Below w.heap.size w wx
 f2:FB wx b2 (.bool sa) (.slice aa na ca)
 f3:FB wx b3 (.bool sb) (.slice ab nb cb)
 f4:FB wx b4 (.bool false) (.slice none 0 0)
 f5:FB wx b5 (.bool false) (.slice none 0 0)
 f6:FB wx b6 (.int .i64 0) (.int .i64 0)
 z9:ZW wx b9 (r:Int)
 z14:∃s a n c,FB wx b14 (.bool s) (.slice a n c)∧IsZ wx (.agg #[.bool s,.slice a n c]) (q:Int)∧(r=0→∀x,a=some x→w.heap.size≤x.block)
theorem EX.of {w c:World} {o p s t u J L y d:Nat} {H:Bool} {m:Option Addr} {E A:Nat} {sb:Bool} {n:Option Addr} {F B:Nat} {R:Bool} {I:Option Addr} {O M:Nat} {D:Int} {k P:Nat}
 {j:Bool} {b:Option Addr} {g f:Nat} {G:Bool} {l:Option Addr} {C z:Nat} {q r:Nat}
 (h:(DI w c o p s t u J L H m E A sb n F B R I O M D k P∧FB c d (.bool j) (.slice b g f))∧FB c y (.bool G) (.slice l C z)∧IsZ c (.agg #[.bool j,.slice b g f]) (q:Int)∧IsZ c (.agg #[.bool G,.slice l C z]) (r:Int)) (N:∀x,b=some x→w.heap.size≤x.block):
 EX w c o p s t u y d H m E A sb n F B q r:=
 ⟨h.1.1.bel,h.1.1.f2,h.1.1.f3,h.1.1.f4,h.1.1.f5,h.1.1.f6,⟨_,_,_,_,h.2.1,h.2.2.2⟩,⟨_,_,_,_,h.1.2,h.2.2.1,fun _=>N⟩⟩
structure E1 (w wx:World) (b2 b3 b4 b5 b6 b7 b9 b14:Nat) (sa:Bool) (aa:Option Addr) (na ca:Nat) (sb:Bool) (ab:Option Addr) (nb cb:Nat) (s7:Bool) (a7:Option Addr) (n7 c7:Nat) (s9:Bool) (a9:Option Addr) (n9 c9:Nat) (D q r:Int):Prop where
 bel:Below w.heap.size w wx
 f2:FB wx b2 (.bool sa) (.slice aa na ca)
 f3:FB wx b3 (.bool sb) (.slice ab nb cb)
 f4:FB wx b4 (.bool false) (.slice none 0 0)
 f5:FB wx b5 (.bool false) (.slice none 0 0)
 f6:FB wx b6 (.int .i64 0) (.int .i64 0)
 f7:FB wx b7 (.bool s7) (.slice a7 n7 c7)
 i7:IsZ wx (.agg #[.bool s7,.slice a7 n7 c7]) D
 z14:ZW wx b14 q
 f9:FB wx b9 (.bool s9) (.slice a9 n9 c9)
 i9:IsZ wx (.agg #[.bool s9,.slice a9 n9 c9]) r
theorem zmade_z (w:World) (l s:Bool) (a:Option Addr) (n c:Nat) (z:Int) (h:IsZ w (.agg #[.bool s,.slice a n c]) z):
 Calls Tryz.prog 73 #[.bool l,.slice a n c] w fun e w'=>∃v,e=.returned v∧Below w.heap.size w w'∧IsZ w' v (sgn l z.natAbs):=by
 obtain⟨p,m,o,q,d,j,g,b,f,k,-⟩:=h.dg.2;simp only[Value.slice.injEq]at d;obtain⟨rfl,-,rfl⟩:=d;exact zfy w l a m o n c _ j g b f k
theorem zmade_zn (w:World) (l s:Bool) (a:Option Addr) (n c:Nat) (z:Int) (p:Prop) (B:Nat) (h:IsZ w (.agg #[.bool s,.slice a n c]) z) (u:p→∀x,a=some x→B≤x.block):
 Calls Tryz.prog 73 #[.bool l,.slice a n c] w fun e w'=>∃v,e=.returned v∧Below w.heap.size w w'∧IsZN w' v (sgn l z.natAbs) p B:=by
 obtain⟨C,m,A,D,d,j,g,b,f,k,-⟩:=h.dg.2;simp only[Value.slice.injEq]at d;obtain⟨rfl,-,rfl⟩:=d;exact(zb4 w l a m A n c _ j g b f k).mono fun e w' ⟨v,o,q,r,t⟩=>⟨v,o,q,r,fun y=>t.new (u y)⟩
theorem IsZN.ext {w w':World} {v:Value} {z:Int} {p:Prop} {B:Nat} (h:IsZN w v z p B) (b:Ext w w'):IsZN w' v z p B:=⟨b.z _ _ h.1,h.2⟩
theorem TFa.extZ {v:Value} {w:World} {b:Nat} (h:TFa false v w b):Ext w (za9 w b (.int .i64 0) (.int .i64 0)):=by obtain⟨x,y,c,-,d⟩:=h;obtain⟨rfl,rfl⟩:=d rfl;exact c.extSame (.int _) (.int _)
theorem zDiv_new (w:World) (va vb:Value) (a b:Int) (LX:Nat) (hx:IsZ w va a) (hy:IsZ w vb b) (h0:b≠0) (hA:a.natAbs<10000^LX) (hB:b.natAbs<10000^LX) (hL:LX≤100000):
 Calls Tryz.prog 35 #[va,vb] w fun e w'=>∃vq vr,e=.returned (.tuple #[vq,vr,.agg #[.int .i64 0,.int .i64 0]])∧Below w.heap.size w w'∧IsZ w' vq (a / b)∧IsZ w' vr (a%b)∧(a%b=0→ZNew w.heap.size vq):=by
 obtain⟨i0,zd,wh,xh,yh⟩:=info_parts zdq;obtain⟨fl,s,rfl,da⟩:=hx;obtain⟨gl,Z,rfl,db⟩:=hy;have fk:Z≠0:=fun h=>by have:=db.zero_iff.2 h;omega
 have ek:=da.len_le hA;have jk:=db.len_le hB;obtain⟨aa,ba,oa,ca,rfl,sj,hl,dk,se,hf,tj⟩:=id da;obtain⟨ab,Y,ob,cb,rfl,rh,nj,bh,ac,jf,uj⟩:=id db;obtain⟨sa,jd⟩:∃sa,decide (a<0)=sa:=⟨_,rfl⟩;obtain⟨sb,kd⟩:∃sb,decide (b<0)=sb:=⟨_,rfl⟩;rw[jd,kd];obtain⟨A,qe⟩:∃A,a.natAbs=A:=⟨_,rfl⟩;obtain⟨D,re⟩:∃D,b.natAbs=D:=⟨_,rfl⟩;rw[qe]at hA hf;rw[re]at hB jf;have lc:0<D:=om;have HS:Hid (decide (a<0)=sa∧decide (b<0)=sb∧a.natAbs=A∧b.natAbs=D∧b≠0):=⟨jd,kd,qe,re,h0⟩;have mg:Hid (num 10000 w ba oa s=A):=hf;have hg:Hid (A<10000^LX):=hA;have pc:Hid (D<10000^LX):=hB;have pj:Y<w.heap.size:=ac.lt om;obtain rfl:=rh om;clear rh;have oh:¬(Z:Int)=0:=om;have ik:((Z:Int)==0)=false:=(by simpa using oh);clear jd kd qe re h0 da db uj tj hf hA hB;go_enter Tryz.func35,Tryz.ntmps35;go_upto_region 1 with fail;refine zac (fun w1=>Below w.heap.size w w1∧FB w1 w.heap.size (.bool sa) (.slice aa s ca)∧FB w1 (w.heap.size+1) (.bool sb) (.slice (some ⟨Y,ob,none⟩) Z cb)∧FB w1 (w.heap.size+1+1) (.bool false) (.slice none 0 0)∧FB w1 (w.heap.size+1+1+1) (.bool false) (.slice none 0 0)∧FB w1 (w.heap.size+1+1+1+1) (.int .i64 0) (.int .i64 0)) (fb5 w _ _ _ _ _ _ _ _ _ _ _ _ _ _ _ rfl) ?_;rintro w1 ⟨xb,F2,F3,F4,F5,F6⟩;have rg:=F6.lt;obtain⟨I,yg⟩:∃b,b=w.heap.size+1+1+1+1:=⟨_,rfl⟩;obtain⟨H,xg⟩:∃b,b=w.heap.size+1+1+1:=⟨_,rfl⟩;obtain⟨G,wg⟩:∃b,b=w.heap.size+1+1:=⟨_,rfl⟩;obtain⟨S,zb⟩:∃b,b=w.heap.size+1:=⟨_,rfl⟩;obtain⟨R,yb⟩:∃b,b=w.heap.size:=⟨_,rfl⟩;rw[←yg]at F6 rg⊢;rw[←xg]at F5⊢;rw[←wg]at F4⊢;rw[←zb]at F3⊢;rw[←yb]at F2⊢;have V:Hid (w.heap.size≤R∧R<S∧S<G∧G<H∧H<I):=(by show _∧_∧_∧_∧_;omega);clear yb zb wg xg yg;have CZ:=zb4 w1 false (some ⟨Y,ob,none⟩) Y ob Z cb D (Sl.mk _ _ _) nj bh (zae ac xb) ((zah ac xb).trans jf);rw[zbd]at CZ;obtain⟨l3,wj,xj,-,-⟩:=id F3;have la:Hid (Below w.heap.size w w1):=xb;clear xb;go_wp2_with (go_at_call 73;fail);refine CZ.mono ?_;rintro e w2 ⟨v7,rfl,yd,zh,xe⟩;cases xe with
 |mk s7 a7 n7 c7 h7=>
 clear CZ l3 wj xj;go_upto_region 4 with fail;refine zac (fun w3=>Kq w2 w3∧FB w3 w2.heap.size (.bool s7) (.slice a7 n7 c7)) (fb1 w2 _ _ _) ?_;rintro w3 ⟨qa,F7⟩;replace qa:Below w2.heap.size w2 w3:=qa;have ic:=yd.trans (qa.mono yd.size);have I7:=zh.below qa;obtain⟨l2,ja,ka,-,-⟩:=F2.below ic;obtain⟨b7,ee⟩:∃b,b=w2.heap.size:=⟨_,rfl⟩;have sg:I<b7∧b7<w3.heap.size:=(by have:=yd.size;have:=F7.lt;omega);rw[←ee]at F7⊢;clear ee;go_upto_region 5 with (at_make;refine zap .i64 10000 dd rfl _ _ 29 rfl 3 i0 Tryz.underlying29 zd wh xh .i64 .i64 _ _ s rfl rfl om om (by rw[yh];omega) (by unfold maxLen;omega) ?_;intro w4 hm);go_upto_region 6 with fail;have jc:Below w3.heap.size w3 (w4.alloc (Obj.cells #[.bool false,.slice none 0 0] 31)):=hm.below.trans ((zau w4 _).mono hm.below.size);have F9:=FB.mk0 w4 (.bool false) (.slice none 0 0) 31;have pa:=ic.trans (jc.mono ic.size);obtain⟨b8,tc⟩:∃b,b=w3.heap.size:=⟨_,rfl⟩;obtain⟨t,te⟩:∃b,b=w4.heap.size:=⟨_,rfl⟩;have vg:b7<b8∧b8<t:=(by have:=hm.lt;omega);have ce:Below w.heap.size w (w4.alloc (Obj.cells #[.bool false,.slice none 0 0] 31)):=la.out.trans (pa.mono la.out.size);have D0:DI w (w4.alloc (Obj.cells #[.bool false,.slice none 0 0] 31)) R S G H I b7 b8 sa aa s ca sb (some ⟨Y,ob,none⟩) Z cb s7 a7 n7 c7 (D:Int) s 0:=by
  have ck:w3.heap.size<w4.heap.size:=hm.lt;refine⟨ce,F2.below pa,F3.below pa,F4.below pa,F5.below pa,F6.below pa,F7.below jc,I7.below jc,fun x hx=>?_,by rw[tc];simp;omega,?_,?_,?_⟩
  ·rcases h7 with rfl|rfl
   ·cases hx
   ·obtain rfl:=oi hx;have:=V.out;show Y≠b8;omega
  ·rw[tc];exact zae hm.arr (zau w4 _)
  ·rw[tc];exact fun i hi=>(World.frozen?_of_block ((zau w4 _).block _ ck)).trans (hm.free i hi)
  ·rw[Nat.sub_self];rfl
 have dg:Hid (DI w (w4.alloc (Obj.cells #[.bool false,.slice none 0 0] 31)) R S G H I b7 b8 sa aa s ca sb (some ⟨Y,ob,none⟩) Z cb s7 a7 n7 c7 (D:Int) s 0∧ZW (w4.alloc (Obj.cells #[.bool false,.slice none 0 0] 31)) t 0):=⟨D0,_,_,_,_,by rw[te];exact F9,zcl _⟩;have V:Hid ((w.heap.size≤R∧R<S∧S<G∧G<H∧H<I)∧I<b7∧b7<b8∧b8<t):=⟨V.out,sg.1,vg⟩;rw[←te,←tc];clear hm F2 F3 F4 F5 F6 F7 F9 I7 zh qa yd ic jc pa tc te vg ce D0 sg rg la l2 ja ka h7 jf ac pj zd wh xh yh;refine zac (fun w5=>DI w w5 R S G H I b7 b8 sa aa s ca sb (some ⟨Y,ob,none⟩) Z cb s7 a7 n7 c7 (D:Int) s 0∧ZW w5 t 0) dg.out ?_;clear dg;rintro w5 ⟨D5,Z5⟩;obtain⟨l2,ja,ka,-,-⟩:=id D5.f2;have eg:Hid (DI w w5 R S G H I b7 b8 sa aa s ca sb (some ⟨Y,ob,none⟩) Z cb s7 a7 n7 c7 (D:Int) s 0∧ZW w5 t 0):=⟨D5,Z5⟩;clear D5 Z5;go_wp2;clear l2 ja ka;go_loopw [10] (fun uf wr=>∃k:Nat,k≤s∧uf=.int .i64 ((k:Int)-1)∧Hid (DI w wr R S G H I b7 b8 sa aa s ca sb (some ⟨Y,ob,none⟩) Z cb s7 a7 n7 c7 (D:Int) k (num 10000 w ba (oa+k) (s-k) / D)∧ZW wr t ((num 10000 w ba (oa+k) (s-k)%D:Nat):Int)))
  (fun uf _=>(intOf uf+1).toNat)
 case atStart=>refine⟨s,Nat.le_refl _,by go_num,?_⟩;rw[Nat.sub_self,zao,Nat.zero_div,Nat.zero_mod];exact eg
 case round=>
  clear eg;obtain⟨k,hk,rfl,HR⟩:=hrel;by_cases ed:k=0
  ·subst ed;obtain⟨DR,s9,a9,n9,c9,F9,I9⟩:=HR.out;rw[Nat.add_zero,Nat.sub_zero,mg.out]at DR I9;have qn:=DR.qn;rw[Nat.sub_zero]at qn;have CZ:=zb4 wr false (some ⟨b8,0,none⟩) b8 (0+0) s s (A / D) (Sl.mk _ _ _) (Nat.le_refl _) om DR.qa qn;rw[zbd]at CZ;have pb:Hid (DI w wr R S G H I b7 b8 sa aa s ca sb (some ⟨Y,ob,none⟩) Z cb s7 a7 n7 c7 (D:Int) 0 (A / D)):=DR;have ea:Hid (FB wr t (.bool s9) (.slice a9 n9 c9)):=F9;have qb:Hid (IsZ wr (.agg #[.bool s9,.slice a9 n9 c9]) ((A%D:Nat):Int)):=I9;clear DR F9 I9 qn HR hk;go_wp2_with (go_at_call 73;fail);refine CZ.mono ?_;rintro e w2 ⟨tl,rfl,yb,ld,bd⟩;obtain⟨gc,eb,fc,ub,rfl⟩:=ld.form;have oc:Hid (∀x,eb=some x→w.heap.size≤x.block):=(by refine(bd.new (B:=w.heap.size) fun x hx=>?_).at;obtain rfl:=oi hx;have:=V.out;show w.heap.size≤b8;omega);clear bd;clear CZ;go_upto_region 21 with fail;refine zac (fun c=>Kq w2 c∧FB c w2.heap.size (.bool gc) (.slice eb fc ub)) (fb1 w2 _ _ _) ?_;rintro w3 ⟨qa,za⟩;replace qa:Below w2.heap.size w2 w3:=qa;have zb:=yb.trans (qa.mono yb.size);have D3:=pb.out.step zb;have F9:=ea.out.below zb;have I9:=IsZ.below qb.out zb;have ng:=ld.below qa;obtain⟨q,de⟩:∃b,b=w2.heap.size:=⟨_,rfl⟩;have f:Hid (t<q):=(by have:=ea.out.lt;have:=yb.size;show t<q;omega);rw[←de]at za⊢;clear de qa yb ld pb ea qb zb;clear w2 wr;have mh:n9=0↔A%D=0:=(by have h:=I9.dg.2;rw[Int.natAbs_natCast]at h;exact h.zero_iff.symm);have rb:Hid (n9=0↔A%D=0):=mh;have E:Hid ((DI w w3 R S G H I b7 b8 sa aa s ca sb (some ⟨Y,ob,none⟩) Z cb s7 a7 n7 c7 (D:Int) 0 (A / D)∧FB w3 q (.bool gc) (.slice eb fc ub))∧FB w3 t (.bool s9) (.slice a9 n9 c9)∧IsZ w3 (.agg #[.bool gc,.slice eb fc ub]) ((A / D:Nat):Int)∧IsZ w3 (.agg #[.bool s9,.slice a9 n9 c9]) ((A%D:Nat):Int)):=⟨⟨D3,za⟩,F9,ng,I9⟩;obtain⟨l2,ja,ka,-,-⟩:=D3.f2;obtain⟨l9,T,U,-,-⟩:=F9;clear D3 za ng I9 mh;clear l2 ja ka l9 T U;have ia:Hid (((A / D:Nat):Int).natAbs<10000^LX∧(1:Int).natAbs<10000^LX∧(D:Int).natAbs<10000^LX∧((A%D:Nat):Int).natAbs<10000^LX):=by
    have h1:=hg.out;have h2:=pc.out;have h3:=Nat.div_le_self A D;have h4:=Nat.mod_lt A lc;have h5:∀P:Nat,A<P→D<P→0<D→((A / D:Nat):Int).natAbs<P∧(1:Int).natAbs<P∧(D:Int).natAbs<P∧((A%D:Nat):Int).natAbs<P:=by
     intro P p1 p2 p3;refine⟨?_,?_,?_,?_⟩
     ·rw[Int.natAbs_natCast];omega
     ·show 1<P;omega
     ·rw[Int.natAbs_natCast];omega
     ·rw[Int.natAbs_natCast];omega
    exact h5 _ h1 h2 lc
   obtain⟨l2,ja,ka,-,-⟩:=E.out.1.1.f2;obtain⟨l9,T,U,-,-⟩:=E.out.2.1;go_cut [90] from 83 to 90 (fun v c=>v=.bool (sa&&decide (0<n9))∧c=w3)
   case first=>
    clear E rb ia;cases sa with
    |false=>
     go_wp2_with fail;go_meet
     case rel=>exact⟨rfl,rfl⟩
    |true=>
     by_cases qc:n9=0
     ·subst qc;go_wp2_with fail;go_meet
      case rel=>exact⟨rfl,rfl⟩
     ·have nh:(0:Int)<(n9:Int):=om;go_wp2_with fail;go_meet
      case rel=>exact⟨by simp;try omega,rfl⟩
   case rest=>
   obtain⟨rfl,vj⟩:=hcut;subst wc;clear l2 ja ka l9 T U;go_upto_if 90 with fail;go_cut [] from 83 to 96 (fun c=>EX w c R S G H I t q sa aa s ca sb (some ⟨Y,ob,none⟩) Z cb (_root_.Rad.dq a b) (_root_.Rad.dr a b))
   case first=>
    cases sa with
    |false=>
     have xa:_root_.Rad.dq a b=A / D∧_root_.Rad.dr a b=A%D:=(by obtain⟨h1,h2,h3,h4,h5⟩:=HS.out;have hn:¬a<0:=(by simpa using h1);unfold _root_.Rad.dq _root_.Rad.dr;rw[if_neg (fun h=>hn h.1),if_neg (fun h=>hn h.1),h3,h4];exact⟨rfl,rfl⟩);have HE:Hid (EX w w3 R S G H I t q false aa s ca sb (some ⟨Y,ob,none⟩) Z cb (_root_.Rad.dq a b) (_root_.Rad.dr a b)):=(by rw[xa.1,xa.2];exact EX.of E.out oc.out);clear E xa rb ia;rw[Bool.false_and];go_wp2_with fail;go_meet
     case rel=>exact HE.out
    |true=>
     by_cases qc:n9=0
     ·have xa:_root_.Rad.dq a b=A / D∧_root_.Rad.dr a b=A%D:=(by obtain⟨h1,h2,h3,h4,h5⟩:=HS.out;have hn:=rb.out.1 qc;unfold _root_.Rad.dq _root_.Rad.dr;rw[h3,h4,if_neg (fun h=>h.2 hn),if_neg (fun h=>h.2 hn)];exact⟨rfl,rfl⟩);have HE:Hid (EX w w3 R S G H I t q true aa s ca sb (some ⟨Y,ob,none⟩) Z cb (_root_.Rad.dq a b) (_root_.Rad.dr a b)):=(by rw[xa.1,xa.2];exact EX.of E.out oc.out);subst qc;clear E xa rb ia;rw[show(true&&decide (0<0))=false from rfl];go_wp2_with fail;go_meet
      case rel=>exact HE.out
     ·have xa:_root_.Rad.dq a b=A / D+1∧_root_.Rad.dr a b=D-A%D:=(by obtain⟨h1,h2,h3,h4,h5⟩:=HS.out;have hn:¬A%D=0:=fun h=>qc (rb.out.2 h);have ha:a<0:=(by simpa using h1);unfold _root_.Rad.dq _root_.Rad.dr;rw[h3,h4,if_pos ⟨ha,hn⟩,if_pos ⟨ha,hn⟩];exact⟨rfl,rfl⟩);have je:Hid (_root_.Rad.dq a b=A / D+1∧_root_.Rad.dr a b=D-A%D):=xa;have nh:(0:Int)<(n9:Int):=om;obtain⟨l2,ja,ka,-,-⟩:=E.out.1.1.f2;obtain⟨l9,T,U,-,-⟩:=E.out.2.1;obtain⟨be,bi,di,-,-⟩:=E.out.1.2;have fh:decide (0<n9)=true:=(by simp;omega);rw[fh,Bool.and_true];clear xa rb fh;go_upto_region 22 with fail;go_region_with (first
       |(go_at_call 17;refine(zOf_any _ 1 dd dd).mono ?_;rintro e wa ⟨va,rfl,uc,zc⟩;have F:=(zad w3).trans uc;obtain⟨ni,kf,mf,-,-⟩:=E.out.1.2.below F)
       |(go_at_call 23;refine(zAdd_any wa _ _ ((A / D:Nat):Int) 1 LX (IsZ.below E.out.2.2.1 F) zc ia.out.1 ia.out.2.1 om).mono ?_;rintro e wd ⟨vd,rfl,vc,hid⟩;have J:=F.trans (vc.mono F.size);obtain⟨sd,ad,nd,cd,rfl⟩:=hid.form;obtain⟨pi,lf,pf,rf,tf⟩:=E.out.1.2.below J))
      all_goals
       have za:=E.out.1.2.below J;have DW:=E.out.1.1.step J;have mj:w.heap.size≤q∧R≠q∧S≠q∧G≠q∧H≠q∧I≠q∧b7≠q∧t≠q:=(by have:=V.out;have:=f.out;omega);obtain⟨q0,q2,q3,q4,q5,q6,q7,q9⟩:=mj;have HZ:Hid (E1 w ((wd.setCell ⟨q,0,none⟩ (.bool sd)).setCell ⟨q,1,none⟩ (.slice ad nd cd)) R S G H I b7 t q true aa s ca sb (some ⟨Y,ob,none⟩) Z cb s7 a7 n7 c7 s9 a9 n9 c9 (D:Int) (((A / D:Nat):Int)+1) ((A%D:Nat):Int)):=⟨zaf DW.bel q0 _ _,DW.f2.other _ _ q2,DW.f3.other _ _ q3,DW.f4.other _ _ q4,DW.f5.other _ _ q5,DW.f6.other _ _ q6,DW.f7.other _ _ q7,DW.i7.storedF (x:=false) za,⟨_,_,_,_,za.set _ _,hid.storedF (x:=false) za⟩,(E.out.2.1.below J).other _ _ q9,(IsZ.below E.out.2.2.2 J).storedF (x:=false) za⟩;clear za DW q0 q2 q3 q4 q5 q6 q7 q9 hid vc J uc F zc;clear E;go_upto_region 23 with fail;refine zac (fun W=>E1 w W R S G H I b7 t q true aa s ca sb (some ⟨Y,ob,none⟩) Z cb s7 a7 n7 c7 s9 a9 n9 c9 (D:Int) (((A / D:Nat):Int)+1) ((A%D:Nat):Int)) HZ.out ?_;clear HZ l2 ja ka l9 T U be bi di ni kf mf pi lf pf rf tf;rintro w5 E5;obtain⟨l7,dc,ec,-,-⟩:=E5.f7;obtain⟨l9,T,U,-,-⟩:=E5.f9;have ga:Hid (E1 w w5 R S G H I b7 t q true aa s ca sb (some ⟨Y,ob,none⟩) Z cb s7 a7 n7 c7 s9 a9 n9 c9 (D:Int) (((A / D:Nat):Int)+1) ((A%D:Nat):Int)):=E5;clear E5;have CS:∀c,Below w5.heap.size w5 c→Calls Tryz.prog 25 #[.agg #[.bool s7,.slice a7 n7 c7],.agg #[.bool s9,.slice a9 n9 c9]] c fun e w'=>∃v,e=.returned v∧Below c.heap.size c w'∧IsZ w' v ((D:Int)-((A%D:Nat):Int)):=fun c h=>zSub_any c _ _ _ _ LX (ga.out.i7.below h) (ga.out.i9.below h) ia.out.2.2.1 ia.out.2.2.2 om;go_wp2_with (go_at_call 25;fail);refine(CS w5 zz).mono ?_;rintro e wf ⟨vf,rfl,N,ae⟩;obtain⟨sf,af,nf,cf,rfl⟩:=ae.form;obtain⟨ql,lk,ok,rk,uk⟩:=ga.out.f9.below N;have F9:=ga.out.f9.below N;have BW:=ga.out.bel.trans (N.mono ga.out.bel.size);have h9:w.heap.size≤t∧R≠t∧S≠t∧G≠t∧H≠t∧I≠t∧q≠t:=(by have:=V.out;have:=f.out;omega);obtain⟨q0,q2,q3,q4,q5,q6,ui⟩:=h9;have fd:(D:Int)-((A%D:Nat):Int)=((_root_.Rad.dr a b:Nat):Int):=(by have h1:=Nat.mod_lt A lc;rw[je.out.2];omega);have ph:((A / D:Nat):Int)+1=((_root_.Rad.dq a b:Nat):Int):=(by rw[je.out.1];omega);rw[fd]at ae;have zi:Hid (EX w ((wf.setCell ⟨t,0,none⟩ (.bool sf)).setCell ⟨t,1,none⟩ (.slice af nf cf)) R S G H I t q true aa s ca sb (some ⟨Y,ob,none⟩) Z cb (_root_.Rad.dq a b) (_root_.Rad.dr a b)):=by
        obtain⟨s4,a4,n4,c4,td,md⟩:=ga.out.z14;rw[ph]at md;exact⟨zaf BW q0 _ _,(ga.out.f2.below N).other _ _ q2,(ga.out.f3.below N).other _ _ q3,(ga.out.f4.below N).other _ _ q4,(ga.out.f5.below N).other _ _ q5,(ga.out.f6.below N).other _ _ q6,
         ⟨_,_,_,_,F9.set _ _,ae.storedF (x:=false) F9⟩,⟨_,_,_,_,(td.below N).other _ _ ui,(md.below N).storedF (x:=false) F9,fun h=>by have h1:=Nat.mod_lt A lc;have h2:=je.out.2;omega⟩⟩
       clear F9 BW q0 q2 q3 q4 q5 q6 ui fd ph ae N ga CS;go_wp2_with fail;go_meet
       case rel=>exact zi.out
   case rest=>
    clear E rb ia hg pc mg;obtain⟨fe,f2,f3,f4,f5,f6,⟨s9,a9,n9,c9,f9,i9⟩,⟨gc,eb,fc,ub,td,md,be⟩⟩:=hcut;have nc:Hid (sgn (sa !=sb) (_root_.Rad.dq a b)=a / b∧((_root_.Rad.dr a b:Nat):Int)=a%b):=(by obtain⟨h1,h2,h3,h4,h5⟩:=HS.out;have h:=_root_.Rad.dqr a b h5;rw[h1,h2]at h;exact⟨by rw[←h.1];unfold sgn;rfl,h.2⟩);have la:Hid (Below w.heap.size w wc):=fe;have ij:Hid (FB wc R _ _):=f2;have jj:Hid (FB wc S _ _):=f3;have kj:Hid (FB wc t _ _):=f9;have lg:Hid (FB wc q _ _):=td;have fj:Hid (TZ false undef wc G):=⟨false,none,0,0,f4,fun h=>(by cases h)⟩;have gj:Hid (TZ false undef wc H):=⟨false,none,0,0,f5,fun h=>(by cases h)⟩;have hj:Hid (TFa false undef wc I):=⟨0,0,f6,fun h=>(by cases h),fun _=>⟨rfl,rfl⟩⟩;have qb:Hid (IsZ wc _ _):=i9;have fg:Hid (IsZ wc _ _):=md;have aj:Hid (_root_.Rad.dr a b=0→∀x,eb=some x→w.heap.size≤x.block):=be;clear fe f2 f3 f4 f5 f6 f9 i9 td md be oc;go_upto_region 24 with fail;refine zac (fun w1=>w1=wc) rfl ?_;rintro w1 rfl;refine zdg zbf [⟨97,[],[],[2]⟩,⟨98,[0],[0],[]⟩,⟨99,[],[],[3]⟩,⟨100,[2],[2],[]⟩,⟨101,[1,3],[0,1,2,3],[]⟩,⟨102,[],[],[14]⟩,⟨103,[5],[5],[]⟩,⟨104,[4,6],[0,1,2,3,4,5,6],[]⟩,⟨105,[],[],[9]⟩,⟨106,[],[],[]⟩,⟨117,[0,1,2,3,4,5,6,7],[0,1,2,3,4,5,6,7],[4]⟩,⟨118,[0,1,2,3,4,5,6,7,8,10],[0,1,2,3,4,5,6,7,8,10],[5]⟩,⟨119,[0,1,2,3,4,5,6,7,8,9,10,11],[0,1,2,3,4,5,6,7,8,9,10,11],[6]⟩] [] 107 rfl kfl (fun (i:Nat) (v:Value) (wq:World)=>match i with|0=>v=.pointer (some ⟨R,0,none⟩)|1=>v=.bool (sa)|2=>v=.pointer (some ⟨S,0,none⟩)|3=>v=.bool (sb)|4=>v=.bool ((sa) !=(sb))|5=>v=.pointer (some ⟨q,1,none⟩)|6=>v=.slice eb fc (ub)|7=>IsZN wq v (a / b) (_root_.Rad.dr a b=0) w.heap.size|8=>v=.agg #[.bool s9,.slice a9 n9 c9]|9=>v=.agg #[.int .i64 0,.int .i64 0]|10=>True|11=>True|12=>True|_=>True) (fun (L:Nat→Bool) (fr:Act) (wq:World)=>Ext w1 wq∧Below w.heap.size w wq∧w1.heap.size≤wq.heap.size∧FB wq R (.bool sa) (.slice aa s ca)∧FB wq S (.bool sb) (.slice (some ⟨Y,ob,none⟩) Z cb)∧FB wq t (.bool s9) (.slice a9 n9 c9)∧FB wq q (.bool gc) (.slice eb fc ub)∧TZ (L 10) (fr.eval (.tmp 104)) wq G∧TZ (L 11) (fr.eval (.tmp 105)) wq H∧TFa (L 12) (fr.eval (.tmp 106)) wq I∧True) Ext ⟨Ext.of_below (zad _),la.out.drew,Nat.le_refl _,ij.out.drew,jj.out.drew,kj.out.drew,lg.out.drew,(TZ.below fj.out (zad _)).free,(TZ.below gj.out (zad _)).free,(TFa.below hj.out (zad _)).free,trivial⟩ (fun i v c wy h hx=>match i,h with|0,h=>h|1,h=>h|2,h=>h|3,h=>h|4,h=>h|5,h=>h|6,h=>h|7,h=>(h:IsZN c v (a / b) (_root_.Rad.dr a b=0) w.heap.size).ext hx|8,h=>h|9,h=>h|10,_=>trivial|11,_=>trivial|12,_=>trivial|n+13,_=>trivial) ?_ ?_
    ·intro i o r O y L fr c hW hL bc fb sh l m;have ke:Hid _:=sh;clear sh;obtain⟨hE,hB,hS,gb,ib,jb,kb,ya,ta,ua,-⟩:Ext w1 c∧Below w.heap.size w c∧w1.heap.size≤c.heap.size∧FB c R (.bool sa) (.slice aa s ca)∧FB c S (.bool sb) (.slice (some ⟨Y,ob,none⟩) Z cb)∧FB c t (.bool s9) (.slice a9 n9 c9)∧FB c q (.bool gc) (.slice eb fc ub)∧TZ (L 10) (fr.eval (.tmp 104)) c G∧TZ (L 11) (fr.eval (.tmp 105)) c H∧TFa (L 12) (fr.eval (.tmp 106)) c I∧True:=hW
     match i,O,y with
     |0,O,y=>?_
     |1,O,y=>?_
     |2,O,y=>?_
     |3,O,y=>?_
     |4,O,y=>?_
     |5,O,y=>?_
     |6,O,y=>?_
     |7,O,y=>obtain rfl:=oi O;obtain rfl:=oi y;have f0:L 10=false:=fb 10 dd;have e4:=evs 101 (l 4 dd _ rfl);have e6:=evs 103 (l 6 dd _ rfl);clear l m fb bc;refine zbs rfl rfl dd fun K hK=>?_;go_simp;refine(zmade_zn c _ gc _ _ _ _ (_root_.Rad.dr a b=0) w.heap.size (hE.z _ _ fg.out) aj.out).mono ?_;rintro e wy ⟨u4,rfl,hb,h4⟩;rw[Int.natAbs_natCast,nc.out.1]at h4;exact hK _ _ ⟨h4,⟨hE.trans (Ext.of_below hb),hB.trans (Below.mono hb hB.size),Nat.le_trans hS (Below.size hb),(gb.below hb),(ib.below hb),(jb.below hb),(kb.below hb),(by show TZ (L 10) _ _ _;have t9:=(ya.below hb);rw[f0]at t9⊢;exact t9.free),TZ.at dd (ta.below hb),TFa.at dd (ua.below hb),trivial⟩,Ext.of_below hb,nn⟩
     |8,O,y=>?_
     |9,O,y=>?_
     |10,O,y=>obtain rfl:=oi O;obtain rfl:=oi y;obtain⟨u7,q7⟩:∃u,fr.eval (.tmp 104)=u:=⟨_,rfl⟩;have p7:IsZN c u7 (a / b) (_root_.Rad.dr a b=0) w.heap.size:=(by rw[←q7];exact l 7 dd _ rfl);have e7:=zbr q7;have t4:=evf 4 (.pointer (some ⟨G,0,none⟩)) (m 4 dd);clear l m fb bc;have tk:=ya;obtain⟨s4,a4,n4,c4,rfl⟩:=p7.form;have hX:Ext c (za9 c G (.bool s4) (.slice a4 n4 c4)):=tk.ext (.bool s4) (.slice a4 n4 c4);have hN:TZ true (.agg #[.bool s4,.slice a4 n4 c4]) (za9 c G (.bool s4) (.slice a4 n4 c4)) G:=tk.store s4 a4 n4 c4;rw[←q7]at hN;have tb:Hid _:=hN;have HX:Hid _:=hX;obtain⟨_,_,_,_,yc,ra⟩:=id tk;clear ra;obtain⟨lb,k0,k1,z0,z1⟩:=yc;refine stpS rfl ke.out dd fun K hK=>?_;have gg:Hid _:=hK;clear hN hX;go_simp;have hN:=tb.out;have hX:=HX.out;refine hK _ ⟨trivial,?_,hX,nn⟩;exact⟨hE.trans hX,zaf hB (by have:=V.out;omega) _ _,(by simp;exact hS),gb.other2 _ _ (by have:=V.out;have:=f.out;omega),ib.other2 _ _ (by have:=V.out;have:=f.out;omega),jb.other2 _ _ (by have:=V.out;have:=f.out;omega),kb.other2 _ _ (by have:=V.out;have:=f.out;omega),TZ.at dd hN,TZ.at dd (ta.other2 _ _ (by have:=V.out;have:=f.out;omega)),TFa.at dd (ua.other2 _ _ (by have:=V.out;have:=f.out;omega)),trivial⟩
     |11,O,y=>obtain rfl:=oi O;obtain rfl:=oi y;have q8:fr.eval (.tmp 105)=_:=l 8 dd _ rfl;have e8:=zbr q8;have t5:=evf 5 (.pointer (some ⟨H,0,none⟩)) (m 5 dd);clear l m fb bc;have tk:=ta;have hX:Ext c (za9 c H (.bool s9) (.slice a9 n9 c9)):=tk.ext (.bool s9) (.slice a9 n9 c9);have hN:TZ true (.agg #[.bool s9,.slice a9 n9 c9]) (za9 c H (.bool s9) (.slice a9 n9 c9)) H:=tk.store _ _ _ _;rw[←q8]at hN;have tb:Hid _:=hN;have HX:Hid _:=hX;obtain⟨_,_,_,_,yc,ra⟩:=id tk;clear ra;obtain⟨lb,k0,k1,z0,z1⟩:=yc;refine stpS rfl ke.out dd fun K hK=>?_;have gg:Hid _:=hK;clear hN hX;go_simp;have hN:=tb.out;have hX:=HX.out;refine hK _ ⟨trivial,?_,hX,nn⟩;exact⟨hE.trans hX,zaf hB (by have:=V.out;omega) _ _,(by simp;exact hS),gb.other2 _ _ (by have:=V.out;have:=f.out;omega),ib.other2 _ _ (by have:=V.out;have:=f.out;omega),jb.other2 _ _ (by have:=V.out;have:=f.out;omega),kb.other2 _ _ (by have:=V.out;have:=f.out;omega),TZ.at dd (ya.other2 _ _ (by have:=V.out;have:=f.out;omega)),TZ.at dd hN,TFa.at dd (ua.other2 _ _ (by have:=V.out;have:=f.out;omega)),trivial⟩
     |12,O,y=>obtain rfl:=oi O;obtain rfl:=oi y;have q9:fr.eval (.tmp 106)=_:=l 9 dd _ rfl;have e9:=zbr q9;have t6:=evf 6 (.pointer (some ⟨I,0,none⟩)) (m 6 dd);clear l m fb bc;have tk:=ua;have hX:Ext c (za9 c I (.int .i64 0) (.int .i64 0)):=(by have h:=tk;rw[hL]at h;exact h.extZ);have hN:TFa true (.agg #[.int .i64 0,.int .i64 0]) (za9 c I (.int .i64 0) (.int .i64 0)) I:=tk.store _ _;rw[←q9]at hN;have tb:Hid _:=hN;have HX:Hid _:=hX;obtain⟨_,_,yc,ra⟩:=id tk;clear ra;obtain⟨lb,k0,k1,z0,z1⟩:=yc;refine stpS rfl ke.out dd fun K hK=>?_;have gg:Hid _:=hK;clear hN hX;go_simp;have hN:=tb.out;have hX:=HX.out;refine hK _ ⟨trivial,?_,hX,nn⟩;exact⟨hE.trans hX,zaf hB (by have:=V.out;omega) _ _,(by simp;exact hS),gb.other2 _ _ (by have:=V.out;have:=f.out;omega),ib.other2 _ _ (by have:=V.out;have:=f.out;omega),jb.other2 _ _ (by have:=V.out;have:=f.out;omega),kb.other2 _ _ (by have:=V.out;have:=f.out;omega),TZ.at dd (ya.other2 _ _ (by have:=V.out;have:=f.out;omega)),TZ.at dd (ta.other2 _ _ (by have:=V.out;have:=f.out;omega)),TFa.at dd hN,trivial⟩
     |n+13,O,y=>exact absurd y (by simp)
     all_goals
      obtain rfl:=oi O;obtain rfl:=oi y;have HD:Hid _:=fb;have vk:=gb.c0;have wk:=gb.c1;have xk:=ib.c0;have yk:=ib.c1;have zk:=jb.c0;have al:=jb.c1;have bl:=kb.c0;have cl:=kb.c1;simp only[uxw,uw,evt]at l m;clear fb bc;refine zbs rfl rfl dd fun K hK=>?_;go_simp;exact hK _ _ ⟨rfl,⟨hE,hB,hS,gb,ib,jb,kb,TZ.at dd ya,(by first|exact TZ.at dd ta|exact ta.fr (HD.out 11 dd)),(by first|exact TFa.at dd ua|exact ua.fr (HD.out 12 dd)),trivial⟩,Ext.refl _,nn⟩
    ·intro vs wn C mc xd sc;clear sc;obtain⟨hE,hB,hS,gb,ib,jb,kb,ya,ta,ua,-⟩:=mc;replace ya:TZ true _ wn G:=ya;rw[xd 7 _ rfl]at ya;replace ta:TZ true _ wn H:=ta;rw[xd 8 _ rfl]at ta;replace ua:TFa true _ wn I:=ua;rw[xd 9 _ rfl]at ua;clear xd;have e0:vs 0=_:=C 0 dd;have e1:vs 1=_:=C 1 dd;have e2:vs 2=_:=C 2 dd;have e3:vs 3=_:=C 3 dd;have e4:vs 4=_:=C 4 dd;have e5:vs 5=_:=C 5 dd;have e6:vs 6=_:=C 6 dd;obtain⟨u7,e7,g7⟩:∃u7,vs 7=u7∧(IsZN wn u7 (a / b) (_root_.Rad.dr a b=0) w.heap.size):=⟨_,rfl,C 7 dd⟩;have e8:vs 8=_:=C 8 dd;have e9:vs 9=_:=C 9 dd;obtain⟨xf,oe,qf,pe,vi,ed⟩:=ya;have th:=ed rfl;rw[e7]at th;subst th;obtain⟨sl,dl,rl,el,wi,kh⟩:=ta;have ff:=kh rfl;rw[e8]at ff;simp only[Value.agg.injEq,Array.mk.injEq,List.cons.injEq,Value.int.injEq,Value.bool.injEq,Value.slice.injEq,and_true,true_and]at ff;obtain⟨rfl,rfl,rfl,rfl⟩:=ff;obtain⟨ul,vl,xi,lh,-⟩:=ua;have gf:=lh rfl;rw[e9]at gf;simp only[Value.agg.injEq,Array.mk.injEq,List.cons.injEq,Value.int.injEq,Value.bool.injEq,Value.slice.injEq,and_true,true_and]at gf;obtain⟨rfl,rfl⟩:=gf;obtain⟨u10,og⟩:∃u,vs 10=u:=⟨_,rfl⟩;obtain⟨u11,pg⟩:∃u,vs 11=u:=⟨_,rfl⟩;obtain⟨u12,qg⟩:∃u,vs 12=u:=⟨_,rfl⟩;simp only[zbx,Nat.reduceAdd,e0,e1,e2,e3,e4,e5,e6,e7,e8,e9,og,pg,qg,Act.put,ll];clear C e0 e1 e2 e3 e4 e5 e6 e7 e8 e9 og pg qg ed kh lh;have bj:Hid (IsZ wn (.agg #[.bool xf,.slice oe qf pe]) (a / b)):=g7.1;have tb:Hid (a%b=0→ZNew w.heap.size (.agg #[.bool xf,.slice oe qf pe])):=fun h=>g7.2 (by have:=nc.out.2;omega);have dj:Hid (IsZ wn (.agg #[.bool s9,.slice a9 n9 c9]) (a%b)):=(by have:=hE.z _ _ qb.out;rw[nc.out.2]at this;exact this);have yi:Hid (Below w.heap.size w wn):=hB;obtain⟨l4,il,jl,-,-⟩:=vi;obtain⟨l5,kl,ml,-,-⟩:=wi;obtain⟨l6,nl,ol,-,-⟩:=xi;clear hE hB hS g7 gb ib jb kb;go_wp2;refine bodyPost_ret (v:= .tuple #[.agg #[.bool xf,.slice oe qf pe],.agg #[.bool s9,.slice a9 n9 c9],.agg #[.int .i64 0,.int .i64 0]]) rsw rfl ?_;exact⟨_,_,rfl,yi.out,bj.out,dj.out,tb.out⟩
  ·obtain⟨j,rfl⟩:∃j,k=j+1:=⟨k-1,by omega⟩;have he:((j+1:Nat):Int)-1=(j:Int):=om;rw[he];clear he ed;obtain rfl:=sj om;obtain⟨DR,s9,a9,n9,c9,F9,I9⟩:=HR.out;obtain⟨r,y⟩:∃r,num 10000 w ba (oa+(j+1)) (s-(j+1))%D=r:=⟨_,rfl⟩;obtain⟨qk,ef⟩:∃qk,num 10000 w ba (oa+(j+1)) (s-(j+1)) / D=qk:=⟨_,rfl⟩;obtain⟨d,hd⟩:∃d,word w ba (oa+j)=d:=⟨_,rfl⟩;have eh:d<10000:=(by rw[←hd];exact zat se om);have hX:num 10000 w ba (oa+j) (s-j)=d+10000*num 10000 w ba (oa+(j+1)) (s-(j+1)):=(by rw[show s-j=s-(j+1)+1 by omega,zgc,hd];rfl);obtain⟨p1,p2⟩:=_root_.Rad.div_place (X:=num 10000 w ba (oa+(j+1)) (s-(j+1))) (x:=d) lc;rw[←hX,y]at p2;rw[←hX,y,ef]at p1;rw[y]at I9;rw[ef]at DR;have qh:r<D:=(by rw[←y];exact Nat.mod_lt _ lc);have ud:d+10000*r<10000*D:=om;have HP:Hid (num 10000 w ba (oa+j) (s-j) / D=(d+10000*r) / D+10000*qk∧num 10000 w ba (oa+j) (s-j)%D=(d+10000*r)%D):=⟨p1,p2⟩;have ch:wr.cell? ⟨ba,oa+j,none⟩=some (.int .i64 (d:Int)):=(by rw[←hd];exact(World.cell?_of_block (DR.bel.block ba (se.lt om))).trans (zag se om));clear hd hX y ef p1 p2 HR;obtain⟨dv,m9,uh,rd⟩:=id I9;simp only[Value.agg.injEq,Array.mk.injEq,List.cons.injEq,and_true]at uh;obtain⟨-,rfl⟩:=uh;have qj:m9=n9:=(by obtain⟨_,_,_,_,he,_⟩:=rd;simp only[Value.slice.injEq]at he;exact he.2.1.symm);subst qj;have rj:m9≤LX:=rd.len_le (by rw[Int.natAbs_natCast];exact Nat.lt_trans qh pc.out);obtain⟨g,lj,wa,gd,A1,N1,hh,oj,xb,zg,ah⟩:=append_dg wr d eh _ _ m9 rd om;rw[Int.natAbs_natCast]at N1;have CZ:=zb4 wa false (some ⟨g,0,none⟩) g 0 (1+m9) lj (d+10000*r) (Sl.mk _ _ _) zg ah A1 N1;rw[zbd]at CZ;have pb:Hid (DI w wr R S G H I b7 b8 sa (some ⟨ba,oa,none⟩) s ca sb (some ⟨Y,ob,none⟩) Z cb s7 a7 n7 c7 (D:Int) (j+1) qk):=DR;have ea:Hid (FB wr t (.bool s9) (.slice a9 m9 c9)):=F9;have la:Hid (Below wr.heap.size wr wa):=xb;have HG:Hid (wr.heap.size≤g):=hh;have ye:j<s:=om;obtain⟨l2,ja,ka,-,-⟩:=id DR.f2;obtain⟨l9,T,U,qi,si⟩:=id F9;clear DR F9 I9 rd A1 N1 hh oj xb zg ah hk;obtain⟨z,rc⟩:∃z,d+10000*r=z:=⟨_,rfl⟩;have kc:Hid (d+10000*r=z):=rc;rw[rc]at ud HP;clear rc;go_upto_region 9 with fail;go_cut [] from 38 to 47 (fun c=>DI w c R S G H I b7 b8 sa (some ⟨ba,oa,none⟩) s ca sb (some ⟨Y,ob,none⟩) Z cb s7 a7 n7 c7 (D:Int) (j+1) qk∧RZ c b8 t z)
   case first=>
    go_region_law (first|(refine zft (by rfl) _ _ 29 (by rfl) _ _ _ wa (by rfl) (by rfl) gd ?_)|(go_simp;go_at_call 73;refine CZ.mono ?_;rintro e wz ⟨vz,rfl,ue,hz,xe⟩;obtain⟨sz,az,nz,cz,ai⟩:=xe;obtain⟨zj,gi,ki,ri,ti⟩:=(ea.out.below la.out).below ue))
    all_goals
     have BZ:Below wr.heap.size wr wz:=la.out.trans (ue.mono la.out.size);have DZ:=pb.out.step BZ;have FZ:=ea.out.below BZ;obtain⟨⟨o1,o2,o3,o4,o5⟩,o6,o7,o8⟩:=V.out;have bg:=DZ.setr FZ om om (.bool sz) (.slice az nz cz);have HZ:Hid _:=And.intro bg (And.intro (FZ.set (.bool sz) (.slice az nz cz)) (hz.storedF (x:=false) (u1:= .bool sz) (u2:= .slice az nz cz) FZ));have pd:Hid (∀x,az=some x→x.block≠b8):=by
      intro x hx;rcases ai with rfl|rfl
      ·cases hx
      ·obtain rfl:=oi hx;have:=HG.out;have:=pb.out.l8;show g≠b8;omega
     clear CZ pb ea la HG ai ue hz BZ DZ FZ bg o1 o2 o3 o4 o5 o6 o7 o8 l9 T U qi si zj gi ki ri ti l2 ja ka gd ch;go_wp2_with fail;go_meet
     case rel=>rw[kc.out]at HZ;exact⟨HZ.out.1,.mk _ _ _ _ HZ.out.2.1 HZ.out.2.2 pd.out⟩
   case rest=>
    clear CZ pb ea la HG kc gd ch eh qh rj l2 ja ka l9 T U qi si;obtain⟨D6,sz,az,nz,cz,F9,I9,tg⟩:=hcut;have pd:Hid (∀x,az=some x→x.block≠b8):=tg;clear tg;obtain⟨w6,vh⟩:∃w6,w6=wc:=⟨_,rfl⟩;rw[←vh]at D6 F9 I9⊢;clear vh wc;have CD:=dcmp_any w6 _ _ z D nz n7 (by have:=I9.dg.2;rw[Int.natAbs_natCast]at this;exact this) (by have:=D6.i7.dg.2;rw[Int.natAbs_natCast]at this;exact this);have qd:Hid (DI w w6 R S G H I b7 b8 sa (some ⟨ba,oa,none⟩) s ca sb (some ⟨Y,ob,none⟩) Z cb s7 a7 n7 c7 (D:Int) (j+1) qk∧FB w6 t (.bool sz) (.slice az nz cz)∧IsZ w6 (.agg #[.bool sz,.slice az nz cz]) (z:Nat)):=⟨D6,F9,I9⟩;obtain⟨l9,T,U,-,-⟩:=F9;obtain⟨l7,dc,ec,-,-⟩:=D6.f7;clear I9 D6;have we:(z<D∧zbb (z:Int) (D:Int)= -1)∨(¬z<D∧¬zbb (z:Int) (D:Int)<0):=by
     by_cases bf:z<D
     ·exact .inl ⟨bf,zbc bf⟩
     ·refine .inr ⟨bf,?_⟩;unfold zbb;rw[if_neg om];split <;> omega
    obtain⟨ci,ie⟩:∃ci,zbb (z:Int) (D:Int)=ci:=⟨_,rfl⟩;rw[ie]at CD we;clear ie;go_wp2_with (go_at_call 80;fail);refine CD.mono ?_;rintro e w7 ⟨rfl,nq,hw⟩;have jg:Hid (DI w w7 R S G H I b7 b8 sa (some ⟨ba,oa,none⟩) s ca sb (some ⟨Y,ob,none⟩) Z cb s7 a7 n7 c7 (D:Int) (j+1) qk∧FB w7 t (.bool sz) (.slice az nz cz)∧IsZ w7 (.agg #[.bool sz,.slice az nz cz]) (z:Nat)):=(by subst w7;exact⟨qd.out.1.step (za8 _ _ _),qd.out.2.1.below (za8 _ _ _),qd.out.2.2.below (za8 _ _ _)⟩);clear CD qd l9 T U l7 dc ec hw;go_upto_if 53 with fail;go_cut [12] from 53 to 53 (fun v c=>(∃hi:Nat,v=.int .i64 (hi:Int)∧Hid (HV D z 0 hi))∧c=w7)
    case first=>
     rcases we with⟨h1,rfl⟩|⟨h1,h2⟩
     ·have H0:Hid (HV D z 0 1):=⟨by omega,by omega,by omega,by omega⟩;clear h1;go_wp2_with fail;go_meet
      case rel=>exact⟨⟨1,rfl,H0⟩,rfl⟩
     ·have H0:Hid (HV D z 0 10000):=⟨by omega,by omega,by omega,by omega⟩;clear h1 ud;go_wp2_with fail;go_meet
      case rel=>exact⟨⟨10000,rfl,H0⟩,rfl⟩
    case rest=>
    obtain⟨⟨zd,rfl,H0⟩,vj⟩:=hcut;subst wc;have kc:Hid (z<10000*D):=ud;clear we ud;go_wp2;go_loopw [11,12] (fun yf zf c=>∃lo hi:Nat,yf=.int .i64 (lo:Int)∧zf=.int .i64 (hi:Int)∧Hid (HV D z lo hi)∧Hid (DI w c R S G H I b7 b8 sa (some ⟨ba,oa,none⟩) s ca sb (some ⟨Y,ob,none⟩) Z cb s7 a7 n7 c7 (D:Int) (j+1) qk∧FB c t (.bool sz) (.slice az nz cz)∧IsZ c (.agg #[.bool sz,.slice az nz cz]) (z:Nat)))
     (fun yf zf _=>(intOf zf-intOf yf).toNat)
    case atStart=>exact⟨0,zd,rfl,rfl,H0,jg⟩
    case round=>
     obtain⟨lo,hi,rfl,rfl,HH,fa⟩:=hrel;clear H0 jg;obtain⟨g1,g2,g3,g4⟩:=HH.out;by_cases ih:(hi:Int)-(lo:Int)>1
     ·obtain⟨M,hM⟩:∃M,(lo+hi) / 2=M:=⟨_,rfl⟩;have ug:lo<M∧M<hi:=om;have e1:IntKind.i64.wrap ((lo:Int)+(hi:Int))=(lo:Int)+(hi:Int):=(by rw[IntKind.wrap_i64];omega);have e2:IntKind.i64.wrap ((hi:Int)-(lo:Int))=(hi:Int)-(lo:Int):=(by rw[IntKind.wrap_i64];omega);have e3:((lo:Int)+(hi:Int)).tdiv 2=(M:Int):=(by rw[Int.tdiv_eq_ediv_of_nonneg om];omega);have e4:((lo:Int)+(hi:Int)) / 2=(M:Int):=om;clear g1 g3 g4;go_upto_region 15 with fail;have ma:Hid ((D:Int).natAbs<10000^(LX+2)∧(M:Int).natAbs<10000^(LX+2)∧((D:Int)*(M:Int)).natAbs<10000^(LX+2)∧((z:Nat):Int).natAbs<10000^(LX+2)):=zf8 pc.out om kc.out;obtain⟨cc,ve⟩:∃cc,zbb ((D:Int)*(M:Int)) ((z:Nat):Int)=cc:=⟨_,rfl⟩;have ag:∀c v v',IsZ c v ((D:Int)*(M:Int))→IsZ c v' ((z:Nat):Int)→Calls Tryz.prog 29 #[v,v'] c fun e w'=>e=.returned (.int .i64 cc)∧Below c.heap.size c w':=fun c v v' h h'=>by have:=zCmp_any c v v' _ _ (LX+2) h h' ma.out.2.2.1 ma.out.2.2.2 om;rw[ve]at this;exact this
      have cg:Hid (cc≤0↔M*D≤z):=by
       show cc≤0↔M*D≤z;have c1:((D*M:Nat):Int)=(D:Int)*(M:Int):=Int.natCast_mul ..;rw[←ve,←c1,Nat.mul_comm M D];unfold zbb;rcases Nat.lt_trichotomy (D*M) z with h|h|h
       ·rw[if_pos om];omega
       ·rw[if_neg om,if_pos om];omega
       ·rw[if_neg om,if_neg om];omega
      obtain⟨l7,dc,ec,-,-⟩:=fa.out.1.f7;obtain⟨l9,T,U,-,-⟩:=fa.out.2.1;clear ve e1 e2 e3 e4 hM;refine zac (fun w1=>w1=wr) rfl ?_;rintro w1 rfl;refine zaq zbf [⟨62,[],[],[7]⟩,⟨63,[],[],[13]⟩,⟨64,[1],[1],[]⟩,⟨65,[0,2],[0,1,2],[]⟩,⟨66,[],[],[9]⟩,⟨67,[3,4],[0,1,2,3,4],[]⟩,⟨68,[5],[0,1,2,3,4,5],[]⟩] [] kfl 107 rfl kfl (fun (i:Nat) (v:Value) (wq:World)=>match i with|0=>v=.agg #[.bool s7,.slice a7 n7 c7]|1=>v=.int .i64 ((M:Int))|2=>IsZ wq v ((M:Int))|3=>IsZ wq v ((D:Int)*(M:Int))|4=>v=.agg #[.bool sz,.slice az nz cz]|5=>v=.int .i64 (cc)|6=>v=.bool (decide ((cc)≤(0)))|_=>True) (fun _ wq=>Below w1.heap.size w1 wq) (fun c wy=>Below c.heap.size c wy) (zz).drew (fun i v c wy h hx=>match i,h with|0,h=>h|1,h=>h|4,h=>h|5,h=>h|6,h=>h|2,h=>(h:IsZ c v _).below hx|3,h=>(h:IsZ c v _).below hx|n+7,_=>trivial) ?_ ?_
      ·intro i o r O y L fr c hW hL bc fb dh l m;clear hL bc fb dh
       match i,O,y with
       |0,O,y=>?_
       |1,O,y=>?_
       |2,O,y=>obtain rfl:=oi O;obtain rfl:=oi y;have e1:=evs 63 (l 1 dd _ rfl);clear l m;refine zam rfl rfl fun K hK=>?_;go_simp;refine(zOf_any c (M:Int) om om).mono ?_;rintro e wy ⟨v4,rfl,hb,df⟩;exact hK _ _ ⟨df,hW.trans (hb.mono hW.size),hb,nn⟩
       |3,O,y=>obtain rfl:=oi O;obtain rfl:=oi y;have e0:=evs 62 (l 0 dd _ rfl);obtain⟨u2,e2,p2⟩:=evr 64 (P:=fun u2=>IsZ c u2 ((M:Int))) (l 2 dd _ rfl);clear l m;refine zam rfl rfl fun K hK=>?_;go_simp;refine(ze1 c _ _ (D:Int) (M:Int) (LX+2) (fa.out.1.step hW).i7 p2 ma.out.1 ma.out.2.1 om).mono ?_;rintro e wy ⟨v4,rfl,hb,df⟩;exact hK _ _ ⟨df,hW.trans (hb.mono hW.size),hb,nn⟩
       |4,O,y=>?_
       |5,O,y=>obtain rfl:=oi O;obtain rfl:=oi y;obtain⟨u3,e3,p3⟩:=evr 65 (P:=fun u3=>IsZ c u3 ((D:Int)*(M:Int))) (l 3 dd _ rfl);have e4:=evs 66 (l 4 dd _ rfl);clear l m;refine zam rfl rfl fun K hK=>?_;go_simp;refine(ag c _ _ p3 (fa.out.2.2.below hW)).mono ?_;rintro e wy ⟨rfl,hb⟩;exact hK _ _ ⟨rfl,hW.trans (hb.mono hW.size),hb,nn⟩
       |6,O,y=>?_
       |n+7,O,y=>exact absurd y (by simp)
       all_goals
        obtain rfl:=oi O;obtain rfl:=oi y;simp only[uxw,uw,evt]at l m;have c0:=(hW.cell (p:=⟨b7,0,none⟩) l7).trans dc;have c1:=(hW.cell (p:=⟨b7,1,none⟩) l7).trans ec;have c2:=(hW.cell (p:=⟨t,0,none⟩) l9).trans T;have c3:=(hW.cell (p:=⟨t,1,none⟩) l9).trans U;refine zam rfl rfl fun K hK=>?_ <;> (go_simp;exact hK _ _ ⟨rfl,hW,zz,nn⟩)
      ·intro vs wn C mc sc;clear sc;have e0:vs 0=_:=C 0 dd;have e1:vs 1=_:=C 1 dd;obtain⟨u2,e2,p2⟩:∃u2,vs 2=u2∧(IsZ wn u2 ((M:Int))):=⟨_,rfl,C 2 dd⟩;obtain⟨u3,e3,p3⟩:∃u3,vs 3=u3∧(IsZ wn u3 ((D:Int)*(M:Int))):=⟨_,rfl,C 3 dd⟩;have e4:vs 4=_:=C 4 dd;have e5:vs 5=_:=C 5 dd;have e6:vs 6=_:=C 6 dd;simp only[zbx,Nat.reduceAdd,e0,e1,e2,e3,e4,e5,e6,Act.put,ll];clear C e0 e1 e2 e3 e4 e5 e6;have kg:Hid (DI w wn R S G H I b7 b8 sa (some ⟨ba,oa,none⟩) s ca sb (some ⟨Y,ob,none⟩) Z cb s7 a7 n7 c7 (D:Int) (j+1) qk∧FB wn t (.bool sz) (.slice az nz cz)∧IsZ wn (.agg #[.bool sz,.slice az nz cz]) (z:Nat)):=⟨fa.out.1.step mc,fa.out.2.1.below mc,fa.out.2.2.below mc⟩;clear fa ag ma mc p2 p3 l7 dc ec l9 T U;by_cases hc:cc≤0
       ·have HN:Hid (HV D z M hi):=⟨ug.2,g2,cg.out.1 hc,HH.out.l2⟩;go_wp2;go_roundw
        case rel=>exact⟨M,hi,rfl,rfl,HN,kg⟩
        case measure=>simp only[intOf];omega
       ·have HN:Hid (HV D z lo M):=⟨ug.1,by omega,HH.out.l1,by have:=cg.out;omega⟩;go_wp2;go_roundw
        case rel=>exact⟨lo,M,rfl,rfl,HN,kg⟩
        case measure=>simp only[intOf];omega
     ·have hq:z / D=lo∧z%D=z-lo*D:=(by obtain rfl:hi=lo+1:=om;exact _root_.Rad.half_done g3 g4);have ze:lo<10000:=om;have e2:IntKind.i64.wrap ((hi:Int)-(lo:Int))=(hi:Int)-(lo:Int):=(by rw[IntKind.wrap_i64];omega);have HQ:Hid (z / D=lo∧z%D=z-lo*D∧lo*D≤z):=⟨hq.1,hq.2,g3⟩;have cj:Hid (lo<10000):=ze;obtain⟨⟨o1,o2,o3,o4,o5⟩,o6,o7,o8⟩:=V.out;have DQ:=DI.setq fa.out.1 ye om om ze;have F9:=fa.out.2.1.setB (p:=b8) (i:=0+j) om (.int .i64 (lo:Int));have I9:=fa.out.2.2.away pd.out (i:=0+j) (.int .i64 (lo:Int));have me:Hid _:=And.intro DQ (And.intro F9 I9);have xc:=zag fa.out.1.qa ye;have gh:=fa.out.1.qf j ye;rw[Nat.zero_add]at xc gh;clear g1 g2 g3 g4 hq DQ F9 I9 o1 o2 o3 o4 o5 o6 o7 o8 fa HH;go_upto_region 19 with fail;rw[Nat.zero_add]at me;refine zac (fun W=>DI w W R S G H I b7 b8 sa (some ⟨ba,oa,none⟩) s ca sb (some ⟨Y,ob,none⟩) Z cb s7 a7 n7 c7 (D:Int) j (lo+10000*qk)∧FB W t (.bool sz) (.slice az nz cz)∧IsZ W (.agg #[.bool sz,.slice az nz cz]) (z:Nat)) me.out ?_;clear me xc gh;rintro w8 ⟨D8,F9,I9⟩;have ma:Hid ((D:Int).natAbs<10000^(LX+2)∧(lo:Int).natAbs<10000^(LX+2)∧((D:Int)*(lo:Int)).natAbs<10000^(LX+2)∧((z:Nat):Int).natAbs<10000^(LX+2)):=zf8 pc.out om kc.out;have od:Hid (DI w w8 R S G H I b7 b8 sa (some ⟨ba,oa,none⟩) s ca sb (some ⟨Y,ob,none⟩) Z cb s7 a7 n7 c7 (D:Int) j (lo+10000*qk)):=D8;have ea:Hid (FB w8 t (.bool sz) (.slice az nz cz)):=F9;have qb:Hid (IsZ w8 (.agg #[.bool sz,.slice az nz cz]) (z:Nat)):=I9;obtain⟨l7,dc,ec,-,-⟩:=D8.f7;obtain⟨l9,T,U,-,-⟩:=id F9;clear D8 I9;go_region_with (first
       |(go_at_call 17;refine(zOf_any _ (lo:Int) om om).mono ?_;rintro e wa ⟨va,rfl,uc,zc⟩;have F:=(zad w8).trans uc;obtain⟨yj,ei,fi,-,-⟩:=od.out.f7.below F;obtain⟨ak,ii,li,-,-⟩:=ea.out.below F)
       |(go_at_call 27;refine(ze1 wa _ _ (D:Int) (lo:Int) (LX+2) (od.out.step F).i7 zc ma.out.1 ma.out.2.1 om).mono ?_;rintro e wb ⟨vb,rfl,ac,jh⟩;have mb:=F.trans (ac.mono F.size);obtain⟨bk,ji,mi,-,-⟩:=ea.out.below mb)
       |(go_at_call 25;refine(zSub_any wb _ _ ((z:Nat):Int) ((D:Int)*(lo:Int)) (LX+2) (IsZ.below qb.out mb) jh ma.out.2.2.2 ma.out.2.2.1 om).mono ?_;rintro e wd ⟨vd,rfl,vc,hid⟩;have J:=mb.trans (vc.mono mb.size);obtain⟨sd,ad,nd,cd,rfl⟩:=hid.form;obtain⟨pl,kk,nk,pk,sk⟩:=ea.out.below J))
      all_goals
       have fd:((z:Nat):Int)-(D:Int)*(lo:Int)=((z%D:Nat):Int):=(by obtain⟨q1,q2,q3⟩:=HQ.out;have c1:((lo*D:Nat):Int)=(lo:Int)*(D:Int):=Int.natCast_mul ..;rw[q2,Int.mul_comm,←c1];omega);rw[fd]at hid;obtain⟨⟨o1,o2,o3,o4,o5⟩,o6,o7,o8⟩:=V.out;have DD:=od.out.step J;have FD:=ea.out.below J;have ig:Hid _:=And.intro (DD.setr FD om om (.bool sd) (.slice ad nd cd)) (ZW.set FD hid);clear fd hid DD FD J vc mb ac F uc zc jh o1 o2 o3 o4 o5 o6 o7 o8 od ea qb ma;have ej:Hid (DI w ((wd.setCell ⟨t,0,none⟩ (.bool sd)).setCell ⟨t,1,none⟩ (.slice ad nd cd)) R S G H I b7 b8 sa (some ⟨ba,oa,none⟩) s ca sb (some ⟨Y,ob,none⟩) Z cb s7 a7 n7 c7 (D:Int) j (num 10000 w ba (oa+j) (s-j) / D)∧ZW ((wd.setCell ⟨t,0,none⟩ (.bool sd)).setCell ⟨t,1,none⟩ (.slice ad nd cd)) t ((num 10000 w ba (oa+j) (s-j)%D:Nat):Int)):=(by rw[HP.out.1,HP.out.2,HQ.out.1];exact ig.out);clear ig F9 HP HQ cj kc ze ih e2 pd l7 dc ec l9 T U yj ei fi ak ii li bk ji mi;go_wp2;go_roundw
       case rel=>exact⟨j,by omega,by go_num,ej⟩
       case measure=>simp only[intOf];omega
theorem zDiv_any (w:World) (g j:Value) (a b:Int) (c:Nat) (r:IsZ w g a) (s:IsZ w j b) (k:b≠0) (l:a.natAbs<10000^c) (m:b.natAbs<10000^c) (n:c≤100000):
 Calls Tryz.prog 35 #[g,j] w fun e w'=>∃d f,e=.returned (.tuple #[d,f,.agg #[.int .i64 0,.int .i64 0]])∧Below w.heap.size w w'∧IsZ w' d (a / b)∧IsZ w' f (a%b):=
 (zDiv_new w g j a b c r s k l m n).mono fun e w' ⟨d,f,h,o,p,q,_⟩=>⟨d,f,h,o,p,q⟩
end Go.Proofs.YtjlkplidpdhgbaaGreatDoor
