/- A part of the proof: G6, G7, G8. -/
import Derived.Test.YtjlkplidpdhgbaaGreatDoorP00
import Derived.Test.YtjlkplidpdhgbaaGreatDoorP12
import Derived.Deep.LoopGhost
import Derived.Test.YtjlkplidpdhgbaaGreatDoorP08
import Derived.Test.YtjlkplidpdhgbaaGreatDoorP09
set_option linter.all false
set_option maxRecDepth 10000
set_option maxHeartbeats 4000000
namespace Go.Proofs.YtjlkplidpdhgbaaGreatDoor
open Go Go.Proofs Go.RowKit Go.Rad
open _root_.Rad TurnOk
theorem wcount {X n:Nat} (g:0<X) (h:X<B^n):∃k,0<k∧k≤n∧B^(k-1)≤X∧X<B^k:=by
 induction n with
 |zero=>rw[Nat.pow_zero]at h;omega
 |succ n ih=>
  by_cases f:X<B^n
  ·obtain⟨k,a,b,c,d⟩:=ih f;exact⟨k,a,by omega,c,d⟩
  ·exact⟨n+1,by omega,Nat.le_refl _,by rw[Nat.add_sub_cancel];omega,h⟩
theorem Mag.count {w:World} {v:Value} {X k j:Nat} (h:Mag w v X j) (c:0<k) (d:B^(k-1)≤X) (b:X<B^k):j=k:=by refine Nat.le_antisymm (h.len_le b) (Nat.le_of_not_lt fun l=>?_);have f:=h.lt;have g:B^j≤B^(k-1):=Nat.pow_le_pow_right zbg om;omega
theorem front_count (w:World) (b n c X k:Nat) (o:n≤c) (q:n<160) (m:Arr .u64 B w b 0 n) (p:num B w b 0 n=X) (f:0<k) (g:B^(k-1)≤X) (l:X<B^k):
 Calls Tryz.prog 86 #[.slice (some ⟨b,0,none⟩) n c,.int .i64 n] w fun e w'=>e=.returned (.slice (some ⟨b,0,none⟩) k k)∧w'=w:=by
 refine(zbx w _ b 0 n c n (Sl.mk _ _ _) o (by unfold maxLen;omega) (by unfold maxLen;omega) m).mono ?_;rintro e w' ⟨j,rfl,rfl,_,_,d⟩;rw[Nat.min_self,p]at d;rw[d.count f g l];exact⟨rfl,rfl⟩
theorem num_cut {w:World} {b n k X:Nat} (c:num B w b 0 n=X) (g:k≤n) (j:X<B^k):num B w b 0 k=X:=by obtain⟨d,rfl⟩:=Nat.exists_eq_add_of_le g;rw[zba,Nat.zero_add]at c;have f:num B w b k d=0:=(by refine Nat.eq_zero_of_not_pos fun h=>?_;have:=Nat.le_mul_of_pos_right (B^k) h;omega);rw[f]at c;omega
theorem top_ne {w:World} {b m X:Nat} (c:Arr .u64 B w b 0 (m+1)) (d:num B w b 0 (m+1)=X) (h:B^m≤X):word w b (0+m)≠0:=by intro e;rw[zam,e,Nat.mul_zero]at d;have:num B w b 0 m<B^m:=zbb (fun i hi=>c i om);omega
theorem XY.cut {b:Nat} {w:World} {p n X Y d f c g k:Nat} (h:XY b w p n X Y d f c g) (x:0<k) (j:k≤n) (F:X<B^k):XY b w p k X Y d f c g:=by obtain⟨y,z,A,C,D,E,l,m,r,s,o,q,J,L,H,I,t,u,G⟩:=h;exact⟨y,z,A,C,D,E,fun i hi=>l i om,fun i hi=>m i om,fun i hi=>r i om,fun i hi=>s i om,num_cut o j F,num_cut q j om,x,by omega,by omega,by omega,t,u,G⟩
def Kp (w w':World):Prop:=Below w.heap.size w w'
inductive RunDone (base:Nat) (w:World) (pc X Y:Nat) (e:Ending) (w':World):Prop
 |mk (n x y:Nat) (he:e=.returned (.tuple #[])) (hb:Below base w w') (hc:Ch base w' pc n x y) (hg:Nat.gcd x y=Nat.gcd X Y) (h0:0<x) (hy:y<B)
inductive RunI (base:Nat) (w:World) (pc X Y g:Nat) (w':World):Prop
 |mk (n x y:Nat) (hb:Below base w w') (hc:Ch base w' pc n x y) (hg:Nat.gcd x y=Nat.gcd X Y) (h0:0<x) (hm:x+y=g)
theorem run_any (b:Nat) (w:World) (f n X Y:Nat) (hC:Ch b w f n X Y) (hX:0<X) (G:b≤w.heap.size):
 Calls Tryz.prog 124 #[.pointer (some ⟨f,0,none⟩)] w fun e w'=>RunDone b w f X Y e w':=by
 have HS:Hid (RunI b w f X Y (X+Y) w):= .mk n X Y zz hC rfl hX rfl;have aa:Hid (b≤w.heap.size):=G;clear hC hX G;go_enter Tryz.func124,Tryz.ntmps124;go_wp2;go_loopg [] (X+Y) (fun g wr=>Hid (RunI b w f X Y g wr))
 case atStart=>exact HS
 case round=>
  clear HS;obtain⟨M,x,y,hb,hC,hg,h0,T⟩:=hrel.out;obtain⟨u,l,c,o,uv,vv,mi,C,R⟩:=hC;have ea:x<B^M:=(by rw[←R.ex];exact zbb R.ax);obtain⟨k,k0,kn,k1,k2⟩:=wcount h0 ea;have CF:=fun nq=>front_count (wr.drewN nq) u M l x k R.cx1 R.nm R.ax R.ex k0 k1 k2;have hn:=R.nm;have ka:=R.cx1;have la:=R.cy1;have ia:=R.cx2;have ja:=R.cy2;have RC:=R.cut k0 kn k2;have HG:Hid (Nat.gcd x y=Nat.gcd X Y):=hg;have HM:Hid (x+y=gk):=T;have HB:Hid (Below b w wr):=hb;have L:Hid (ChC wr f (.slice (some ⟨u,0,none⟩) M l) (.slice (some ⟨c,0,none⟩) M o) false uv vv mi):=C;have t:Hid (XY b wr f k x y u l c o):=RC;have HK:Hid (B^(k-1)≤x∧x<B^k∧0<x):=⟨k1,k2,h0⟩;obtain⟨lp,c0,c1,c2,-,-,-,z0,z1,-,-,-,-⟩:=id C;clear hrel hb C R RC hg T ea k1 k2 h0;go_wp2;go_quiet ((go_at_call 86;refine(CF _).mono ?_;rintro e qa ⟨rfl,rfl⟩;exact⟨rfl,_,rfl⟩));clear CF;go_upto_region 1 with fail;refine zab (fun N=>Below b w N∧ChC N f (.slice (some ⟨u,0,none⟩) M l) (.slice (some ⟨c,0,none⟩) M o) false uv vv mi∧XY b N f k x y u l c o)
   ⟨HB.out.trans (belN _ _ _),L.out.below (belN _ _ _),t.out.below (belN _ _ _)⟩ ?_
  clear HB L t lp c0 c1 c2 z0 z1;rintro N ⟨B1,C1,R1⟩;clear wr;obtain⟨lp,c0,c1,c2,-,-,-,z0,z1,-,-,-,-⟩:=id C1;have HB:Hid _:=B1;have L:Hid (ChC N f (.slice (some ⟨u,0,none⟩) M l) (.slice (some ⟨c,0,none⟩) M o) false uv vv mi):=C1;have t:Hid (XY b N f k x y u l c o):=R1;clear B1 C1 R1;have fa:(0:Int)≤(k:Int)∧(k:Int)≤(l:Int):=om;have ga:(k:Int)≤(o:Int):=om;go_region;go_upto_region 2 with fail;have ba:Hid (ChC (((N.setCell ⟨f,0,none⟩ (.slice (some ⟨u,0,none⟩) k l)).setCell ⟨f,1,none⟩ (.slice (some ⟨c,0,none⟩) k o)).drew) f (.slice (some ⟨u,0,none⟩) k l) (.slice (some ⟨c,0,none⟩) k o) false uv vv mi):=((L.out.set0 _).set1 _).below (zae _);refine zab (fun d=>Below b w d∧ChC d f (.slice (some ⟨u,0,none⟩) k l) (.slice (some ⟨c,0,none⟩) k o) false uv vv mi∧XY b d f k x y u l c o)
   ⟨((HB.out.setCell (p:=⟨f,0,none⟩) t.out.hp _).setCell (p:=⟨f,1,none⟩) t.out.hp _).drew,ba.out,((t.out.other 0 _).other 1 _).below (zae _)⟩ ?_
  clear HB L t lp c0 c1 c2 z0 z1 ba fa ga;rintro d ⟨B2,C2,R⟩;clear N;obtain⟨lp,c0,c1,c2,-,-,-,-,-,-,-,-,-⟩:=id C2;have CF:=zbx d (some ⟨c,0,none⟩) c 0 k o k (Sl.mk _ _ _) R.cy1 (by unfold maxLen;omega) (by unfold maxLen;omega) R.ay;rw[Nat.min_self,R.ey]at CF;have HB:Hid _:=B2;have L:Hid (ChC d f (.slice (some ⟨u,0,none⟩) k l) (.slice (some ⟨c,0,none⟩) k o) false uv vv mi):=C2;have HR:Hid (XY b d f k x y u l c o):=R;clear B2 C2 R;go_wp2_with (go_at_call 86;fail);refine CF.mono ?_;rintro e W ⟨j,rfl,hw,_,na,T⟩;subst W;clear CF;by_cases hj:j<2
  ·have HY:Hid (y<B):=(by have h1:=T.lt;have h2:B^j≤B^1:=Nat.pow_le_pow_right zbg om;rw[Nat.pow_one]at h2;exact Nat.lt_of_lt_of_le h1 h2);clear T;go_wp2;refine bodyPost_ret (results_none rfl _ _ _) rfl ?_;exact .mk k x y rfl HB.out (.mk _ _ _ _ _ _ _ L.out HR.out) HG.out HK.out.2.2 HY.out
  ·obtain⟨m,rfl⟩:∃m,k=m+2:=⟨k-2,by omega⟩;have R:=HR.out;have CT:∀wx,Below d.heap.size d wx→Calls Tryz.prog 150 #[.slice (some ⟨u,0,none⟩) (m+2) l,.slice (some ⟨c,0,none⟩) (m+2) o] wx fun e w'=>TurnPost wx x y e w':=(by intro wx h;refine turnOf_any wx u 0 l c 0 o m x y (zaf R.ax h) (zaf R.ay h) ((zal R.ax h).trans R.ex) ((zal R.ay h).trans R.ey) ?_ R.le om R.cx1 R.cy1;rw[zb5 R.ax h om];exact top_ne R.ax R.ex HK.out.1);have V:Hid (0<y):=(by have:=T.pos om;exact this);have ma:¬((j:Int)<2):=om;clear R T hj;go_wp2;go_region_with (go_at_call 150;refine(CT _ (by first|exact(zz).drew|exact(((zz).drew).alloc (by simp) _)|exact(((zz).alloc (Nat.le_refl _) _).drew))).mono ?_;rintro e W ⟨p,q,r,s,J,rfl,z,U⟩;first|(have T3:=((TB.mk0 d 0 0 0 0 false 152).below (zae _) (by simp)).below z (by simp);obtain⟨lt,t0,t1,t2,t3,t4,y0,y1,y2,y3,y4⟩:=T3)|skip)
   all_goals
    go_upto_region 4 with fail
    first
     |(refine zab (fun D=>Kp d D∧TB D W.heap.size p q r s J) ⟨((zae d).trans z).alloc z.size _,TB.mk0 W p q r s J 152⟩ ?_;clear z CT;obtain⟨bt,H⟩:∃bt,W.heap.size=bt:=⟨_,rfl⟩;rw[H];clear H)
     |(
      have A:Below d.heap.size d W:=(((zao d _).trans ((zae _).mono (by simp))).trans (z.mono (by simp)));have T4:=(((((((TB.mk0 d 0 0 0 0 false 152).below (zae _) (by simp)).below z (by simp)).set0 p).set1 q).set2 r).set3 s).set4 J;refine zab (fun D=>Kp d D∧TB D d.heap.size p q r s J)
       ⟨((((A.setCell (p:=⟨d.heap.size,0,none⟩) (Nat.le_refl _) _).setCell (p:=⟨d.heap.size,1,none⟩) (Nat.le_refl _) _).setCell (p:=⟨d.heap.size,2,none⟩) (Nat.le_refl _) _).setCell (p:=⟨d.heap.size,3,none⟩) (Nat.le_refl _) _).setCell (p:=⟨d.heap.size,4,none⟩) (Nat.le_refl _) _,T4⟩ ?_
      clear CT T4 A z lt t0 t1 t2 t3 t4 y0 y1 y2 y3 y4;obtain⟨bt,H⟩:∃bt,d.heap.size=bt:=⟨_,rfl⟩;rw[H];clear H)
    clear c0 c1 c2 lp W;rintro D ⟨Z,T4⟩;replace Z:Below d.heap.size d D:=Z;have R4:=HR.out.below Z;have C4:Ch b D f (m+2) x y:= .mk _ _ _ _ _ _ _ (L.out.below Z) R4;have S:=R4.le;have E:Hid (Below b w D):=HB.out.trans (Z.mono (Nat.le_trans aa.out HB.out.size));have A:b≤D.heap.size:=Nat.le_trans aa.out E.out.size;obtain⟨lt,t0,t1,t2,t3,t4,y0,y1,y2,y3,y4⟩:=T4;clear Z HB L HR R4;by_cases hq:q=0
    ·subst hq;have CS:=step_any b D f (m+2) x y C4 V.out A;have pa:D.cell? ⟨bt,1,none⟩=some (.int .u64 0):=t1;clear C4 A t1 U;go_wp2_with (go_at_call 125;fail);refine CS.mono ?_;rintro e w5 ⟨rfl,F,I⟩;have P:Hid (RunI b w f X Y (y+x%y) w5):=(by refine .mk (m+2) y (x%y) (E.out.trans F) I ?_ V.out rfl;rw[←HG.out,Nat.gcd_comm x y,Nat.gcd_rec y x,Nat.gcd_comm]);have O:Hid (y+x%y<gk):=(by have h1:=Nat.mod_lt x V.out;have h2:=HM.out;show y+x%y<gk;omega);clear CS F I HG HM HK E S;go_wp2;go_roundg (y+x%y)
     case measure=>exact O.out
     case rel=>exact P
    ·have CS:=turn_any b D f (m+2) x y p q r s J C4 U om A;have ha:¬(q:Int)=0:=om;have oa:((q:Int)==0)=false:=(by simpa using ha);have ca:Hid (y≤x):=S;clear C4 A U hq S;go_wp2_with (go_at_call 151;fail);refine CS.mono ?_;rintro e w5 ⟨x',y',rfl,F,I,da,h0,h1,h2⟩;have P:Hid (RunI b w f X Y (x'+y') w5):= .mk (m+2) x' y' (E.out.trans F) I (da.trans HG.out) om rfl;have O:Hid (x'+y'<gk):=(by have h3:=HM.out;have h4:=ca.out;show x'+y'<gk;omega);clear CS F I da h0 h1 h2 HG HM HK E ca;go_wp2;go_roundg (x'+y')
     case measure=>exact O.out
     case rel=>exact P
end Go.Proofs.YtjlkplidpdhgbaaGreatDoor
namespace Go.Proofs.YtjlkplidpdhgbaaGreatDoor
open Go Go.Proofs Go.RowKit Go.Rad
theorem made_rows (n:Nat) (l:n<160):∃Z:Array Value,(∀w:World,Made .u64 B w (w.alloc (.cells Z 98)) n)∧
 ∀w:World,(Instr.makeSlice 22 (.int .i64 (n:Int)) (.int .i64 (n:Int))).run Tryz.prog w=.ok (.slice (some ⟨w.heap.size,0,none⟩) n n) (w.alloc (.cells Z 98)):=by
 obtain⟨g,b,c,d,f⟩:=info_parts zcs;refine⟨madeCells (Value.int .u64 0).cells (n*g.size),fun w=>zgy zbg w _ 98 n (by simp[madeCells,d]) (fun j k=>by simp[madeCells,Value.cells,Nat.mod_one]),fun w=>?_⟩;have h:=run_make (P:=Tryz.prog) w 22 98 g (.int .u64 0) Tryz.underlying22 b c .i64 .i64 (n:Int) (n:Int) om om (by rw[f];omega) om;simpa using h
structure ZR (w:World) (b n:Nat):Prop where
 lt:b<w.heap.size
 arr:Arr .u64 B w b 0 n
 free:Free w b 0 n
 zero:∀i,i<n→word w b (0+i)=0
theorem ZR.of_made {w w':World} {n:Nat} (h:Made .u64 B w w' n):ZR w' w.heap.size n:=⟨h.lt,h.arr,h.free,fun i hi=>by rw[Nat.zero_add];exact h.zero i hi⟩
theorem ZR.below {w w':World} {b n:Nat} (h:ZR w b n) (c:Below w.heap.size w w'):ZR w' b n:=⟨Nat.lt_of_lt_of_le h.lt c.size,zaf h.arr c,freeB h.free h.lt c,fun i hi=>by rw[zb5 h.arr c hi];exact h.zero i hi⟩
theorem ZR.chg {w w':World} {b n c l r:Nat} (h:ZR w b n) (d:Chg w w' c l r) (f:b≠c):ZR w' b n:=by have e:=d.block b h.lt f;exact⟨Nat.lt_of_lt_of_le h.lt d.size,d.arr h.arr (fun _=>h.lt) (fun _=> .inl f),d.free h.free (fun _=>h.lt),fun i hi=>by rw[zac (World.cell?_of_block e)];exact h.zero i hi⟩
theorem ZR.copied {j f:World} {b n m c p:Nat} (h:ZR j b n) (g:Copied .u64 B j f b 0 m c p) (q:m≤n):
 Arr .u64 B f b 0 n∧Free f b 0 n∧num B f b 0 n=num B j c p m:=by
 have d:∀i,m≤i→f.cell? ⟨b,0+i,none⟩=j.cell? ⟨b,0+i,none⟩:=fun i hi=>g.chg.cell (0+i) om;refine⟨fun i hi=>?_,g.chg.free h.free (fun _=>h.lt),?_⟩
 ·by_cases l:i<m
  ·exact g.arr i l
  ·have e:=d i om;rw[zac e,e];exact h.arr i hi
 ·have k:num B f b 0 n=num B f b 0 m:=_root_.Rad.vs_top q fun i k o=>by rw[zac (d i k)];exact h.zero i o
  rw[k];exact za1 g.same
theorem zdt {c:Nat} {w:World} {f g b n:Nat} {Z:Array Value} {F G A D:Value} {z:Bool} (C:ChC w f F G false A D z) (x:c≤f) (d:c≤w.heap.size)
 (t:∀w:World,Made .u64 B w (w.alloc (.cells Z 98)) n) (q:g=w.heap.size∧b=w.heap.size+1∨g=w.heap.size+1∧b=w.heap.size) {W:World}
 (u:W=((((w.setCell ⟨f,0,none⟩ (.slice (some ⟨g,0,none⟩) n n)).setCell ⟨f,1,none⟩ (.slice (some ⟨b,0,none⟩) n n)).alloc (.cells Z 98)).alloc (.cells Z 98)).drew):
 Below c w W∧ChC W f (.slice (some ⟨g,0,none⟩) n n) (.slice (some ⟨b,0,none⟩) n n) false A D z∧ZR W g n∧ZR W b n:=by
 obtain⟨k,j⟩:∃k,k=(w.setCell ⟨f,0,none⟩ (.slice (some ⟨g,0,none⟩) n n)).setCell ⟨f,1,none⟩ (.slice (some ⟨b,0,none⟩) n n):=⟨_,rfl⟩;have s:=(C.set0 (.slice (some ⟨g,0,none⟩) n n)).set1 (.slice (some ⟨b,0,none⟩) n n);have r:=((Below.refl c w).setCell (p:=⟨f,0,none⟩) x (.slice (some ⟨g,0,none⟩) n n)).setCell (p:=⟨f,1,none⟩) x (.slice (some ⟨b,0,none⟩) n n);have y:k.heap.size=w.heap.size:=(by rw[j];simp);rw[←j]at u s r;rw[←y]at q d;clear j y;subst u;have o:=t k;have m:=t (k.alloc (.cells Z 98));have H:=((ZR.of_made o).below m.below).below (zae _);have E:=(ZR.of_made m).below (zae _);have l:(k.alloc (.cells Z 98)).heap.size=k.heap.size+1:=(by simp);rw[l]at E;refine⟨(r.trans ((o.below.mono d).trans (m.below.mono (by rw[l];omega)))).drew,((s.below o.below).below m.below).below (zae _),?_,?_⟩
 ·rcases q with⟨rfl,_⟩|⟨rfl,_⟩ <;> assumption
 ·rcases q with⟨_,rfl⟩|⟨_,rfl⟩ <;> assumption
theorem ChC.mk0 (w:World) (g j:Value) (b:Bool) (d f:Value) (c:Bool) (T:TypeId):ChC (w.alloc (Obj.cells #[g,j,.bool b,d,f,.bool c] T)) w.heap.size g j b d f c:=⟨by simp,qq,qq,qq,qq,qq,qq,qq,qq,qq,qq,qq,qq⟩
theorem chaseOf_any (w:World) (va vb:Value) (a b k l:Nat) (ha:Mag w va a k) (hb:Mag w vb b l) (da:0<k) (ea:0<l) (ga:k<160) (ia:l<160):
 Calls Tryz.prog 123 #[va,vb,.bool false] w fun e w'=>∃j n,e=.returned (.pointer (some ⟨j,0,none⟩))∧Below w.heap.size w w'∧Ch w.heap.size w' j n (max a b) (min a b):=by
 obtain⟨i0,ib,lb,mb,pb⟩:=info_parts zcs;obtain⟨ba,oa,ca,rfl,fb,y,ja,jb⟩:=ha.row da;obtain⟨bb,ob,cb,rfl,gb,A,ka,kb⟩:=hb.row ea;have CC:=fun wx (h:Below w.heap.size w wx)=>zdh wx _ _ a b k l (ha.below h) (hb.below h) om om;have HA:Hid (Mag w (.slice (some ⟨ba,oa,none⟩) k ca) a k):=ha;have HB:Hid (Mag w (.slice (some ⟨bb,ob,none⟩) l cb) b l):=hb;have pa:=da;have qa:=ea;go_enter Tryz.func123,Tryz.ntmps123;go_upto_region 4 with fail;refine zab (fun w1=>Below w.heap.size w w1∧ChC w1 w.heap.size (.slice none 0 0) (.slice none 0 0) false (.slice none 0 0) (.slice none 0 0) false) ⟨zao _ _,ChC.mk0 _ _ _ _ _ _ _ _⟩ ?_;rintro w1 ⟨ra,C1⟩;replace CC:=CC w1 ra;have x:Hid (Below w.heap.size w w1):=ra;obtain⟨j,u⟩:∃j,w.heap.size=j:=⟨_,rfl⟩;have G:Hid (w.heap.size=j):=u;rw[u]at C1⊢;have aa:Hid (ChC w1 j (.slice none 0 0) (.slice none 0 0) false (.slice none 0 0) (.slice none 0 0) false):=C1;obtain⟨lp,c0,W,c2,c3,c4,c5,z0,z1,z2,z3,z4,z5⟩:=id C1;clear ra C1 u ha hb;rcases Nat.lt_or_ge a b with fa|sa
 ·rw[zbm fa]at CC;go_wp2_with (go_at_call 87;fail);refine CC.mono ?_;rintro e w2 ⟨rfl,J⟩;have C2:=aa.out.below J;obtain⟨lp,c0,W,c2,c3,c4,c5,z0,z1,z2,z3,z4,z5⟩:=id C2;clear CC;go_wp2;go_region;go_upto_region 7 with fail;have HF:Hid _:=(((C2.set3 (.slice none 0 0)).set4 (.slice none 0 0)).set5 true).below (zae _);have xa:Hid _:=((((zae w1).mono (Nat.le_refl _))));refine zab (fun g=>Below w.heap.size w1 g∧ChC g j (.slice none 0 0) (.slice none 0 0) false (.slice none 0 0) (.slice none 0 0) true) ⟨((((J.mono x.out.size).setCell (p:=⟨j,3,none⟩) (Nat.le_of_eq G.out) _).setCell (p:=⟨j,4,none⟩) (Nat.le_of_eq G.out) _).setCell (p:=⟨j,5,none⟩) (Nat.le_of_eq G.out) _).drew,HF.out⟩ ?_;clear HF J C2 lp c0 W c2 c3 c4 c5 z0 z1 z2 z3 z4 z5;rintro g ⟨ua,C3⟩;have E:Hid (Below w.heap.size w1 g):=ua;clear ua w2 xa;obtain⟨lp,c0,W,c2,c3,c4,c5,z0,z1,z2,z3,z4,z5⟩:=id C3;obtain⟨Z,HZ,HM⟩:=made_rows l ia;have S:Hid (∀w:World,Made .u64 B w (w.alloc (.cells Z 98)) l):=HZ;have F:Hid (ChC g j (.slice none 0 0) (.slice none 0 0) false (.slice none 0 0) (.slice none 0 0) true):=C3;have u:w.heap.size≤j:=Nat.le_of_eq G.out;have I:w.heap.size≤g.heap.size:=(by have:=x.out.size;have:=E.out.size;omega);have Y:k≤l:=(by have h1:a<B^l:=(by have h2:=Mag.lt HB.out;omega);exact Mag.len_le HA.out h1);clear HZ C3;go_region
  all_goals
   go_upto_region 8 with fail
   first
    |refine zab (fun m=>Below w.heap.size g m∧ChC m j (.slice (some ⟨g.heap.size+1,0,none⟩) l l) (.slice (some ⟨g.heap.size,0,none⟩) l l) false (.slice none 0 0) (.slice none 0 0) true∧ZR m (g.heap.size+1) l∧ZR m g.heap.size l) (zdt F.out u I S.out (.inr ⟨rfl,rfl⟩) rfl) ?_
    |refine zab (fun m=>Below w.heap.size g m∧ChC m j (.slice (some ⟨g.heap.size,0,none⟩) l l) (.slice (some ⟨g.heap.size+1,0,none⟩) l l) false (.slice none 0 0) (.slice none 0 0) true∧ZR m g.heap.size l∧ZR m (g.heap.size+1) l) (zdt F.out u I S.out (.inl ⟨rfl,rfl⟩) rfl) ?_
   clear lp c0 W c2 c3 c4 c5 z0 z1 z2 z3 z4 z5 HM F;rintro m ⟨B5,P,N,ZY⟩;have X:Below w.heap.size w g:=x.out.trans E.out;have ta:j<g.heap.size:=(by have:=x.out;have:=E.out.size;have:=aa.out.lt;omega);have o:Below w.heap.size w m:=X.trans B5;obtain⟨V,s⟩:∃V,V=g.heap.size:=⟨_,rfl⟩;obtain⟨H,t⟩:∃H,H=g.heap.size+1:=⟨_,rfl⟩;have eb:w.heap.size≤V∧j<V∧V<H:=om;rw[←t]at P⊢
   try rw[←t]at N
   try rw[←t]at ZY
   rw[←s]at P⊢
   try rw[←s]at N
   try rw[←s]at ZY
   clear s t X B5 I ta;obtain⟨lp,c0,W,c2,c3,c4,c5,z0,z1,z2,z3,z4,z5⟩:=id P;have L:=zaf y o;have M:=zaf A o;have C:=(zal y o).trans ja;have D:=(zal A o).trans ka;have ab:=y.lt da;have db:=A.lt ea;have la:Hid _:=C;have ma:Hid _:=D;have R:Hid (ChC m j _ _ false _ _ _):=P;have q:Hid (Below w.heap.size w m):=o;clear C D ja ka P o y A;go_wp2_with (first
    |(refine za4 .u64 B rfl _ _ 22 22 rfl 98 Tryz.underlying22 zdg _ _ _ _ _ _ rfl rfl _ 0 bb ob (Sl.mk _ _ _) (Sl.mk _ _ _) N.arr N.free M ?_;intro w6 d;rw[Nat.min_self]at d;have ya:=(d.chg.cellAt (c:=j) (i:=1) lp (.inl om)).trans W;have z:=d.chg.arr L L.lt (fun _=> .inl om);have r:=ZY.chg d.chg om)
    |(refine za4 .u64 B rfl _ _ 22 22 rfl 98 Tryz.underlying22 zdg _ _ _ _ _ _ rfl rfl _ 0 ba oa (Sl.mk _ _ _) (Sl.mk _ _ _) r.arr r.free z ?_;intro w7 f;rw[Nat.min_eq_left Y]at f))
   obtain⟨O,F6,N6⟩:=N.copied d (Nat.le_refl _);obtain⟨A7,F7,N7⟩:=r.copied f Y;have T:num B w6 _ 0 l=b:=N6.trans ma.out;have e6:num B w6 ba oa k=num B m ba oa k:=d.chg.num (fun _=>by have:=q.out.size;omega) (fun _=> .inl om);have U:num B w7 _ 0 l=a:=(N7.trans e6).trans la.out;have CF:=(R.out.chg d.chg om).chg f.chg om;have BF:Below w.heap.size w w7:=(q.out.trans (d.chg.below om q.out.size)).trans (f.chg.below om (Nat.le_trans q.out.size d.chg.size));have RF:XY w.heap.size w7 j l b a _ l _ l:=⟨Nat.le_of_eq G.out,by omega,by omega,by omega,by omega,by omega,
    f.chg.arr O O.lt (fun _=> .inl om),A7,f.chg.free F6 (fun _=>O.lt qa),F7,(f.chg.num (fun _=>O.lt qa) (fun _=> .inl om)).trans T,U,qa,ia,Nat.le_refl _,Nat.le_refl _,ia,ia,Nat.le_of_lt fa⟩
   have HE:Hid _:=(⟨BF,.mk _ _ _ _ _ _ _ CF RF⟩:Below w.heap.size w w7∧Ch w.heap.size w7 j l b a);clear BF CF RF T U e6 O F6 N6 A7 F7 N7 d f z r N ZY R q;refine bodyPost_ret (v:= .pointer (some ⟨j,0,none⟩)) rsw rfl ?_;rw[Nat.max_eq_right (Nat.le_of_lt fa),Nat.min_eq_left (Nat.le_of_lt fa)];exact⟨j,l,rfl,HE.out.1,HE.out.2⟩
 ·have za:¬zat ((a:Nat):Int) ((b:Nat):Int)<0:=(by unfold zat;rw[if_neg om];split <;> omega);obtain⟨cc,wa⟩:∃cc,zat ((a:Nat):Int) ((b:Nat):Int)=cc:=⟨_,rfl⟩;rw[wa]at CC za;clear wa;go_wp2_with (go_at_call 87;fail);refine CC.mono ?_;rintro e g ⟨rfl,J⟩;have C3:=aa.out.below J;have E:Hid (Below w.heap.size w1 g):=J.mono x.out.size;clear CC J lp c0 W c2 c3 c4 c5 z0 z1 z2 z3 z4 z5;obtain⟨lp,c0,W,c2,c3,c4,c5,z0,z1,z2,z3,z4,z5⟩:=id C3;go_wp2;obtain⟨Z,HZ,HM⟩:=made_rows k ga;have S:Hid (∀w:World,Made .u64 B w (w.alloc (.cells Z 98)) k):=HZ;have F:Hid (ChC g j (.slice none 0 0) (.slice none 0 0) false (.slice none 0 0) (.slice none 0 0) false):=C3;have u:w.heap.size≤j:=Nat.le_of_eq G.out;have I:w.heap.size≤g.heap.size:=(by have:=x.out.size;have:=E.out.size;omega);have Y:l≤k:=(by have h1:b<B^k:=(by have h2:=Mag.lt HA.out;omega);exact Mag.len_le HB.out h1);clear HZ C3;go_region
  all_goals
   go_upto_region 8 with fail
   first
    |refine zab (fun m=>Below w.heap.size g m∧ChC m j (.slice (some ⟨g.heap.size+1,0,none⟩) k k) (.slice (some ⟨g.heap.size,0,none⟩) k k) false (.slice none 0 0) (.slice none 0 0) false∧ZR m (g.heap.size+1) k∧ZR m g.heap.size k) (zdt F.out u I S.out (.inr ⟨rfl,rfl⟩) rfl) ?_
    |refine zab (fun m=>Below w.heap.size g m∧ChC m j (.slice (some ⟨g.heap.size,0,none⟩) k k) (.slice (some ⟨g.heap.size+1,0,none⟩) k k) false (.slice none 0 0) (.slice none 0 0) false∧ZR m g.heap.size k∧ZR m (g.heap.size+1) k) (zdt F.out u I S.out (.inl ⟨rfl,rfl⟩) rfl) ?_
   clear lp c0 W c2 c3 c4 c5 z0 z1 z2 z3 z4 z5 HM F;rintro m ⟨B5,P,N,ZY⟩;have X:Below w.heap.size w g:=x.out.trans E.out;have ta:j<g.heap.size:=(by have:=x.out;have:=E.out.size;have:=aa.out.lt;omega);have o:Below w.heap.size w m:=X.trans B5;obtain⟨V,s⟩:∃V,V=g.heap.size:=⟨_,rfl⟩;obtain⟨H,t⟩:∃H,H=g.heap.size+1:=⟨_,rfl⟩;have eb:w.heap.size≤V∧j<V∧V<H:=om;rw[←t]at P⊢
   try rw[←t]at N
   try rw[←t]at ZY
   rw[←s]at P⊢
   try rw[←s]at N
   try rw[←s]at ZY
   clear s t X B5 I ta;obtain⟨lp,c0,W,c2,c3,c4,c5,z0,z1,z2,z3,z4,z5⟩:=id P;have L:=zaf y o;have M:=zaf A o;have C:=(zal y o).trans ja;have D:=(zal A o).trans ka;have ab:=y.lt da;have db:=A.lt ea;have la:Hid _:=C;have ma:Hid _:=D;have R:Hid (ChC m j _ _ false _ _ _):=P;have q:Hid (Below w.heap.size w m):=o;clear C D ja ka P o y A;go_wp2_with (first
    |(refine za4 .u64 B rfl _ _ 22 22 rfl 98 Tryz.underlying22 zdg _ _ _ _ _ _ rfl rfl _ 0 ba oa (Sl.mk _ _ _) (Sl.mk _ _ _) N.arr N.free L ?_;intro w6 d;rw[Nat.min_self]at d;have ya:=(d.chg.cellAt (c:=j) (i:=1) lp (.inl om)).trans W;have z:=d.chg.arr M M.lt (fun _=> .inl om);have r:=ZY.chg d.chg om)
    |(refine za4 .u64 B rfl _ _ 22 22 rfl 98 Tryz.underlying22 zdg _ _ _ _ _ _ rfl rfl _ 0 bb ob (Sl.mk _ _ _) (Sl.mk _ _ _) r.arr r.free z ?_;intro w7 f;rw[Nat.min_eq_left Y]at f))
   obtain⟨O,F6,N6⟩:=N.copied d (Nat.le_refl _);obtain⟨A7,F7,N7⟩:=r.copied f Y;have T:num B w6 _ 0 k=a:=N6.trans la.out;have e6:num B w6 bb ob l=num B m bb ob l:=d.chg.num (fun _=>by have:=q.out.size;omega) (fun _=> .inl om);have U:num B w7 _ 0 k=b:=(N7.trans e6).trans ma.out;have CF:=(R.out.chg d.chg om).chg f.chg om;have BF:Below w.heap.size w w7:=(q.out.trans (d.chg.below om q.out.size)).trans (f.chg.below om (Nat.le_trans q.out.size d.chg.size));have RF:XY w.heap.size w7 j k a b _ k _ k:=⟨Nat.le_of_eq G.out,by omega,by omega,by omega,by omega,by omega,
    f.chg.arr O O.lt (fun _=> .inl om),A7,f.chg.free F6 (fun _=>O.lt pa),F7,(f.chg.num (fun _=>O.lt pa) (fun _=> .inl om)).trans T,U,pa,ga,Nat.le_refl _,Nat.le_refl _,ga,ga,sa⟩
   have HE:Hid _:=(⟨BF,.mk _ _ _ _ _ _ _ CF RF⟩:Below w.heap.size w w7∧Ch w.heap.size w7 j k a b);clear BF CF RF T U e6 O F6 N6 A7 F7 N7 d f z r N ZY R q;refine bodyPost_ret (v:= .pointer (some ⟨j,0,none⟩)) rsw rfl ?_;rw[Nat.max_eq_left sa,Nat.min_eq_right sa];exact⟨j,k,rfl,HE.out.1,HE.out.2⟩
theorem TabB.lt {w:World} (h:TabB w):1<w.heap.size:=zb6 (h 0 dd)
theorem TabB.below {w w':World} (h:TabB w) (b:Below w.heap.size w w'):TabB w':=fun j c=>(World.cell?_of_block (b.block 1 h.lt)).trans (h j c)
theorem mag_one (w:World) (g:Nat) (d:0<g) (h:g<B):Mag (w.alloc (.cells #[.int .u64 (g:Int)] 98)) (.slice (some ⟨w.heap.size,0,none⟩) 1 1) g 1:=by obtain⟨c,b⟩:=one_arr w g h;refine⟨_,w.heap.size,0,1,rfl,Sl.mk _ _ _,Nat.le_refl _,c,b,.inr ?_⟩;rw[zam,zas,Nat.zero_add,Nat.pow_zero,Nat.one_mul]at b;show word _ _ (0+(1-1))≠0;rw[Nat.sub_self,b];omega
theorem Mag.head {w:World} {v:Value} {y:Nat} (h:Mag w v y 1):∃b o c,v=.slice (some ⟨b,o,none⟩) 1 c∧1≤c∧w.cell? ⟨b,o,none⟩=some (.int .u64 (y:Int))∧y<B∧0<y:=by obtain⟨b,o,c,l,k,j,m,n⟩:=h.row dd;have d:=zah j (i:=0) dd;have f:word w b (o+0)=y:=(by rw[←m,zam,zas,Nat.zero_add,Nat.pow_zero,Nat.one_mul]);rw[f,Nat.add_zero]at d;have g:=h.lt;rw[Nat.pow_one]at g;exact⟨b,o,c,l,k,d,g,h.pos dd⟩
theorem zfb (w:World) (va vb:Value) (a b na nb:Nat) (ha:Mag w va a na) (V:Mag w vb b nb) (S:0<na) (A:0<nb) (gc:na<160) (hc:nb<160) (ht:TabB w):
 Calls Tryz.prog 92 #[va,vb] w fun e w'=>∃v n,e=.returned v∧Below w.heap.size w w'∧Mag w' v (Nat.gcd a b) n:=by
 have T:0<Nat.gcd a b:=Nat.gcd_pos_of_pos_right _ (V.pos A);by_cases N:nb=1
 ·subst N;obtain⟨bb,ob,cb,rfl,cc,m,D,ja⟩:=V.head;obtain⟨ba,oa,ca,rfl,bc,-,-,-⟩:=ha.row S;have ka:=zb6 m;have M:Nat.gcd b (a%b)=Nat.gcd a b:=(by rw[Nat.gcd_comm a b,Nat.gcd_rec b a,Nat.gcd_comm]);have I:Nat.gcd a b<B:=Nat.lt_of_le_of_lt (Nat.gcd_le_right _ ja) D;have CM:∀c,Below w.heap.size w c→Calls Tryz.prog 122 #[.slice (some ⟨ba,oa,none⟩) na ca,.int .u64 b] c fun e w'=>e=.returned (.int .u64 (a%b:Nat))∧Below c.heap.size c w':=fun c h=>zf3 c _ a na b (ha.below h) om ja D;have Z:∀c,Below w.heap.size w c→Calls Tryz.prog 91 #[.int .u64 b,.int .u64 (a%b:Nat)] c fun e w'=>e=.returned (.int .u64 (Nat.gcd a b:Nat))∧w'=c:=fun c h=>by have:=zd4 c b (a%b) D (Nat.lt_trans (Nat.mod_lt _ ja) D) (ht.below h);rw[M]at this;exact this
  have HC:Hid (∀c,Below w.heap.size w c→c.cell? ⟨bb,ob,none⟩=some (.int .u64 (b:Int))):=fun c h=>(World.cell?_of_block (h.block bb ka)).trans m;have HG:Hid (0<Nat.gcd a b∧Nat.gcd a b<B):=⟨T,I⟩;obtain⟨g,hg⟩:∃g,Nat.gcd a b=g:=⟨_,rfl⟩;rw[hg]at Z HG⊢;clear ha V T ht M I hg S A;go_enter Tryz.func92,Tryz.ntmps92;go_wp2;go_region_with (first
   |(go_at_call 122;refine(CM _ (zae w)).mono ?_;rintro e w3 ⟨rfl,s⟩;have c3:=HC.out w3 ((zae w).trans s))
   |(go_at_call 91;refine(Z _ ((zae w).trans s)).mono ?_;rintro e w4 ⟨rfl,la⟩;subst w4))
  all_goals
   have HB:Hid (Below w.heap.size w w3):=(zae w).trans s;clear CM Z s;go_wp2;go_ret;exact⟨_,1,rfl,HB.out.alloc HB.out.size _,mag_one w3 g HG.out.1 HG.out.2⟩
 ·have sb:¬(nb:Int)=1:=om;have CA:=chaseOf_any w va vb a b na nb ha V S A gc hc;obtain⟨ba,oa,ca,rfl,bc,-,-,-⟩:=ha.row S;obtain⟨bb,ob,cb,rfl,cc,-,-,-⟩:=V.row A;have gb:Nat.gcd (max a b) (min a b)=Nat.gcd a b:=by
   rcases Nat.le_total a b with h|h
   ·rw[Nat.max_eq_right h,Nat.min_eq_left h,Nat.gcd_comm]
   ·rw[Nat.max_eq_left h,Nat.min_eq_right h]
  have X:0<max a b:=(by have:=V.pos A;omega);have D:Nat.gcd a b≤b:=Nat.gcd_le_right _ (V.pos A);have HT:Hid (TabB w):=ht;have sa:Hid (0<Nat.gcd a b):=T;have qa:Hid (Nat.gcd (max a b) (min a b)=Nat.gcd a b):=gb;have ta:Hid (0<max a b):=X;clear ha V ht T gb X D;go_enter Tryz.func92,Tryz.ntmps92;go_wp2_with (go_at_call 123;fail);refine CA.mono ?_;rintro e w1 ⟨F,n0,rfl,ia,eb⟩;clear CA;have CR:=run_any w.heap.size w1 F n0 _ _ eb ta.out ia.size;have ra:Hid (Below w.heap.size w w1):=ia;clear eb ia;go_wp2_with (go_at_call 124;fail);refine CR.mono ?_;rintro e w2 ⟨n,x,y,rfl,jb,ac,lb,tb,u⟩;clear CR;obtain⟨bx,cx,G,cy,uv,vv,mi,C,R⟩:=ac;have aa:Hid (Below w.heap.size w w2):=ra.out.trans jb;have z:Hid (Nat.gcd x y=Nat.gcd a b):=lb.trans qa.out;have ea:Hid (y<B^1):=(by show y<B^1;rw[Nat.pow_one];exact u);have ua:Hid (0<x):=tb;have AX:∀c,Below w2.heap.size w2 c→Arr .u64 B c bx 0 n∧num B c bx 0 n=x:=fun c h=>⟨zaf R.ax h,(zal R.ax h).trans R.ex⟩;have AY:∀c,Below w2.heap.size w2 c→Arr .u64 B c G 0 n∧num B c G 0 n=y:=fun c h=>⟨zaf R.ay h,(zal R.ay h).trans R.ey⟩;have rb:=R.n0;have hn:=R.nm;have vc:=R.cx1;have xc:=R.cy1;have da:Hid (n≤maxLen):=(by show n≤maxLen;unfold maxLen;omega);obtain⟨lp,k0,k1,k2,-,-,-,-,-,-,-,-,-⟩:=id C;clear ra jb lb qa ta tb u C R sb;go_wp2;refine zab (fun w1=>w1=w2) rfl ?_;rintro w1 rfl;refine zaq za6 [⟨26,[],[],[5]⟩,⟨27,[0],[0],[]⟩,⟨28,[1],[0,1],[]⟩,⟨29,[2],[0,1,2],[]⟩,⟨30,[],[],[5]⟩,⟨31,[4],[4],[]⟩,⟨32,[5],[4,5],[]⟩,⟨33,[6],[4,5,6],[]⟩,⟨34,[7],[4,5,6,7],[]⟩,⟨35,[3,8],[0,1,2,3,4,5,6,7,8],[]⟩,⟨36,[],[],[5]⟩,⟨37,[10],[10],[]⟩,⟨38,[11],[10,11],[]⟩,⟨39,[12],[10,11,12],[]⟩,⟨40,[9,13],[0,1,2,3,4,5,6,7,8,9,10,11,12,13],[]⟩,⟨6,[0,1,2,3,4,5,6,7,8,9,14],[0,1,2,3,4,5,6,7,8,9,10,11,12,13,14],[]⟩,⟨7,[0,1,2,3,4,5,6,7,8,9,10,11,12,13,14,15],[0,1,2,3,4,5,6,7,8,9,10,11,12,13,14,15],[]⟩] [] kfl 55 rfl kfl (fun (i:Nat) (v:Value) (wq:World)=>match i with|0=>v=.pointer (some ⟨F,0,none⟩)|1=>v=.pointer (some ⟨F,0,none⟩)|2=>v=.pointer (some ⟨F,0,none⟩)|3=>v=.slice (some ⟨bx,0,none⟩) n (cx)|4=>v=.pointer (some ⟨F,0,none⟩)|5=>v=.pointer (some ⟨F,0,none⟩)|6=>v=.pointer (some ⟨F,0,none⟩)|7=>v=.slice (some ⟨bx,0,none⟩) n (cx)|8=>v=.int .i64 (((n:Nat):Int))|9=>∃k,k≤n∧Mag wq v x k|10=>v=.pointer (some ⟨F,0,none⟩)|11=>v=.pointer (some ⟨F,0,none⟩)|12=>v=.pointer (some ⟨F,1,none⟩)|13=>v=.slice (some ⟨G,0,none⟩) n (cy)|14=>∃k,k≤1∧Mag wq v y k|15=>∃k,k≤n∧Mag wq v x k|16=>∃k,k≤1∧Mag wq v y k|_=>True) (fun _ wq=>Below w1.heap.size w1 wq) (fun c wy=>Below c.heap.size c wy) (zz).drew (fun i v c wy h hx=>match i,h with|0,h=>h|1,h=>h|2,h=>h|3,h=>h|4,h=>h|5,h=>h|6,h=>h|7,h=>h|8,h=>h|10,h=>h|11,h=>h|12,h=>h|13,h=>h|9,h=>by obtain⟨k,N,h2⟩:=h;exact⟨k,N,h2.below hx⟩|14,h=>by obtain⟨k,N,h2⟩:=h;exact⟨k,N,h2.below hx⟩|15,h=>by obtain⟨k,N,h2⟩:=h;exact⟨k,N,h2.below hx⟩|16,h=>by obtain⟨k,N,h2⟩:=h;exact⟨k,N,h2.below hx⟩|n+17,_=>trivial) ?_ ?_
  ·intro i o r l j L fr c H hL ic dc kb f q;clear hL ic dc kb
   match i,l,j with
   |0,l,j=>?_
   |1,l,j=>?_
   |2,l,j=>?_
   |3,l,j=>?_
   |4,l,j=>?_
   |5,l,j=>?_
   |6,l,j=>?_
   |7,l,j=>?_
   |8,l,j=>?_
   |9,l,j=>obtain rfl:=oi l;obtain rfl:=oi j;have e3:=evs 29 (f 3 dd _ rfl);have e8:=evs 34 (f 8 dd _ rfl);clear f q;refine zap rfl rfl fun K O=>?_;go_simp;refine(zbs c (some ⟨bx,0,none⟩) bx 0 n _ n (Sl.mk _ _ _) om da.out da.out (AX c H).1).mono ?_;rintro e wy ⟨v4,k4,rfl,la,mb,pb,J⟩;subst wy;exact O _ _ ⟨⟨k4,pb,by rw[Nat.min_self,(AX c H).2]at J;exact J⟩,H,zz,nn⟩
   |10,l,j=>?_
   |11,l,j=>?_
   |12,l,j=>?_
   |13,l,j=>?_
   |14,l,j=>obtain rfl:=oi l;obtain rfl:=oi j;have fa:=evs 39 (f 13 dd _ rfl);clear f q;refine zap rfl rfl fun K O=>?_;go_simp;refine(zbs c (some ⟨G,0,none⟩) G 0 n _ 1 (Sl.mk _ _ _) om da.out dd (AY c H).1).mono ?_;rintro e wy ⟨v4,k4,rfl,la,mb,pb,J⟩;subst wy;exact O _ _ ⟨⟨k4,mb,by rw[Nat.min_eq_left rb,num_cut (AY c H).2 rb ea.out]at J;exact J⟩,H,zz,nn⟩
   |15,l,j=>obtain rfl:=oi l;obtain rfl:=oi j;obtain⟨u9,e9,p9⟩:=evr 35 (P:=fun u9=>∃k,k≤n∧Mag c u9 x k) (f 9 dd _ rfl);clear f q;refine zap rfl rfl fun K O=>?_;go_simp;exact O _ _ ⟨p9,H,zz,nn⟩
   |16,l,j=>obtain rfl:=oi l;obtain rfl:=oi j;obtain⟨u14,ga,pa⟩:=evr 40 (P:=fun u14=>∃k,k≤1∧Mag c u14 y k) (f 14 dd _ rfl);clear f q;refine zap rfl rfl fun K O=>?_;go_simp;exact O _ _ ⟨pa,H,zz,nn⟩
   |n+17,l,j=>exact absurd j (by simp)
   all_goals obtain rfl:=oi l;obtain rfl:=oi j;simp only[uxw,uw,evt]at f q;have tc:=(H.cell (p:=⟨F,0,none⟩) lp).trans k0;have uc:=(H.cell (p:=⟨F,1,none⟩) lp).trans k1;refine zap rfl rfl fun K O=>?_;go_simp;exact O _ _ ⟨rfl,H,zz,nn⟩
  ·intro vs t d fb ib;clear ib;have e0:vs 0=_:=d 0 dd;have e1:vs 1=_:=d 1 dd;have e2:vs 2=_:=d 2 dd;have e3:vs 3=_:=d 3 dd;have e4:vs 4=_:=d 4 dd;have e5:vs 5=_:=d 5 dd;have e6:vs 6=_:=d 6 dd;have e7:vs 7=_:=d 7 dd;have e8:vs 8=_:=d 8 dd;obtain⟨u9,e9,p9⟩:∃u9,vs 9=u9∧(∃k,k≤n∧Mag t u9 x k):=⟨_,rfl,d 9 dd⟩;have xa:vs 10=_:=d 10 dd;have ya:vs 11=_:=d 11 dd;have za:vs 12=_:=d 12 dd;have fa:vs 13=_:=d 13 dd;obtain⟨u14,ga,pa⟩:∃u14,vs 14=u14∧(∃k,k≤1∧Mag t u14 y k):=⟨_,rfl,d 14 dd⟩;obtain⟨u15,ab,lc⟩:∃u15,vs 15=u15∧(∃k,k≤n∧Mag t u15 x k):=⟨_,rfl,d 15 dd⟩;obtain⟨u16,db,mc⟩:∃u16,vs 16=u16∧(∃k,k≤1∧Mag t u16 y k):=⟨_,rfl,d 16 dd⟩;simp only[zbp,Nat.reduceAdd,e0,e1,e2,e3,e4,e5,e6,e7,e8,e9,xa,ya,za,fa,ga,ab,db,Act.put,ll];clear d e0 e1 e2 e3 e4 e5 e6 e7 e8 e9 xa ya za fa ga ab db;obtain⟨kx,ec,E⟩:=lc;obtain⟨ky,fc,U⟩:=mc;have HW:Hid (Below w.heap.size w t):=aa.out.trans (fb.mono aa.out.size);clear p9 pa AX AY k0 k1 k2 lp fb;by_cases W:ky=0
   ·have wb:y=0:=U.zero_iff.2 W;subst W;have Y:=E;obtain⟨ay,qc,oy,sc,rfl,-,-,-,-,-⟩:=U;have HM:Hid (Mag t u15 (Nat.gcd a b) kx):=(by rw[wb,Nat.gcd_zero_right]at z;show Mag t u15 (Nat.gcd a b) kx;rw[←z.out];exact Y);clear E Y wb z ea;go_wp2;go_ret;exact⟨_,kx,rfl,HW.out,HM.out⟩
   ·obtain rfl:ky=1:=om;obtain⟨wa,kc,rc,rfl,oc,m,u,ma⟩:=U.head;have qb:0<kx:=Nat.pos_of_ne_zero fun h=>by have:=E.zero_iff.2 h;have:=ua.out;omega
    have ub:=E;obtain⟨yb,jc,zb,rfl,nc,-,-,-⟩:=E.row qb;have ka:=zb6 m;have ht:=TabB.below HT.out (HW.out.mono (Nat.le_refl _));have M:Nat.gcd y (x%y)=Nat.gcd a b:=(by rw[←z.out,Nat.gcd_comm x y,Nat.gcd_rec y x,Nat.gcd_comm]);have I:Nat.gcd a b<B:=(by rw[←z.out];exact Nat.lt_of_le_of_lt (Nat.gcd_le_right _ ma) u);have CM:∀c,Below t.heap.size t c→Calls Tryz.prog 122 #[.slice (some ⟨yb,jc,none⟩) kx zb,.int .u64 y] c fun e w'=>e=.returned (.int .u64 (x%y:Nat))∧Below c.heap.size c w':=fun c h=>zf3 c _ x kx y (ub.below h) om ma u;have Z:∀c,Below t.heap.size t c→Calls Tryz.prog 91 #[.int .u64 y,.int .u64 (x%y:Nat)] c fun e w'=>e=.returned (.int .u64 (Nat.gcd a b:Nat))∧w'=c:=fun c h=>by have:=zd4 c y (x%y) u (Nat.lt_trans (Nat.mod_lt _ ma) u) (ht.below h);rw[M]at this;exact this
    have HC:Hid (∀c,Below t.heap.size t c→c.cell? ⟨wa,kc,none⟩=some (.int .u64 (y:Int))):=fun c h=>(World.cell?_of_block (h.block wa ka)).trans m;have HG:Hid (0<Nat.gcd a b∧Nat.gcd a b<B):=⟨sa.out,I⟩;obtain⟨g,hg⟩:∃g,Nat.gcd a b=g:=⟨_,rfl⟩;rw[hg]at Z HG;have xb:Hid (Nat.gcd a b=g):=hg;clear E U ub ht M I hg z ea ua sa HT aa fc ec;go_wp2;go_region_with (first
     |(go_at_call 122;refine(CM _ (zae t)).mono ?_;rintro e w3 ⟨rfl,s⟩;have c3:=HC.out w3 ((zae t).trans s))
     |(go_at_call 91;refine(Z _ ((zae t).trans s)).mono ?_;rintro e w4 ⟨rfl,la⟩;subst w4))
    all_goals
     have HB:Hid (Below w.heap.size w w3):=HW.out.trans (((zae t).trans s).mono HW.out.size);clear CM Z s;go_wp2;go_ret;exact⟨_,1,rfl,HB.out.alloc HB.out.size _,by rw[xb.out];exact mag_one w3 g HG.out.1 HG.out.2⟩
end Go.Proofs.YtjlkplidpdhgbaaGreatDoor
