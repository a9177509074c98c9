/- A part of the proof: W28, Pm11, G2, Pm10, Pm12. -/
import Derived.Test.YtjlkplidpdhgbaaGreatDoorP00
import Derived.Test.YtjlkplidpdhgbaaGreatDoorP10
import Derived.Test.YtjlkplidpdhgbaaGreatDoorP04
import Derived.Deep.Cut
import Derived.Deep.CutRange
set_option linter.all false
set_option maxRecDepth 10000
set_option maxHeartbeats 2000000
namespace Go.Proofs.YtjlkplidpdhgbaaGreatDoor
open Go Go.Proofs Go.RowKit Go.Rad
theorem short_any (n m:Nat) (f:n<160) (d:m≤n) (w:World):Calls Tryz.prog 138 #[.int .i64 n,.int .i64 m] w fun e w'=>e=.returned (.bool true)∧w'=w:=by
 by_cases h:m<80
 ·have b:(m:Int)<80:=om;go_enter Tryz.func138,Tryz.ntmps138;go_wp2;go_ret;exact⟨rfl,rfl⟩
 ·have b:¬(m:Int)<80:=om;have c:(n:Int)-(m:Int)<80:=om;go_enter Tryz.func138,Tryz.ntmps138;go_wp2;go_ret;exact⟨rfl,rfl⟩
theorem Mag.row {w:World} {v:Value} {x n:Nat} (h:Mag w v x n) (g:0<n):∃b o c:Nat,v=.slice (some ⟨b,o,none⟩) n c∧n≤c∧Arr .u64 B w b o n∧num B w b o n=x∧word w b (o+(n-1))≠0:=by obtain⟨p,b,o,c,l,k,f,d,m,j⟩:=h;obtain rfl:=k g;exact⟨b,o,c,l,f,d,m,by rcases j with h|h <;> first|omega|exact h⟩
theorem one_arr (w:World) (x:Nat) (h:x<B):Arr .u64 B (w.alloc (.cells #[.int .u64 (x:Int)] 98)) w.heap.size 0 1∧num B (w.alloc (.cells #[.int .u64 (x:Int)] 98)) w.heap.size 0 1=x:=by
 have b:(w.alloc (.cells #[.int .u64 (x:Int)] 98)).cell? ⟨w.heap.size,0,none⟩=some (.int .u64 (x:Int)):=(by rw[World.cell?_alloc_at (w:=w) _ _ w.heap.size 0 rfl];rfl);have c:=zb9 b;refine⟨fun i hi=>?_,?_⟩
 ·obtain rfl:i=0:=om;rw[Nat.zero_add,c];exact⟨b,h⟩
 ·rw[zam,zas,Nat.zero_add,c];simp
theorem Mag.chg {w w':World} {b o c x n p lo hi:Nat} (h:Mag w (.slice (some ⟨b,o,none⟩) n c) x n) (k:Chg w w' p lo hi) (d:0<n→b≠p∨o+n≤lo∨hi≤o):Mag w' (.slice (some ⟨b,o,none⟩) n c) x n:=by
 obtain⟨t,r,o',u,m,l,f,j,q,g⟩:=h;simp only[Value.slice.injEq,true_and]at m;obtain⟨rfl,rfl⟩:=m;by_cases s:n=0
 ·subst s;exact⟨_,r,o',c,rfl,l,f,fun i hi=>by omega,by rw[←q];rfl,.inl rfl⟩
 ·have e:=l om;simp only[Option.some.injEq,Addr.mk.injEq,and_true]at e;obtain⟨rfl,rfl⟩:=e;refine⟨_,b,o,c,rfl,Sl.mk _ _ _,f,k.arr j j.lt d,(k.num j.lt d).trans q,?_⟩;rcases g with g|g
  ·exact .inl g
  ·right;rw[zac (k.cellAt (j.lt om) (by have:=d om;omega))];exact g
theorem mul_pow_lt {β x a b n m:Nat} (g:0<x) (l:a<β^n) (d:β^(m-1)≤b) (o:0<m) (f:m≤n+1):a*x<b*x*β^(n+1-m):=by have j:β^n=β^(m-1)*β^(n+1-m):=(by rw[←Nat.pow_add];congr 1;omega);have k:=Nat.mul_le_mul_right (β^(n+1-m)) d;have c:=Nat.mul_lt_mul_of_pos_right (show a<b*β^(n+1-m)by omega) g;rw[Nat.mul_right_comm];exact c
theorem high_lt {β:Nat} {w:World} {b o n k y:Nat} (h:num β w b o (k+n)<y*β^k):num β w b (o+k) n<y:=by rw[zba]at h;refine Nat.lt_of_not_le fun c=>?_;have:=Nat.mul_le_mul_left (β^k) c;rw[Nat.mul_comm (β^k) y]at this;omega
theorem top_ge {w:World} {b o n y:Nat} (d:Arr .u64 B w b o (n+1)) (h:num B w b o (n+1)=y) (j:9223372036854775808*B^n≤y):9223372036854775808≤word w b (o+n):=by refine Nat.le_of_not_lt fun f=>?_;have g:num B w b o n<B^n:=zbb (fun i hi=>d i om);rw[zam]at h;have c:=Nat.mul_le_mul_left (B^n) (show word w b (o+n)+1≤9223372036854775808 from f);rw[Nat.mul_add,Nat.mul_comm (B^n) 9223372036854775808]at c;omega
theorem len_shift' {y L:Nat} (d:0<y) (h:zck y L) (c:L≤64):(y+1)*2^(64-L)≤18446744073709551616:=by
 rcases h with⟨h1,_⟩|⟨h1,h2,h3⟩
 ·omega
 ·have b:2^L*2^(64-L)=18446744073709551616:=(by rw[←Nat.pow_add,show L+(64-L)=64 by omega]);rw[←b];exact Nat.mul_le_mul_right _ h3
theorem shifted_range {w:World} {b o m y s:Nat} (g:Arr .u64 B w b o (m+1)) (h:num B w b o (m+1)=y) (c:9223372036854775808≤word w b (o+m)*2^s) (d:(word w b (o+m)+1)*2^s≤18446744073709551616):
 9223372036854775808*B^m≤y*2^s∧y*2^s<B^(m+1):=by
 have j:num B w b o m<B^m:=zbb (fun i hi=>g i om);rw[zam]at h;have k:=Nat.mul_le_mul_right (B^m) c;have l:=Nat.mul_le_mul_right (B^m) d;constructor
 ·rw[←h,Nat.add_mul];have:B^m*word w b (o+m)*2^s=word w b (o+m)*2^s*B^m:=(by rw[Nat.mul_comm (B^m),Nat.mul_right_comm]);omega
 ·have f:y<B^m*(word w b (o+m)+1):=(by rw[Nat.mul_add];omega);have p:=Nat.mul_lt_mul_of_pos_right f (Nat.pow_pos (show 0<2 by decide) (n:=s));have q:B^m*(word w b (o+m)+1)*2^s=(word w b (o+m)+1)*2^s*B^m:=(by rw[Nat.mul_comm (B^m),Nat.mul_right_comm]);rw[Nat.pow_succ,Nat.mul_comm (B^m) B];unfold B at *;omega
theorem Fr_ge {d b o n c:Nat} (h:d≤b):Fr d (.slice (some ⟨b,o,none⟩) n c):=by intro f o' j g e;injection e with h1;injection h1 with h1;injection h1 with h1;omega
theorem zfx (w:World) (va vb:Value) (a b d nb:Nat) (I:Mag w va a d) (E:Mag w vb b nb) (cc:0<nb) (xc:d<160) (dc:nb≤35184372088832):
 Calls Tryz.prog 109 #[va,vb] w fun e w'=>∃vq vr nq nr,e=.returned (.tuple #[vq,vr])∧Below w.heap.size w w'∧Mag w' vq (a / b) nq∧Mag w' vr (a%b) nr∧(b≤a→Fr w.heap.size vr):=by
 obtain⟨i0,xb,mc,nc,oc⟩:=info_parts zcs;have rb:0<b:=E.pos cc;rcases Nat.lt_or_ge a b with ea|db
 ·have R:zat ((a:Nat):Int) ((b:Nat):Int)= -1:=zbm ea;have hq:a / b=0:=Nat.div_eq_of_lt ea;have hr:a%b=a:=Nat.mod_eq_of_lt ea;rw[hq,hr];have CC:=zdh w _ _ a b d nb I E om dc;rw[R]at CC;obtain⟨ao,Z,oa,ca,rfl,_⟩:=id I;obtain⟨bo,G,Y,cb,rfl,_⟩:=id E;have HA:Hid _:=I;clear I E hq hr R;go_enter Tryz.func109,Tryz.ntmps109;go_wp2_with (go_at_call 87;refine CC.mono ?_;rintro e w1 ⟨rfl,c⟩);go_ret2;exact⟨_,_,0,d,rfl,c,zf1 _,Mag.below HA.out c,fun h=>absurd h (Nat.not_le_of_lt ea)⟩
 ·have yc:nb≤d:=(by refine E.len_le ?_ |> fun h=>h;exact Nat.lt_of_le_of_lt db I.lt);have R:¬zat ((a:Nat):Int) ((b:Nat):Int)<0:=(by unfold zat;rw[if_neg om];split <;> omega);obtain⟨Z,oa,ca,rfl,kd,M,ia,ic⟩:=I.row om;obtain⟨G,Y,cb,rfl,ld,A,ja,ga⟩:=E.row cc;by_cases h1:nb=1
  ·subst h1;have CC:=zdh w _ _ a b d 1 I E om om;have g:=zah A (i:=0) om;have tb:word w G (Y+0)=b:=(by rw[←ja,zam,zas,Nat.zero_add,Nat.pow_zero,Nat.one_mul]);rw[tb,Nat.add_zero]at g;have sb:b<B:=(by have:=E.lt;rwa [Nat.pow_one]at this);have HC:Hid _:=R;clear R I E ic ga db ja A tb;go_enter Tryz.func109,Tryz.ntmps109;go_wp2_with (go_at_call 87;fail);refine CC.mono ?_;rintro e w1 ⟨rfl,c⟩;clear CC;have R:=HC.out;have f:w1.cell? ⟨G,Y,none⟩=some (.int .u64 (b:Int)):=(c.cell (p:=⟨G,Y,none⟩) (zb6 g)).trans g;have wa:=zaf M c;have kc:num B w1 Z oa d=a:=(zal M c).trans ia;have uc:Hid _:=kc;clear kc ia HC;go_wp2_with (first
    |(at_make;refine zau .u64 B zbg rfl _ _ 22 rfl 98 i0 Tryz.underlying22 xb mc nc .i64 .i64 _ _ d rfl rfl om om (by rw[oc];omega) (by unfold maxLen;omega) ?_;intro w2 x)
    |(refine za4 .u64 B rfl _ _ 22 22 rfl 98 Tryz.underlying22 zdg _ _ _ _ _ _ rfl rfl w1.heap.size 0 Z oa (Sl.mk _ _ _) (Sl.mk _ _ _) x.arr x.free (zaf wa x.below) ?_;intro F da;rw[Nat.min_self]at da;have aa:F.cell? ⟨G,Y,none⟩=some (.int .u64 (b:Int)):=(((x.below.trans (da.chg.below (Nat.le_refl _) (by have:=x.lt;omega))).cell (p:=⟨G,Y,none⟩) (zb6 f)).trans f))
    |(go_at_call 134;fail))
   obtain⟨O,o,ub,ib,bd⟩:=zc7 x wa (Nat.le_refl _) da;have CD:=zeg F (some ⟨w1.heap.size,0,none⟩) w1.heap.size 0 d d b (Sl.mk _ _ _) (by unfold maxLen;omega) o ub rb sb;rw[ib,uc.out]at CD;have r:Hid (Below w.heap.size w F):=c.trans (O.mono c.size);have t:Hid (w.heap.size≤w1.heap.size):=c.size;obtain⟨l,P⟩:∃l,l=w1.heap.size:=⟨_,rfl⟩;rw[←P]at CD bd t⊢;clear x da O o ub ib P f aa wa c;refine CD.mono ?_;rintro e w4 ⟨rfl,q,u,W⟩;clear CD;have z:Hid (Below w.heap.size w w4):=r.out.trans (q.below t.out (by have:=r.out.size;omega));have CF:=zbx w4 (some ⟨l,0,none⟩) l 0 d d d (Sl.mk _ _ _) (Nat.le_refl _) (by unfold maxLen;omega) (by unfold maxLen;omega) u;rw[Nat.min_self,W]at CF;clear W u q;go_wp2_with (go_at_call 86;fail);refine CF.mono ?_;rintro e D ⟨k5,rfl,cd,_,_,yb⟩;subst cd;clear CF;have zc:a%b<B:=Nat.lt_trans (Nat.mod_lt _ rb) sb;obtain⟨A1,N1⟩:=one_arr D (a%b) zc;have qc:Hid _:=yb;clear yb;go_wp2_with (go_at_call 86;fail);have CG:=zbx (D.alloc (.cells #[.int .u64 ((a%b:Nat):Int)] 98)) (some ⟨D.heap.size,0,none⟩) D.heap.size 0 1 1 1 (Sl.mk _ _ _) (Nat.le_refl _) (by unfold maxLen;omega) (by unfold maxLen;omega) A1;rw[Nat.min_self,N1]at CG;refine CG.mono ?_;rintro e w6 ⟨k6,rfl,ed,_,_,zb⟩;subst ed;clear CG;have rc:Hid _:=zb;clear zb A1 N1;go_wp2;go_ret2;exact⟨_,_,k5,k6,rfl,z.out.alloc z.out.size _,Mag.below qc.out ((zz).alloc (Nat.le_refl _) _),rc.out,fun _=>Fr_ge z.out.size⟩
  ·obtain⟨m,rfl⟩:∃m,nb=m+2:=⟨nb-2,by omega⟩;have CC:=zdh w _ _ a b d (m+2) I E om om;have V:=zaz A (i:=m+1) om;have g:=zah A (i:=m+1) om;have eb:=fun L=>len_shift (y:=word w G (Y+(m+1))) (L:=L) (Nat.pos_of_ne_zero ga);have fb:=fun L=>len_shift' (y:=word w G (Y+(m+1))) (L:=L) (Nat.pos_of_ne_zero ga);have HC:Hid _:=R;have HA:Hid _:=I;have HB:Hid _:=E;have x:¬((m:Int)+2)=1:=om;have e1:(m:Int)+2-1=(m:Int)+1:=om;clear R I E ic ga db;go_enter Tryz.func109,Tryz.ntmps109;go_wp2_with (go_at_call 87;fail);refine CC.mono ?_;rintro e w1 ⟨rfl,c⟩;clear CC;have R:=HC.out;have f:w1.cell? ⟨G,Y+(m+1),none⟩=some (.int .u64 ((word w G (Y+(m+1)):Nat):Int)):=(c.cell (p:=⟨G,Y+(m+1),none⟩) (A.lt om)).trans g;go_wp2_with (go_at_call 135;fail);refine(zcl _ V _).mono ?_;rintro e w2 ⟨L,rfl,hw,hl,H⟩;subst hw;have C:=shifted_range (m:=m+1) A ja (eb _ hl H).1 (fb _ hl H);have U:64-L<64:=by
    have h0:=(eb _ hl H).1;rcases Nat.eq_zero_or_pos L with h|h
    ·subst h;have h3:=fb _ hl H;omega
    ·omega
   obtain⟨s,hs⟩:∃s,s=64-L:=⟨_,rfl⟩;rw[←hs]at C U⊢;clear eb fb hl hs H;have CS:=shiftLeft_any w2 _ b (m+2) s (Mag.below HB.out c) om (by unfold maxLen;omega);go_wp2_with (go_at_call 136;fail);refine CS.mono ?_;rintro e F ⟨qd,n',rfl,O,fa,ib⟩;clear CS;have vc:n'=m+2:=(by refine Nat.le_antisymm (fa.len_le C.2) ?_;refine Nat.le_of_not_lt fun R=>?_;have h3:=fa.lt;have h4:B^n'≤B^(m+1):=Nat.pow_le_pow_right zbg om;have:=C.1;omega);subst vc;obtain⟨b3,o3,c3,rfl,jd,o,jb,_⟩:=fa.row om;have ra:=top_ge (n:=m+1) o jb C.1;have B3:Below w.heap.size w F:=c.trans (O.mono c.size);have J:Arr .u64 B F Z oa d:=zaf M B3;have sa:num B F Z oa d=a:=(zal M B3).trans ia;have pd:Z<w.heap.size:=M.lt om;have gd:b3<F.heap.size:=o.lt om;have hd:Hid _:=C;have ka:Hid _:=ra;have la:Hid _:=sa;have pb:Hid _:=jb;have r:Hid _:=B3;clear C ra sa jb B3 fa f g V R ia ja O c HC;go_wp2_with (first
    |(at_make;refine zau .u64 B zbg rfl _ _ 22 rfl 98 i0 Tryz.underlying22 xb mc nc .i64 .i64 _ _ (d+1) rfl rfl om om (by rw[oc];omega) (by unfold maxLen;omega) ?_;intro w4 j)
    |(go_at_call 137;fail))
   have l4:=j.lt;have ma:Arr .u64 B w4 Z oa d:=zaf J j.below;have ta:num B w4 Z oa d=a:=(zal J j.below).trans la.out;have u:Arr .u64 B w4 b3 o3 (m+2):=zaf o j.below;have W:num B w4 b3 o3 (m+2)=b*2^s:=(zal o j.below).trans pb.out;have fc:9223372036854775808≤word w4 b3 (o3+(m+1)):=(by rw[zb5 o j.below om];exact ka.out);have CM:=zgz w4 (some ⟨F.heap.size,0,none⟩) (some ⟨Z,oa,none⟩) F.heap.size 0 (d+1) (d+1) Z oa d ca s (Sl.mk _ _ _) (Sl.mk _ _ _) j.arr j.free ma rfl
    (fun _=> .inl (by have:=r.out.size;omega)) (by unfold maxLen;omega) U
   rw[ta]at CM;have z:Hid (Below w.heap.size w w4):=r.out.trans (j.below.mono r.out.size);have za:=j.free;obtain⟨l,P⟩:∃l,l=F.heap.size:=⟨_,rfl⟩;have t:Hid (w.heap.size≤F.heap.size):=r.out.size;rw[←P]at CM za l4 gd t⊢;clear j ta pb la ka r P o J;refine CM.mono ?_;rintro e D ⟨rfl,q,xa,kb⟩;clear CM;have pa:Arr .u64 B D b3 o3 (m+2):=q.arr u u.lt (fun _=> .inl om);have X:num B D b3 o3 (m+2)=b*2^s:=(q.num (fun _=>u.lt om) (fun _=> .inl om)).trans W;have gc:9223372036854775808≤word D b3 (o3+(m+1)):=(by rw[zac (q.cellAt (u.lt om) (.inl om))];exact fc);have ab:Free D l 0 (d+1):=q.free za (fun _=>l4);have qa:num B D l (0+(d+1-(m+2))) (m+2)<num B D b3 o3 (m+2):=(by refine high_lt (k:=d+1-(m+2)) ?_;rw[show d+1-(m+2)+(m+2)=d+1 by omega,kb,X];refine mul_pow_lt (Nat.pow_pos dd) (Mag.lt HA.out) ?_ om om;exact Mag.ge HB.out om);have CD:=divRows_any D l 0 (d+1) (d+1) b3 o3 c3 m om om (Nat.le_refl _) (by unfold maxLen;omega) xa ab pa om gc qa;rw[kb,X,Nat.mul_div_mul_right _ _ (Nat.pow_pos dd),Nat.mul_mod_mul_right]at CD;have ua:Hid (Below w.heap.size w D):=z.out.trans (q.below t.out (by have:=z.out.size;omega));clear X gc qa kb q ma u W fc za z;go_wp2_with (first
    |(go_at_call 138;refine(short_any d (m+2) xc yc _).mono ?_;rintro e w' ⟨rfl,hw⟩;subst hw)
    |(go_at_call 139;fail))
   refine CD.mono ?_;rintro e w6 ⟨kq,kr,rfl,nd,od,S,ya,gb,bc⟩;clear CD;rw[Nat.zero_add]at gb;have ec:num B w6 l 0 kr=a%b*2^s:=by
    obtain⟨ao,b',o',c',hv,ad,_,_,jc,_⟩:=bc;simp only[Value.slice.injEq,true_and]at hv;obtain⟨rfl,rfl⟩:=hv;by_cases h0:kr=0
    ·subst h0;rw[←jc];rfl
    ·have e:=ad om;simp only[Option.some.injEq,Addr.mk.injEq,and_true]at e;obtain⟨rfl,rfl⟩:=e;exact jc
   have l6:l<w6.heap.size:=ya.lt om;have wb:Free w6 l 0 kr:=zdk (S.free ab (fun _=>xa.lt om)) om;have N:Arr .u64 B w6 l 0 kr:=zbk ya om;have CW:=moveDown_any w6 (some ⟨l,0,none⟩) (some ⟨l,0,none⟩) l 0 kr kr l 0 kr s (Sl.mk _ _ _) (Sl.mk _ _ _) N wb N (fun _=> .inr (.inr (.inr rfl))) (by unfold maxLen;omega) U;rw[ec,Nat.mul_div_cancel _ (Nat.pow_pos dd)]at CW;have lb:Hid (Below w.heap.size w w6):=ua.out.trans (S.below t.out (by have:=ua.out.size;omega));have tc:Hid _:=gb;clear bc ec wb N S ya ua xa pa ab gb;go_wp2_with (go_at_call 140;fail);refine CW.mono ?_;rintro e w7 ⟨rfl,T,qb,lc⟩;clear CW;have CF:=zbx w7 (some ⟨l,0,none⟩) l 0 kr kr kr (Sl.mk _ _ _) (Nat.le_refl _) (by unfold maxLen;omega) (by unfold maxLen;omega) qb;rw[Nat.min_self,lc]at CF;have mb:Hid _:=Mag.chg tc.out T (fun _=> .inr (.inr om));have pc:Hid (Below w.heap.size w w7):=lb.out.trans (T.below t.out (by have:=lb.out.size;omega));clear T qb lc;go_wp2_with (go_at_call 86;fail);refine CF.mono ?_;rintro e w8 ⟨k8,rfl,fd,md,_,ac⟩;subst fd;clear CF;have sc:Hid _:=ac;clear ac;go_wp2;go_ret2;exact⟨_,_,kq,k8,rfl,pc.out,mb.out,sc.out,fun _=>Fr_ge t.out⟩
theorem ze9 (w:World) (n o:Value) (a b l d:Nat) (t:Mag w n a l) (u:Mag w o b d) (k:0<d) (j:l<160) (c:d≤35184372088832):
 Calls Tryz.prog 109 #[n,o] w fun e w'=>∃f g nq m,e=.returned (.tuple #[f,g])∧Below w.heap.size w w'∧Mag w' f (a / b) nq∧Mag w' g (a%b) m:=
 (zfx w n o a b l d t u k j c).mono fun _ _ ⟨f,g,nq,m,p,q,r,s,_⟩=>⟨f,g,nq,m,p,q,r,s⟩
end Go.Proofs.YtjlkplidpdhgbaaGreatDoor
namespace Rad
theorem mix_word {L X Y W β p q P Q c a b l1 l2 P' Q' z c':Nat} (h:L+q*Y+W*P=p*X+W*(Q+c))
 (g:l1+β*P'=p*a+P) (j:l2+β*Q'=q*b+Q) (k:z+l2+c=l1+β*c'):
 (L+W*z)+q*(Y+W*b)+W*β*P'=p*(X+W*a)+W*β*(Q'+c'):=by
 have l:W*(l1+β*P')=W*(p*a+P):=(by rw[g]);have m:W*(l2+β*Q')=W*(q*b+Q):=(by rw[j]);have n:W*(z+l2+c)=W*(l1+β*c'):=(by rw[k]);have d:q*(Y+W*b)=q*Y+W*(q*b):=(by rw[Nat.mul_add];congr 1;rw[←Nat.mul_assoc,Nat.mul_comm q W,Nat.mul_assoc]);have f:p*(X+W*a)=p*X+W*(p*a):=(by rw[Nat.mul_add];congr 1;rw[←Nat.mul_assoc,Nat.mul_comm p W,Nat.mul_assoc]);rw[d,f];simp only[Nat.mul_add,Nat.mul_assoc]at *;omega
theorem mix_end {L X Y W p q P Q c z:Nat} (h:L+q*Y+W*P=p*X+W*(Q+c)) (j:p*X=q*Y+z) (g:L<W) (b:z<W):L=z:=by have f:L+W*P=z+W*(Q+c):=om;have d:(L+W*P)%W=(z+W*(Q+c))%W:=(by rw[f]);rw[Nat.add_mul_mod_self_left,Nat.add_mul_mod_self_left,Nat.mod_eq_of_lt g,Nat.mod_eq_of_lt b]at d;exact d
theorem gcd_turn {p q r s X Y x y:Nat} (b:p*X=q*Y+x) (c:s*Y=r*X+y) (j:p*s=q*r+1):Nat.gcd x y=Nat.gcd X Y:=by
 apply Nat.dvd_antisymm
 ·have d1:=Nat.gcd_dvd_left x y;have d2:=Nat.gcd_dvd_right x y;apply Nat.dvd_gcd
  ·have e:s*x+q*y=X:=(by have d:s*(p*X)=s*(q*Y+x):=(by rw[b]);have f:q*(s*Y)=q*(r*X+y):=(by rw[c]);have g:(p*s)*X=(q*r+1)*X:=(by rw[j]);rw[Nat.add_mul,Nat.one_mul]at g;have k:s*(p*X)=p*s*X:=(by rw[←Nat.mul_assoc,Nat.mul_comm s p]);have l:q*(r*X)=q*r*X:=(by rw[←Nat.mul_assoc]);have m:s*(q*Y)=q*(s*Y):=(by rw[←Nat.mul_assoc,Nat.mul_comm s q,Nat.mul_assoc]);rw[Nat.mul_add]at d f;omega);rw[←e];exact Nat.dvd_add (Nat.dvd_trans d1 (Nat.dvd_mul_left x s)) (Nat.dvd_trans d2 (Nat.dvd_mul_left y q))
  ·have e:r*x+p*y=Y:=(by have d:r*(p*X)=r*(q*Y+x):=(by rw[b]);have f:p*(s*Y)=p*(r*X+y):=(by rw[c]);have g:(p*s)*Y=(q*r+1)*Y:=(by rw[j]);rw[Nat.add_mul,Nat.one_mul]at g;have k:p*(s*Y)=p*s*Y:=(by rw[←Nat.mul_assoc]);have l:r*(q*Y)=q*r*Y:=(by rw[←Nat.mul_assoc,Nat.mul_comm r q]);have m:r*(p*X)=p*(r*X):=(by rw[←Nat.mul_assoc,Nat.mul_comm r p,Nat.mul_assoc]);rw[Nat.mul_add]at d f;omega);rw[←e];exact Nat.dvd_add (Nat.dvd_trans d1 (Nat.dvd_mul_left x r)) (Nat.dvd_trans d2 (Nat.dvd_mul_left y p))
 ·have d1:=Nat.gcd_dvd_left X Y;have d2:=Nat.gcd_dvd_right X Y;apply Nat.dvd_gcd
  ·exact(Nat.dvd_add_right (Nat.dvd_trans d2 (Nat.dvd_mul_left Y q))).1 (b▸Nat.dvd_trans d1 (Nat.dvd_mul_left X p))
  ·exact(Nat.dvd_add_right (Nat.dvd_trans d1 (Nat.dvd_mul_left X r))).1 (c▸Nat.dvd_trans d2 (Nat.dvd_mul_left Y s))
theorem turn_gcd {X Y p q r s x y:Nat} {b:Bool} (e:b=false→p*X=q*Y+x∧s*Y=r*X+y∧p*s=q*r+1)
 (o:b=true→q*Y=p*X+x∧r*X=s*Y+y∧q*r=p*s+1):Nat.gcd x y=Nat.gcd X Y:=by
 cases b
 ·obtain⟨c,d,f⟩:=e rfl;exact gcd_turn c d f
 ·obtain⟨c,d,f⟩:=o rfl;rw[gcd_turn (X:=Y) (Y:=X) c d f,Nat.gcd_comm]
end Rad
namespace Go.Proofs.YtjlkplidpdhgbaaGreatDoor
open Go Go.Proofs Go.RowKit Go.Rad
structure TB (w:World) (b p q r s:Nat) (odd:Bool):Prop where
 lt:b<w.heap.size
 c0:w.cell? ⟨b,0,none⟩=some (.int .u64 (p:Int))
 c1:w.cell? ⟨b,1,none⟩=some (.int .u64 (q:Int))
 c2:w.cell? ⟨b,2,none⟩=some (.int .u64 (r:Int))
 c3:w.cell? ⟨b,3,none⟩=some (.int .u64 (s:Int))
 c4:w.cell? ⟨b,4,none⟩=some (.bool odd)
 f0:w.frozen? ⟨b,0,none⟩=false
 f1:w.frozen? ⟨b,1,none⟩=false
 f2:w.frozen? ⟨b,2,none⟩=false
 f3:w.frozen? ⟨b,3,none⟩=false
 f4:w.frozen? ⟨b,4,none⟩=false
theorem TB.mk0 (w:World) (p q r s:Nat) (b:Bool) (T:TypeId):TB (w.alloc (Obj.cells #[.int .u64 (p:Int),.int .u64 (q:Int),.int .u64 (r:Int),.int .u64 (s:Int),.bool b] T)) w.heap.size p q r s b:=⟨by simp,qq,qq,qq,qq,qq,qq,qq,qq,qq,qq⟩
theorem TB.below {w w':World} {b C p q r s:Nat} {c:Bool} (h:TB w b p q r s c) (d:Below C w w') (x:b<C):TB w' b p q r s c:=by
 obtain⟨lt,f,g,j,k,l,m,n,o,t,u⟩:=h;have e:=d.block b x;exact⟨Nat.lt_of_lt_of_le lt d.size,(World.cell?_of_block e).trans f,(World.cell?_of_block e).trans g,(World.cell?_of_block e).trans j,(World.cell?_of_block e).trans k,(World.cell?_of_block e).trans l,
  (World.frozen?_of_block e).trans m,(World.frozen?_of_block e).trans n,(World.frozen?_of_block e).trans o,(World.frozen?_of_block e).trans t,(World.frozen?_of_block e).trans u⟩
abbrev S2 (b c:Nat):Nat→Nat→Prop:=fun k _=>k=b∨k=c
theorem _root_.Go.Rad.ChgS.setB {a w:World} {b c:Nat} (h:ChgS a w (S2 b c)) {p i:Nat} (f:p=b∨p=c) (v:Value):ChgS a (w.setCell ⟨p,i,none⟩ v) (S2 b c):=h.trans ⟨rfl,rfl,rfl,by simp,fun k _ d=>Below.heap_setCell _ _ _ _ (fun e=>d 0 (by subst e;exact f)),fun k j _ d=>zaa (.inl (fun e=>d (by subst e;exact f))),fun _ _ _=>World.frozen?_setCell _ _ _ _⟩
theorem _root_.Go.Rad.ChgS.of_below {w w':World} (h:Below w.heap.size w w') (S:Nat→Nat→Prop):ChgS w w' S:=⟨h.os,h.tape,h.output,h.size,fun k b _=>h.block k b,fun k i b _=>World.cell?_of_block (h.block k b),fun k i b=>World.frozen?_of_block (h.block k b)⟩
structure MixI (w wr:World) (bx ox by' oy n p q r s:Nat) (k px qy rx sy xc yc:Nat):Prop where
 kn:k≤n
 lt:px<B∧qy<B∧rx<B∧sy<B
 c1:xc≤1
 c2:yc≤1
 chg:ChgS w wr (S2 bx by')
 ax:Arr .u64 B wr bx ox n
 ay:Arr .u64 B wr by' oy n
 ux:∀i,k≤i→word wr bx (ox+i)=word w bx (ox+i)
 uy:∀i,k≤i→word wr by' (oy+i)=word w by' (oy+i)
 ex:num B wr bx ox k+q*num B w by' oy k+B^k*px=p*num B w bx ox k+B^k*(qy+xc)
 ey:num B wr by' oy k+r*num B w bx ox k+B^k*sy=s*num B w by' oy k+B^k*(rx+yc)
theorem ma_eq (a b c:Nat):lo (a*b+c)+B*hi (a*b+c)=a*b+c:=lo_hi _
theorem zeo {a b c:Nat} (d:a<B) (f:b<B) (g:c<B):hi (a*b+c)<B:=(ze3 d f g).2.2.2
theorem MixI.step {w wr:World} {l u c x n p q r s k d f g j y z:Nat} (h:MixI w wr l u c x n p q r s k d f g j y z) (m:l≠c) (C:k<n) (W:p<B) (X:q<B) (Y:r<B) (Z:s<B)
 {a b:Nat} (G:a=word w l (u+k)) (t:b=word w c (x+k)) (D:a<B) (F:b<B):
 MixI w ((wr.setCell ⟨l,u+k,none⟩ (.int .u64 (sb (lo (p*a+d)) (lo (q*b+f)) y:Nat))).setCell ⟨c,x+k,none⟩ (.int .u64 (sb (lo (s*b+j)) (lo (r*a+g)) z:Nat)))
  l u c x n p q r s (k+1) (hi (p*a+d)) (hi (q*b+f)) (hi (r*a+g)) (hi (s*b+j)) (bw (lo (p*a+d)) (lo (q*b+f)) y) (bw (lo (s*b+j)) (lo (r*a+g)) z):=by
 obtain⟨kn,⟨S,T,U,V⟩,I,J,chg,E,H,ux,uy,L,M⟩:=h;have P:=sb_lt (lo (p*a+d)) (lo (q*b+f)) y;have R:=sb_lt (lo (s*b+j)) (lo (r*a+g)) z;have N:=sb_bw (zdm (p*a+d)) (zdm (q*b+f)) I;have O:=sb_bw (zdm (s*b+j)) (zdm (r*a+g)) J;have A:=E.set (i:=k) P;have o:Arr .u64 B (wr.setCell ⟨l,u+k,none⟩ (.int .u64 (sb (lo (p*a+d)) (lo (q*b+f)) y:Nat))) c x n:=H.set' (.inl m);refine⟨C,⟨zeo W D S,zeo X F T,zeo Y D U,zeo Z F V⟩,bw_le _ _ _,bw_le _ _ _,(chg.setB (.inl rfl) _).setB (.inr rfl) _,A.set' (.inl m.symm),o.set R,?_,?_,?_,?_⟩
 ·intro i hi;rw[zbf (.inl m),zbf (.inr om),ux i om]
 ·intro i hi;rw[zbf (.inr om),zbf (.inl m.symm),uy i om]
 ·rw[zar (.inl m.symm),zbj E C,zam,zam,←G,←t,Nat.pow_succ];exact _root_.Rad.mix_word L (ma_eq p a d) (ma_eq q b f) N
 ·rw[zbj o C,zar (.inl m),zam,zam,←G,←t,Nat.pow_succ];exact _root_.Rad.mix_word M (ma_eq s b j) (ma_eq r a g) O
theorem mix_any (w:World) (d m cx c o cy n p q r s:Nat) (F:Bool) (hx:Arr .u64 B w d m n) (hy:Arr .u64 B w c o n) (fx:Free w d m n) (fy:Free w c o n) (hb:d≠c)
 (ja:n≤cx) (ka:n≤cy) (ea:cy≤maxLen) (pB:p<B) (qB:q<B) (rB:r<B) (sB:s<B) (hn:0<n):
 Calls Tryz.prog 173 #[.agg #[.int .u64 p,.int .u64 q,.int .u64 r,.int .u64 s,.bool F],.slice (some ⟨d,m,none⟩) n cx,.slice (some ⟨c,o,none⟩) n cy] w fun e w'=>e=.returned (.tuple #[])∧
  ChgS w w' (S2 d c)∧Arr .u64 B w' d m n∧Arr .u64 B w' c o n∧
  (∀z,p*num B w d m n=q*num B w c o n+z→z<B^n→num B w' d m n=z)∧
  (∀z,s*num B w c o n=r*num B w d m n+z→z<B^n→num B w' c o n=z):=by
 unfold maxLen at ea;have lx:=hx.lt hn;have ly:=hy.lt hn;go_enter Tryz.func173,Tryz.ntmps173;go_upto_region 1 with fail;refine zab (fun j=>Below w.heap.size w j∧TB j w.heap.size p q r s F) ⟨zao _ _,TB.mk0 _ _ _ _ _ _ _⟩ ?_;rintro j ⟨f,T⟩;have C:=zaf hx f;have D:=zaf hy f;have u:Free j d m n:=fun i hi=>(World.frozen?_of_block (f.block d lx)).trans (fx i hi);have x:Free j c o n:=fun i hi=>(World.frozen?_of_block (f.block c ly)).trans (fy i hi);have V:num B j d m n=num B w d m n:=zal hx f;have W:num B j c o n=num B w c o n:=zal hy f;have fa:=f.size;have HN:Hid (num B j d m n=num B w d m n∧num B j c o n=num B w c o n):=⟨V,W⟩;have aa:Hid (Below w.heap.size w j):=f;have G:w.heap.size≠d∧w.heap.size≠c:=om;obtain⟨t,A⟩:∃t,w.heap.size=t:=⟨_,rfl⟩;rw[A]at T G fa lx ly⊢;have L:Hid (TB j t p q r s F):=T;have Hw:Hid (w.heap.size=t):=A;clear hx hy fx fy V W f A T;go_wp2;go_loopw [6,7,8,9,10,11,23] (fun a6 a7 a8 a9 ba ca i wr=>∃X Y Z sy xc yc k:Nat,a6=.int .u64 X∧a7=.int .u64 Y∧a8=.int .u64 Z∧a9=.int .u64 sy∧ba=.int .u64 xc∧ca=.int .u64 yc∧i=.int .i64 k∧
  MixI j wr d m c o n p q r s k X Y Z sy xc yc)
  (fun _ _ _ _ _ _ i _=>n-(intOf i).toNat)
 case atStart=>exact⟨0,0,0,0,0,0,0,rfl,rfl,rfl,rfl,rfl,rfl,rfl,by omega,⟨zbg,zbg,zbg,zbg⟩,by omega,by omega,ChgS.refl _ _,C,D,fun _ _=>rfl,fun _ _=>rfl,by simp[zas],by simp[zas]⟩
 case round=>
  obtain⟨X,Y,Z,sy,xc,yc,k,rfl,rfl,rfl,rfl,rfl,rfl,rfl,g⟩:=hrel;have hk:=g.kn;by_cases l:k<n
  ·have S:=zah g.ax l;have U:=zah g.ay l;have M:=g.ux k (Nat.le_refl _);have N:=g.uy k (Nat.le_refl _);have I:=zaz g.ax l;have J:=zaz g.ay l;have la:wr.frozen? ⟨d,m+k,none⟩=false:=(g.chg.free u (fun _=>by omega)) k l;have ma:wr.frozen? ⟨c,o+k,none⟩=false:=(g.chg.free x (fun _=>by omega)) k l;rw[M]at S I;rw[N]at U J;have O:∀i,wr.cell? ⟨t,i,none⟩=j.cell? ⟨t,i,none⟩:=fun i=>g.chg.cell t i L.out.lt om;have t0:=(O 0).trans L.out.c0;have t1:=(O 1).trans L.out.c1;have t2:=(O 2).trans L.out.c2;have t3:=(O 3).trans L.out.c3;obtain⟨a,ha⟩:∃a,word j d (m+k)=a:=⟨_,rfl⟩;obtain⟨b,y⟩:∃b,word j c (o+k)=b:=⟨_,rfl⟩;rw[ha]at S I;rw[y]at U J;obtain⟨l1,l2,l3,l4⟩:=g.lt;have P:=g.c1;have R:=g.c2;have HS:Hid _:=g.step hb l pB qB rB sB ha.symm y.symm I J;have M1:=zce p a X pB I l1;have M2:=zce q b Y qB J l2;have M3:=zce s b sy sB J l4;have M4:=zce r a Z rB I l3;have U1:=fun w=>sub64 (lo (p*a+X)) (lo (q*b+Y)) xc w P;have U2:=fun w=>sub64 (lo (s*b+sy)) (lo (r*a+Z)) yc w R;have ga:t≠d:=G.1;have ia:t≠c:=G.2;clear g M N O ha y l1 l2 l3 l4 P R I J u x C D;go_wp2_with (first
    |(go_at_call 104;refine(M1 _).mono ?_;rintro e w' ⟨rfl,hw⟩;subst w';clear M1)
    |(go_at_call 104;refine(M2 _).mono ?_;rintro e w' ⟨rfl,hw⟩;subst w';clear M2)
    |(go_at_call 104;refine(M3 _).mono ?_;rintro e w' ⟨rfl,hw⟩;subst w';clear M3)
    |(go_at_call 104;refine(M4 _).mono ?_;rintro e w' ⟨rfl,hw⟩;subst w';clear M4))
   go_roundw
   case rel=>exact⟨_,_,_,_,_,_,k+1,rfl,rfl,rfl,rfl,rfl,rfl,by go_num,HS.out⟩
   case measure=>simp[intOf];omega
  ·obtain rfl:k=n:=om;have HF:Hid _:=g;clear g u x C D;go_wp2;go_end0;have H:=HF.out;obtain⟨e1,e2⟩:=HN.out;have da:Below w.heap.size w j:=aa.out;refine⟨rfl,(ChgS.of_below da _).trans H.chg,H.ax,H.ay,fun z hz E=>?_,fun z hz E=>?_⟩
   ·have h:=H.ex;rw[e1,e2]at h;exact _root_.Rad.mix_end h hz (zbb H.ax) E
   ·have h:=H.ey;rw[e1,e2]at h;exact _root_.Rad.mix_end h hz (zbb H.ay) E
end Go.Proofs.YtjlkplidpdhgbaaGreatDoor
namespace Rad
structure TInv (X Y A0 B0 a b p q r s u v σ:Int):Prop where
 sg:σ=1∨σ= -1
 ea:a= -σ*(r*A0-s*B0)
 eb:b=σ*(u*A0-v*B0)
 det:r*v-s*u= -σ
 ba:b≤a
 b0:0≤b
 p0:0≤p
 q0:0≤q
 r0:0≤r
 s0:0≤s
 u0:0≤u
 v1:1≤v
 sv:s≤v
 uv:u≤v
 ru:r+u≤s+v
 pm:p≤4294967296
 qm:q≤4294967296
 rm:r≤4294967296
 sm:s≤4294967296
 st:(p=0∧q=0∧r=1∧s=0∧u=0∧v=1∧σ= -1)∨(p=1∧q=0∧r=0∧s=1∧σ=1)∨
  (1≤q∧1≤s∧p*s-q*r=σ∧0<σ*(s*Y-r*X)∧σ*(s*Y-r*X)<σ*(p*X-q*Y)∧σ*(p*X-q*Y)≤Y)
theorem TInv.start {X Y c b:Int} (h:b≤c) (d:0≤b):TInv X Y c b c b 0 0 1 0 0 1 (-1):=by constructor <;> first|omega|simp
theorem TInv.cof {X Y A0 B0 a b p q r s u v σ:Int} (h:TInv X Y A0 B0 a b p q r s u v σ):v*a+s*b=A0:=by have c:=h.ea;have d:=h.eb;have f:=h.det;rcases h.sg with rfl|rfl <;> grind
theorem mul_le_of {a b c d:Int} (f:a≤b) (g:c≤d) (j:0≤a) (k:0≤d):a*c≤b*d:=by refine Int.le_trans (Int.mul_le_mul_of_nonneg_left g j) (Int.mul_le_mul_of_nonneg_right f k)
theorem TInv.vsmall {X Y A0 B0 a b p q r s u v σ:Int} (h:TInv X Y A0 B0 a b p q r s u v σ) (o:A0<18446744073709551616) (f:v≤b):v<4294967296:=by have g:=h.cof;have j:=h.v1;have k:=h.ba;have d:=h.s0;have l:v*v≤v*a:=Int.mul_le_mul_of_nonneg_left om om;have m:0≤s*b:=Int.mul_nonneg d om;refine Int.not_le.1 fun c=>?_;have n:4294967296*4294967296≤v*v:=mul_le_of c c dd om;omega
theorem err_lo {u v x0 y0 U σ:Int} (c:σ=1∨σ= -1) (b:0≤u) (k:u≤v) (d:0≤x0) (f:x0<U) (g:0≤y0) (j:y0<U): -(v*(U-1))≤σ*(u*x0-v*y0):=by have l:u*x0≤v*(U-1):=mul_le_of k om b om;have m:v*y0≤v*(U-1):=Int.mul_le_mul_of_nonneg_left om om;have n:0≤u*x0:=Int.mul_nonneg b d;have o:0≤v*y0:=Int.mul_nonneg om g;rcases c with rfl|rfl <;> omega
theorem TInv.step {X Y A0 B0 a b p q r s u v σ U x0 y0 k:Int} (h:TInv X Y A0 B0 a b p q r s u v σ) (G:A0<18446744073709551616)
 (t:X=A0*U+x0) (x:Y=B0*U+y0) (A:0≤x0) (f:x0<U) (B:0≤y0) (g:y0<U)
 (n:v≤b) (C:s+v≤a-b) (y:k=a / b):TInv X Y A0 B0 b (a-k*b) r s u v (r+k*u) (s+k*v) (-σ):=by
 have hv:=h.vsmall G n;have h0:=h.v1;have c:0<b:=om;have m:1≤k:=(by rw[y];exact(Int.le_ediv_iff_mul_le c).2 (by have:=h.ba;omega));have z:0≤a-k*b∧a-k*b≤b:=(by have e:=Int.emod_add_mul_ediv a b;have E:=Int.emod_nonneg a (show b≠0 by omega);have F:=Int.emod_lt_of_pos a c;rw[←y,Int.mul_comm]at e;omega);have I:0≤k*u:=Int.mul_nonneg om h.u0;have J:v≤k*v:=(by have:=Int.mul_le_mul_of_nonneg_right m (show 0≤v by omega);omega);have H:k*u-u≤k*v-v:=(by have:=Int.mul_le_mul_of_nonneg_left h.uv (show 0≤k-1 by omega);rw[Int.sub_mul,Int.sub_mul]at this;omega);obtain⟨P,o,j,D,W,V,p0,q0,L,O,u0,v1,sv,T,N,pm,qm,M,R,S⟩:=h;have hU:0<U:=om;have E:=err_lo P u0 T A f B g;have F: -((s+v)*(U-1))≤ -σ*((r+u)*x0-(s+v)*y0):=err_lo om om N A f B g;have Z:v*U≤b*U:=Int.mul_le_mul_of_nonneg_right n om;have e4:(s+v)*U≤(a-b)*U:=Int.mul_le_mul_of_nonneg_right C om;have i1:σ*(u*X-v*Y)=b*U+σ*(u*x0-v*y0):=(by rw[j,t,x];grind);have i2: -σ*(r*X-s*Y)-σ*(u*X-v*Y)=(a-b)*U+ -σ*((r+u)*x0-(s+v)*y0):=(by rw[o,j,t,x];grind);have i3:v*U-v*(U-1)=v:=(by grind);have i4:(s+v)*U-(s+v)*(U-1)=s+v:=(by grind);refine⟨by omega,?_,?_,?_,z.2,z.1,L,O,u0,by omega,by omega,by omega,by omega,by omega,by omega,M,R,by omega,by omega,?_⟩
 ·rw[j];grind
 ·rw[o,j];grind
 ·grind
 ·have l: -σ*(v*Y-u*X)=σ*(u*X-v*Y):=(by grind);rcases S with⟨rfl,rfl,rfl,rfl,rfl,rfl,rfl⟩|⟨rfl,rfl,rfl,rfl,rfl⟩|⟨q1,s1,d,y1,y2,y3⟩
  ·refine .inr (.inl ⟨rfl,rfl,rfl,rfl,rfl⟩)
  ·refine .inr (.inr ⟨by omega,by omega,by grind,?_,?_,by grind⟩)
   ·rw[l];omega
   ·rw[l];omega
  ·refine .inr (.inr ⟨by omega,by omega,by grind,?_,?_,by grind⟩)
   ·rw[l];omega
   ·rw[l];omega
theorem TInv.fits2 {X Y A0 B0 a b p q r s u v σ k:Int} (h:TInv X Y A0 B0 a b p q r s u v σ) (f:0<b) (d:k=a / b):s+k*v≤A0∧r+k*u≤s+k*v∧k*v≤A0∧k*u≤A0∧0≤k*u∧0≤k*v∧k*b≤a∧1≤k:=by have n:=h.cof;have c:1≤k:=(by rw[d];exact(Int.le_ediv_iff_mul_le f).2 (by have:=h.ba;omega));have e:=Int.emod_add_mul_ediv a b;have l:=Int.emod_nonneg a (show b≠0 by omega);rw[←d,Int.mul_comm]at e;have m:=h.v1;have o:=h.s0;have x:(s+k*v)*b≤A0:=(by have:v*(k*b)≤v*a:=Int.mul_le_mul_of_nonneg_left om om;grind);have j:v≤k*v:=(by have:=Int.mul_le_mul_of_nonneg_right c (show 0≤v by omega);omega);have y:(s+k*v)*1≤(s+k*v)*b:=Int.mul_le_mul_of_nonneg_left om om;have g:k*u-u≤k*v-v:=(by have:=Int.mul_le_mul_of_nonneg_left h.uv (show 0≤k-1 by omega);rw[Int.sub_mul,Int.sub_mul]at this;omega);have t:0≤k*u:=Int.mul_nonneg om h.u0;have:=h.ru;have:=h.r0;have:=h.uv;omega
inductive TurnOk (X Y p q r s:Nat) (odd:Bool):Prop
 |none (h:q=0)
 |mk (hq:0<q) (hb:p≤4294967296∧q≤4294967296∧r≤4294967296∧s≤4294967296) (x y:Nat)
  (e:odd=false→p*X=q*Y+x∧s*Y=r*X+y∧p*s=q*r+1)
  (o:odd=true→q*Y=p*X+x∧r*X=s*Y+y∧q*r=p*s+1)
  (h0:0<y) (h1:y<x) (h2:x≤Y)
theorem TInv.done {X Y p q r s:Nat} {A0 B0 a b u v σ:Int} {c:Bool} (j:σ=if c then -1 else 1) (h:TInv X Y A0 B0 a b p q r s u v σ):TurnOk X Y p q r s c:=by
 obtain⟨J,z,A,k,y,x,B,D,F,I,u0,O,M,N,H,C,E,G,L,t⟩:=h;rcases t with⟨-,h,-⟩|⟨-,h,-⟩|⟨q1,s1,d,y1,y2,y3⟩
 ·exact .none om
 ·exact .none om
 ·have l:((p*X:Nat):Int)=(p:Int)*X:=Int.natCast_mul ..;have m:((q*Y:Nat):Int)=(q:Int)*Y:=Int.natCast_mul ..;have n:((r*X:Nat):Int)=(r:Int)*X:=Int.natCast_mul ..;have o:((s*Y:Nat):Int)=(s:Int)*Y:=Int.natCast_mul ..;have f:((p*s:Nat):Int)=(p:Int)*s:=Int.natCast_mul ..;have g:((q*r:Nat):Int)=(q:Int)*r:=Int.natCast_mul ..;rw[←l,←m,←n,←o]at *;rw[←f,←g]at d;cases c
  ·have:σ=1:=(by simpa using j);subst this;refine .mk om om (p*X-q*Y) (s*Y-r*X) (fun _=>by omega) (fun h=>by cases h) om om om
  ·have:σ= -1:=(by simpa using j);subst this;refine .mk om om (q*Y-p*X) (r*X-s*Y) (fun h=>by cases h) (fun _=>by omega) om om om
theorem top_split {X low P x1 x2 H G β:Nat} (j:X=low+P*(x2+β*x1)) (k:low<P) (b:H*G=β) (g:0<G):
 X=(x1*H+x2 / G)*(P*G)+(low+P*(x2%G))∧low+P*(x2%G)<P*G:=by
 have e:=Nat.div_add_mod x2 G;have c:(x1*H+x2 / G)*(P*G)=P*(β*x1)+P*(G*(x2 / G)):=by
  rw[Nat.add_mul,←b];congr 1
  ·simp only[Nat.mul_comm,Nat.mul_left_comm]
  ·simp only[Nat.mul_comm,Nat.mul_left_comm]
 refine⟨?_,?_⟩
 ·rw[c,j]
  conv=>lhs;rw[←e]
  simp only[Nat.mul_add];omega
 ·have d:x2%G+1≤G:=Nat.mod_lt _ g;have f:=Nat.mul_le_mul_left P d;rw[Nat.mul_add]at f;omega
theorem lead_lf {X Y lx ly W b y1:Nat} (g:X=lx+W*b) (j:Y=ly+W*y1) (f:lx<W) (h:Y≤X):y1≤b:=by refine Nat.le_of_not_lt fun c=>?_;have d:=Nat.mul_le_mul_left W (show b+1≤y1 from c);rw[Nat.mul_add]at d;omega
theorem lead_lf' {X Y x0 y0 U c d:Nat} (f:X=c*U+x0) (g:Y=d*U+y0) (b:x0<U) (h:Y≤X):d≤c:=by
 refine lead_lf (lx:=x0) (ly:=y0) (W:=U) (X:=X) (Y:=Y) ?_ ?_ b h
 ·rw[f,Nat.mul_comm];omega
 ·rw[g,Nat.mul_comm];omega
structure TN (X Y A0 B0 a b p q r s u v:Nat) (odd:Bool):Prop where
 inv:TInv X Y A0 B0 a b p q r s u v (if odd then -1 else 1)
 A:A0<18446744073709551616
 a1:1≤a
 ex:∃U x0 y0:Nat,X=A0*U+x0∧Y=B0*U+y0∧x0<U∧y0<U
theorem TN.facts {X Y f g a b p q r s u v:Nat} {d:Bool} (h:TN X Y f g a b p q r s u v d):b≤a∧a<18446744073709551616∧1≤v∧r<4294967297∧s<4294967297∧(v≤b→s+v<18446744073709551616∧v<4294967296)∧v<18446744073709551616∧u<18446744073709551616:=by have c:=h.inv;have B:=h.A;have l:=h.a1;have m:=c.ba;have n:=c.v1;have o:=c.rm;have t:=c.sm;have x:=c.cof;have j:(a:Int)*1≤a*v:=Int.mul_le_mul_of_nonneg_left om om;have y:0≤(s:Int)*b:=Int.mul_nonneg om om;have A:(v:Int)*1≤v*a:=Int.mul_le_mul_of_nonneg_left om om;rw[Int.mul_comm (a:Int) v]at j;have k:=c.uv;refine⟨by omega,by omega,by omega,by omega,by omega,fun C=>?_,by omega,by omega⟩;have z:=c.vsmall om om;omega
theorem TN.step {X Y t x a b p q r s u v:Nat} {c:Bool} (h:TN X Y t x a b p q r s u v c) (j:v≤b) (l:s+v≤a-b):
 TN X Y t x b (a%b) r s u v (r+a / b*u) (s+a / b*v) (!c)∧a / b*b≤a∧a-a / b*b=a%b∧a%b<b∧r+a / b*u<18446744073709551616∧s+a / b*v<18446744073709551616∧
  a / b*u<18446744073709551616∧a / b*v<18446744073709551616∧a / b<18446744073709551616:=by
 have J:=h.facts;obtain⟨d,A,P,U,x0,y0,z,B,N,O⟩:=h;have M:=d.v1;have H:=d.ba;have f:0<b:=om;obtain⟨k,n⟩:∃k,a / b=k:=⟨_,rfl⟩;have g:(k:Int)=(a:Int) / (b:Int):=(by rw[←n];exact Int.natCast_ediv a b);have C:=d.step (U:=U) (x0:=x0) (y0:=y0) (k:=k) om (by rw[z];simp) (by rw[B];simp) om om om om om om g;have I:=d.fits2 (k:=k) om g;have m:=Nat.div_add_mod a b;have o:=Nat.mod_lt a f;rw[n,Nat.mul_comm]at m;have j:((k*u:Nat):Int)=(k:Int)*u:=Int.natCast_mul ..;have l:((k*v:Nat):Int)=(k:Int)*v:=Int.natCast_mul ..;have y:((k*b:Nat):Int)=(k:Int)*b:=Int.natCast_mul ..;rw[←j,←l,←y]at I;rw[←j,←l,←y]at C;have L:k≤k*b:=Nat.le_mul_of_pos_right k f;have D:((a%b:Nat):Int)=(a:Int)-((k*b:Nat):Int):=om;have E:((r+k*u:Nat):Int)=(r:Int)+((k*u:Nat):Int):=om;have F:((s+k*v:Nat):Int)=(s:Int)+((k*v:Nat):Int):=om;rw[n];refine⟨⟨?_,A,f,U,x0,y0,z,B,N,O⟩,by omega,by omega,o,by omega,by omega,by omega,by omega,by omega⟩;rw[D,E,F];have G:(if (!c)=true then -1 else 1:Int)= -(if c=true then -1 else 1:Int):=(by cases c <;> rfl);rw[G];exact C
theorem TN.done {X Y d f a b p q r s u v:Nat} {c:Bool} (h:TN X Y d f a b p q r s u v c):TurnOk X Y p q r s c:=h.inv.done rfl
theorem TN.start {X Y b c U x0 y0:Nat} (d:X=b*U+x0) (f:Y=c*U+y0) (g:x0<U) (l:y0<U) (h:Y≤X) (k:b<18446744073709551616) (j:0<b):
 TN X Y b c b c 0 0 1 0 0 1 true:=
 ⟨TInv.start (by have:=lead_lf' d f g h;omega) om,k,j,U,x0,y0,d,f,g,l⟩
end Rad
