/- A part of the proof: Pm2, W3, W4, W5, W6, W7, W8, Kar1, Chs. -/
import Derived.Test.YtjlkplidpdhgbaaGreatDoorP00
import Derived.Deep.Quiet
set_option linter.all false
set_option maxRecDepth 10000
set_option maxHeartbeats 1000000
namespace Rad
theorem pow_dbl {β:Nat} (b:2≤β) (n:Nat):β^n+β^n≤β^(n+1):=by rw[Nat.pow_succ,←Nat.mul_two];exact Nat.mul_le_mul_left _ b
theorem sum_fits {β z c a b n:Nat} (f:2≤β) (h:z+β^(n+1)*c=a+b) (j:a<β^n) (k:b<β^n):z=a+b:=by
 have g:=pow_dbl f n;rcases Nat.eq_zero_or_pos c with d|d
 ·subst d;simpa using h
 ·have:=Nat.mul_le_mul_left (β^(n+1)) d;omega
theorem diff_fits {β z c a b n:Nat} (h:z+b=a+β^n*c) (g:z<β^n) (f:b≤a):z=a-b:=by
 rcases Nat.eq_zero_or_pos c with d|d
 ·subst d;rw[Nat.mul_zero]at h;omega
 ·have:=Nat.mul_le_mul_left (β^n) d;omega
end Rad
namespace Go.Proofs.YtjlkplidpdhgbaaGreatDoor
open Go Go.Proofs Go.RowKit Go.Rad
theorem add_step {k z x d e c r:Nat} (h:r+B^k*c=z+x):r+B^k*lo (d+e+c)+B^(k+1)*hi (d+e+c)=(z+B^k*d)+(x+B^k*e):=by have f:=lo_hi (d+e+c);have g:B^(k+1)*hi (d+e+c)=B^k*(B*hi (d+e+c)):=(by rw[Nat.pow_succ,Nat.mul_assoc]);rw[g];have b:B^k*(lo (d+e+c)+B*hi (d+e+c))=B^k*(d+e+c):=(by rw[f]);rw[Nat.mul_add]at b;rw[Nat.mul_add,Nat.mul_add]at b;omega
theorem sub_step {k z x d e c r:Nat} (l:d<B) (m:e<B) (j:c≤1) (h:r+x=z+B^k*c):
 r+B^k*sb d e c+(x+B^k*e)=(z+B^k*d)+B^(k+1)*bw d e c:=by
 have b:=sb_bw l m j;have f:B^(k+1)*bw d e c=B^k*(B*bw d e c):=(by rw[Nat.pow_succ,Nat.mul_assoc]);rw[f];have g:B^k*(sb d e c+e+c)=B^k*(d+B*bw d e c):=(by rw[b]);rw[Nat.mul_add,Nat.mul_add,Nat.mul_add]at g;omega
theorem zbj {w:World} {b o n k x:Nat} (h:Arr .u64 B w b o n) (c:k<n):
 num B (w.setCell ⟨b,o+k,none⟩ (.int .u64 (x:Int))) b o (k+1)=num B w b o k+B^k*x:=by
 rw[zam,zar om,zby (by rw[zah h c];rfl)]
theorem zcj (w:World) (az ax:Option Addr) (f b q cz s r C cx:Nat) (L:Sl az f b q) (V:Sl ax s r C) (X:Arr .u64 B w f b q) (hf:Free w f b q)
 (W:Arr .u64 B w s r C) (hn:C≤q) (M:0<C→f≠s∨r+C≤b∨b+q≤r) (U:q≤maxLen):
 Calls Tryz.prog 142 #[.slice az q cz,.slice ax C cx] w fun e w'=>e=.returned (.tuple #[])∧Chg w w' f b (b+q)∧Arr .u64 B w' f b q∧
  ∃c,c≤1∧num B w' f b q+B^q*c=num B w f b q+num B w s r C:=by
 unfold maxLen at U;go_enter Tryz.func142,Tryz.ntmps142;go_wp2;go_loopw [4,10] (fun c i wr=>∃k u:Nat,k≤C∧u≤1∧i=.int .i64 k∧c=.int .u64 u∧Chg w wr f b (b+k)∧Arr .u64 B wr f b q∧
  num B wr f b k+B^k*u=num B w f b k+num B w s r k)
  (fun _ i _=>C-(intOf i).toNat)
 case atStart=>exact⟨0,0,by omega,by omega,rfl,rfl,Chg.refl _ _ _ _,X,by simp[zas]⟩
 case round=>
  obtain⟨k,u,hk,t,rfl,rfl,l,j,g⟩:=hrel;by_cases G:k<C
  ·obtain rfl:=L om;obtain rfl:=V om;have Y:=zah j (i:=k) om;have I:wr.cell? ⟨s,r+k,none⟩=w.cell? ⟨s,r+k,none⟩:=l.cellAt (W.lt om) (by have:=M om;omega);have ca:wr.cell? ⟨s,r+k,none⟩=some (.int .u64 ((word w s (r+k):Nat):Int)):=I.trans (zah W G);have P:wr.frozen? ⟨f,b+k,none⟩=false:=(l.free hf X.lt) k om;have x:word wr f (b+k)=word w f (b+k):=zac (l.cell _ om);have h1:=add64 (word wr f (b+k)) (word w s (r+k)) u wr t;have z:=zaz j (i:=k) om;have J:=zaz W G;have p:=add_step (d:=word w f (b+k)) (e:=word w s (r+k)) g;have H:Hid (num B wr f b k+B^k*lo (word wr f (b+k)+word w s (r+k)+u)+B^(k+1)*hi (word wr f (b+k)+word w s (r+k)+u)=
    num B w f b (k+1)+num B w s r (k+1)):=by rw[zam,zam,x];exact p
   clear g p x I;go_wp2;go_roundw
   case rel=>exact⟨k+1,_,by omega,hi_le_one z J t,by go_num,rfl,(l.mono (Nat.le_refl _) om).set om om _,j.set (zdm _),by rw[zbj j om];exact H.out⟩
   case measure=>simp[intOf];omega
  ·have R:k=C:=om;subst R;go_wp2;go_loopw [4,7] (fun c i wr=>∃m u:Nat,k≤m∧m≤q∧u≤1∧i=.int .i64 m∧c=.int .u64 u∧Chg w wr f b (b+m)∧Arr .u64 B wr f b q∧
    num B wr f b m+B^m*u=num B w f b m+num B w s r k)
    (fun _ i _=>q-(intOf i).toNat)
   case atStart=>exact⟨k,u,by omega,by omega,t,rfl,rfl,l,j,g⟩
   case round=>
    clear l j g t G;obtain⟨m,D,ba,T,t,rfl,rfl,l,j,g⟩:=hrel;by_cases F:D≠0∧m<q
    ·obtain⟨O,S⟩:=F;obtain rfl:=L om;have Y:=zah j (i:=m) om;have P:wr.frozen? ⟨f,b+m,none⟩=false:=(l.free hf X.lt) m om;have x:word wr f (b+m)=word w f (b+m):=zac (l.cell _ om);have h1:=add64_y (word wr f (b+m)) D wr t;have z:=zaz j (i:=m) om;have p:=add_step (d:=word w f (b+m)) (e:=0) g;have Z:num B wr f b m+B^m*lo (word wr f (b+m)+D)+B^(m+1)*hi (word wr f (b+m)+D)=
      num B w f b (m+1)+num B w s r k:=by rw[zam,x];simpa using p
     have H:Hid _:=Z;have aa:¬((D:Nat):Int)=0:=om;clear g p x Z O;go_wp2;go_roundw
     case rel=>
      exact⟨m+1,_,by omega,by omega,by have:=hi_le_one (y:=0) z zbg t;simpa using this,by go_num,rfl,(l.mono (Nat.le_refl _) om).set om om _,j.set (zdm _),
       by rw[zbj j om];exact H.out⟩
     case measure=>simp[intOf];omega
    ·have E:∃c,c≤1∧num B wr f b q+B^q*c=num B w f b q+num B w s r k:=by
      by_cases S:m=q
      ·subst S;exact⟨D,t,g⟩
      ·have N:D=0:=om;subst N;refine⟨0,by omega,?_⟩;obtain⟨d,rfl⟩:=Nat.exists_eq_add_of_le T;rw[zba,zba,za1 (w':=wr) (w:=w) (o':=b+m) (o:=b+m) (n:=d) (fun i hi=>zac (l.cell _ om))];omega
     have A:Chg w wr f b (b+q):=l.mono (Nat.le_refl _) om;have Hf:Hid _:=E;clear E g l;by_cases S:m<q
     ·have N:D=0:=om;subst N;clear F;go_wp2;go_end0;exact⟨rfl,A,j,Hf.out⟩
     ·clear F;go_wp2
      all_goals
       go_end0;exact⟨rfl,A,j,Hf.out⟩
theorem zea (w:World) (az ax:Option Addr) (f b q cz t s A cx:Nat) (J:Sl az f b q) (V:Sl ax t s A) (X:Arr .u64 B w f b q) (hf:Free w f b q)
 (W:Arr .u64 B w t s A) (hn:A≤q) (M:0<A→f≠t∨s+A≤b∨b+q≤s) (U:q≤maxLen):
 Calls Tryz.prog 143 #[.slice az q cz,.slice ax A cx] w fun e w'=>∃c:Nat,e=.returned (.int .u64 c)∧Chg w w' f b (b+q)∧Arr .u64 B w' f b q∧
  c≤1∧num B w' f b q+num B w t s A=num B w f b q+B^q*c:=by
 unfold maxLen at U;go_enter Tryz.func143,Tryz.ntmps143;go_wp2;go_loopw [5,11] (fun c i wr=>∃k y:Nat,k≤A∧y≤1∧i=.int .i64 k∧c=.int .u64 y∧Chg w wr f b (b+k)∧Arr .u64 B wr f b q∧
  num B wr f b k+num B w t s k=num B w f b k+B^k*y)
  (fun _ i _=>A-(intOf i).toNat)
 case atStart=>exact⟨0,0,by omega,by omega,rfl,rfl,Chg.refl _ _ _ _,X,by simp[zas]⟩
 case round=>
  obtain⟨k,y,hk,r,rfl,rfl,l,g,j⟩:=hrel;by_cases F:k<A
  ·obtain rfl:=J om;obtain rfl:=V om;have Y:=zah g (i:=k) om;have G:wr.cell? ⟨t,s+k,none⟩=w.cell? ⟨t,s+k,none⟩:=l.cellAt (W.lt om) (by have:=M om;omega);have ca:wr.cell? ⟨t,s+k,none⟩=some (.int .u64 ((word w t (s+k):Nat):Int)):=G.trans (zah W F);have P:wr.frozen? ⟨f,b+k,none⟩=false:=(l.free hf X.lt) k om;have u:word wr f (b+k)=word w f (b+k):=zac (l.cell _ om);have h1:=sub64 (word wr f (b+k)) (word w t (s+k)) y wr r;have z:=zaz g (i:=k) om;have I:=zaz W F;have p:=sub_step (u▸z) I r j;have H:Hid (num B wr f b k+B^k*sb (word wr f (b+k)) (word w t (s+k)) y+num B w t s (k+1)=
    num B w f b (k+1)+B^(k+1)*bw (word wr f (b+k)) (word w t (s+k)) y):=by rw[zam,zam,u];exact p
   clear j p u G;go_wp2;go_roundw
   case rel=>exact⟨k+1,_,by omega,bw_le _ _ _,by go_num,rfl,(l.mono (Nat.le_refl _) om).set om om _,g.set (sb_lt _ _ _),by rw[zbj g om];exact H.out⟩
   case measure=>simp[intOf];omega
  ·have R:k=A:=om;subst R;go_wp2;go_loopw [5,8] (fun c i wr=>∃m y:Nat,k≤m∧m≤q∧y≤1∧i=.int .i64 m∧c=.int .u64 y∧Chg w wr f b (b+m)∧Arr .u64 B wr f b q∧
    num B wr f b m+num B w t s k=num B w f b m+B^m*y)
    (fun _ i _=>q-(intOf i).toNat)
   case atStart=>exact⟨k,y,by omega,by omega,r,rfl,rfl,l,g,j⟩
   case round=>
    clear l g j r F;obtain⟨m,C,ba,T,r,rfl,rfl,l,g,j⟩:=hrel;by_cases E:C≠0∧m<q
    ·obtain⟨O,S⟩:=E;obtain rfl:=J om;have Y:=zah g (i:=m) om;have P:wr.frozen? ⟨f,b+m,none⟩=false:=(l.free hf X.lt) m om;have u:word wr f (b+m)=word w f (b+m):=zac (l.cell _ om);have h1:=sub64_y (word wr f (b+m)) C wr r;have z:=zaz g (i:=m) om;have p:=sub_step (e:=0) (u▸z) zbg r j;have Z:num B wr f b m+B^m*sb (word wr f (b+m)) 0 C+num B w t s k=
      num B w f b (m+1)+B^(m+1)*bw (word wr f (b+m)) 0 C:=by rw[zam,u];simpa using p
     have H:Hid _:=Z;have aa:¬((C:Nat):Int)=0:=om;clear j p u Z O;go_wp2;go_roundw
     case rel=>
      exact⟨m+1,_,by omega,by omega,bw_le _ _ _,by go_num,rfl,(l.mono (Nat.le_refl _) om).set om om _,g.set (sb_lt _ _ _),
       by rw[zbj g om];exact H.out⟩
     case measure=>simp[intOf];omega
    ·have D:num B wr f b q+num B w t s k=num B w f b q+B^q*C:=by
      by_cases S:m=q
      ·subst S;exact j
      ·have N:C=0:=om;subst N;obtain⟨d,rfl⟩:=Nat.exists_eq_add_of_le T;rw[zba,zba,za1 (w':=wr) (w:=w) (o':=b+m) (o:=b+m) (n:=d) (fun i hi=>zac (l.cell _ om))];omega
     have x:Chg w wr f b (b+q):=l.mono (Nat.le_refl _) om;have L:Hid _:=D;clear D j l;by_cases S:m<q
     ·have N:C=0:=om;subst N;clear E;go_wp2;go_ret;exact⟨0,rfl,x,g,by omega,L.out⟩
     ·clear E;go_wp2
      all_goals
       go_ret
       first
        |exact⟨_,rfl,x,g,r,L.out⟩
        |(obtain rfl:C=0:=om;exact⟨0,rfl,x,g,by omega,L.out⟩)
theorem mul_word {z x d c:Nat} (n:z<B) (m:x<B) (l:d<B) (k:c<B):
 hi (lo (x*d+z)+c)≤1∧lo (hi (x*d+z)+hi (lo (x*d+z)+c))<B∧
 lo (lo (x*d+z)+c)+B*lo (hi (x*d+z)+hi (lo (x*d+z)+c))=z+x*d+c:=by
 have f:x*d≤(B-1)*(B-1):=Nat.mul_le_mul om om;have g:(B-1)*(B-1)+B+B≤B*B+1:=dd;have b:x*d+z+c<B*B:=om;have j:=hi_lt b;refine⟨?_,zdm _,?_⟩ <;> (unfold lo hi B at *;generalize x*d=p at *;omega)
theorem mul_step {k z x d c r e f y u:Nat} (h:r+B^k*c=z+x*d) (l:e+B*f=y+u*d+c):
 r+B^k*e+B^(k+1)*f=(z+B^k*y)+(x+B^k*u)*d:=by
 have b:B^(k+1)*f=B^k*(B*f):=(by rw[Nat.pow_succ,Nat.mul_assoc]);have g:B^k*(e+B*f)=B^k*(y+u*d+c):=(by rw[l]);rw[Nat.mul_add,Nat.mul_add,Nat.mul_add]at g;have j:(x+B^k*u)*d=x*d+B^k*(u*d):=(by rw[Nat.add_mul,Nat.mul_assoc]);rw[b,j];omega
theorem zdz (w:World) (L J:Option Addr) (f b q M j g l U d:Nat) (F:Sl L f b q) (E:Sl J j g l) (O:Arr .u64 B w f b q) (W:Free w f b q)
 (G:Arr .u64 B w j g l) (hn:l≤q) (V:q≤M) (A:0<l→f≠j∨g+l≤b∨b+q≤g) (D:q≤maxLen) (N:d<B):
 Calls Tryz.prog 115 #[.slice L q M,.slice J l U,.int .u64 d] w fun e w'=>∃c:Nat,e=.returned (.int .u64 c)∧Chg w w' f b (b+l)∧Arr .u64 B w' f b q∧
  c<B∧num B w' f b l+B^l*c=num B w f b l+num B w j g l*d:=by
 unfold maxLen at D;go_enter Tryz.func115,Tryz.ntmps115;go_wp2;go_loopw [7,19] (fun c i wr=>∃k r:Nat,k≤l∧r<B∧i=.int .i64 k∧c=.int .u64 r∧Chg w wr f b (b+k)∧Arr .u64 B wr f b q∧
  num B wr f b k+B^k*r=num B w f b k+num B w j g k*d)
  (fun _ i _=>l-(intOf i).toNat)
 case atStart=>exact⟨0,0,by omega,zbg,rfl,rfl,Chg.refl _ _ _ _,O,by simp[zas]⟩
 case round=>
  obtain⟨k,r,hk,y,rfl,rfl,n,m,o⟩:=hrel;by_cases z:k<l
  ·obtain rfl:=F om;obtain rfl:=E om;have aa:=zah m (i:=k) om;have x:wr.cell? ⟨j,g+k,none⟩=w.cell? ⟨j,g+k,none⟩:=n.cellAt (G.lt om) (by have:=A om;omega);have Z:wr.cell? ⟨j,g+k,none⟩=some (.int .u64 ((word w j (g+k):Nat):Int)):=x.trans (zah G z);have X:wr.frozen? ⟨f,b+k,none⟩=false:=(n.free W O.lt) k om;have u:word wr f (b+k)=word w f (b+k):=zac (n.cell _ om);have s:=zaz m (i:=k) om;have t:=zaz G z;obtain⟨P,R,S⟩:=mul_word s t N y;have h1:=zex (lo (word w j (g+k)*d+word wr f (b+k))) r;have h2:=add64_y (hi (word w j (g+k)*d+word wr f (b+k))) _ (wr.setCell ⟨f,b+k,none⟩ (.int .u64 (lo (lo (word w j (g+k)*d+word wr f (b+k))+r):Nat))) P;have p:=mul_step o (u▸S);have I:num B wr f b k+B^k*lo (lo (word w j (g+k)*d+word wr f (b+k))+r)+
    B^(k+1)*lo (hi (word w j (g+k)*d+word wr f (b+k))+hi (lo (word w j (g+k)*d+word wr f (b+k))+r))=
    num B w f b (k+1)+num B w j g (k+1)*d:=by rw[zam,zam,u];exact p
   have H:Hid _:=I;have T:Hid _:=R;clear o p x I S P R u;go_wp2_with (go_at_call 104;refine(zce _ _ _ t N s _).mono ?_;rintro e w' ⟨rfl,Y⟩;subst Y);go_roundw
   case rel=>exact⟨k+1,_,by omega,T.out,by go_num,rfl,(n.mono (Nat.le_refl _) om).set om om _,m.set (zdm _),by rw[zbj m om];exact H.out⟩
   case measure=>simp[intOf];omega
  ·have C:k=l:=om;subst C;go_wp2;go_ret;exact⟨_,rfl,n,m,y,o⟩
theorem zfe (w:World) (vx vy:Value) (x y b p:Nat) (W:Mag w vx x b) (X:Mag w vy y p) (J:y≤x) (hl:b≤35184372088832):
 Calls Tryz.prog 112 #[vx,vy] w fun e w'=>∃v n,e=.returned v∧Below w.heap.size w w'∧Mag w' v (x-y) n∧n≤b:=by
 have L:p≤b:=by
  rcases Nat.eq_zero_or_pos p with h|h
  ·omega
  ·have h1:=X.ge h;have h2:=W.lt;rcases Nat.lt_or_ge b p with V|V
   ·have:B^b≤B^(p-1):=Nat.pow_le_pow_right zbg om;omega
   ·exact V
 obtain⟨ax,U,Y,cx,rfl,O,ba,s,A,M⟩:=W;obtain⟨ay,q,Z,cy,rfl,P,ca,j,f,N⟩:=X;obtain⟨i0,H,R,S,T⟩:=info_parts zcs;have d:b≤maxLen:=(by unfold maxLen;omega);have HX:Hid (num B w U Y b=x):=A;have HY:Hid (num B w q Z p=y):=f;clear A f M N;go_enter Tryz.func112,Tryz.ntmps112;go_wp2_with (first
  |(at_make;refine zau .u64 B zbg rfl _ _ 22 rfl 98 i0 Tryz.underlying22 H R S .i64 .i64 _ _ b rfl rfl rfl rfl (by rw[T];omega) d ?_;intro w1 t)
  |(refine za4 .u64 B rfl _ _ 22 22 rfl 98 Tryz.underlying22 zdg _ _ _ _ _ _ rfl rfl w.heap.size 0 U Y (Sl.mk _ _ _) O t.arr t.free (zaf s t.below) ?_;intro w2 m))
 rw[Nat.min_self]at m;obtain⟨l,D,G,z,ea⟩:=zc7 t s (Nat.le_refl _) m;refine(zea w2 _ _ _ _ _ _ q Z _ _ (Sl.mk _ _ _) P D G (zaf j l) L (fun h=> .inl (by have:=j.lt h;omega)) d).mono ?_;rintro e C ⟨c,rfl,F,r,aa,o⟩;have E:Below w.heap.size w C:=l.trans (F.below (Nat.le_refl _) om);have g:num B C w.heap.size 0 b=x-y:=(by rw[z,zal j l,HX.out,HY.out]at o;exact _root_.Rad.diff_fits o (zbb r) J);have HV:Hid (num B C w.heap.size 0 b=x-y):=g;clear g o z m t;go_wp2_with (go_at_call 86;refine(zbs C _ _ _ _ _ b (Sl.mk _ _ _) (Nat.le_refl _) d d r).mono ?_;rintro e w' ⟨v,k,rfl,hw,I,da,u⟩;subst hw);go_ret;rw[Nat.min_self,HV.out]at u;exact⟨_,k,rfl,E,u,I⟩
theorem zew:2≤B:=by decide
theorem addWords_core (w:World) (vx vy:Value) (x y o p:Nat) (hx:Mag w vx x o) (hy:Mag w vy y p) (hl:o<35184372088832) (da:p<35184372088832):
 Calls Tryz.prog 111 #[vx,vy] w fun e w'=>∃v n,e=.returned v∧Below w.heap.size w w'∧Mag w' v (x+y) n∧n≤max o p+1:=by
 obtain⟨ax,R,ox,cx,rfl,I,aa,f,H,X⟩:=hx;obtain⟨ay,z,oy,cy,rfl,J,ba,g,u,Y⟩:=hy;obtain⟨i0,G,L,M,N⟩:=info_parts zcs;have O:Hid (num B w R ox o=x):=H;have P:Hid (num B w z oy p=y):=u;clear H u X Y;rcases Nat.lt_or_ge o p with ea|ca
 ·have b:p+1≤maxLen:=(by unfold maxLen;omega);go_enter Tryz.func111,Tryz.ntmps111;go_wp2_with (first
   |(at_make;refine zau .u64 B zbg rfl _ _ 22 rfl 98 i0 Tryz.underlying22 G L M .i64 .i64 _ _ (p+1) rfl rfl om om (by rw[N];omega) b ?_;intro w1 q)
   |(refine za4 .u64 B rfl _ _ 22 22 rfl 98 Tryz.underlying22 zdg _ _ _ _ _ _ rfl rfl w.heap.size 0 z oy (Sl.mk _ _ _) J q.arr q.free (zaf g q.below) ?_;intro w2 l))
  rw[Nat.min_eq_left (Nat.le_succ p)]at l;obtain⟨j,A,F,s,Z⟩:=zc7 q g (Nat.le_succ _) l;refine(zcj w2 _ _ _ _ _ _ R ox _ _ (Sl.mk _ _ _) I A F (zaf f j) om (fun h=> .inl (by have:=f.lt h;omega)) b).mono ?_;rintro e t ⟨rfl,E,C,c,U,m⟩;have D:Below w.heap.size w t:=j.trans (E.below (Nat.le_refl _) om);have d:num B t w.heap.size 0 (p+1)=x+y:=(by rw[s,zal f j,O.out,P.out]at m;have S:y<B^p:=(by rw[←P.out];exact zbb g);have T:x<B^o:=(by rw[←O.out];exact zbb f);rw[Nat.add_comm x y];exact _root_.Rad.sum_fits zew m S (Nat.lt_of_lt_of_le T (Nat.pow_le_pow_right zbg om)));have HV:Hid (num B t w.heap.size 0 (p+1)=x+y):=d;clear d m s l q;go_wp2_with (go_at_call 86;refine(zbs t _ _ _ _ _ (p+1) (Sl.mk _ _ _) (Nat.le_refl _) b b C).mono ?_;rintro e w' ⟨v,k,rfl,hw,V,W,r⟩;subst hw);go_ret;rw[Nat.min_self,HV.out]at r;exact⟨_,k,rfl,D,r,by omega⟩
 ·have b:o+1≤maxLen:=(by unfold maxLen;omega);go_enter Tryz.func111,Tryz.ntmps111;go_wp2_with (first
   |(at_make;refine zau .u64 B zbg rfl _ _ 22 rfl 98 i0 Tryz.underlying22 G L M .i64 .i64 _ _ (o+1) rfl rfl om om (by rw[N];omega) b ?_;intro w1 q)
   |(refine za4 .u64 B rfl _ _ 22 22 rfl 98 Tryz.underlying22 zdg _ _ _ _ _ _ rfl rfl w.heap.size 0 R ox (Sl.mk _ _ _) I q.arr q.free (zaf f q.below) ?_;intro w2 l))
  rw[Nat.min_eq_left (Nat.le_succ o)]at l;obtain⟨j,A,F,s,Z⟩:=zc7 q f (Nat.le_succ _) l;refine(zcj w2 _ _ _ _ _ _ z oy _ _ (Sl.mk _ _ _) J A F (zaf g j) om (fun h=> .inl (by have:=g.lt h;omega)) b).mono ?_;rintro e t ⟨rfl,E,C,c,U,m⟩;have D:Below w.heap.size w t:=j.trans (E.below (Nat.le_refl _) om);have d:num B t w.heap.size 0 (o+1)=x+y:=(by rw[s,zal g j,O.out,P.out]at m;have S:y<B^p:=(by rw[←P.out];exact zbb g);have T:x<B^o:=(by rw[←O.out];exact zbb f);exact _root_.Rad.sum_fits zew m T (Nat.lt_of_lt_of_le S (Nat.pow_le_pow_right zbg om)));have HV:Hid (num B t w.heap.size 0 (o+1)=x+y):=d;clear d m s l q;go_wp2_with (go_at_call 86;refine(zbs t _ _ _ _ _ (o+1) (Sl.mk _ _ _) (Nat.le_refl _) b b C).mono ?_;rintro e w' ⟨v,k,rfl,hw,V,W,r⟩;subst hw);go_ret;rw[Nat.min_self,HV.out]at r;exact⟨_,k,rfl,D,r,by omega⟩
theorem zf5 (w:World) (U:Value) (x b d:Nat) (hx:Mag w U x b) (Z:d<B) (hl:b<35184372088832):
 Calls Tryz.prog 83 #[U,.int .u64 d] w fun e w'=>∃v n,e=.returned v∧Below w.heap.size w w'∧Mag w' v (x*d) n∧n≤b+1:=by
 obtain⟨ax,P,T,W,rfl,L,Y,o,z,J⟩:=hx;obtain⟨i0,G,M,N,O⟩:=info_parts zcs;have V:Hid (num B w P T b=x):=z;clear z J;have p:b+1≤maxLen:=(by unfold maxLen;omega);by_cases F:d=0
 ·subst F;go_enter Tryz.func83,Tryz.ntmps83;go_wp2;go_ret;exact⟨_,0,rfl,zz,by rw[Nat.mul_zero];exact zf1 _,by omega⟩
 ·have aa:¬((d:Nat):Int)=0:=om;go_enter Tryz.func83,Tryz.ntmps83;go_wp2_with (first
   |(at_make;refine zau .u64 B zbg rfl _ _ 22 rfl 98 i0 Tryz.underlying22 G M N .i64 .i64 _ _ (b+1) rfl rfl om om (by rw[O];omega) p ?_;intro C j)
   |(go_at_call 115;fail))
  have s:Arr .u64 B C w.heap.size 0 b:=(by have:=j.arr.sub (d:=0) (m:=b) om;simpa using this);have u:Free C w.heap.size 0 b:=(by have:=j.free.sub (d:=0) (m:=b) om;simpa using this);refine(zdz C _ _ _ _ b _ P T b W d (Sl.mk _ _ _) L s u (zaf o j.below) (Nat.le_refl _) om (fun h=> .inl (by have:=o.lt h;omega)) om Z).mono ?_;rintro e r ⟨c,rfl,l,t,X,q⟩;rw[zeq j b om,zal o j.below,V.out]at q;have A:=j.arr b om;rw[Nat.zero_add]at A;have g:r.cell? ⟨w.heap.size,b,none⟩=some (.int .u64 ((word C w.heap.size b:Nat):Int)):=(l.cell b om).trans A.1;have ba:r.frozen? ⟨w.heap.size,b,none⟩=false:=(l.froz b).trans (by have:=j.free b om;simpa using this);have E:Below w.heap.size w (r.setCell ⟨w.heap.size,b,none⟩ (.int .u64 (c:Int))):=(j.below.trans (l.below (Nat.le_refl _) (by have:=j.lt;omega))).setCell (Nat.le_refl _) _;have f:Arr .u64 B r w.heap.size 0 (b+1):=fun i hi=>by
   by_cases H:i<b
   ·exact t i H
   ·obtain rfl:i=b:=om;rw[Nat.zero_add,zb9 g];exact⟨g,A.2⟩
  have D:Arr .u64 B (r.setCell ⟨w.heap.size,b,none⟩ (.int .u64 (c:Int))) w.heap.size 0 (b+1):=(by have:=f.set (i:=b) X;simpa using this);have S:num B (r.setCell ⟨w.heap.size,b,none⟩ (.int .u64 (c:Int))) w.heap.size 0 (b+1)=x*d:=(by have R:=zbj (x:=c) f (Nat.lt_succ_self b);rw[Nat.zero_add]at R;rw[R,q,Nat.zero_add]);have HV:Hid _:=S;clear S q j s u t f A l;go_wp2_with (go_at_call 86;refine(zbs _ _ _ _ _ _ (b+1) (Sl.mk _ _ _) (Nat.le_refl _) p p D).mono ?_;rintro e w' ⟨v,k,rfl,hw,I,ca,y⟩;subst hw);go_ret;rw[Nat.min_self,HV.out]at y;exact⟨_,k,rfl,E,y,I⟩
theorem row_step {β i nx zl zm zm' c x d yv:Nat} (j:zm'+β^nx*c=zm+x*d) (k:zl+β^i*zm=x*yv):
 zl+β^i*zm'+β^(i+nx)*c=x*(yv+β^i*d):=by
 have b:β^(i+nx)*c=β^i*(β^nx*c):=(by rw[Nat.pow_add,Nat.mul_assoc]);have f:β^i*(zm'+β^nx*c)=β^i*(zm+x*d):=(by rw[j]);have g:x*(yv+β^i*d)=x*yv+β^i*(x*d):=(by rw[Nat.mul_add,Nat.mul_left_comm]);rw[Nat.mul_add,Nat.mul_add]at f;rw[b,g,←k];omega
theorem zd6 (w:World) (az F ay:Option Addr) (f d x G m l b cx g s p cy:Nat) (Z:Sl az f d x) (X:Sl F m l b) (Y:Sl ay g s p)
 (hz:Arr .u64 B w f d x) (hf:Free w f d x) (hx:Arr .u64 B w m l b) (hy:Arr .u64 B w g s p) (hn:x=b+p) (da:x≤G) (M:G≤maxLen)
 (ba:num B w f d b=0) (o:0<b→f≠m∨l+b≤d∨d+x≤l) (z:0<p→f≠g∨s+p≤d∨d+x≤s):
 Calls Tryz.prog 113 #[.slice az x G,.slice F b cx,.slice ay p cy] w fun e w'=>e=.returned (.tuple #[])∧Chg w w' f d (d+x)∧Arr .u64 B w' f d x∧
  num B w' f d x=num B w m l b*num B w g s p:=by
 subst hn;have ea:G≤9223372036854775807:=M;clear M;go_enter Tryz.func113,Tryz.ntmps113;go_wp2;go_loopw [10] (fun i wr=>∃k:Nat,k≤p∧i=.int .i64 k∧Chg w wr f d (d+(b+k))∧Arr .u64 B wr f d (b+p)∧num B wr f d (b+k)=num B w m l b*num B w g s k)
  (fun i _=>p-(intOf i).toNat)
 case atStart=>exact⟨0,by omega,rfl,Chg.refl _ _ _ _,hz,by rw[Nat.add_zero,zas,Nat.mul_zero];exact ba⟩
 case round=>
  obtain⟨k,hk,rfl,n,q,u⟩:=hrel;by_cases P:k<p
  ·obtain rfl:=Z om;obtain rfl:=Y om;have I:wr.cell? ⟨g,s+k,none⟩=w.cell? ⟨g,s+k,none⟩:=n.cellAt (hy.lt om) (by have:=z om;omega);have aa:wr.cell? ⟨g,s+k,none⟩=some (.int .u64 ((word w g (s+k):Nat):Int)):=I.trans (zah hy P);have V:=zaz hy P;have S:Arr .u64 B wr m l b:=n.arr hx hx.lt (fun h=>by have:=o h;omega);have R:num B wr m l b=num B w m l b:=n.num hx.lt (fun h=>by have:=o h;omega);have D:Free wr f d (b+p):=n.free hf hz.lt;have L:¬G=k:=om;have t:=zah q (i:=k+b) om;have O:=D (k+b) om;have y:0<b→f≠m∨l+b≤d+k∨d+k+b≤l:=fun h=>by have:=o h;omega
   have H0:Hid (num B wr f d (b+k)=num B w m l b*num B w g s k):=u;have H1:Hid (num B wr m l b=num B w m l b):=R;have CR:=fun (F:Option Addr) (h:Sl F m l b)=>zdz wr (some ⟨f,d+k,none⟩) F f (d+k) b (G-k) m l b cx _ (Sl.mk _ _ _) h (q.sub om) (D.sub om) S (Nat.le_refl _) om y (by unfold maxLen;omega) V;clear u R I;go_wp2_with (go_at_call 115;fail);refine(CR F X).mono ?_;rintro e H ⟨c,rfl,r,J,hc,E⟩;have U:f<wr.heap.size:=q.lt om;have T:H.cell? ⟨f,d+(k+b),none⟩=some (.int .u64 ((word wr f (d+(k+b)):Nat):Int)):=(r.cell _ om).trans t;have ca:H.frozen? ⟨f,d+(k+b),none⟩=false:=(r.froz _).trans O;have N:Chg w H f d (d+(b+(k+1))):=(n.mono (Nat.le_refl _) om).trans (r.mono om om);have A:Arr .u64 B H f d (b+p):=fun i hi=>by
    by_cases W:k≤i∧i<k+b
    ·obtain⟨j,rfl⟩:=Nat.exists_eq_add_of_le W.1;have:=J j om
     rwa [Nat.add_assoc]at this
    ·have e:=r.cell (d+i) om;rw[zac e,e];exact q i hi
   have C:num B H f d k=num B wr f d k:=r.num (fun _=>U) (fun _=>by omega);have hv:num B H f d (k+b)+B^(k+b)*c=num B w m l b*num B w g s (k+1):=(by have h0:=H0.out;rw[Nat.add_comm b k,zba]at h0;rw[H1.out]at E;rw[zba,C,zam];exact row_step E h0);have HV:Hid _:=hv;clear hv E C t O CR aa n q D r J o z y S L;go_wp2;go_roundw
   case rel=>refine⟨k+1,by omega,by go_num,N.set om om _,A.set hc,?_⟩;rw[show b+(k+1)=(k+b)+1 by omega,zbj A om];exact HV.out
   case measure=>simp[intOf];omega
  ·obtain rfl:k=p:=om;go_wp2;go_end0;exact⟨rfl,n,q,u⟩
def zdj:Nat→Nat→Nat→Prop
 |0,n,_=>n<48
 |f+1,n,r=>n<48∨(6*((n+1) / 2)+1≤r∧zdj f ((n+1) / 2) (r-4*((n+1) / 2)))
theorem zcc:∀(f n r b:Nat),r≤b→zdj f n r→zdj f n b
 |0,_,_,_,_,h=>h
 |f+1,n,r,b,hr,h=>by
  rcases h with h|⟨d,c⟩
  ·exact .inl h
  ·exact .inr ⟨by omega,zcc f _ _ _ om c⟩
theorem roomFor_any:∀(f n:Nat),n≤f→n≤35184372088832→∀w:World,
 Calls Tryz.prog 144 #[.int .i64 n] w fun e w'=>∃r:Nat,e=.returned (.int .i64 r)∧w'=w∧zdj f n r∧r≤6*n:=by
 intro f
 induction f with
 |zero=>intro n p _ w;obtain rfl:n=0:=om;go_enter Tryz.func144,Tryz.ntmps144;go_wp2;go_ret;exact⟨0,rfl,rfl,by simp[zdj],by omega⟩
 |succ f ih=>
  intro n p u w;by_cases c:n<48
  ·go_enter Tryz.func144,Tryz.ntmps144;go_wp2;go_ret;exact⟨0,rfl,rfl,.inl c,by omega⟩
  ·have k:=ih ((n+1) / 2) om om w;clear ih;have l:((n:Int)+1) / 2=(((n+1) / 2:Nat):Int):=om;have m:((n:Int)+1).tdiv 2=(((n+1) / 2:Nat):Int):=(by rw[Int.tdiv_eq_ediv_of_nonneg om];omega);have g:(n+1) / 2≤n:=om;have o:2*((n+1) / 2)≤n+1:=om;obtain⟨q,d⟩:∃q,q=(n+1) / 2:=⟨_,rfl⟩;rw[←d]at k l m g o;have j:Hid (q=(n+1) / 2):=d;clear d;go_enter Tryz.func144,Tryz.ntmps144;go_wp2_with (go_at_call 144;refine k.mono ?_;rintro e w' ⟨r,rfl,t,b,s⟩;subst t)
   all_goals
    go_ret
    first
     |exact⟨6*q+1,by simp,rfl,.inr (by rw[←j.out];exact⟨by omega,zcc _ _ _ _ om b⟩),by omega⟩
     |exact⟨4*q+r,by simp,rfl,.inr (by rw[←j.out];exact⟨by omega,zcc _ _ _ _ om b⟩),by omega⟩
def ltB (x y:Nat):Bool:=decide (x<y)
def zd1 (x y:Nat):Nat:=if x<y then y-x else x-y
theorem ltB_lt {x y:Nat} (h:x<y):ltB x y=true:=by unfold ltB;simpa using h
theorem ltB_ge {x y:Nat} (h:y≤x):ltB x y=false:=by unfold ltB;simpa using h
theorem adiff_lt {x y:Nat} (h:x<y):zd1 x y=y-x:=if_pos h
theorem adiff_ge {x y:Nat} (h:y≤x):zd1 x y=x-y:=if_neg om
theorem ret_bool {a b:Bool} (h:a=b):Ending.returned (.bool a)=.returned (.bool b):=by rw[h]
theorem ze8 (w:World) (ad ax ay:Option Addr) (g b s cd t u j cx f o n cy:Nat) (L:Sl ad g b s) (ba:Sl ax t u j) (ca:Sl ay f o n)
 (hd:Arr .u64 B w g b s) (hf:Free w g b s) (hx:Arr .u64 B w t u j) (X:Arr .u64 B w f o n) (hn:j=s) (V:n≤s) (U:s≤maxLen)
 (F:0<n→g≠f∨o+n≤b∨b+s≤o):
 Calls Tryz.prog 171 #[.slice ad s cd,.slice ax j cx,.slice ay n cy] w fun e w'=>e=.returned (.bool (ltB (num B w t u j) (num B w f o n)))∧Chg w w' g b (b+s)∧Arr .u64 B w' g b s∧
  num B w' g b s=zd1 (num B w t u j) (num B w f o n):=by
 subst hn;have da:j≤9223372036854775807:=U;go_enter Tryz.func171,Tryz.ntmps171;go_wp2_with (first
  |(refine za4 .u64 B rfl _ _ 22 22 rfl 98 Tryz.underlying22 zdg _ _ _ _ _ _ rfl rfl g b t u L ba hd hf hx ?_;intro Y l)
  |(go_at_call 143;fail))
 rw[Nat.min_self]at l;have G:=l.chg.free hf hd.lt;have W:Arr .u64 B Y f o n:=l.chg.arr X X.lt (fun h=>by have:=F h;omega);have D:num B Y f o n=num B w f o n:=l.chg.num X.lt (fun h=>by have:=F h;omega);have C:num B Y g b j=num B w t u j:=za1 l.same;refine(zea Y ad ay g b j cd f o n cy L ca l.arr G W V (fun h=>by have:=F h;omega) U).mono ?_;rintro e M ⟨c,rfl,m,y,fa,I⟩;rw[C,D]at I;have S:=zbb hx;have T:num B w f o n<B^j:=Nat.lt_of_lt_of_le (zbb X) (Nat.pow_le_pow_right zbg V);have P:=zbb y;have z:Chg w M g b (b+j):=l.chg.trans m;have aa:=m.free G l.arr.lt;have Z:Hid (num B M g b j+num B w f o n=num B w t u j+B^j*c∧num B w t u j<B^j∧num B w f o n<B^j∧num B M g b j<B^j):=⟨I,S,T,P⟩;clear I S T P C D l m G W;by_cases hc:c=0
 ·subst hc;go_wp2;go_ret;have hM:=Z.out;rw[Nat.mul_zero]at hM;exact⟨ret_bool (ltB_ge om).symm,z,y,by rw[adiff_ge om];omega⟩
 ·have ea:¬((c:Nat):Int)=0:=om;go_wp2;go_loopw [7,18] (fun c i wr=>∃k x:Nat,k≤j∧x≤1∧i=.int .i64 k∧c=.int .u64 x∧Chg M wr g b (b+k)∧Arr .u64 B wr g b j∧
   num B wr g b k+num B M g b k=0+B^k*x)
   (fun _ i _=>j-(intOf i).toNat)
  case atStart=>exact⟨0,0,by omega,by omega,rfl,rfl,Chg.refl _ _ _ _,y,by simp[zas]⟩
  case round=>
   obtain⟨k,x,hk,N,rfl,rfl,m,p,q⟩:=hrel;by_cases ha:k<j
   ·obtain rfl:=L om;have ia:=zah p (i:=k) om;have ga:wr.frozen? ⟨g,b+k,none⟩=false:=(m.free aa y.lt) k om;have E:word wr g (b+k)=word M g (b+k):=zac (m.cell _ om);have h1:=sub64_x (word wr g (b+k)) x wr N;have R:=zaz p (i:=k) om;have r:=sub_step (d:=0) zbg (E▸R) N q;have H0:num B wr g b k+B^k*sb 0 (word wr g (b+k)) x+num B M g b (k+1)=0+B^(k+1)*bw 0 (word wr g (b+k)) x:=(by rw[zam,E];simpa using r);have H:Hid _:=H0;clear q r E H0;go_wp2;go_roundw
    case rel=>exact⟨k+1,_,by omega,bw_le _ _ _,by go_num,rfl,(m.mono (Nat.le_refl _) om).set om om _,p.set (sb_lt _ _ _),by rw[zbj p om];exact H.out⟩
    case measure=>simp[intOf];omega
   ·obtain rfl:k=j:=om;have A:num B wr g b k=num B w f o n-num B w t u k∧num B w t u k<num B w f o n:=(by obtain⟨m1,m2,m3,m4⟩:=Z.out;obtain rfl:c=1:=om;have hl:=zbb p;have O:x=0∨x=1:=om;rcases O with rfl|rfl <;> omega);have J:Chg w wr g b (b+k):=z.trans m;have Hf:Hid _:=A;clear A q Z;go_wp2;go_ret;exact⟨ret_bool (ltB_lt Hf.out.2).symm,J,p,by rw[adiff_lt Hf.out.2];exact Hf.out.1⟩
end Go.Proofs.YtjlkplidpdhgbaaGreatDoor
namespace Go.Rad
open Go Go.RowKit
structure ChgS (w w':World) (S:Nat→Nat→Prop):Prop where
 os:w'.os=w.os
 tape:w'.tape=w.tape
 output:w'.output=w.output
 size:w.heap.size≤w'.heap.size
 block:∀k,k<w.heap.size→(∀i,¬S k i)→w'.heap[k]? =w.heap[k]?
 cell:∀k i,k<w.heap.size→¬S k i→w'.cell? ⟨k,i,none⟩=w.cell? ⟨k,i,none⟩
 froz:∀k i,k<w.heap.size→w'.frozen? ⟨k,i,none⟩=w.frozen? ⟨k,i,none⟩
theorem ChgS.refl (w:World) (S:Nat→Nat→Prop):ChgS w w S:=⟨rfl,rfl,rfl,Nat.le_refl _,fun _ _ _=>rfl,fun _ _ _ _=>rfl,fun _ _ _=>rfl⟩
theorem ChgS.trans {a b c:World} {S:Nat→Nat→Prop} (h:ChgS a b S) (k:ChgS b c S):ChgS a c S:=
 ⟨k.os.trans h.os,k.tape.trans h.tape,k.output.trans h.output,Nat.le_trans h.size k.size,fun i hi d=>(k.block i (Nat.lt_of_lt_of_le hi h.size) d).trans (h.block i hi d),
  fun i j hi d=>(k.cell i j (Nat.lt_of_lt_of_le hi h.size) d).trans (h.cell i j hi d),fun i j hi=>(k.froz i j (Nat.lt_of_lt_of_le hi h.size)).trans (h.froz i j hi)⟩
theorem ChgS.mono {a b:World} {S T:Nat→Nat→Prop} (h:ChgS a b S) (d:∀k i,k<a.heap.size→S k i→T k i):ChgS a b T:=⟨h.os,h.tape,h.output,h.size,fun k c g=>h.block k c (fun i f=>g i (d k i c f)),fun k i c g=>h.cell k i c (fun f=>g (d k i c f)),h.froz⟩
theorem ChgS.drewN {a b:World} {S:Nat→Nat→Prop} (h:ChgS a b S) (n:Nat):ChgS a (b.drewN n) S:=⟨h.os,h.tape,h.output,h.size,h.block,h.cell,h.froz⟩
theorem ChgS.drew {a b:World} {S:Nat→Nat→Prop} (h:ChgS a b S):ChgS a b.drew S:=⟨h.os,h.tape,h.output,h.size,h.block,h.cell,h.froz⟩
theorem Chg.toS {w w':World} {b lo hi:Nat} (h:Chg w w' b lo hi) (f:lo<hi):ChgS w w' (fun k i=>k=b∧lo≤i∧i<hi):=
 ⟨h.os,h.tape,h.output,h.size,fun k c g=>by
  by_cases d:k=b
  ·subst d;exact absurd ⟨rfl,Nat.le_refl _,f⟩ (g lo)
  ·exact h.block k c d,
  fun k i c g=>h.cellAt c om,fun k i c=>h.frozAt c⟩
theorem ChgS.arr {w w':World} {S:Nat→Nat→Prop} (h:ChgS w w' S) {k:IntKind} {β c o n:Nat} (d:Arr k β w c o n) (b:∀i,i<n→¬S c (o+i)):Arr k β w' c o n:=by intro i hi;have e:=h.cell c (o+i) (d.lt om) (b i hi);rw[zac e,e];exact d i hi
theorem ChgS.num {w w':World} {S:Nat→Nat→Prop} (h:ChgS w w' S) {k:IntKind} {β c o n:Nat} (d:Arr k β w c o n) (b:∀i,i<n→¬S c (o+i)):num β w' c o n=num β w c o n:=za1 fun i hi=>zac (h.cell c (o+i) (d.lt om) (b i hi))
theorem ChgS.free {w w':World} {S:Nat→Nat→Prop} (h:ChgS w w' S) {c o n:Nat} (d:Free w c o n) (b:0<n→c<w.heap.size):Free w' c o n:=fun i hi=>(h.froz c (o+i) (b om)).trans (d i hi)
theorem ChgS.below {w w':World} {S:Nat→Nat→Prop} {b:Nat} (h:ChgS w w' S) (c:∀k i,k<b→¬S k i) (f:b≤w.heap.size):Below b w w':=⟨h.os,h.tape,h.output,h.size,fun k d=>h.block k om (fun i=>c k i d)⟩
end Go.Rad
