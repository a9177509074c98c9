/- A part of the proof: W2, Mag, Pm2, W4, W6, W7, W8, Kar1, Chs. -/
import Derived.Test.YtjlkplidpdhgbaaGreatDoorP00
import Derived.Deep.Quiet
set_option linter.all false
set_option maxHeartbeats 1000000
set_option maxRecDepth 10000
namespace Go.Proofs.YtjlkplidpdhgbaaGreatDoor
open Go Go.Proofs Go.RowKit Go.Rad
def Nrm (w:World) (b o n:Nat):Prop:=n=0∨word w b (o+(n-1))≠0
theorem zb8 {k:IntKind} {a b:Int} (h:a=b):Ending.returned (.int k a)=.returned (.int k b):=by rw[h]
theorem zbc {a b:Nat} (h:a<b):zbb (a:Int) (b:Int)= -1:=if_pos om
theorem zb5 {a b:Nat} (h:b<a):zbb (a:Int) (b:Int)=1:=by unfold zbb;rw[if_neg om,if_neg om]
theorem zfa {a b:Nat} (h:a=b):zbb (a:Int) (b:Int)=0:=by unfold zbb;rw[if_neg om,if_pos om]
theorem zgd {w:World} {j l d b g c:Nat} (m:Arr .u64 B w j l d) (f:Nrm w b g c) (h:d<c):num B w j l d<num B w b g c:=by
 have n:=za1 m;rcases f with k|k
 ·omega
 ·have o:B^(c-1)≤num B w b g c:=_root_.Rad.vs_ge om (by simpa using k);have p:B^d≤B^(c-1):=Nat.pow_le_pow_right za2 om;omega
theorem cmpWords_any (w:World) (M N:Option Addr) (f g c O b l o P:Nat) (G:Sl M f g c) (H:Sl N b l o) (A:c≤maxLen) (C:o≤maxLen)
 (I:Arr .u64 B w f g c) (J:Arr .u64 B w b l o) (E:Nrm w f g c) (F:Nrm w b l o):
 Calls Tryz.prog 87 #[.slice M c O,.slice N o P] w fun e w'=>e=.returned (.int .i64 (zbb (num B w f g c:Nat) (num B w b l o:Nat)))∧∃n,w'=w.drewN n:=by
 unfold maxLen at A C;by_cases V:c=o
 ·subst V;go_enter Tryz.func87,Tryz.ntmps87;go_wp2;go_loopw [5] (fun s wr=>∃k d:Nat,k≤c∧s=.int .i64 ((k:Int)-1)∧wr=w.drewN d∧∀i,k≤i→i<c→word w f (g+i)=word w b (l+i)) (fun s _=>(intOf s+1).toNat)
  case atStart=>exact⟨c,0,by omega,by go_num,rfl,fun i x p=>by omega⟩
  case round=>
   obtain⟨k,d,Z,rfl,rfl,r⟩:=hrel;by_cases R:k=0
   ·subst R;have e:zbb (num B w f g c:Nat) (num B w b l c:Nat)=0:=zfa (zaz fun i hi=>(r i om hi).symm).symm;go_wp2;go_ret;exact⟨zb8 e.symm,_,rfl⟩
   ·obtain⟨j,rfl⟩:∃j,k=j+1:=⟨k-1,by omega⟩;obtain rfl:=G om;obtain rfl:=H om;have T:=zag I (i:=j) om;have U:=zag J (i:=j) om;have y:((j+1:Nat):Int)-1=(j:Int):=om;rw[y];by_cases q:word w f (g+j)=word w b (l+j)
    ·have W:((word w f (g+j):Nat):Int)=((word w b (l+j):Nat):Int):=(by rw[q]);have L:∀i,j≤i→i<c→word w f (g+i)=word w b (l+i):=fun i x p=>by
      by_cases z:i=j
      ·subst z;exact q
      ·exact r i om p
     clear r q y;go_wp2;go_quiet (fail);go_wp2;go_roundw
     case rel=>exact⟨j,_,by omega,by go_num,rfl,L⟩
     case measure=>simp[intOf]
    ·have D:((word w f (g+j):Nat):Int)≠((word w b (l+j):Nat):Int):=om;have m:zbb ((word w f (g+j):Nat):Int) ((word w b (l+j):Nat):Int)=zbb (num B w f g c:Nat) (num B w b l c:Nat):=by
      rcases Nat.lt_or_ge (word w f (g+j)) (word w b (l+j))with h|h
      ·rw[zbc h,zbc];exact _root_.Rad.vs_lt_of_place (i:=j) (fun i hi=>zat I hi) om h (fun i x p=>r i om p)
      ·have t:word w b (l+j)<word w f (g+j):=om;rw[zb5 t,zb5];exact _root_.Rad.vs_lt_of_place (i:=j) (fun i hi=>zat J hi) om t (fun i x p=>(r i om p).symm)
     have u:Hid (zbb ((word w f (g+j):Nat):Int) ((word w b (l+j):Nat):Int)=zbb (num B w f g c:Nat) (num B w b l c:Nat)):=m;have Y:(j:Int)<(c:Int):=om;have S:(0:Int)≤(j:Int):=om;clear r q y m;go_wp2;go_quiet (fail);go_wp2;go_quiet ((go_at_call 116;refine(compare_u _ _ _).mono ?_;rintro e X ⟨rfl,rfl⟩;exact⟨rfl,_,rfl⟩));go_wp2;go_ret;exact⟨zb8 u.out,by simp only[World.drewN_drewN];exact⟨_,rfl⟩⟩
 ·have m:zbb (c:Int) (o:Int)=zbb (num B w f g c:Nat) (num B w b l o:Nat):=by
   rcases Nat.lt_or_ge c o with h|h
   ·rw[zbc h,zbc (zgd I F h)]
   ·have t:o<c:=om;rw[zb5 t,zb5 (zgd J E t)]
  have u:Hid (zbb (c:Int) (o:Int)=zbb (num B w f g c:Nat) (num B w b l o:Nat)):=m;have D:((c:Int) !=(o:Int))=true:=(by simp;omega);clear m;go_enter Tryz.func87,Tryz.ntmps87;go_wp2_with (go_at_call 74;refine(compare_i _ _ _).mono ?_;rintro e w' ⟨rfl,q⟩;subst q);go_ret;exact⟨zb8 u.out,0,rfl⟩
def Mag (w:World) (v:Value) (x n:Nat):Prop:=∃(ao:Option Addr) (b o c:Nat),v=.slice ao n c∧Sl ao b o n∧n≤c∧Arr .u64 B w b o n∧num B w b o n=x∧Nrm w b o n
theorem zae {k:IntKind} {β:Nat} {w w':World} {b o n:Nat} (h:Arr k β w b o n) (c:Below w.heap.size w w'):Arr k β w' b o n:=by intro i hi;have e:w'.cell? ⟨b,o+i,none⟩=w.cell? ⟨b,o+i,none⟩:=c.cell (p:=⟨b,o+i,none⟩) (h.lt om);rw[zab e,e];exact h i hi
theorem zbp {k:IntKind} {β:Nat} {w w':World} {b o n:Nat} (h:Arr k β w b o n) (c:Below w.heap.size w w') {i:Nat} (hi:i<n):word w' b (o+i)=word w b (o+i):=zab (c.cell (p:=⟨b,o+i,none⟩) (h.lt om))
theorem zah {k:IntKind} {β:Nat} {w w':World} {b o n:Nat} (h:Arr k β w b o n) (c:Below w.heap.size w w'):num β w' b o n=num β w b o n:=zaz fun _ hi=>zbp h c hi
theorem nrm_below {w w':World} {b o n:Nat} (h:Arr .u64 B w b o n) (f:Nrm w b o n) (d:Below w.heap.size w w'):Nrm w' b o n:=by
 rcases f with c|c
 ·exact .inl c
 ·by_cases g:n=0
  ·exact .inl g
  ·right;rw[zbp h d om];exact c
theorem Mag.below {w w':World} {v:Value} {x n:Nat} (h:Mag w v x n) (f:Below w.heap.size w w'):Mag w' v x n:=by obtain⟨g,b,o,c,m,l,j,d,p,k⟩:=h;exact⟨g,b,o,c,m,l,j,zae d f,by rw[zah d f,p],nrm_below d k f⟩
theorem Mag.lt {w:World} {v:Value} {x n:Nat} (h:Mag w v x n):x<B^n:=by obtain⟨g,b,o,c,m,l,j,d,f,k⟩:=h;rw[←f];exact za1 d
theorem Mag.ge {w:World} {v:Value} {x n:Nat} (h:Mag w v x n) (d:0<n):B^(n-1)≤x:=by
 obtain⟨k,b,o,c,q,p,m,l,j,g⟩:=h;rw[←j];rcases g with f|f
 ·omega
 ·exact _root_.Rad.vs_ge d (by simpa using f)
theorem Mag.pos {w:World} {v:Value} {x n:Nat} (h:Mag w v x n) (b:0<n):0<x:=Nat.lt_of_lt_of_le (Nat.pow_pos za2) (h.ge b)
theorem Mag.len_le {w:World} {v:Value} {x n:Nat} (h:Mag w v x n) {L:Nat} (f:x<B^L):n≤L:=by
 rcases Nat.lt_or_ge L n with b|b
 ·have c:=h.ge om;have d:B^L≤B^(n-1):=Nat.pow_le_pow_right za2 om;omega
 ·exact b
theorem Mag.zero_iff {w:World} {v:Value} {x n:Nat} (h:Mag w v x n):x=0↔n=0:=by
 constructor
 ·intro d;rcases Nat.eq_zero_or_pos n with b|b
  ·exact b
  ·have:=h.pos b;omega
 ·intro c;have:=h.lt;rw[c]at this;simpa using this
theorem zff (w:World):Mag w (.slice none 0 0) 0 0:=⟨none,0,0,0,rfl,fun h=>by omega,by omega,fun i hi=>by omega,rfl,.inl rfl⟩
theorem za3 (w:World) (g:Option Addr) (b o n c m:Nat) (s:Sl g b o n) (u:n≤c) (j:n≤maxLen) (q:m≤maxLen) (r:Arr .u64 B w b o n):
 Calls Tryz.prog 86 #[.slice g n c,.int .i64 m] w fun e w'=>∃v k,e=.returned v∧w'=w∧k≤m∧k≤n∧Mag w v (num B w b o (min m n)) k:=by
 refine(zfd w g b o n c m s u j q r).mono ?_;rintro e w' ⟨k,rfl,rfl,l,p,f,x⟩;refine⟨_,k,rfl,rfl,l,p,g,b,o,k,rfl,fun h=>s om,Nat.le_refl _,?_,?_,?_⟩
 ·have:=r.sub (d:=0) (m:=k) om;simpa using this
 ·exact(_root_.Rad.vs_top om (fun i t y=>x i t om om)).symm
 ·rcases f with h|h
  ·exact .inl h
  ·exact .inr h
theorem zd9 {k:IntKind} {β:Nat} {w w':World} {n:Nat} (h:Made k β w w' n) (m:Nat) (b:m≤n):num β w' w.heap.size 0 m=0:=_root_.Rad.vs_zeros fun i hi=>by rw[Nat.zero_add];exact h.zero i om
theorem zb0:(Tryz.prog.info? 98).map (fun i=>(i.zero,i.size,i.bytes))=some (some (.int .u64 0),1,8):=by kernel_rfl
theorem zb2:(Tryz.prog.info? 98).map (·.size)=some 1:=by kernel_rfl
theorem zb9 {w q d:World} {n m b o:Nat} (f:Made .u64 B w q n) (s:Arr .u64 B w b o m) (p:m≤n) (g:Copied .u64 B q d w.heap.size 0 m b o):
 Below w.heap.size w d∧Arr .u64 B d w.heap.size 0 n∧Free d w.heap.size 0 n∧num B d w.heap.size 0 n=num B w b o m∧w.heap.size<d.heap.size:=by
 have j:∀i,i<m→word d w.heap.size (0+i)=word w b (o+i):=fun i hi=>(g.same i hi).trans (zbp s f.below hi);have c:∀i,m≤i→d.cell? ⟨w.heap.size,i,none⟩=q.cell? ⟨w.heap.size,i,none⟩:=fun i hi=>g.chg.cell i om;refine⟨f.below.trans (g.chg.below (Nat.le_refl _) (by have:=f.lt;omega)),fun i hi=>?_,g.chg.free f.free (fun _=>f.lt),?_,Nat.lt_of_lt_of_le f.lt g.chg.size⟩
 ·by_cases l:i<m
  ·exact g.arr i l
  ·have e:=c i om;rw[Nat.zero_add,zab e,e];have:=f.arr i hi
   rwa [Nat.zero_add]at this
 ·have k:num B d w.heap.size 0 n=num B d w.heap.size 0 m:=_root_.Rad.vs_top p fun i k r=>by rw[Nat.zero_add,zab (c i k)];exact f.zero i r
  rw[k];exact zaz j
end Go.Proofs.YtjlkplidpdhgbaaGreatDoor
namespace Rad
theorem pow_dbl {β:Nat} (b:2≤β) (n:Nat):β^n+β^n≤β^(n+1):=by rw[Nat.pow_succ,←Nat.mul_two];exact Nat.mul_le_mul_left _ b
theorem sum_fits {β z c a b n:Nat} (f:2≤β) (h:z+β^(n+1)*c=a+b) (j:a<β^n) (k:b<β^n):z=a+b:=by
 have g:=pow_dbl f n;rcases Nat.eq_zero_or_pos c with d|d
 ·subst d;simpa using h
 ·have:=Nat.mul_le_mul_left (β^(n+1)) d;omega
theorem diff_fits {β z c a b n:Nat} (h:z+b=a+β^n*c) (g:z<β^n) (f:b≤a):z=a-b:=by
 rcases Nat.eq_zero_or_pos c with d|d
 ·subst d;rw[Nat.mul_zero]at h;omega
 ·have:=Nat.mul_le_mul_left (β^n) d;omega
end Rad
namespace Go.Proofs.YtjlkplidpdhgbaaGreatDoor
open Go Go.Proofs Go.RowKit Go.Rad
theorem zdv (w:World) (az ax:Option Addr) (f b q cz t s A cx:Nat) (J:Sl az f b q) (V:Sl ax t s A) (X:Arr .u64 B w f b q) (hf:Free w f b q)
 (W:Arr .u64 B w t s A) (hn:A≤q) (M:0<A→f≠t∨s+A≤b∨b+q≤s) (U:q≤maxLen):
 Calls Tryz.prog 143 #[.slice az q cz,.slice ax A cx] w fun e w'=>∃c:Nat,e=.returned (.int .u64 c)∧Chg w w' f b (b+q)∧Arr .u64 B w' f b q∧
  c≤1∧num B w' f b q+num B w t s A=num B w f b q+B^q*c:=by
 unfold maxLen at U;go_enter Tryz.func143,Tryz.ntmps143;go_wp2;go_loopw [5,11] (fun c i wr=>∃k y:Nat,k≤A∧y≤1∧i=.int .i64 k∧c=.int .u64 y∧Chg w wr f b (b+k)∧Arr .u64 B wr f b q∧
  num B wr f b k+num B w t s k=num B w f b k+B^k*y)
  (fun _ i _=>A-(intOf i).toNat)
 case atStart=>exact⟨0,0,by omega,by omega,rfl,rfl,Chg.refl _ _ _ _,X,by simp[zao]⟩
 case round=>
  obtain⟨k,y,hk,r,rfl,rfl,l,g,j⟩:=hrel;by_cases F:k<A
  ·obtain rfl:=J om;obtain rfl:=V om;have Y:=zag g (i:=k) om;have G:wr.cell? ⟨t,s+k,none⟩=w.cell? ⟨t,s+k,none⟩:=l.cellAt (W.lt om) (by have:=M om;omega);have ca:wr.cell? ⟨t,s+k,none⟩=some (.int .u64 ((word w t (s+k):Nat):Int)):=G.trans (zag W F);have P:wr.frozen? ⟨f,b+k,none⟩=false:=(l.free hf X.lt) k om;have u:word wr f (b+k)=word w f (b+k):=zab (l.cell _ om);have h1:=sub64 (word wr f (b+k)) (word w t (s+k)) y wr r;have z:=zat g (i:=k) om;have I:=zat W F;have p:=sub_step (u▸z) I r j;have H:Hid (num B wr f b k+B^k*sb (word wr f (b+k)) (word w t (s+k)) y+num B w t s (k+1)=
    num B w f b (k+1)+B^(k+1)*bw (word wr f (b+k)) (word w t (s+k)) y):=by rw[zaj,zaj,u];exact p
   clear j p u G;go_wp2;go_roundw
   case rel=>exact⟨k+1,_,by omega,bw_le _ _ _,by go_num,rfl,(l.mono (Nat.le_refl _) om).set om om _,g.set (sb_lt _ _ _),by rw[zba g om];exact H.out⟩
   case measure=>simp[intOf];omega
  ·have R:k=A:=om;subst R;go_wp2;go_loopw [5,8] (fun c i wr=>∃m y:Nat,k≤m∧m≤q∧y≤1∧i=.int .i64 m∧c=.int .u64 y∧Chg w wr f b (b+m)∧Arr .u64 B wr f b q∧
    num B wr f b m+num B w t s k=num B w f b m+B^m*y)
    (fun _ i _=>q-(intOf i).toNat)
   case atStart=>exact⟨k,y,by omega,by omega,r,rfl,rfl,l,g,j⟩
   case round=>
    clear l g j r F;obtain⟨m,C,ba,T,r,rfl,rfl,l,g,j⟩:=hrel;by_cases E:C≠0∧m<q
    ·obtain⟨O,S⟩:=E;obtain rfl:=J om;have Y:=zag g (i:=m) om;have P:wr.frozen? ⟨f,b+m,none⟩=false:=(l.free hf X.lt) m om;have u:word wr f (b+m)=word w f (b+m):=zab (l.cell _ om);have h1:=sub64_y (word wr f (b+m)) C wr r;have z:=zat g (i:=m) om;have p:=sub_step (e:=0) (u▸z) za2 r j;have Z:num B wr f b m+B^m*sb (word wr f (b+m)) 0 C+num B w t s k=
      num B w f b (m+1)+B^(m+1)*bw (word wr f (b+m)) 0 C:=by rw[zaj,u];simpa using p
     have H:Hid _:=Z;have aa:¬((C:Nat):Int)=0:=om;clear j p u Z O;go_wp2;go_roundw
     case rel=>
      exact⟨m+1,_,by omega,by omega,bw_le _ _ _,by go_num,rfl,(l.mono (Nat.le_refl _) om).set om om _,g.set (sb_lt _ _ _),
       by rw[zba g om];exact H.out⟩
     case measure=>simp[intOf];omega
    ·have D:num B wr f b q+num B w t s k=num B w f b q+B^q*C:=by
      by_cases S:m=q
      ·subst S;exact j
      ·have N:C=0:=om;subst N;obtain⟨d,rfl⟩:=Nat.exists_eq_add_of_le T;rw[za5,za5,zaz (w':=wr) (w:=w) (o':=b+m) (o:=b+m) (n:=d) (fun i hi=>zab (l.cell _ om))];omega
     have x:Chg w wr f b (b+q):=l.mono (Nat.le_refl _) om;have L:Hid _:=D;clear D j l;by_cases S:m<q
     ·have N:C=0:=om;subst N;clear E;go_wp2;go_ret;exact⟨0,rfl,x,g,by omega,L.out⟩
     ·clear E;go_wp2
      all_goals
       go_ret
       first
        |exact⟨_,rfl,x,g,r,L.out⟩
        |(obtain rfl:C=0:=om;exact⟨0,rfl,x,g,by omega,L.out⟩)
theorem zeu (w:World) (vx vy:Value) (x y b p:Nat) (W:Mag w vx x b) (X:Mag w vy y p) (J:y≤x) (hl:b≤35184372088832):
 Calls Tryz.prog 112 #[vx,vy] w fun e w'=>∃v n,e=.returned v∧Below w.heap.size w w'∧Mag w' v (x-y) n∧n≤b:=by
 have L:p≤b:=by
  rcases Nat.eq_zero_or_pos p with h|h
  ·omega
  ·have h1:=X.ge h;have h2:=W.lt;rcases Nat.lt_or_ge b p with V|V
   ·have:B^b≤B^(p-1):=Nat.pow_le_pow_right za2 om;omega
   ·exact V
 obtain⟨ax,U,Y,cx,rfl,O,ba,s,A,M⟩:=W;obtain⟨ay,q,Z,cy,rfl,P,ca,j,f,N⟩:=X;obtain⟨i0,H,R,S,T⟩:=info_parts zb0;have d:b≤maxLen:=(by unfold maxLen;omega);have HX:Hid (num B w U Y b=x):=A;have HY:Hid (num B w q Z p=y):=f;clear A f M N;go_enter Tryz.func112,Tryz.ntmps112;go_wp2_with (first
  |(at_make;refine zap .u64 B za2 rfl _ _ 22 rfl 98 i0 Tryz.underlying22 H R S .i64 .i64 _ _ b rfl rfl rfl rfl (by rw[T];omega) d ?_;intro w1 t)
  |(refine zal .u64 B rfl _ _ 22 22 rfl 98 Tryz.underlying22 zb2 _ _ _ _ _ _ rfl rfl w.heap.size 0 U Y (Sl.mk _ _ _) O t.arr t.free (zae s t.below) ?_;intro w2 m))
 rw[Nat.min_self]at m;obtain⟨l,D,G,z,ea⟩:=zb9 t s (Nat.le_refl _) m;refine(zdv w2 _ _ _ _ _ _ q Z _ _ (Sl.mk _ _ _) P D G (zae j l) L (fun h=> .inl (by have:=j.lt h;omega)) d).mono ?_;rintro e C ⟨c,rfl,F,r,aa,o⟩;have E:Below w.heap.size w C:=l.trans (F.below (Nat.le_refl _) om);have g:num B C w.heap.size 0 b=x-y:=(by rw[z,zah j l,HX.out,HY.out]at o;exact _root_.Rad.diff_fits o (za1 r) J);have HV:Hid (num B C w.heap.size 0 b=x-y):=g;clear g o z m t;go_wp2_with (go_at_call 86;refine(za3 C _ _ _ _ _ b (Sl.mk _ _ _) (Nat.le_refl _) d d r).mono ?_;rintro e w' ⟨v,k,rfl,hw,I,da,u⟩;subst hw);go_ret;rw[Nat.min_self,HV.out]at u;exact⟨_,k,rfl,E,u,I⟩
theorem zco:2≤B:=by decide
theorem zdy (w:World) (vx vy:Value) (x y o p:Nat) (hx:Mag w vx x o) (hy:Mag w vy y p) (hl:o<35184372088832) (da:p<35184372088832):
 Calls Tryz.prog 111 #[vx,vy] w fun e w'=>∃v n,e=.returned v∧Below w.heap.size w w'∧Mag w' v (x+y) n∧n≤max o p+1:=by
 obtain⟨ax,R,ox,cx,rfl,I,aa,f,H,X⟩:=hx;obtain⟨ay,z,oy,cy,rfl,J,ba,g,u,Y⟩:=hy;obtain⟨i0,G,L,M,N⟩:=info_parts zb0;have O:Hid (num B w R ox o=x):=H;have P:Hid (num B w z oy p=y):=u;clear H u X Y;rcases Nat.lt_or_ge o p with ea|ca
 ·have b:p+1≤maxLen:=(by unfold maxLen;omega);go_enter Tryz.func111,Tryz.ntmps111;go_wp2_with (first
   |(at_make;refine zap .u64 B za2 rfl _ _ 22 rfl 98 i0 Tryz.underlying22 G L M .i64 .i64 _ _ (p+1) rfl rfl om om (by rw[N];omega) b ?_;intro w1 q)
   |(refine zal .u64 B rfl _ _ 22 22 rfl 98 Tryz.underlying22 zb2 _ _ _ _ _ _ rfl rfl w.heap.size 0 z oy (Sl.mk _ _ _) J q.arr q.free (zae g q.below) ?_;intro w2 l))
  rw[Nat.min_eq_left (Nat.le_succ p)]at l;obtain⟨j,A,F,s,Z⟩:=zb9 q g (Nat.le_succ _) l;refine(zbt w2 _ _ _ _ _ _ R ox _ _ (Sl.mk _ _ _) I A F (zae f j) om (fun h=> .inl (by have:=f.lt h;omega)) b).mono ?_;rintro e t ⟨rfl,E,C,c,U,m⟩;have D:Below w.heap.size w t:=j.trans (E.below (Nat.le_refl _) om);have d:num B t w.heap.size 0 (p+1)=x+y:=(by rw[s,zah f j,O.out,P.out]at m;have S:y<B^p:=(by rw[←P.out];exact za1 g);have T:x<B^o:=(by rw[←O.out];exact za1 f);rw[Nat.add_comm x y];exact _root_.Rad.sum_fits zco m S (Nat.lt_of_lt_of_le T (Nat.pow_le_pow_right za2 om)));have HV:Hid (num B t w.heap.size 0 (p+1)=x+y):=d;clear d m s l q;go_wp2_with (go_at_call 86;refine(za3 t _ _ _ _ _ (p+1) (Sl.mk _ _ _) (Nat.le_refl _) b b C).mono ?_;rintro e w' ⟨v,k,rfl,hw,V,W,r⟩;subst hw);go_ret;rw[Nat.min_self,HV.out]at r;exact⟨_,k,rfl,D,r,by omega⟩
 ·have b:o+1≤maxLen:=(by unfold maxLen;omega);go_enter Tryz.func111,Tryz.ntmps111;go_wp2_with (first
   |(at_make;refine zap .u64 B za2 rfl _ _ 22 rfl 98 i0 Tryz.underlying22 G L M .i64 .i64 _ _ (o+1) rfl rfl om om (by rw[N];omega) b ?_;intro w1 q)
   |(refine zal .u64 B rfl _ _ 22 22 rfl 98 Tryz.underlying22 zb2 _ _ _ _ _ _ rfl rfl w.heap.size 0 R ox (Sl.mk _ _ _) I q.arr q.free (zae f q.below) ?_;intro w2 l))
  rw[Nat.min_eq_left (Nat.le_succ o)]at l;obtain⟨j,A,F,s,Z⟩:=zb9 q f (Nat.le_succ _) l;refine(zbt w2 _ _ _ _ _ _ z oy _ _ (Sl.mk _ _ _) J A F (zae g j) om (fun h=> .inl (by have:=g.lt h;omega)) b).mono ?_;rintro e t ⟨rfl,E,C,c,U,m⟩;have D:Below w.heap.size w t:=j.trans (E.below (Nat.le_refl _) om);have d:num B t w.heap.size 0 (o+1)=x+y:=(by rw[s,zah g j,O.out,P.out]at m;have S:y<B^p:=(by rw[←P.out];exact za1 g);have T:x<B^o:=(by rw[←O.out];exact za1 f);exact _root_.Rad.sum_fits zco m T (Nat.lt_of_lt_of_le S (Nat.pow_le_pow_right za2 om)));have HV:Hid (num B t w.heap.size 0 (o+1)=x+y):=d;clear d m s l q;go_wp2_with (go_at_call 86;refine(za3 t _ _ _ _ _ (o+1) (Sl.mk _ _ _) (Nat.le_refl _) b b C).mono ?_;rintro e w' ⟨v,k,rfl,hw,V,W,r⟩;subst hw);go_ret;rw[Nat.min_self,HV.out]at r;exact⟨_,k,rfl,D,r,by omega⟩
theorem zcy (w:World) (U:Value) (x b d:Nat) (hx:Mag w U x b) (Z:d<B) (hl:b<35184372088832):
 Calls Tryz.prog 83 #[U,.int .u64 d] w fun e w'=>∃v n,e=.returned v∧Below w.heap.size w w'∧Mag w' v (x*d) n∧n≤b+1:=by
 obtain⟨ax,P,T,W,rfl,L,Y,o,z,J⟩:=hx;obtain⟨i0,G,M,N,O⟩:=info_parts zb0;have V:Hid (num B w P T b=x):=z;clear z J;have p:b+1≤maxLen:=(by unfold maxLen;omega);by_cases F:d=0
 ·subst F;go_enter Tryz.func83,Tryz.ntmps83;go_wp2;go_ret;exact⟨_,0,rfl,zz,by rw[Nat.mul_zero];exact zff _,by omega⟩
 ·have aa:¬((d:Nat):Int)=0:=om;go_enter Tryz.func83,Tryz.ntmps83;go_wp2_with (first
   |(at_make;refine zap .u64 B za2 rfl _ _ 22 rfl 98 i0 Tryz.underlying22 G M N .i64 .i64 _ _ (b+1) rfl rfl om om (by rw[O];omega) p ?_;intro C j)
   |(go_at_call 115;fail))
  have s:Arr .u64 B C w.heap.size 0 b:=(by have:=j.arr.sub (d:=0) (m:=b) om;simpa using this);have u:Free C w.heap.size 0 b:=(by have:=j.free.sub (d:=0) (m:=b) om;simpa using this);refine(zdh C _ _ _ _ b _ P T b W d (Sl.mk _ _ _) L s u (zae o j.below) (Nat.le_refl _) om (fun h=> .inl (by have:=o.lt h;omega)) om Z).mono ?_;rintro e r ⟨c,rfl,l,t,X,q⟩;rw[zd9 j b om,zah o j.below,V.out]at q;have A:=j.arr b om;rw[Nat.zero_add]at A;have g:r.cell? ⟨w.heap.size,b,none⟩=some (.int .u64 ((word C w.heap.size b:Nat):Int)):=(l.cell b om).trans A.1;have ba:r.frozen? ⟨w.heap.size,b,none⟩=false:=(l.froz b).trans (by have:=j.free b om;simpa using this);have E:Below w.heap.size w (r.setCell ⟨w.heap.size,b,none⟩ (.int .u64 (c:Int))):=(j.below.trans (l.below (Nat.le_refl _) (by have:=j.lt;omega))).setCell (Nat.le_refl _) _;have f:Arr .u64 B r w.heap.size 0 (b+1):=fun i hi=>by
   by_cases H:i<b
   ·exact t i H
   ·obtain rfl:i=b:=om;rw[Nat.zero_add,zbv g];exact⟨g,A.2⟩
  have D:Arr .u64 B (r.setCell ⟨w.heap.size,b,none⟩ (.int .u64 (c:Int))) w.heap.size 0 (b+1):=(by have:=f.set (i:=b) X;simpa using this);have S:num B (r.setCell ⟨w.heap.size,b,none⟩ (.int .u64 (c:Int))) w.heap.size 0 (b+1)=x*d:=(by have R:=zba (x:=c) f (Nat.lt_succ_self b);rw[Nat.zero_add]at R;rw[R,q,Nat.zero_add]);have HV:Hid _:=S;clear S q j s u t f A l;go_wp2_with (go_at_call 86;refine(za3 _ _ _ _ _ _ (b+1) (Sl.mk _ _ _) (Nat.le_refl _) p p D).mono ?_;rintro e w' ⟨v,k,rfl,hw,I,ca,y⟩;subst hw);go_ret;rw[Nat.min_self,HV.out]at y;exact⟨_,k,rfl,E,y,I⟩
theorem row_step {β i nx zl zm zm' c x d yv:Nat} (j:zm'+β^nx*c=zm+x*d) (k:zl+β^i*zm=x*yv):
 zl+β^i*zm'+β^(i+nx)*c=x*(yv+β^i*d):=by
 have b:β^(i+nx)*c=β^i*(β^nx*c):=(by rw[Nat.pow_add,Nat.mul_assoc]);have f:β^i*(zm'+β^nx*c)=β^i*(zm+x*d):=(by rw[j]);have g:x*(yv+β^i*d)=x*yv+β^i*(x*d):=(by rw[Nat.mul_add,Nat.mul_left_comm]);rw[Nat.mul_add,Nat.mul_add]at f;rw[b,g,←k];omega
theorem zdr (w:World) (az F ay:Option Addr) (f d x G m l b cx g s p cy:Nat) (Z:Sl az f d x) (X:Sl F m l b) (Y:Sl ay g s p)
 (hz:Arr .u64 B w f d x) (hf:Free w f d x) (hx:Arr .u64 B w m l b) (hy:Arr .u64 B w g s p) (hn:x=b+p) (da:x≤G) (M:G≤maxLen)
 (ba:num B w f d b=0) (o:0<b→f≠m∨l+b≤d∨d+x≤l) (z:0<p→f≠g∨s+p≤d∨d+x≤s):
 Calls Tryz.prog 113 #[.slice az x G,.slice F b cx,.slice ay p cy] w fun e w'=>e=.returned (.tuple #[])∧Chg w w' f d (d+x)∧Arr .u64 B w' f d x∧
  num B w' f d x=num B w m l b*num B w g s p:=by
 subst hn;have ea:G≤9223372036854775807:=M;clear M;go_enter Tryz.func113,Tryz.ntmps113;go_wp2;go_loopw [10] (fun i wr=>∃k:Nat,k≤p∧i=.int .i64 k∧Chg w wr f d (d+(b+k))∧Arr .u64 B wr f d (b+p)∧num B wr f d (b+k)=num B w m l b*num B w g s k)
  (fun i _=>p-(intOf i).toNat)
 case atStart=>exact⟨0,by omega,rfl,Chg.refl _ _ _ _,hz,by rw[Nat.add_zero,zao,Nat.mul_zero];exact ba⟩
 case round=>
  obtain⟨k,hk,rfl,n,q,u⟩:=hrel;by_cases P:k<p
  ·obtain rfl:=Z om;obtain rfl:=Y om;have I:wr.cell? ⟨g,s+k,none⟩=w.cell? ⟨g,s+k,none⟩:=n.cellAt (hy.lt om) (by have:=z om;omega);have aa:wr.cell? ⟨g,s+k,none⟩=some (.int .u64 ((word w g (s+k):Nat):Int)):=I.trans (zag hy P);have V:=zat hy P;have S:Arr .u64 B wr m l b:=n.arr hx hx.lt (fun h=>by have:=o h;omega);have R:num B wr m l b=num B w m l b:=n.num hx.lt (fun h=>by have:=o h;omega);have D:Free wr f d (b+p):=n.free hf hz.lt;have L:¬G=k:=om;have t:=zag q (i:=k+b) om;have O:=D (k+b) om;have y:0<b→f≠m∨l+b≤d+k∨d+k+b≤l:=fun h=>by have:=o h;omega
   have H0:Hid (num B wr f d (b+k)=num B w m l b*num B w g s k):=u;have H1:Hid (num B wr m l b=num B w m l b):=R;have CR:=fun (F:Option Addr) (h:Sl F m l b)=>zdh wr (some ⟨f,d+k,none⟩) F f (d+k) b (G-k) m l b cx _ (Sl.mk _ _ _) h (q.sub om) (D.sub om) S (Nat.le_refl _) om y (by unfold maxLen;omega) V;clear u R I;go_wp2_with (go_at_call 115;fail);refine(CR F X).mono ?_;rintro e H ⟨c,rfl,r,J,hc,E⟩;have U:f<wr.heap.size:=q.lt om;have T:H.cell? ⟨f,d+(k+b),none⟩=some (.int .u64 ((word wr f (d+(k+b)):Nat):Int)):=(r.cell _ om).trans t;have ca:H.frozen? ⟨f,d+(k+b),none⟩=false:=(r.froz _).trans O;have N:Chg w H f d (d+(b+(k+1))):=(n.mono (Nat.le_refl _) om).trans (r.mono om om);have A:Arr .u64 B H f d (b+p):=fun i hi=>by
    by_cases W:k≤i∧i<k+b
    ·obtain⟨j,rfl⟩:=Nat.exists_eq_add_of_le W.1;have:=J j om
     rwa [Nat.add_assoc]at this
    ·have e:=r.cell (d+i) om;rw[zab e,e];exact q i hi
   have C:num B H f d k=num B wr f d k:=r.num (fun _=>U) (fun _=>by omega);have hv:num B H f d (k+b)+B^(k+b)*c=num B w m l b*num B w g s (k+1):=(by have h0:=H0.out;rw[Nat.add_comm b k,za5]at h0;rw[H1.out]at E;rw[za5,C,zaj];exact row_step E h0);have HV:Hid _:=hv;clear hv E C t O CR aa n q D r J o z y S L;go_wp2;go_roundw
   case rel=>refine⟨k+1,by omega,by go_num,N.set om om _,A.set hc,?_⟩;rw[show b+(k+1)=(k+b)+1 by omega,zba A om];exact HV.out
   case measure=>simp[intOf];omega
  ·obtain rfl:k=p:=om;go_wp2;go_end0;exact⟨rfl,n,q,u⟩
def zc5:Nat→Nat→Nat→Prop
 |0,n,_=>n<48
 |f+1,n,r=>n<48∨(6*((n+1) / 2)+1≤r∧zc5 f ((n+1) / 2) (r-4*((n+1) / 2)))
theorem zb6:∀(f n r b:Nat),r≤b→zc5 f n r→zc5 f n b
 |0,_,_,_,_,h=>h
 |f+1,n,r,b,hr,h=>by
  rcases h with h|⟨d,c⟩
  ·exact .inl h
  ·exact .inr ⟨by omega,zb6 f _ _ _ om c⟩
theorem roomFor_any:∀(f n:Nat),n≤f→n≤35184372088832→∀w:World,
 Calls Tryz.prog 144 #[.int .i64 n] w fun e w'=>∃r:Nat,e=.returned (.int .i64 r)∧w'=w∧zc5 f n r∧r≤6*n:=by
 intro f
 induction f with
 |zero=>intro n p _ w;obtain rfl:n=0:=om;go_enter Tryz.func144,Tryz.ntmps144;go_wp2;go_ret;exact⟨0,rfl,rfl,by simp[zc5],by omega⟩
 |succ f ih=>
  intro n p u w;by_cases c:n<48
  ·go_enter Tryz.func144,Tryz.ntmps144;go_wp2;go_ret;exact⟨0,rfl,rfl,.inl c,by omega⟩
  ·have k:=ih ((n+1) / 2) om om w;clear ih;have l:((n:Int)+1) / 2=(((n+1) / 2:Nat):Int):=om;have m:((n:Int)+1).tdiv 2=(((n+1) / 2:Nat):Int):=(by rw[Int.tdiv_eq_ediv_of_nonneg om];omega);have g:(n+1) / 2≤n:=om;have o:2*((n+1) / 2)≤n+1:=om;obtain⟨q,d⟩:∃q,q=(n+1) / 2:=⟨_,rfl⟩;rw[←d]at k l m g o;have j:Hid (q=(n+1) / 2):=d;clear d;go_enter Tryz.func144,Tryz.ntmps144;go_wp2_with (go_at_call 144;refine k.mono ?_;rintro e w' ⟨r,rfl,t,b,s⟩;subst t)
   all_goals
    go_ret
    first
     |exact⟨6*q+1,by simp,rfl,.inr (by rw[←j.out];exact⟨by omega,zb6 _ _ _ _ om b⟩),by omega⟩
     |exact⟨4*q+r,by simp,rfl,.inr (by rw[←j.out];exact⟨by omega,zb6 _ _ _ _ om b⟩),by omega⟩
def ltB (x y:Nat):Bool:=decide (x<y)
def zdl (x y:Nat):Nat:=if x<y then y-x else x-y
theorem ltB_lt {x y:Nat} (h:x<y):ltB x y=true:=by unfold ltB;simpa using h
theorem ltB_ge {x y:Nat} (h:y≤x):ltB x y=false:=by unfold ltB;simpa using h
theorem adiff_lt {x y:Nat} (h:x<y):zdl x y=y-x:=if_pos h
theorem adiff_ge {x y:Nat} (h:y≤x):zdl x y=x-y:=if_neg om
theorem ret_bool {a b:Bool} (h:a=b):Ending.returned (.bool a)=.returned (.bool b):=by rw[h]
theorem zeo (w:World) (ad ax ay:Option Addr) (g b s cd t u j cx f o n cy:Nat) (L:Sl ad g b s) (ba:Sl ax t u j) (ca:Sl ay f o n)
 (hd:Arr .u64 B w g b s) (hf:Free w g b s) (hx:Arr .u64 B w t u j) (X:Arr .u64 B w f o n) (hn:j=s) (V:n≤s) (U:s≤maxLen)
 (F:0<n→g≠f∨o+n≤b∨b+s≤o):
 Calls Tryz.prog 171 #[.slice ad s cd,.slice ax j cx,.slice ay n cy] w fun e w'=>e=.returned (.bool (ltB (num B w t u j) (num B w f o n)))∧Chg w w' g b (b+s)∧Arr .u64 B w' g b s∧
  num B w' g b s=zdl (num B w t u j) (num B w f o n):=by
 subst hn;have da:j≤9223372036854775807:=U;go_enter Tryz.func171,Tryz.ntmps171;go_wp2_with (first
  |(refine zal .u64 B rfl _ _ 22 22 rfl 98 Tryz.underlying22 zb2 _ _ _ _ _ _ rfl rfl g b t u L ba hd hf hx ?_;intro Y l)
  |(go_at_call 143;fail))
 rw[Nat.min_self]at l;have G:=l.chg.free hf hd.lt;have W:Arr .u64 B Y f o n:=l.chg.arr X X.lt (fun h=>by have:=F h;omega);have D:num B Y f o n=num B w f o n:=l.chg.num X.lt (fun h=>by have:=F h;omega);have C:num B Y g b j=num B w t u j:=zaz l.same;refine(zdv Y ad ay g b j cd f o n cy L ca l.arr G W V (fun h=>by have:=F h;omega) U).mono ?_;rintro e M ⟨c,rfl,m,y,fa,I⟩;rw[C,D]at I;have S:=za1 hx;have T:num B w f o n<B^j:=Nat.lt_of_lt_of_le (za1 X) (Nat.pow_le_pow_right za2 V);have P:=za1 y;have z:Chg w M g b (b+j):=l.chg.trans m;have aa:=m.free G l.arr.lt;have Z:Hid (num B M g b j+num B w f o n=num B w t u j+B^j*c∧num B w t u j<B^j∧num B w f o n<B^j∧num B M g b j<B^j):=⟨I,S,T,P⟩;clear I S T P C D l m G W;by_cases hc:c=0
 ·subst hc;go_wp2;go_ret;have hM:=Z.out;rw[Nat.mul_zero]at hM;exact⟨ret_bool (ltB_ge om).symm,z,y,by rw[adiff_ge om];omega⟩
 ·have ea:¬((c:Nat):Int)=0:=om;go_wp2;go_loopw [7,18] (fun c i wr=>∃k x:Nat,k≤j∧x≤1∧i=.int .i64 k∧c=.int .u64 x∧Chg M wr g b (b+k)∧Arr .u64 B wr g b j∧
   num B wr g b k+num B M g b k=0+B^k*x)
   (fun _ i _=>j-(intOf i).toNat)
  case atStart=>exact⟨0,0,by omega,by omega,rfl,rfl,Chg.refl _ _ _ _,y,by simp[zao]⟩
  case round=>
   obtain⟨k,x,hk,N,rfl,rfl,m,p,q⟩:=hrel;by_cases ha:k<j
   ·obtain rfl:=L om;have ia:=zag p (i:=k) om;have ga:wr.frozen? ⟨g,b+k,none⟩=false:=(m.free aa y.lt) k om;have E:word wr g (b+k)=word M g (b+k):=zab (m.cell _ om);have h1:=sub64_x (word wr g (b+k)) x wr N;have R:=zat p (i:=k) om;have r:=sub_step (d:=0) za2 (E▸R) N q;have H0:num B wr g b k+B^k*sb 0 (word wr g (b+k)) x+num B M g b (k+1)=0+B^(k+1)*bw 0 (word wr g (b+k)) x:=(by rw[zaj,E];simpa using r);have H:Hid _:=H0;clear q r E H0;go_wp2;go_roundw
    case rel=>exact⟨k+1,_,by omega,bw_le _ _ _,by go_num,rfl,(m.mono (Nat.le_refl _) om).set om om _,p.set (sb_lt _ _ _),by rw[zba p om];exact H.out⟩
    case measure=>simp[intOf];omega
   ·obtain rfl:k=j:=om;have A:num B wr g b k=num B w f o n-num B w t u k∧num B w t u k<num B w f o n:=(by obtain⟨m1,m2,m3,m4⟩:=Z.out;obtain rfl:c=1:=om;have hl:=za1 p;have O:x=0∨x=1:=om;rcases O with rfl|rfl <;> omega);have J:Chg w wr g b (b+k):=z.trans m;have Hf:Hid _:=A;clear A q Z;go_wp2;go_ret;exact⟨ret_bool (ltB_lt Hf.out.2).symm,J,p,by rw[adiff_lt Hf.out.2];exact Hf.out.1⟩
end Go.Proofs.YtjlkplidpdhgbaaGreatDoor
namespace Go.Rad
open Go Go.RowKit
structure ChgS (w w':World) (S:Nat→Nat→Prop):Prop where
 os:w'.os=w.os
 tape:w'.tape=w.tape
 output:w'.output=w.output
 size:w.heap.size≤w'.heap.size
 block:∀k,k<w.heap.size→(∀i,¬S k i)→w'.heap[k]? =w.heap[k]?
 cell:∀k i,k<w.heap.size→¬S k i→w'.cell? ⟨k,i,none⟩=w.cell? ⟨k,i,none⟩
 froz:∀k i,k<w.heap.size→w'.frozen? ⟨k,i,none⟩=w.frozen? ⟨k,i,none⟩
theorem ChgS.refl (w:World) (S:Nat→Nat→Prop):ChgS w w S:=⟨rfl,rfl,rfl,Nat.le_refl _,fun _ _ _=>rfl,fun _ _ _ _=>rfl,fun _ _ _=>rfl⟩
theorem ChgS.trans {a b c:World} {S:Nat→Nat→Prop} (h:ChgS a b S) (k:ChgS b c S):ChgS a c S:=
 ⟨k.os.trans h.os,k.tape.trans h.tape,k.output.trans h.output,Nat.le_trans h.size k.size,fun i hi d=>(k.block i (Nat.lt_of_lt_of_le hi h.size) d).trans (h.block i hi d),
  fun i j hi d=>(k.cell i j (Nat.lt_of_lt_of_le hi h.size) d).trans (h.cell i j hi d),fun i j hi=>(k.froz i j (Nat.lt_of_lt_of_le hi h.size)).trans (h.froz i j hi)⟩
theorem ChgS.mono {a b:World} {S T:Nat→Nat→Prop} (h:ChgS a b S) (d:∀k i,k<a.heap.size→S k i→T k i):ChgS a b T:=⟨h.os,h.tape,h.output,h.size,fun k c g=>h.block k c (fun i f=>g i (d k i c f)),fun k i c g=>h.cell k i c (fun f=>g (d k i c f)),h.froz⟩
theorem ChgS.drewN {a b:World} {S:Nat→Nat→Prop} (h:ChgS a b S) (n:Nat):ChgS a (b.drewN n) S:=⟨h.os,h.tape,h.output,h.size,h.block,h.cell,h.froz⟩
theorem ChgS.drew {a b:World} {S:Nat→Nat→Prop} (h:ChgS a b S):ChgS a b.drew S:=⟨h.os,h.tape,h.output,h.size,h.block,h.cell,h.froz⟩
theorem Chg.toS {w w':World} {b lo hi:Nat} (h:Chg w w' b lo hi) (f:lo<hi):ChgS w w' (fun k i=>k=b∧lo≤i∧i<hi):=
 ⟨h.os,h.tape,h.output,h.size,fun k c g=>by
  by_cases d:k=b
  ·subst d;exact absurd ⟨rfl,Nat.le_refl _,f⟩ (g lo)
  ·exact h.block k c d,
  fun k i c g=>h.cellAt c om,fun k i c=>h.frozAt c⟩
theorem ChgS.arr {w w':World} {S:Nat→Nat→Prop} (h:ChgS w w' S) {k:IntKind} {β c o n:Nat} (d:Arr k β w c o n) (b:∀i,i<n→¬S c (o+i)):Arr k β w' c o n:=by intro i hi;have e:=h.cell c (o+i) (d.lt om) (b i hi);rw[zab e,e];exact d i hi
theorem ChgS.num {w w':World} {S:Nat→Nat→Prop} (h:ChgS w w' S) {k:IntKind} {β c o n:Nat} (d:Arr k β w c o n) (b:∀i,i<n→¬S c (o+i)):num β w' c o n=num β w c o n:=zaz fun i hi=>zab (h.cell c (o+i) (d.lt om) (b i hi))
theorem ChgS.free {w w':World} {S:Nat→Nat→Prop} (h:ChgS w w' S) {c o n:Nat} (d:Free w c o n) (b:0<n→c<w.heap.size):Free w' c o n:=fun i hi=>(h.froz c (o+i) (b om)).trans (d i hi)
theorem ChgS.below {w w':World} {S:Nat→Nat→Prop} {base:Nat} (h:ChgS w w' S) (b:∀k i,k<base→¬S k i) (d:base≤w.heap.size):Below base w w':=⟨h.os,h.tape,h.output,h.size,fun k c=>h.block k om (fun i=>b k i c)⟩
end Go.Rad
