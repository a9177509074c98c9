/- A part of the proof: Q2, Pm8, W9, W13, W14, Pm4. -/
import Derived.Test.YtjlkplidpdhgbaaGreatDoorP00
import Derived.Test.YtjlkplidpdhgbaaGreatDoorP07
import Derived.Deep.Cut
import Derived.Deep.CutRange
import Derived.Test.YtjlkplidpdhgbaaGreatDoorP01
import Derived.Laws.Bits64b
import Derived.Test.YtjlkplidpdhgbaaGreatDoorP02
set_option linter.all false
set_option maxRecDepth 10000
set_option maxHeartbeats 1000000
namespace Go.Proofs.YtjlkplidpdhgbaaGreatDoor
open Go Go.Proofs Go.RowKit Go.Rad
def bot (x:Rat):Int:=if x.den=1 then 0 else x.den
def IsQ (w:World) (v:Value) (x:Rat):Prop:=∃s a n c t p m e,v=.agg #[.int .i64 s,.slice a n c,.int .i64 t,.slice p m e]∧IsInt w (.agg #[.int .i64 s,.slice a n c]) x.num∧IsInt w (.agg #[.int .i64 t,.slice p m e]) (bot x)
def IsR (w:World) (v:Value) (x:Rat):Prop:=∃s a n c t p m e,v=.agg #[.bool s,.slice a n c,.bool t,.slice p m e]∧IsZ w (.agg #[.bool s,.slice a n c]) x.num∧IsZ w (.agg #[.bool t,.slice p m e]) (x.den:Int)
theorem IsQ.below {w w':World} {v:Value} {x:Rat} (h:IsQ w v x) (b:Below w.heap.size w w'):IsQ w' v x:=by obtain⟨s,a,n,c,t,p,m,e,g,d,f⟩:=h;exact⟨s,a,n,c,t,p,m,e,g,d.below b,f.below b⟩
theorem IsQ.keep {w w':World} {v:Value} {x:Rat} (h:IsQ w v x) (b:Keep w w'):IsQ w' v x:=by obtain⟨s,a,n,c,t,p,m,e,g,d,f⟩:=h;exact⟨s,a,n,c,t,p,m,e,g,d.keep b,f.keep b⟩
theorem IsR.below {w w':World} {v:Value} {x:Rat} (h:IsR w v x) (b:Below w.heap.size w w'):IsR w' v x:=by obtain⟨s,a,n,c,t,p,m,e,g,d,f⟩:=h;exact⟨s,a,n,c,t,p,m,e,g,d.below b,f.below b⟩
theorem IsR.ext {w w':World} {v:Value} {x:Rat} (h:IsR w v x) (b:Ext w w'):IsR w' v x:=by obtain⟨s,a,n,c,t,p,m,e,g,d,f⟩:=h;exact⟨s,a,n,c,t,p,m,e,g,b.z _ _ d,b.z _ _ f⟩
theorem IsQ.form {w:World} {v:Value} {x:Rat} (h:IsQ w v x):∃s a n c t p m e,v=.agg #[.int .i64 s,.slice a n c,.int .i64 t,.slice p m e]:=by obtain⟨s,a,n,c,t,p,m,e,b,d,f⟩:=h;exact⟨s,a,n,c,t,p,m,e,b⟩
theorem IsR.form {w:World} {v:Value} {x:Rat} (h:IsR w v x):∃s a n c t p m e,v=.agg #[.bool s,.slice a n c,.bool t,.slice p m e]:=by obtain⟨s,a,n,c,t,p,m,e,b,d,f⟩:=h;exact⟨s,a,n,c,t,p,m,e,b⟩
theorem IsQ.parts {w:World} {s t:Int} {a p:Option Addr} {n c m e:Nat} {x:Rat} (h:IsQ w (.agg #[.int .i64 s,.slice a n c,.int .i64 t,.slice p m e]) x):
 IsInt w (.agg #[.int .i64 s,.slice a n c]) x.num∧IsInt w (.agg #[.int .i64 t,.slice p m e]) (bot x):=by
 obtain⟨A,o,y,q,B,z,u,r,b,k,l⟩:=h;simp only[Value.agg.injEq,Array.mk.injEq,List.cons.injEq,and_true]at b;obtain⟨d,f,g,j⟩:=b;rw[d,f,g,j];exact⟨k,l⟩
theorem IsR.parts {w:World} {s t:Bool} {a p:Option Addr} {n c m e:Nat} {x:Rat} (h:IsR w (.agg #[.bool s,.slice a n c,.bool t,.slice p m e]) x):
 IsZ w (.agg #[.bool s,.slice a n c]) x.num∧IsZ w (.agg #[.bool t,.slice p m e]) (x.den:Int):=by
 obtain⟨A,o,y,q,B,z,u,r,b,k,l⟩:=h;simp only[Value.agg.injEq,Array.mk.injEq,List.cons.injEq,and_true]at b;obtain⟨d,f,g,j⟩:=b;rw[d,f,g,j];exact⟨k,l⟩
theorem IsQ.mk {w:World} {s t:Int} {a p:Option Addr} {n c m e:Nat} {x:Rat} (b:IsInt w (.agg #[.int .i64 s,.slice a n c]) x.num) (d:IsInt w (.agg #[.int .i64 t,.slice p m e]) (bot x)):
 IsQ w (.agg #[.int .i64 s,.slice a n c,.int .i64 t,.slice p m e]) x:=⟨_,_,_,_,_,_,_,_,rfl,b,d⟩
theorem IsR.mk {w:World} {s t:Bool} {a p:Option Addr} {n c m e:Nat} {x:Rat} (b:IsZ w (.agg #[.bool s,.slice a n c]) x.num) (d:IsZ w (.agg #[.bool t,.slice p m e]) (x.den:Int)):
 IsR w (.agg #[.bool s,.slice a n c,.bool t,.slice p m e]) x:=⟨_,_,_,_,_,_,_,_,rfl,b,d⟩
theorem bot_den {x:Rat} (h:x.den≠1):bot x=x.den:=if_neg h
theorem bot_zero {x:Rat}: bot x=0↔x.den=1:=by have:=x.den_pos;unfold bot;split <;> omega
theorem IsInt.bot {w:World} {t:Int} {p:Option Addr} {m e:Nat} {x:Rat} (h:IsInt w (.agg #[.int .i64 t,.slice p m e]) (bot x)):(t=0↔x.den=1):=by have:=h.sgn;rw[←bot_zero];omega
theorem num_whole {x:Rat} (h:x.den=1):x=(x.num:Rat):=Rat.ext rfl h
theorem isQ_whole {w:World} {s:Int} {a:Option Addr} {n c:Nat} {z:Int} (h:IsInt w (.agg #[.int .i64 s,.slice a n c]) z):IsQ w (.agg #[.int .i64 s,.slice a n c,.int .i64 0,.slice none 0 0]) (z:Rat):=IsQ.mk h (isInt_small w 0 dd dd)
theorem isQ_zero (w:World):IsQ w (.agg #[.int .i64 0,.slice none 0 0,.int .i64 0,.slice none 0 0]) 0:=isQ_whole (isInt_small w 0 dd dd)
theorem whole_any (w:World) (v:Value) (z:Int) (b:IsInt w v z):
 Calls Tryz.prog 44 #[v] w fun e w'=>∃u,e=.returned u∧Below w.heap.size w w'∧IsQ w' u (z:Rat):=by
 obtain⟨s,a,n,c,rfl⟩:=b.form;go_enter Tryz.func44,Tryz.ntmps44;go_wp2;refine bodyPost_ret (v:= .agg #[.int .i64 s,.slice a n c,.int .i64 0,.slice none 0 0]) (by simp[results,go_sem,loadVar];try rfl) rfl ?_;exact⟨_,rfl,bel2 _ _ _,isQ_whole (b.below (bel2 _ _ _))⟩
theorem fsign_any (w:World) (v:Value) (x:Rat) (d:IsQ w v x):
 Calls Tryz.prog 60 #[v] w fun e w'=>e=.returned (.int .i64 (cmpI x.num 0))∧Below w.heap.size w w':=by
 obtain⟨s,a,n,c,t,p,m,e,rfl⟩:=d.form;obtain⟨g,k⟩:=d.parts;have b:=bel1 w (Obj.cells #[.int .i64 s,.slice a n c,.int .i64 t,.slice p m e] 62);have j:=sign_any _ _ _ (g.below b);have f:Hid _:=b;clear d g k b;go_enter Tryz.func60,Tryz.ntmps60;go_wp2_with (go_at_call 18;refine j.mono ?_;rintro e w' ⟨rfl,l⟩);go_ret;exact⟨rfl,f.out.trans (l.mono f.out.size)⟩
theorem under_any (w:World) (v:Value) (x:Rat) (z:IsQ w v x):
 Calls Tryz.prog 99 #[v] w fun e w'=>∃u,e=.returned u∧Below w.heap.size w w'∧IsInt w' u (x.den:Int):=by
 obtain⟨s,a,n,c,t,p,m,e,rfl⟩:=z.form;obtain⟨M,k⟩:=z.parts;have y:=k.bot;by_cases j:x.den=1
 ·have r:=y.2 j;subst r;rw[j];clear z M k y j;go_enter Tryz.func99,Tryz.ntmps99;go_upto_region 2 with fail;refine wp_world (fun A=>Below w.heap.size w A∧FB A (w.heap.size+1) (.int .i64 0) (.slice none 0 0)) ⟨bel2 _ _ _,by simpa using (FB.mk0 (w.alloc (Obj.cells #[.int .i64 s,.slice a n c,.int .i64 0,.slice p m e] 62)) (.int .i64 0) (.slice none 0 0) 24)⟩ ?_;rintro A ⟨o,B⟩;obtain⟨O,d⟩:∃b,b=w.heap.size+1:=⟨_,rfl⟩;have q:w.heap.size≤O:=om;rw[←d]at B⊢;have f:Hid _:=o;have J:Hid _:=B;have L:Hid _:=q;clear d o B q;go_wp2_with (go_at_call 16;fail);refine(of_any A 1 dd dd).mono ?_;rintro e V ⟨U,rfl,d,g⟩;obtain⟨H,E,G,F,rfl⟩:=g.form;have I:=J.out.below d;have C:Hid _:=below_set2 (f.out.trans (d.mono f.out.size)) L.out (.int .i64 H) (.slice E G F);have D:Hid (IsInt _ _ _):=g.keep (I.keep (.int .i64 H) (.slice E G F));obtain⟨l,P,R,S,T⟩:=I;clear g d J f L;go_wp2;refine bodyPost_ret (v:= .agg #[.int .i64 H,.slice E G F]) rs rfl ?_;exact⟨_,rfl,C.out,D.out⟩
 ·have r:¬t=0:=fun h=>j (y.1 h);rw[bot_den j]at k;have N:Hid (IsInt _ _ _):=k;clear z M k y j;go_enter Tryz.func99,Tryz.ntmps99;go_wp2;refine bodyPost_ret (v:= .agg #[.int .i64 t,.slice p m e]) (by simp[results,go_sem,loadVar];try rfl) rfl ?_;exact⟨_,rfl,bel2 _ _ _,N.out.below (bel2 _ _ _)⟩
end Go.Proofs.YtjlkplidpdhgbaaGreatDoor
namespace Rad
theorem cut_sign (a b:Int) (j:b≠0):
 (0≤a.tmod b→a.tdiv b=a / b∧a.tmod b=a%b)∧
 (a.tmod b<0→b<0→a.tdiv b+1=a / b∧a.tmod b-b=a%b)∧
 (a.tmod b<0→¬b<0→a.tdiv b-1=a / b∧a.tmod b+b=a%b):=by
 have n:b*a.tdiv b+a.tmod b=a:=Int.mul_tdiv_add_tmod a b;have s:(a.tmod b).natAbs<b.natAbs:=(by rw[Int.natAbs_tmod];exact Nat.mod_lt _ om);have d:∀q r:Int,b*q+r=a→0≤r→r<b.natAbs→q=a / b∧r=a%b:=fun q r h p x=>by
  have t:=Int.emod_nonneg a j;have k:=Int.emod_lt_of_neg a (b:=b);have l:=Int.emod_lt_of_pos a (b:=b);have u:=Int.mul_ediv_add_emod a b;have e:b*(q-a / b)=a%b-r:=(by rw[Int.mul_sub];omega);have o:q-a / b=0:=by
   rcases Int.lt_trichotomy (q-a / b) 0 with f|f|f
   ·exfalso;rcases Int.lt_or_lt_of_ne j with c|c
    ·have g:=Int.mul_le_mul_of_nonpos_left (show b≤0 by omega) (show q-a / b≤ -1 by omega);have:=k c;omega
    ·have g:=Int.mul_le_mul_of_nonneg_left (show q-a / b≤ -1 by omega) (show 0≤b by omega);have:=l c;omega
   ·exact f
   ·exfalso;rcases Int.lt_or_lt_of_ne j with c|c
    ·have g:=Int.mul_le_mul_of_nonpos_left (show b≤0 by omega) (show 1≤q-a / b by omega);have:=k c;omega
    ·have g:=Int.mul_le_mul_of_nonneg_left (show 1≤q-a / b by omega) (show 0≤b by omega);have:=l c;omega
  rw[o,Int.mul_zero]at e;omega
 refine⟨fun h=>d _ _ n h om,fun h m=>?_,fun h m=>?_⟩
 ·exact d _ _ (by rw[Int.mul_add];omega) om om
 ·exact d _ _ (by rw[Int.mul_sub];omega) om om
theorem tdiv_range {s t:Int} (k: -9223372036854775808≤s) (l:s≤9223372036854775807) (h:¬(s= -9223372036854775808∧t= -1)):
 -9223372036854775808≤s.tdiv t∧s.tdiv t≤9223372036854775807:=by
 have e:(s.tdiv t).natAbs=s.natAbs / t.natAbs:=Int.natAbs_tdiv s t;have j:s.natAbs / t.natAbs≤s.natAbs:=Nat.div_le_self _ _;refine⟨by omega,?_⟩;rcases Int.lt_or_le (-9223372036854775808) s with f|f
 ·omega
 ·have g:s= -9223372036854775808:=om;have d:t≠ -1:=fun d=>h ⟨g,d⟩;rcases Int.lt_or_le t 0 with b|b
  ·have c:s.natAbs / t.natAbs≤s.natAbs / 2:=Nat.div_le_div_left om dd;omega
  ·have c:0≤(-s).tdiv t:=Int.tdiv_nonneg om b;rw[Int.neg_tdiv]at c;omega
theorem tmod_range {s t:Int} (f: -9223372036854775808≤s) (g:s≤9223372036854775807): -9223372036854775808≤s.tmod t∧s.tmod t≤9223372036854775807:=by
 have e:(s.tmod t).natAbs=s.natAbs%t.natAbs:=Int.natAbs_tmod s t;have d:s.natAbs%t.natAbs≤s.natAbs:=Nat.mod_le _ _;rcases Int.lt_or_le s 0 with b|b
 ·have c:0≤(-s).tmod t:=Int.tmod_nonneg _ om;rw[Int.neg_tmod]at c;omega
 ·have c:0≤s.tmod t:=Int.tmod_nonneg _ b;omega
theorem tdiv_abs_le (a b:Int):(a.tdiv b).natAbs≤a.natAbs:=by rw[Int.natAbs_tdiv];exact Nat.div_le_self _ _
theorem tdiv_sgn (a b:Int) (s t:Bool) (c:s=true↔a<0) (d:t=true↔b<0):
 (if (s !=t)=true then -((a.natAbs / b.natAbs:Nat):Int) else ((a.natAbs / b.natAbs:Nat):Int))=a.tdiv b∧
 (if s=true then -((a.natAbs%b.natAbs:Nat):Int) else ((a.natAbs%b.natAbs:Nat):Int))=a.tmod b:=by
 have f:a=(if s=true then -(a.natAbs:Int) else (a.natAbs:Int)):=by
  cases s
  ·have:¬a<0:=fun h=>by simpa using c.2 h
   simp;omega
  ·have:=c.1 rfl;simp;omega
 have g:b=(if t=true then -(b.natAbs:Int) else (b.natAbs:Int)):=by
  cases t
  ·have:¬b<0:=fun h=>by simpa using d.2 h
   simp;omega
  ·have:=d.1 rfl;simp;omega
 generalize a.natAbs=x at *;generalize b.natAbs=y at *;subst f g;cases s <;> cases t <;> simp[Int.neg_tdiv,Int.tdiv_neg,Int.neg_tmod,Int.tmod_neg] <;> exact(Int.tmod_eq_emod_of_nonneg om).symm
end Rad
namespace Go.Proofs.YtjlkplidpdhgbaaGreatDoor
open Go Go.Proofs Go.RowKit Go.Rad
theorem two_pow_split {s:Nat} (b:s≤64):2^(64-s)*2^s=18446744073709551616:=by rw[←Nat.pow_add,show 64-s+s=64 by omega]
theorem wrap_u64_nat (n:Nat):IntKind.u64.wrap ((n:Nat):Int)=((lo n:Nat):Int):=by rw[IntKind.wrap_u64];unfold lo;omega
theorem shl_nat (d s:Nat):IntKind.u64.wrap ((d:Int)*2^s)=((lo (d*2^s):Nat):Int):=by rw[←wrap_u64_nat,Int.natCast_mul,Int.natCast_pow] <;> rfl
theorem shr_nat (d s:Nat):(d:Int) / 2^s=((d / 2^s:Nat):Int):=by rw[Int.natCast_ediv,Int.natCast_pow];rfl
theorem lo_shl {d s:Nat} (b:s≤64):lo (d*2^s)=2^s*(d%2^(64-s)):=by unfold lo;rw[←two_pow_split b,Nat.mul_mod_mul_right,Nat.mul_comm]
theorem hi_shl {d s:Nat} (b:s≤64):hi (d*2^s)=d / 2^(64-s):=by unfold hi;rw[←two_pow_split b,Nat.mul_div_mul_right _ _ (Nat.pow_pos dd)]
theorem shl_or {d s c:Nat} (b:s≤64) (f:c<2^s):
 bits .or .u64 (IntKind.u64.wrap ((d:Int)*2^s)) (c:Int)=((lo (d*2^s)+c:Nat):Int):=by
 have g:2^s≤2^64:=Nat.pow_le_pow_right dd b;rw[shl_nat,bits_or_u64_nat _ _ (lo_lt _) om,lo_shl b,←Nat.two_pow_add_eq_or_of_lt f]
theorem shl_or_lt {d s c:Nat} (b:s≤64) (k:c<2^s):lo (d*2^s)+c<B:=by rw[lo_shl b];have f:d%2^(64-s)<2^(64-s):=Nat.mod_lt _ (Nat.pow_pos dd);have g:=two_pow_split b;have j:=Nat.mul_le_mul_left (2^s) (show d%2^(64-s)+1≤2^(64-s)from f);rw[Nat.mul_add,Nat.mul_comm (2^s) (2^(64-s)),g]at j;unfold B;omega
theorem hi_shl_lt {d s:Nat} (c:s≤64) (b:d<B):d / 2^(64-s)<2^s:=by refine Nat.div_lt_of_lt_mul ?_;rw[two_pow_split c];exact b
theorem up_step {k x d c r p e f:Nat} (h:r+B^k*c=x*p) (l:e+B*f=d*p+c):r+B^k*e+B^(k+1)*f=(x+B^k*d)*p:=by have b:B^(k+1)*f=B^k*(B*f):=(by rw[Nat.pow_succ,Nat.mul_assoc]);have g:B^k*(e+B*f)=B^k*(d*p+c):=(by rw[l]);rw[Nat.mul_add,Nat.mul_add]at g;have j:(x+B^k*d)*p=x*p+B^k*(d*p):=(by rw[Nat.add_mul,Nat.mul_assoc]);rw[b,j];omega
theorem moveUp_any (w:World) (R P:Option Addr) (m j u cz g b o cx s:Nat) (J:Sl R m j u) (I:Sl P g b o) (M:Arr .u64 B w m j u) (U:Free w m j u)
 (L:Arr .u64 B w g b o) (hn:u=o+1) (E:0<o→m≠g∨b+o≤j∨j+u≤b) (D:u≤maxLen) (hs:s<64):
 Calls Tryz.prog 137 #[.slice R u cz,.slice P o cx,.int .u64 s] w fun e w'=>e=.returned (.tuple #[])∧Chg w w' m j (j+u)∧Arr .u64 B w' m j u∧
  num B w' m j u=num B w g b o*2^s:=by
 subst hn;have V:o+1≤9223372036854775807:=D;clear D;go_enter Tryz.func137,Tryz.ntmps137;go_wp2;go_loopw [6,11] (fun c i wr=>∃k x:Nat,k≤o∧x<2^s∧i=.int .i64 k∧c=.int .u64 x∧Chg w wr m j (j+k)∧Arr .u64 B wr m j (o+1)∧
  num B wr m j k+B^k*x=num B w g b k*2^s)
  (fun _ i _=>o-(intOf i).toNat)
 case atStart=>exact⟨0,0,by omega,Nat.pow_pos dd,rfl,rfl,Chg.refl _ _ _ _,M,by simp[num_zero]⟩
 case round=>
  obtain⟨k,x,hk,q,rfl,rfl,r,n,l⟩:=hrel;obtain rfl:=J om;by_cases z:k<o
  ·obtain rfl:=I om;have N:=arr_cell n (i:=k) om;have y:wr.cell? ⟨g,b+k,none⟩=w.cell? ⟨g,b+k,none⟩:=r.cellAt (L.lt om) (by have:=E om;omega);have ca:wr.cell? ⟨g,b+k,none⟩=some (.int .u64 ((word w g (b+k):Nat):Int)):=y.trans (arr_cell L z);have G:wr.frozen? ⟨m,j+k,none⟩=false:=(r.free U M.lt) k om;have aa:(0:Int)≤64-(s:Int):=om;have ba:(64-(s:Int)).toNat=64-s:=om;have A:=arr_lt L z;have S:=shl_or (d:=word w g (b+k)) (s:=s) (c:=x) om q;have T:=shr_nat (word w g (b+k)) (64-s);have W:=shl_or_lt (d:=word w g (b+k)) (s:=s) (c:=x) om q;have X:=hi_shl_lt (s:=s) om A;have t:=up_step (p:=2^s) (e:=lo (word w g (b+k)*2^s)+x) (f:=word w g (b+k) / 2^(64-s)) l
    (by rw[←hi_shl om,Nat.add_right_comm,lo_hi])
   have O:num B wr m j k+B^k*(lo (word w g (b+k)*2^s)+x)+B^(k+1)*(word w g (b+k) / 2^(64-s))=num B w g b (k+1)*2^s:=(by rw[num_succ];exact t);have H:Hid _:=O;have E1:Hid _:=S;have Y:Hid _:=T;have Z:Hid _:=W;have L2:Hid _:=X;clear l y t O S T W X q;go_wp2;rw[E1.out,Y.out];go_roundw
   case rel=>exact⟨k+1,_,by omega,L2.out,by go_num,rfl,(r.mono (Nat.le_refl _) om).set om om _,n.set Z.out,by rw[num_store n om];exact H.out⟩
   case measure=>simp[intOf];omega
  ·obtain rfl:k=o:=om;have N:=arr_cell n (i:=k) om;have G:wr.frozen? ⟨m,j+k,none⟩=false:=(r.free U M.lt) k om;have H:Hid _:=l;have C:Hid _:=q;clear l q;have F:x<B:=(by have h1:=C.out;have h2:2^s≤2^64:=Nat.pow_le_pow_right dd om;unfold B;omega);go_wp2;go_end0;exact⟨rfl,(r.mono (Nat.le_refl _) om).set om om _,n.set F,by rw[num_store n om];exact H.out⟩
theorem down_step {d x s:Nat} (g:s≤64):(d+B*x) / 2^s=(d / 2^s+2^(64-s)*(x%2^s))+B*(x / 2^s):=by
 have f:0<2^s:=Nat.pow_pos dd;have b:B=2^s*2^(64-s):=(by rw[Nat.mul_comm,two_pow_split g];rfl);have j:=Nat.mod_add_div x (2^s);have e:d+B*x=d+2^s*(2^(64-s)*x):=(by rw[b,Nat.mul_assoc]);rw[e,Nat.add_mul_div_left _ _ f];have c:2^(64-s)*x=2^(64-s)*(x%2^s)+B*(x / 2^s):=by
  conv=>lhs;rw[←j,Nat.mul_add,←Nat.mul_assoc]
  rw[b,Nat.mul_comm (2^(64-s)) (2^s)]
 rw[c];generalize B*(x / 2^s)=u;omega
theorem down_lt {d x s:Nat} (k:s≤64) (j:d<B):d / 2^s+2^(64-s)*(x%2^s)<B:=by have b:=two_pow_split k;have f:d / 2^s<2^(64-s):=Nat.div_lt_of_lt_mul (by rw[Nat.mul_comm,b];exact j);have g:x%2^s<2^s:=Nat.mod_lt _ (Nat.pow_pos dd);have c:=Nat.mul_le_mul_left (2^(64-s)) (show x%2^s+1≤2^s from g);rw[Nat.mul_add,b,Nat.mul_one]at c;exact Nat.lt_of_lt_of_le (by rw[Nat.add_comm];exact Nat.add_lt_add_left f _) c
theorem shr_or {d x s:Nat} (f:s≤64) (c:d<B):
 bits .or .u64 ((d / 2^s:Nat):Int) ((2^(64-s)*(x%2^s):Nat):Int)=((d / 2^s+2^(64-s)*(x%2^s):Nat):Int):=by
 have j:=two_pow_split f;have g:d / 2^s<2^(64-s):=Nat.div_lt_of_lt_mul (by rw[Nat.mul_comm,j];exact c);have b:=down_lt (x:=x) f c;unfold B at b;rw[bits_or_u64_nat _ _ (Nat.lt_of_le_of_lt (Nat.le_add_right _ _) b) (Nat.lt_of_le_of_lt (Nat.le_add_left _ _) b),Nat.or_comm,←Nat.two_pow_add_eq_or_of_lt g,Nat.add_comm]
theorem shl_out {x s:Nat} (b:s≤64):lo (x*2^(64-s))=2^(64-s)*(x%2^s):=by
 have:=lo_shl (d:=x) (s:=64-s) om
 rwa [show 64-(64-s)=s by omega]at this
theorem num_head (w:World) (b o n:Nat):num B w b o (n+1)=word w b o+B*num B w b (o+1) n:=by unfold num;rw[_root_.Rad.vs_head];simp only[Nat.add_zero];congr 2;exact _root_.Rad.vs_congr fun i _=>by rw[show o+1+i=o+(i+1)by omega]
theorem moveDown_any (w:World) (I H:Option Addr) (l g n X f b W s:Nat) (D:Sl I l g n) (C:Sl H f b n) (P:Arr .u64 B w l g n) (Z:Free w l g n)
 (F:Arr .u64 B w f b n) (z:0<n→l≠f∨b+n≤g∨g+n≤b∨b=g) (y:n≤maxLen) (hs:s<64):
 Calls Tryz.prog 140 #[.slice I n X,.slice H n W,.int .u64 s] w fun e w'=>e=.returned (.tuple #[])∧Chg w w' l g (g+n)∧Arr .u64 B w' l g n∧
  num B w' l g n=num B w f b n / 2^s:=by
 have O:n≤9223372036854775807:=y;clear y;go_enter Tryz.func140,Tryz.ntmps140;go_wp2;go_loopw [6,7] (fun c i wr=>∃k d x:Nat,k+d=n∧x<B∧i=.int .i64 ((k:Int)-1)∧c=.int .u64 (lo (x*2^(64-s)):Nat)∧Chg w wr l (g+k) (g+n)∧Arr .u64 B wr l g n∧
  x%2^s=num B w f (b+k) d%2^s∧num B wr l (g+k) d=num B w f (b+k) d / 2^s)
  (fun _ i _=>(intOf i+1).toNat)
 case atStart=>exact⟨n,0,0,by omega,B_pos,by go_num,by simp[lo],Chg.refl _ _ _ _,P,by simp[num_zero],by simp[num_zero]⟩
 case round=>
  obtain⟨k,d,x,hk,da,rfl,rfl,p,r,q,o⟩:=hrel;by_cases Y:k=0
  ·subst Y;obtain rfl:d=n:=om;go_wp2;go_end0;exact⟨rfl,by simpa using p,r,by simpa using o⟩
  ·obtain⟨j,rfl⟩:∃j,k=j+1:=⟨k-1,by omega⟩;obtain rfl:=D om;obtain rfl:=C om;have N:((j+1:Nat):Int)-1=(j:Int):=om;rw[N];have G:=arr_cell r (i:=j) om;have t:wr.cell? ⟨f,b+j,none⟩=w.cell? ⟨f,b+j,none⟩:=p.cellAt (F.lt om) (by have:=z om;omega);have ea:wr.cell? ⟨f,b+j,none⟩=some (.int .u64 ((word w f (b+j):Nat):Int)):=t.trans (arr_cell F om);have aa:wr.frozen? ⟨l,g+j,none⟩=false:=(p.free Z P.lt) j om;have m:=arr_lt F (i:=j) om;have ba:(0:Int)≤64-(s:Int):=om;have ca:(64-(s:Int)).toNat=64-s:=om;have J:=shr_nat (word w f (b+j)) s;have L:=shl_nat (word w f (b+j)) (64-s);have M:bits .or .u64 ((word w f (b+j) / 2^s:Nat):Int) ((lo (x*2^(64-s)):Nat):Int)=((word w f (b+j) / 2^s+2^(64-s)*(num B w f (b+(j+1)) d%2^s):Nat):Int):=(by rw[shl_out om,q];exact shr_or om m);have R:=down_lt (x:=num B w f (b+(j+1)) d) (s:=s) om m;have E:=down_step (d:=word w f (b+j)) (x:=num B w f (b+(j+1)) d) (s:=s) om;have A:num B w f (b+j) (d+1)=word w f (b+j)+B*num B w f (b+(j+1)) d:=num_head _ _ _ _;rw[←A,←o]at E;have u:word w f (b+j)%2^s=num B w f (b+j) (d+1)%2^s:=(by rw[A,show B=2^s*2^(64-s)by rw[Nat.mul_comm,two_pow_split om];rfl,Nat.mul_assoc,Nat.add_mul_mod_self_left]);have HV:Hid _:=E;have U:Hid _:=u;have E1:Hid _:=J;have S:Hid _:=L;have T:Hid _:=M;have V:Hid _:=R;clear E u J L M R A q o t N;go_wp2;rw[E1.out,S.out,T.out];go_roundw
   case rel=>refine⟨j,d+1,_,by omega,m,by go_num,rfl,(p.mono om (Nat.le_refl _)).set om om _,r.set V.out,U.out,?_⟩;rw[HV.out,num_head,word_set_same (by rw[G];rfl),num_set_other om];rfl
   case measure=>simp[intOf]
def IsLen (x L:Nat):Prop:=(x=0∧L=0)∨(0<L∧2^(L-1)≤x∧x<2^L)
def len8 (j:Nat):Nat:=if j<1 then 0 else if j<2 then 1 else if j<4 then 2 else if j<8 then 3 else if j<16 then 4 else if j<32 then 5 else if j<64 then 6 else if j<128 then 7 else 8
theorem len8_is {j:Nat} (h:j<256):IsLen j (len8 j)∧len8 j≤8:=by
 unfold len8 IsLen
 repeat' split
 all_goals simp
 all_goals omega
theorem isLen_shift {x k L:Nat} (c:0<x / 2^k) (h:IsLen (x / 2^k) L):IsLen x (L+k):=by
 rcases h with⟨h,_⟩|⟨h1,h2,h3⟩
 ·omega
 ·right;have b:0<2^k:=Nat.pow_pos dd;refine⟨by omega,?_,?_⟩
  ·rw[show L+k-1=(L-1)+k by omega,Nat.pow_add];exact Nat.le_trans (Nat.mul_le_mul_right _ h2) (Nat.div_mul_le_self x _)
  ·rw[Nat.pow_add];exact Nat.lt_mul_of_div_lt h3 b
def lastOf (f:Func):Code:=match f.body with|some (.seq _ (.seq _ (.seq _ (.seq _ (.seq r _)))))=>r|_=> .skip
def restOf (f:Func):Code:=match f.body with|some (.seq _ (.seq _ (.seq _ (.seq _ c))))=>c|_=> .skip
def opsIn (c:Code):List Oper:=match c with| .region _ ops _=>ops.toList|_=>[]
def strIn (o:Oper):ByteArray:=match o.op with| .index _ (.const (.string s)) _=>s|_=>ByteArray.empty
def opAt (f:Func) (i:Nat):Oper:=(opsIn (lastOf f)).getD i default
theorem tab_ok:(List.range 256).all (fun j=>(strIn (opAt Tryz.f148 3))[j]? ==some (UInt8.ofNat (len8 j)))=true:=by kernel_rfl
theorem ops_eq:opsIn (lastOf Tryz.f148)=[opAt Tryz.f148 0,opAt Tryz.f148 1,opAt Tryz.f148 2,opAt Tryz.f148 3,opAt Tryz.f148 4,opAt Tryz.f148 5,opAt Tryz.f148 6]:=by kernel_rfl
theorem last_eq:lastOf Tryz.f148=.region 10 (opsIn (lastOf Tryz.f148)).toArray false:=by kernel_rfl
theorem rest_eq:restOf Tryz.f148=.seq (lastOf Tryz.f148) .ret:=by kernel_rfl
theorem op_0:(opAt Tryz.f148 0).op=.move (.tmp 2)∧(opAt Tryz.f148 0).dst=some 19∧(opAt Tryz.f148 0).guard=none:=⟨by kernel_rfl,by kernel_rfl,by kernel_rfl⟩
theorem op_1:(opAt Tryz.f148 1).op=.move (.tmp 0)∧(opAt Tryz.f148 1).dst=some 20∧(opAt Tryz.f148 1).guard=none:=⟨by kernel_rfl,by kernel_rfl,by kernel_rfl⟩
theorem op_2:(opAt Tryz.f148 2).op=.convert 98 5 (.tmp 20)∧(opAt Tryz.f148 2).dst=some 21∧(opAt Tryz.f148 2).guard=none:=⟨by kernel_rfl,by kernel_rfl,by kernel_rfl⟩
theorem op_3:(opAt Tryz.f148 3).op=.index 9 (.const (.string (strIn (opAt Tryz.f148 3)))) (.tmp 21)∧(opAt Tryz.f148 3).dst=some 22∧(opAt Tryz.f148 3).guard=none:=⟨by kernel_rfl,by kernel_rfl,by kernel_rfl⟩
theorem op_4:(opAt Tryz.f148 4).op=.convert 5 3 (.tmp 22)∧(opAt Tryz.f148 4).dst=some 23∧(opAt Tryz.f148 4).guard=none:=⟨by kernel_rfl,by kernel_rfl,by kernel_rfl⟩
theorem op_5:(opAt Tryz.f148 5).op=.binOp .add 3 (.tmp 19) (.tmp 23) 3∧(opAt Tryz.f148 5).dst=some 24∧(opAt Tryz.f148 5).guard=none:=⟨by kernel_rfl,by kernel_rfl,by kernel_rfl⟩
theorem op_6:(opAt Tryz.f148 6).op=.assign (.tmp 24)∧(opAt Tryz.f148 6).dst=some 2∧(opAt Tryz.f148 6).guard=none:=⟨by kernel_rfl,by kernel_rfl,by kernel_rfl⟩
theorem wpl_val {P:Program} {w:World} {c:Array Oper} {rest:List Oper} {o:Oper} {a:Act} {Q:Exit→Act→World→Prop} {d:Nat} (v:Value) (j:o.guard=none) (g:o.dst=some d)
 (b:(execOp a.eval o).run P w=.ok (.value v) w) (h:wpList P c Q rest (a.put (some d) v) w):wpList P c Q (o::rest) a w:=by
 refine wpList_plain j fun K f=>?_;unfold Oper.wp;rw[b,Oper.upon_value,g];exact f _ _ h
theorem val_run {P:Program} {w:World} {s:Sem Value} {v:Value} (h:s.run P w=.ok v w):Sem.run P (do pure (.value (←s)):Sem Next) w=.ok (Next.value v) w:=by simp[h,Result.andThen]
theorem index_runs {P:Program} {w:World} {a:Act} {o:Oper} {t:TypeId} {c v u:Value} {i:Operand} (d:o.op=.index t (.const c) i) (hi:a.eval i=u)
 (b:(Instr.index t c u).run P w=.ok v w):(execOp a.eval o).run P w=.ok (.value v) w:=by
 unfold execOp;rw[d];have:Instr.index t (a.eval (.const c)) (a.eval i)=Instr.index t c u:=(by rw[hi];rfl)
 dsimp only
 rw[this];exact val_run b
theorem conv_runs {P:Program} {w:World} {a:Act} {o:Oper} {s t:TypeId} {v u:Value} {i:Operand} (c:o.op=.convert s t i) (hi:a.eval i=u)
 (b:(convert s t u).run P w=.ok v w):(execOp a.eval o).run P w=.ok (.value v) w:=by
 unfold execOp;rw[c]
 dsimp only
 rw[hi];exact val_run b
theorem move_runs {P:Program} {w:World} {a:Act} {o:Oper} {u:Value} {i:Operand} (b:o.op=.move i∨o.op=.assign i) (hi:a.eval i=u):(execOp a.eval o).run P w=.ok (.value u) w:=by unfold execOp;rcases b with b|b <;> rw[b] <;> dsimp only <;> rw[hi] <;> rfl
theorem tail_abs {D:Array Oper} {r s t u x z A:Oper} {T:ByteArray} (V:∀y,y<256→T[y]? =some (UInt8.ofNat (len8 y)))
 (E:r.op=.move (.tmp 2)∧r.dst=some 19∧r.guard=none) (F:s.op=.move (.tmp 0)∧s.dst=some 20∧s.guard=none)
 (G:t.op=.convert 98 5 (.tmp 20)∧t.dst=some 21∧t.guard=none) (H:u.op=.index 9 (.const (.string T)) (.tmp 21)∧u.dst=some 22∧u.guard=none)
 (I:x.op=.convert 5 3 (.tmp 22)∧x.dst=some 23∧x.guard=none) (J:z.op=.binOp .add 3 (.tmp 19) (.tmp 23) 3∧z.dst=some 24∧z.guard=none)
 (L:A.op=.assign (.tmp 24)∧A.dst=some 2∧A.guard=none)
 (a:Act) (w:World) (n y:Nat) (X:a.tmps.size=25) (S:a.eval (.tmp 2)=.int .i64 (n:Int)) (R:a.eval (.tmp 0)=.int .u64 (y:Int)) (M:y<256) (hn:n≤56)
 {Q:Exit→Act→World→Prop} (U:∀B:Act,B.eval (.tmp 2)=.int .i64 ((n+len8 y:Nat):Int)→B.defers=a.defers→Q .normal B w):
 wpList Tryz.prog D Q [r,s,t,u,x,z,A] a w:=by
 have l8:=(len8_is M).2;have C:=V y M;have W:(UInt8.ofNat (len8 y)).toNat=len8 y:=(by simp;omega);refine wpl_val (.int .i64 (n:Int)) E.2.2 E.2.1 (move_runs (.inl E.1) S) ?_;obtain⟨k,b⟩:∃k,k=a.put (some 19) (.int .i64 (n:Int)):=⟨_,rfl⟩;have Y:k.tmps.size=25:=(by rw[b];simp[Act.put,X]);have d1:k.defers=a.defers:=(by rw[b];rfl);have x1:k.eval (.tmp 19)=.int .i64 (n:Int):=(by rw[b];exact eval_put_same om);have y1:k.eval (.tmp 0)=.int .u64 (y:Int):=(by rw[b,eval_put_other dd];exact R);rw[←b];clear b;refine wpl_val (.int .u64 (y:Int)) F.2.2 F.2.1 (move_runs (.inl F.1) y1) ?_;obtain⟨l,c⟩:∃l,l=k.put (some 20) (.int .u64 (y:Int)):=⟨_,rfl⟩;have Z:l.tmps.size=25:=(by rw[c];simp[Act.put,Y]);have d2:l.defers=a.defers:=(by rw[c];exact d1);have x2:l.eval (.tmp 19)=.int .i64 (n:Int):=(by rw[c,eval_put_other dd];exact x1);have y2:l.eval (.tmp 20)=.int .u64 (y:Int):=(by rw[c];exact eval_put_same om);rw[←c];clear c;refine wpl_val (.int .u8 (y:Int)) G.2.2 G.2.1 (conv_runs G.1 y2 (by simp[go_sem];rw[IntKind.wrap_u8];omega)) ?_;obtain⟨m,d⟩:∃m,m=l.put (some 21) (.int .u8 (y:Int)):=⟨_,rfl⟩;have s3:m.tmps.size=25:=(by rw[d];simp[Act.put,Z]);have d3:m.defers=a.defers:=(by rw[d];exact d2);have x3:m.eval (.tmp 19)=.int .i64 (n:Int):=(by rw[d,eval_put_other dd];exact x2);have y3:m.eval (.tmp 21)=.int .u8 (y:Int):=(by rw[d];exact eval_put_same om);rw[←d];clear d;refine wpl_val (.int .u8 ((len8 y:Nat):Int)) H.2.2 H.2.1 (index_runs H.1 y3 (by simp[Instr.index,run_underlying Tryz.underlying9,asIntOf,C,W])) ?_;obtain⟨o,f⟩:∃o,o=m.put (some 22) (.int .u8 ((len8 y:Nat):Int)):=⟨_,rfl⟩;have s4:o.tmps.size=25:=(by rw[f];simp[Act.put,s3]);have N:o.defers=a.defers:=(by rw[f];exact d3);have x4:o.eval (.tmp 19)=.int .i64 (n:Int):=(by rw[f,eval_put_other dd];exact x3);have y4:o.eval (.tmp 22)=.int .u8 ((len8 y:Nat):Int):=(by rw[f];exact eval_put_same om);rw[←f];clear f;refine wpl_val (.int .i64 ((len8 y:Nat):Int)) I.2.2 I.2.1 (conv_runs I.1 y4 (by simp[go_sem];rw[IntKind.wrap_i64];omega)) ?_;obtain⟨p,g⟩:∃p,p=o.put (some 23) (.int .i64 ((len8 y:Nat):Int)):=⟨_,rfl⟩;have s5:p.tmps.size=25:=(by rw[g];simp[Act.put,s4]);have O:p.defers=a.defers:=(by rw[g];exact N);have x5:p.eval (.tmp 19)=.int .i64 (n:Int):=(by rw[g,eval_put_other dd];exact x4);have y5:p.eval (.tmp 23)=.int .i64 ((len8 y:Nat):Int):=(by rw[g];exact eval_put_same om);rw[←g];clear g;refine wpl_val (.int .i64 ((n+len8 y:Nat):Int)) J.2.2 J.2.1 (by
  unfold execOp;rw[J.1]
  dsimp only
  rw[x5,y5];simp[go_sem];rw[IntKind.wrap_i64];omega) ?_
 obtain⟨q,j⟩:∃q,q=p.put (some 24) (.int .i64 ((n+len8 y:Nat):Int)):=⟨_,rfl⟩;have s6:q.tmps.size=25:=(by rw[j];simp[Act.put,s5]);have P:q.defers=a.defers:=(by rw[j];exact O);have y6:q.eval (.tmp 24)=.int .i64 ((n+len8 y:Nat):Int):=(by rw[j];exact eval_put_same om);rw[←j];clear j;refine wpl_val (.int .i64 ((n+len8 y:Nat):Int)) L.2.2 L.2.1 (move_runs (.inr L.1) y6) ?_;exact wpList_nil (U _ (eval_put_same om) P)
theorem len_tail (a:Act) (w:World) (n y:Nat) (m:a.tmps.size=25) (f:a.eval (.tmp 2)=.int .i64 (n:Int)) (d:a.eval (.tmp 0)=.int .u64 (y:Int)) (c:y<256) (l:n≤56)
 {Q:Exit→Act→World→Prop} (k:∀b:Act,b.eval (.tmp 2)=.int .i64 ((n+len8 y:Nat):Int)→b.defers=a.defers→Q .ret b w):(restOf Tryz.f148).wp Tryz.prog Q a w:=by
 rw[rest_eq];refine wp_seq ?_;rw[last_eq,ops_eq];refine wp_region_lit (tail_abs (T:=strIn (opAt Tryz.f148 3)) (fun y c=>?_) op_0 op_1 op_2 op_3 op_4 op_5 op_6 a w n y m f d c l fun b g j=>?_)
 ·have:=List.all_eq_true.1 tab_ok y (List.mem_range.2 c);exact eq_of_beq this
 ·exact wp_ret (k _ g j)
def q1 (f:Func):Code:=match f.body with|some (.seq a (.seq _ (.seq _ (.seq _ _))))=>a|_=> .skip
def q2 (f:Func):Code:=match f.body with|some (.seq _ (.seq a (.seq _ (.seq _ _))))=>a|_=> .skip
def q3 (f:Func):Code:=match f.body with|some (.seq _ (.seq _ (.seq a (.seq _ _))))=>a|_=> .skip
def q4 (f:Func):Code:=match f.body with|some (.seq _ (.seq _ (.seq _ (.seq a _))))=>a|_=> .skip
theorem body148:Tryz.f148.body=some (.seq (q1 Tryz.f148) (.seq (q2 Tryz.f148) (.seq (q3 Tryz.f148) (.seq (q4 Tryz.f148) (restOf Tryz.f148))))):=by kernel_rfl
theorem len64_any (x:Nat) (O:x<B) (w:World):Calls Tryz.prog 148 #[.int .u64 x] w fun e w'=>∃L:Nat,e=.returned (.int .i64 L)∧w'=w∧IsLen x L∧L≤64:=by
 unfold B at O;refine calls_of_wp Tryz.func148 body148 ?_;obtain⟨Q,H⟩:∃Q:Exit→Act→World→Prop,Q=(bodyPost Tryz.prog Tryz.f148 fun e w'=>∃L:Nat,e=.returned (.int .i64 L)∧w'=w∧IsLen x L∧L≤64):=⟨_,rfl⟩;have I:∀(n y:Nat),y<256→n≤56→IsLen x (n+len8 y)→n+len8 y≤64→∀l:Act,l.tmps.size=25→l.eval (.tmp 2)=.int .i64 (n:Int)→l.eval (.tmp 0)=.int .u64 (y:Int)→l.defers=[]→
  (restOf Tryz.f148).wp Tryz.prog Q l w:=by
  rw[H];intro n y c Z g G l hs V U Y;refine len_tail l w n y hs V U c Z fun a2 W X=>?_;exact bodyPost_ret (v:= .int .i64 ((n+len8 y:Nat):Int)) (by rw[results_tmp (t:=2) kfl];exact congrArg (fun v=>Result.ok v w) W) (X.trans Y) ⟨_,rfl,rfl,g,G⟩
 rw[←H];clear H;obtain⟨R,N⟩:∃R,R=restOf Tryz.f148:=⟨_,rfl⟩;rw[←N]at I⊢;clear N;simp only[Tryz.ntmps148,List.size_toArray,List.length_cons,List.length_nil,Nat.reduceAdd,Nat.reduceSub,Array.replicate_succ,
  Array.replicate_zero,List.push_toArray,List.append_toArray,List.nil_append,List.cons_append]
 obtain⟨C,k⟩:∃C,Hid (C=Code.seq (q4 Tryz.f148) R):=⟨_,rfl⟩;rw[←k.out];obtain⟨A,q⟩:∃A,Hid (A=Code.seq (q3 Tryz.f148) C):=⟨_,rfl⟩;rw[←q.out];obtain⟨R2,u⟩:∃R2,Hid (R2=Code.seq (q2 Tryz.f148) A):=⟨_,rfl⟩;rw[←u.out];refine wp_seq ?_
 conv=>arg 2;whnf
 go_wp2;rw[u.out];refine wp_seq ?_
 conv=>arg 2;whnf
 have f:Hid _:=I;clear I;have aa:(x:Int)<18446744073709551616:=om;clear O;by_cases c1:(4294967296:Int)≤x
 ·obtain⟨y1,M⟩:∃y1:Nat,y1=x / 2^32:=⟨_,rfl⟩;have T:(x:Int) / 4294967296=(y1:Int):=om;have t1:IntKind.u64.wrap (y1:Int)=(y1:Int):=(by rw[IntKind.wrap_u64];omega);have b1:(y1:Int)<4294967296:=om;have z:∀L,IsLen y1 L→IsLen x (L+32):=fun L h=>isLen_shift om (M▸h);clear M;go_wp2
  try rw[T]
  rw[q.out];refine wp_seq ?_
  conv=>arg 2;whnf
  by_cases S:(65536:Int)≤y1
  ·obtain⟨d,r⟩:∃d:Nat,d=y1 / 2^16:=⟨_,rfl⟩;have F:(y1:Int) / 65536=(d:Int):=om;have t2:IntKind.u64.wrap (d:Int)=(d:Int):=(by rw[IntKind.wrap_u64];omega);have P:(d:Int)<65536:=om;have s:∀L,IsLen d L→IsLen y1 (L+16):=fun L h=>isLen_shift om (r▸h);clear r;go_wp2
   try rw[F]
   rw[k.out];refine wp_seq ?_
   conv=>arg 2;whnf
   by_cases E:(256:Int)≤d
   ·obtain⟨b,j⟩:∃b:Nat,b=d / 2^8:=⟨_,rfl⟩;have m:(d:Int) / 256=(b:Int):=om;have J:IntKind.u64.wrap (b:Int)=(b:Int):=(by rw[IntKind.wrap_u64];omega);have D:(b:Int)<256:=om;have o:∀L,IsLen b L→IsLen d (L+8):=fun L h=>isLen_shift om (j▸h);clear j;go_wp2
    try rw[m]
    have c:b<256:=om;have g:=(z _ (s _ (o _ (len8_is c).1)));have p:=(len8_is c).2;refine f.out 56 b c dd (by rw[Nat.add_comm];exact g) om _ rfl rfl rfl rfl
   ·go_wp2;have c:d<256:=om;have g:=(z _ (s _ (len8_is c).1));have p:=(len8_is c).2;refine f.out 48 d c dd (by rw[Nat.add_comm];exact g) om _ rfl rfl rfl rfl
  ·go_wp2;rw[k.out];refine wp_seq ?_
   conv=>arg 2;whnf
   by_cases E:(256:Int)≤y1
   ·obtain⟨b,j⟩:∃b:Nat,b=y1 / 2^8:=⟨_,rfl⟩;have m:(y1:Int) / 256=(b:Int):=om;have J:IntKind.u64.wrap (b:Int)=(b:Int):=(by rw[IntKind.wrap_u64];omega);have D:(b:Int)<256:=om;have o:∀L,IsLen b L→IsLen y1 (L+8):=fun L h=>isLen_shift om (j▸h);clear j;go_wp2
    try rw[m]
    have c:b<256:=om;have g:=(z _ (o _ (len8_is c).1));have p:=(len8_is c).2;refine f.out 40 b c dd (by rw[Nat.add_comm];exact g) om _ rfl rfl rfl rfl
   ·go_wp2;have c:y1<256:=om;have g:=(z _ (len8_is c).1);have p:=(len8_is c).2;refine f.out 32 y1 c dd (by rw[Nat.add_comm];exact g) om _ rfl rfl rfl rfl
 ·go_wp2;rw[q.out];refine wp_seq ?_
  conv=>arg 2;whnf
  by_cases S:(65536:Int)≤x
  ·obtain⟨d,r⟩:∃d:Nat,d=x / 2^16:=⟨_,rfl⟩;have F:(x:Int) / 65536=(d:Int):=om;have t2:IntKind.u64.wrap (d:Int)=(d:Int):=(by rw[IntKind.wrap_u64];omega);have P:(d:Int)<65536:=om;have s:∀L,IsLen d L→IsLen x (L+16):=fun L h=>isLen_shift om (r▸h);clear r;go_wp2
   try rw[F]
   rw[k.out];refine wp_seq ?_
   conv=>arg 2;whnf
   by_cases E:(256:Int)≤d
   ·obtain⟨b,j⟩:∃b:Nat,b=d / 2^8:=⟨_,rfl⟩;have m:(d:Int) / 256=(b:Int):=om;have J:IntKind.u64.wrap (b:Int)=(b:Int):=(by rw[IntKind.wrap_u64];omega);have D:(b:Int)<256:=om;have o:∀L,IsLen b L→IsLen d (L+8):=fun L h=>isLen_shift om (j▸h);clear j;go_wp2
    try rw[m]
    have c:b<256:=om;have g:=(s _ (o _ (len8_is c).1));have p:=(len8_is c).2;refine f.out 24 b c dd (by rw[Nat.add_comm];exact g) om _ rfl rfl rfl rfl
   ·go_wp2;have c:d<256:=om;have g:=(s _ (len8_is c).1);have p:=(len8_is c).2;refine f.out 16 d c dd (by rw[Nat.add_comm];exact g) om _ rfl rfl rfl rfl
  ·go_wp2;rw[k.out];refine wp_seq ?_
   conv=>arg 2;whnf
   by_cases E:(256:Int)≤x
   ·obtain⟨b,j⟩:∃b:Nat,b=x / 2^8:=⟨_,rfl⟩;have m:(x:Int) / 256=(b:Int):=om;have J:IntKind.u64.wrap (b:Int)=(b:Int):=(by rw[IntKind.wrap_u64];omega);have D:(b:Int)<256:=om;have o:∀L,IsLen b L→IsLen x (L+8):=fun L h=>isLen_shift om (j▸h);clear j;go_wp2
    try rw[m]
    have c:b<256:=om;have g:=(o _ (len8_is c).1);have p:=(len8_is c).2;refine f.out 8 b c dd (by rw[Nat.add_comm];exact g) om _ rfl rfl rfl rfl
   ·go_wp2;have c:x<256:=om;have g:=(len8_is c).1;have p:=(len8_is c).2;refine f.out 0 x c dd (by rw[Nat.add_comm];exact g) om _ rfl rfl rfl rfl
theorem leadingZeros_any (x:Nat) (d:x<B) (w:World):Calls Tryz.prog 135 #[.int .u64 x] w fun e w'=>∃L:Nat,e=.returned (.int .i64 ((64-L:Nat):Int))∧w'=w∧IsLen x L∧L≤64:=by go_enter Tryz.func135,Tryz.ntmps135;go_wp2_with (go_at_call 148;refine(len64_any x d _).mono ?_;rintro e w' ⟨L,rfl,rfl,c,b⟩);have f:IntKind.i64.wrap (64-(L:Int))=((64-L:Nat):Int):=(by rw[IntKind.wrap_i64];omega);go_wp2;go_ret;exact⟨L,ret_int om,rfl,c,b⟩
theorem len_any (x:Nat) (d:x<B) (w:World):Calls Tryz.prog 117 #[.int .u64 x] w fun e w'=>∃L:Nat,e=.returned (.int .i64 L)∧w'=w∧IsLen x L∧L≤64:=by go_enter Tryz.func117,Tryz.ntmps117;go_wp2_with (go_at_call 148;refine(len64_any x d _).mono ?_;rintro e w' ⟨L,rfl,rfl,c,b⟩);go_ret;exact⟨L,rfl,rfl,c,b⟩
end Go.Proofs.YtjlkplidpdhgbaaGreatDoor
namespace Rad
structure Guess (h y1 y0 u d q r:Nat):Prop where
 sum:q*y1+r=u
 ge:(u*h+d) / (y1*h+y0)≤q
 le:q≤h+1
theorem guess_start {h y1 y0 u d:Nat} (o:h≤2*y1) (f:y0<h) (l:d<h) (n:u<y1*h+y0):Guess h y1 y0 u d (u / y1) (u%y1):=by
 have b:0<y1:=om;have e:u / y1*y1+u%y1=u:=(by rw[Nat.mul_comm];exact Nat.div_add_mod u y1);have m:=Nat.mod_lt u b;refine⟨e,?_,?_⟩
 ·refine Nat.le_of_lt_succ ((Nat.div_lt_iff_lt_mul (by have:=Nat.mul_pos b (show 0<h by omega);omega)).2 ?_);have c:u+1≤(u / y1+1)*y1:=(by rw[Nat.add_mul];omega);have g:=Nat.mul_le_mul_right h c;have j:(u / y1+1)*y1*h≤(u / y1+1)*(y1*h+y0):=(by rw[Nat.mul_assoc,Nat.mul_add];omega);have k:(u+1)*h=u*h+h:=(by rw[Nat.add_mul];omega);show u*h+d<(u / y1).succ*(y1*h+y0);have:(u / y1).succ=u / y1+1:=rfl;rw[this];omega
 ·refine Nat.le_of_lt_succ ((Nat.div_lt_iff_lt_mul b).2 ?_);show u<(h+1).succ*y1;have c:(h+1).succ*y1=y1*h+2*y1:=(by rw[show(h+1).succ=h+2 from rfl,Nat.add_mul,Nat.mul_comm h y1]);omega
theorem guess_lt {h y1 y0 u d:Nat} (f:d<h) (c:u<y1*h+y0):(u*h+d) / (y1*h+y0)<h:=by refine(Nat.div_lt_iff_lt_mul om).2 ?_;have b:=Nat.mul_le_mul_right h (show u+1≤y1*h+y0 from c);rw[Nat.add_mul,Nat.mul_comm (y1*h+y0) h]at b;omega
theorem Guess.step {h y1 y0 u d q r:Nat} (g:Guess h y1 y0 u d q r) (f:d<h) (k:u<y1*h+y0) (b:h≤q∨h*r+d<q*y0):
 0<q∧Guess h y1 y0 u d (q-1) (r+y1):=by
 have c:(u*h+d) / (y1*h+y0)<q:=by
  rcases b with b|b
  ·exact Nat.lt_of_lt_of_le (guess_lt f k) b
  ·refine(Nat.div_lt_iff_lt_mul om).2 ?_;have e:u*h=q*y1*h+h*r:=(by rw[←g.sum,Nat.add_mul,Nat.mul_comm r h]);rw[e,Nat.mul_add,←Nat.mul_assoc];omega
 have m:0<q:=Nat.lt_of_le_of_lt (Nat.zero_le _) c;obtain⟨p,rfl⟩:∃p,q=p+1:=⟨q-1,by omega⟩;have j:=g.sum;have l:=g.le;rw[Nat.add_mul,Nat.one_mul]at j;refine⟨by omega,?_,by omega,by omega⟩;rw[Nat.add_sub_cancel];omega
theorem Guess.done {h y1 y0 u d q r:Nat} (g:Guess h y1 y0 u d q r) (b:0<y1*h+y0) (c:q*y0≤h*r+d):q=(u*h+d) / (y1*h+y0):=by refine Nat.le_antisymm ?_ g.ge;refine(Nat.le_div_iff_mul_le b).2 ?_;have e:u*h=q*y1*h+h*r:=(by rw[←g.sum,Nat.add_mul,Nat.mul_comm r h]);rw[e,Nat.mul_add,←Nat.mul_assoc];omega
theorem Guess.over {h y1 y0 u d q r:Nat} (g:Guess h y1 y0 u d q r) (c:0<y1*h+y0) (b:y0<h) (f:q≤h) (j:h≤r):q=(u*h+d) / (y1*h+y0):=by refine g.done c ?_;have k:=Nat.mul_le_mul f (Nat.le_of_lt b);have l:=Nat.mul_le_mul_left h j;omega
theorem two_digits {h u d1 d0 y:Nat}:
 (u*(h*h)+d1*h+d0) / y=(u*h+d1) / y*h+((u*h+d1)%y*h+d0) / y∧(u*(h*h)+d1*h+d0)%y=((u*h+d1)%y*h+d0)%y:=by
 have e:u*(h*h)+d1*h+d0=((u*h+d1)%y*h+d0)+y*((u*h+d1) / y*h):=(by have c:(u*h+d1)*h=((u*h+d1)%y+y*((u*h+d1) / y))*h:=(by rw[Nat.mod_add_div]);rw[Nat.add_mul,Nat.add_mul,Nat.mul_assoc,Nat.mul_assoc]at c;omega);rcases Nat.eq_zero_or_pos y with b|b
 ·subst b;simp only[Nat.div_zero,Nat.mod_zero,Nat.zero_mul,Nat.zero_add,Nat.add_zero,true_and];rw[Nat.add_mul,Nat.mul_assoc]
 ·refine⟨?_,?_⟩
  ·rw[e,Nat.add_mul_div_left _ _ b,Nat.add_comm]
  ·rw[e,Nat.add_mul_mod_self_left]
end Rad
