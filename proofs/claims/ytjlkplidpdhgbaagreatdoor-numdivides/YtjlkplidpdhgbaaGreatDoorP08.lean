/- A part of the proof: W27, W19, W11, W28. -/
import Derived.Test.YtjlkplidpdhgbaaGreatDoorP00
import Derived.Test.YtjlkplidpdhgbaaGreatDoorP07
import Derived.Test.YtjlkplidpdhgbaaGreatDoorP04
import Derived.Deep.Draws
import Derived.Test.YtjlkplidpdhgbaaGreatDoorP05
import Derived.Test.YtjlkplidpdhgbaaGreatDoorP02
set_option linter.all false
set_option maxRecDepth 10000
set_option maxHeartbeats 2000000
namespace Go.Proofs.YtjlkplidpdhgbaaGreatDoor
open Go Go.Proofs Go.RowKit Go.Rad
theorem rows_step {β Bj lo P b Qh U:Nat} (h:(lo+Bj*P)+Bj*β*(Qh*b)=U):(lo+Bj*(P%b))+Bj*((P / b+β*Qh)*b)=U:=by have c:=Nat.mod_add_div P b;have d:Bj*P=Bj*(P%b)+Bj*(b*(P / b)):=(by rw[←Nat.mul_add,c]);rw[Nat.add_mul,Nat.mul_add,Nat.mul_comm (P / b) b];have f:Bj*β*(Qh*b)=Bj*(β*Qh*b):=(by simp only[Nat.mul_assoc]);omega
theorem rows_right {P b d c n x:Nat} (j:0<b) (h:x+b*d=P+n*c) (k:c=0) (f:P / b≤d) (l:d≤P / b+1):d=P / b∧x=P%b:=by subst k;rw[Nat.mul_zero,Nat.add_zero]at h;have e:P / b=d:=(by refine Nat.le_antisymm f ?_;refine(Nat.le_div_iff_mul_le j).2 ?_;rw[Nat.mul_comm];omega);have g:=Nat.mod_add_div P b;rw[e]at g⊢;exact⟨rfl,by omega⟩
theorem rows_back {P b d c f n x y:Nat} (l:0<b) (h:x+b*d=P+n*c) (u:c≤1) (p:c≠0) (z:x<n) (A:y<n) (r:P / b≤d) (s:d≤P / b+1) (o:b≤n) (t:y+n*f=x+b) (q:f≤1):
 d=P / b+1∧y=P%b:=by
 have g:c=1:=om;subst g;rw[Nat.mul_one]at h;have e:d=P / b+1:=by
  rcases Nat.lt_or_ge d (P / b+1)with j|j
  ·have k:d≤P / b:=om;have m:=(Nat.le_div_iff_mul_le l).1 k;rw[Nat.mul_comm]at m;omega
  ·omega
 have j:=Nat.mod_add_div P b;have k:=Nat.mod_lt P l;subst e;rw[Nat.mul_add,Nat.mul_one]at h;refine⟨rfl,?_⟩;have:f=0∨f=1:=om;rcases this with rfl|rfl <;> omega
theorem num_head' (β:Nat) (w:World) (b o n:Nat):num β w b o (n+1)=word w b o+β*num β w b (o+1) n:=by rw[Nat.add_comm n 1,za5,Nat.pow_one];congr 1;rw[zaj,zao,Nat.zero_add,Nat.pow_zero,Nat.one_mul,Nat.add_zero]
theorem zfp {β:Nat} {w wr f:World} {d c k j m b P U D:Nat} (x:Chg w wr d c (c+k)) (s:Arr .u64 β wr d c k) (J:j+(m+3)≤k) (q:Chg wr f d (c+j) (c+j+(m+3)))
 (u:Arr .u64 β f d (c+j) (m+3)) (H:num β f d (c+j) (m+3)=P%b) (C:D=P / b) (r:D<β) (E:0<b) (F:b<β^(m+2))
 (z:num β wr d c j+β^j*(P%b)+β^j*((P / b+β*num β wr d (c+(j+(m+3))) (k-(j+(m+3))))*b)=U):
 Chg w (f.setCell ⟨d,c+j+(m+2),none⟩ (.int .u64 (D:Int))) d c (c+k)∧Arr .u64 β (f.setCell ⟨d,c+j+(m+2),none⟩ (.int .u64 (D:Int))) d c k∧
 num β (f.setCell ⟨d,c+j+(m+2),none⟩ (.int .u64 (D:Int))) d c (j+(m+2))+β^j*(num β (f.setCell ⟨d,c+j+(m+2),none⟩ (.int .u64 (D:Int))) d (c+(j+(m+2))) (k-(j+(m+2)))*b)=U∧
 num β (f.setCell ⟨d,c+j+(m+2),none⟩ (.int .u64 (D:Int))) d (c+j) (m+2)<b:=by
 have y:P%b<b:=Nat.mod_lt P E;have p:num β f d (c+j) (m+2)=P%b:=by
  have n:num β f d (c+j) (m+2)+β^(m+2)*word f d (c+j+(m+2))=P%b:=(by rw[←zaj];exact H);rcases Nat.eq_zero_or_pos (word f d (c+j+(m+2)))with o|o
  ·rw[o,Nat.mul_zero]at n;exact n
  ·have I:=Nat.le_mul_of_pos_right (β^(m+2)) o;omega
 have B:Arr .u64 β f d c k:=fun i hi=>by
  by_cases n:i<j∨j+(m+3)≤i
  ·have e:=q.cell (c+i) om;rw[zab e,e];exact s i hi
  ·obtain⟨t,rfl⟩:=Nat.exists_eq_add_of_le (show j≤i by omega);have:=u t om
   rwa [Nat.add_assoc]at this
 have A:Chg w f d c (c+k):=x.trans (q.mono om om);have g:c+j+(m+2)=c+(j+(m+2)):=om;have l:num β (f.setCell ⟨d,c+j+(m+2),none⟩ (.int .u64 (D:Int))) d (c+j) (m+2)=P%b:=(by rw[zan (.inr (.inr om)),p]);refine⟨A.set om om _,?_,?_,by rw[l];exact y⟩
 ·rw[g];exact B.set r
 ·have n:num β (f.setCell ⟨d,c+j+(m+2),none⟩ (.int .u64 (D:Int))) d c (j+(m+2))=num β wr d c j+β^j*(P%b):=(by rw[za5,l,zan (.inr (.inr om)),zaz (fun i hi=>zab (q.cell (c+i) om))]);have o:num β (f.setCell ⟨d,c+j+(m+2),none⟩ (.int .u64 (D:Int))) d (c+(j+(m+2))) (k-(j+(m+2)))=D+β*num β wr d (c+(j+(m+3))) (k-(j+(m+3))):=(by have G:(f.cell? ⟨d,c+j+(m+2),none⟩).isSome=true:=(by have:=(B (j+(m+2)) om).1;rw[g,this];rfl);rw[show k-(j+(m+2))=k-(j+(m+3))+1 by omega,num_head',←g,zbq G,zan (.inr (.inl om))];congr 2;refine zaz (fun i hi=>?_);have e:=q.cell (c+(j+(m+2))+1+i) om;rw[show c+(j+(m+3))+i=c+(j+(m+2))+1+i by omega,g];exact zab e);rw[n,o,C];exact z
theorem divRows_any (w:World) (g f o Y r t cb m:Nat) (hm:o≤35184372088832) (hn:m+3≤o) (xb:o≤Y) (mb:Y≤maxLen) (hu:Arr .u64 B w g f o) (hf:Free w g f o) (hb:Arr .u64 B w r t (m+2)) (nb:g≠r)
 (fb:9223372036854775808≤word w r (t+(m+1))) (ia:num B w g (f+(o-(m+2))) (m+2)<num B w r t (m+2)):
 Calls Tryz.prog 139 #[.slice (some ⟨g,f,none⟩) o Y,.slice (some ⟨r,t,none⟩) (m+2:Nat) cb] w fun e w'=>∃kq kr:Nat,
  e=.returned (.tuple #[.slice (some ⟨g,f+(m+2),none⟩) kq kq,.slice (some ⟨g,f,none⟩) kr kr])∧kq≤o-(m+2)∧kr≤m+2∧Chg w w' g f (f+o)∧Arr .u64 B w' g f o∧
  Mag w' (.slice (some ⟨g,f+(m+2),none⟩) kq kq) (num B w g f o / num B w r t (m+2)) kq∧Mag w' (.slice (some ⟨g,f,none⟩) kr kr) (num B w g f o%num B w r t (m+2)) kr:=by
 have sb:Y≤9223372036854775807:=mb;obtain⟨b,R⟩:∃b,num B w r t (m+2)=b:=⟨_,rfl⟩;obtain⟨U,ea⟩:∃U,num B w g f o=U:=⟨_,rfl⟩;have aa:b<B^(m+2):=(by rw[←R];exact za1 hb);rw[R]at ia⊢;rw[ea];have jb:Hid (num B w r t (m+2)=b):=R;have kb:Hid _:=ia;have lb:Hid _:=ea;have O:Hid _:=aa;clear R ea ia aa;go_enter Tryz.func139,Tryz.ntmps139;go_wp2;go_loopw [7] (fun s wr=>∃k:Nat,k≤o-(m+2)∧s=.int .i64 ((k:Int)-1)∧Chg w wr g f (f+o)∧Arr .u64 B wr g f o∧
  num B wr g f (k+(m+2))+B^k*(num B wr g (f+(k+(m+2))) (o-(k+(m+2)))*b)=U∧num B wr g (f+k) (m+2)<b)
  (fun s _=>(intOf s+1).toNat)
 case atStart=>refine⟨o-(m+2),Nat.le_refl _,by go_num,Chg.refl _ _ _ _,hu,?_,kb.out⟩;rw[show o-(m+2)+(m+2)=o by omega,Nat.sub_self,zao,Nat.zero_mul,Nat.mul_zero,Nat.add_zero];exact lb.out
 case round=>
  obtain⟨k,hk,rfl,l,n,q,E⟩:=hrel;by_cases h0:k=0
  ·subst h0;rw[Nat.pow_zero,Nat.one_mul,Nat.zero_add]at q;rw[Nat.add_zero]at E;have hq:num B wr g (f+(m+2)) (o-(m+2))=U / b∧num B wr g f (m+2)=U%b:=by
    have p:0<b:=om;rw[←q];refine⟨?_,?_⟩
    ·rw[Nat.mul_comm _ b,Nat.add_mul_div_left _ _ p,Nat.div_eq_of_lt E,Nat.zero_add]
    ·rw[Nat.mul_comm _ b,Nat.add_mul_mod_self_left,Nat.mod_eq_of_lt E]
   have F1:=zbj wr (some ⟨g,f+(m+2),none⟩) g (f+(m+2)) (o-(m+2)) (Y-(m+2)) o (Sl.mk _ _ _) om (by unfold maxLen;omega) (by unfold maxLen;omega) (n.sub om);have F2:=zbj wr (some ⟨g,f,none⟩) g f o Y (m+2) (Sl.mk _ _ _) om (by unfold maxLen;omega) (by unfold maxLen;omega) n;rw[Nat.min_eq_right om,hq.1]at F1;rw[Nat.min_eq_left om,hq.2]at F2;have tb:¬Y=m+2:=om;clear q E hq;go_wp2_with (go_at_call 86;fail);refine F1.mono ?_;rintro e w1 ⟨kq,rfl,hw,zb,pb,za⟩;subst hw;go_wp2_with (go_at_call 86;fail);refine F2.mono ?_;rintro e w2 ⟨kr,rfl,hw,qb,ac,ab⟩;subst hw;clear F1 F2;have HQ:Hid _:=za;have HR:Hid _:=ab;clear za ab;go_wp2;go_ret2;exact⟨kq,kr,rfl,pb,qb,l,n,HQ.out,HR.out⟩
  ·obtain⟨j,rfl⟩:∃j,k=j+1:=⟨k-1,by omega⟩;have he:((j+1:Nat):Int)-1=(j:Int):=om;rw[he];have ya:j+1+(m+2)=j+(m+3):=om;have I:num B wr g (f+j) (m+3)<B*b:=(by have G:num B wr g (f+j) (m+3)=word wr g (f+j)+B*num B wr g (f+(j+1)) (m+2):=zdc wr g (f+j) (m+2);have h2:=zat n (i:=j) om;have h3:=Nat.mul_le_mul_left B (show num B wr g (f+(j+1)) (m+2)+1≤b from E);rw[Nat.mul_add]at h3;omega);have db:num B wr g f (j+(m+3))=num B wr g f j+B^j*num B wr g (f+j) (m+3):=za5 _ _ _ _ _ _;rw[ya,db,Nat.pow_succ]at q;obtain⟨P,J⟩:∃P,num B wr g (f+j) (m+3)=P:=⟨_,rfl⟩;rw[J]at q I;have p:0<b:=om;have eb:=rows_step q;have z:Hid _:=eb;have H:Hid _:=J;have u:Arr .u64 B wr r t (m+2):=l.arr hb hb.lt (fun _=> .inl om);have x:num B wr r t (m+2)=b:=(l.num (fun _=>hb.lt om) (fun _=> .inl om)).trans jb.out;have W:9223372036854775808≤word wr r (t+(m+1)):=(by rw[zab (l.cellAt (hb.lt om) (.inl om))];exact fb);have CG:=guessWord_any wr g (f+j) (m+3) r t cb m om (n.sub om) u W (by rw[J,x];exact I);rw[J,x]at CG;clear eb J q db ya E;have c1:¬Y=j:=om;go_wp2_with (go_at_call 164;fail);rw[show j+(m+2)+1-j=m+3 by omega];refine CG.mono ?_;rintro e w' ⟨d,rfl,⟨N,rfl⟩,ha,C,M⟩;clear CG;by_cases qa:d=0
   ·subst qa;have hQ:P / b=0:=Nat.le_zero.1 C;have ma:P%b=P:=Nat.mod_eq_of_lt ((Nat.div_eq_zero_iff_lt p).1 hQ);have F:Chg wr (wr.drewN N) g (f+j) (f+j+(m+3)):=ze7 (Chg.refl _ _ _ _) N;have XA:Arr .u64 B (wr.drewN N) g (f+j) (m+3):=n.sub om;have ka:num B (wr.drewN N) g (f+j) (m+3)=P%b:=(by rw[ma];exact H.out);have X:=zfp (D:=0) l n om F XA ka hQ.symm (by unfold B;omega) p O.out z.out;have y:Hid _:=X;have L:(wr.drewN N).cell? ⟨g,f+j+(m+2),none⟩=some (.int .u64 ((word (wr.drewN N) g (f+j+(m+2)):Nat):Int)):=zag (i:=m+2) XA om;have wa:(wr.drewN N).frozen? ⟨g,f+j+(m+2),none⟩=false:=by
     have G:=(l.trans (F.mono om om)).free hf hu.lt (j+(m+2)) om
     rwa [←Nat.add_assoc]at G
    have xa:j+(m+3)≤o:=om;clear X l n hk I z H u x W p F XA ka hQ ma C M;go_wp2;go_roundw
    case rel=>exact⟨j,by omega,by go_num,y.out.1,y.out.2.1,y.out.2.2.1,y.out.2.2.2⟩
    case measure=>simp[intOf]
   ·have ub:¬(d:Int)=0:=om;have CS:=zf5 (wr.drewN N) g (f+j) (m+3) (m+3) r t (m+2) cb d (some ⟨r,t,none⟩) (Sl.mk _ _ _) (n.sub om)
     (fun i hi=>by have G:=l.free hf hu.lt (j+i) om;rw[←Nat.add_assoc]at G;exact G) u rfl (Nat.le_refl _) (fun _=> .inl nb) (by unfold maxLen;omega) ha
    have Z:num B (wr.drewN N) g (f+j) (m+3)=P:=H.out;have ba:num B (wr.drewN N) r t (m+2)=b:=x;rw[Z,ba]at CS;clear Z ba;go_wp2_with (go_at_call 165;fail);refine CS.mono ?_;rintro e w2 ⟨c,rfl,fa,A,ga,T⟩;clear CS;have F:Chg wr w2 g (f+j) (f+j+(m+3)):=(ze7 (Chg.refl _ _ _ _) N).trans fa;by_cases S:c=0
    ·subst S;obtain⟨hD,hV⟩:=rows_right p T rfl C M;have X:=zfp (D:=d) l n om F A hV hD ha p O.out z.out;have y:Hid _:=X;have L:w2.cell? ⟨g,f+j+(m+2),none⟩=some (.int .u64 ((word w2 g (f+j+(m+2)):Nat):Int)):=zag (i:=m+2) A om;have wa:w2.frozen? ⟨g,f+j+(m+2),none⟩=false:=by
      have G:=(l.trans (F.mono om om)).free hf hu.lt (j+(m+2)) om
      rwa [←Nat.add_assoc]at G
     have xa:j+(m+3)≤o:=om;clear X l n hk I z H u x W p F fa A ga T hV hD C M;go_wp2;go_roundw
     case rel=>exact⟨j,by omega,by go_num,y.out.1,y.out.2.1,y.out.2.2.1,y.out.2.2.2⟩
     case measure=>simp[intOf]
    ·have rb:¬(c:Int)=0:=om;have wb:((c:Int) !=0)=true:=(by simpa using S);have yb:((d:Int) !=0)=true:=(by simpa using qa);have na:Arr .u64 B w2 r t (m+2):=F.arr u u.lt (fun _=> .inl om);have CA:=zbt w2 (some ⟨g,f+j,none⟩) (some ⟨r,t,none⟩) g (f+j) (m+3) (m+3) r t (m+2) cb (Sl.mk _ _ _) (Sl.mk _ _ _) A
      (fun i hi=>by have G:=(l.trans (F.mono om om)).free hf hu.lt (j+i) om;rw[←Nat.add_assoc]at G;exact G) na om (fun _=> .inl om) (by unfold maxLen;omega)
     have ca:num B w2 r t (m+2)=b:=(F.num (fun _=>u.lt om) (fun _=> .inl om)).trans x;rw[ca]at CA;have gb:=za1 A;obtain⟨d1,ra⟩:∃d1,d1=d-1:=⟨d-1,rfl⟩;have e9:(d:Int)-1=(d1:Int):=om;have vb:d1<18446744073709551616:=(by unfold B at ha;omega);have sa:d=d1+1:=om;have ja:Hid _:=sa;clear ra sa;have pa:=l;go_wp2_with (go_at_call 142;fail);refine CA.mono ?_;rintro e w3 ⟨rfl,ta,V,c2,ua,va⟩;clear CA;have ib:=za1 V;have oa:b≤B^(m+3):=Nat.le_trans (Nat.le_of_lt O.out) (Nat.pow_le_pow_right za2 om);obtain⟨hD,hV⟩:=rows_back p T ga S gb ib C M oa va ua;have la:d1=P / b:=Nat.succ.inj (ja.out.symm.trans hD);have da:Chg wr w3 g (f+j) (f+j+(m+3)):=F.trans ta;have X:=zfp (D:=d1) l n om da V hV la (by have:=ja.out;omega) p O.out z.out;have y:Hid _:=X;have L:w3.cell? ⟨g,f+j+(m+2),none⟩=some (.int .u64 ((word w3 g (f+j+(m+2)):Nat):Int)):=zag (i:=m+2) V om;have wa:w3.frozen? ⟨g,f+j+(m+2),none⟩=false:=by
      have G:=(l.trans (da.mono om om)).free hf hu.lt (j+(m+2)) om
      rwa [←Nat.add_assoc]at G
     have xa:j+(m+3)≤o:=om;clear X l n hk I z H u x W p pa F da fa A ga T S hV hD la C M na ca gb ib oa ta V ua va;go_wp2;go_roundw
     case rel=>exact⟨j,by omega,by go_num,y.out.1,y.out.2.1,y.out.2.2.1,y.out.2.2.2⟩
     case measure=>simp[intOf]
theorem zgi (v:BitVec 64):IntKind.i64.wrap (v.toNat:Nat)=v.toInt:=by
 rw[IntKind.wrap_i64,BitVec.toInt_eq_toNat_cond];have:=v.isLt
 split <;> omega
theorem zc2 (v:BitVec 64):BitVec.ofInt 64 v.toInt=v:=BitVec.ofInt_toInt
theorem ze0 {x:Int} (b: -9223372036854775808≤x) (c:x≤9223372036854775807):(BitVec.ofInt 64 x).toInt=x:=by
 rw[BitVec.toInt_ofInt];simp only[Int.bmod]
 split <;> omega
theorem zem (x y:Int):bits .xor .i64 x y=(BitVec.ofInt 64 x ^^^ BitVec.ofInt 64 y).toInt:=by show IntKind.i64.wrap ((BitVec.ofInt 64 x ^^^ BitVec.ofInt 64 y).toNat:Nat)=_;exact zgi _
theorem bits_and_i64 (x y:Int):bits .and .i64 x y=(BitVec.ofInt 64 x &&& BitVec.ofInt 64 y).toInt:=by show IntKind.i64.wrap ((BitVec.ofInt 64 x &&& BitVec.ofInt 64 y).toNat:Nat)=_;exact zgi _
theorem signs {x s y t:Int} (k: -9223372036854775808≤x∧x≤9223372036854775807) (g: -9223372036854775808≤s∧s≤9223372036854775807)
 (l: -9223372036854775808≤y∧y≤9223372036854775807) (j: -9223372036854775808≤t∧t≤9223372036854775807):
 bits .and .i64 (bits .xor .i64 x s) (bits .xor .i64 y t)<0↔(¬(x<0↔s<0)∧¬(y<0↔t<0)):=by
 rw[bits_and_i64,zem,zem,zc2,zc2];have f:∀v:BitVec 64,v.toInt<0↔v.msb=true:=fun v=>by rw[BitVec.msb_eq_toInt];simp
 rw[f,BitVec.msb_and,BitVec.msb_xor,BitVec.msb_xor,BitVec.msb_eq_toInt,BitVec.msb_eq_toInt,BitVec.msb_eq_toInt,BitVec.msb_eq_toInt,
  ze0 k.1 k.2,ze0 g.1 g.2,ze0 l.1 l.2,ze0 j.1 j.2]
 by_cases a:x<0 <;> by_cases b:s<0 <;> by_cases c:y<0 <;> by_cases d:t<0 <;> simp[a,b,c,d]
theorem add_over {x y:Int} (b: -9223372036854775808≤x∧x≤9223372036854775807) (c: -9223372036854775808≤y∧y≤9223372036854775807):
 0≤bits .and .i64 (bits .xor .i64 x (IntKind.i64.wrap (x+y))) (bits .xor .i64 y (IntKind.i64.wrap (x+y)))↔ -9223372036854775808≤x+y∧x+y≤9223372036854775807:=by
 have e:=IntKind.wrap_i64 (x+y);have h:=signs (s:=IntKind.i64.wrap (x+y)) (t:=IntKind.i64.wrap (x+y)) b om c om;rw[←Int.not_lt,h];omega
theorem sub_over {x y:Int} (b: -9223372036854775808≤x∧x≤9223372036854775807) (c: -9223372036854775808≤y∧y≤9223372036854775807):
 0≤bits .and .i64 (bits .xor .i64 x y) (bits .xor .i64 x (IntKind.i64.wrap (x-y)))↔ -9223372036854775808≤x-y∧x-y≤9223372036854775807:=by
 have e:=IntKind.wrap_i64 (x-y);have h:=signs (s:=y) (t:=IntKind.i64.wrap (x-y)) b c b om;rw[←Int.not_lt,h];omega
theorem zdm (w:World) (q r:Value) (x y o p:Nat) (E:Mag w q x o) (F:Mag w r y p) (I:o≤35184372088832) (D:p≤35184372088832):
 Calls Tryz.prog 87 #[q,r] w fun e w'=>e=.returned (.int .i64 (zbb (x:Int) (y:Int)))∧Below w.heap.size w w':=by
 obtain⟨s,u,G,z,rfl,l,B,d,g,j⟩:=E;obtain⟨t,c,H,A,rfl,m,C,f,b,k⟩:=F;refine(cmpWords_any w s t u G o z c H p A l m (by unfold maxLen;omega) (by unfold maxLen;omega) d f j k).mono ?_;rintro e w' ⟨rfl,n,rfl⟩;rw[g,b];exact⟨rfl,⟨rfl,rfl,rfl,Nat.le_refl _,fun _ _=>rfl⟩⟩
theorem shiftLeft_any (w:World) (W:Value) (x b m:Nat) (hx:Mag w W x b) (hl:b+m / 64+1≤35184372088832) (hm:m≤maxLen):
 Calls Tryz.prog 136 #[W,.int .i64 m] w fun e w'=>∃v n,e=.returned v∧Below w.heap.size w w'∧Mag w' v (x*2^m) n∧n≤b+m / 64+1:=by
 obtain⟨Y,R,V,Z,rfl,L,aa,g,y,J⟩:=hx;obtain⟨i0,F,M,N,O⟩:=info_parts zb0;have X:Hid (num B w R V b=x):=y;clear y J;have ca:m≤9223372036854775807:=hm;obtain⟨k,T⟩:∃k,k=m / 64:=⟨_,rfl⟩;obtain⟨s,hs⟩:∃s,s=m%64:=⟨_,rfl⟩;rw[←T]at hl⊢;have I:Hid (m=64*k+s):=(by show m=_;omega);have z:s<64:=om;have e1:(m:Int).tdiv 64=(k:Int):=(by rw[Int.tdiv_eq_ediv_of_nonneg om];omega);have e2:(m:Int).tmod 64=(s:Int):=(by rw[Int.tmod_eq_emod_of_nonneg om];omega);have e3:(m:Int) / 64=(k:Int):=om;have e4:(m:Int)%64=(s:Int):=om;clear T hs;have l:b+k+1≤maxLen:=(by unfold maxLen;omega);have z1:b+k+1-k=b+1:=om;go_enter Tryz.func136,Tryz.ntmps136;go_wp2_with (first
  |(at_make;refine zap .u64 B za2 rfl _ _ 22 rfl 98 i0 Tryz.underlying22 F M N .i64 .i64 _ _ (b+k+1) rfl rfl om om (by rw[O];omega) l ?_;intro P c)
  |(go_at_call 137;fail))
 have p:Arr .u64 B P w.heap.size k (b+1):=by
  have:=c.arr.sub (d:=k) (m:=b+1) om
  rwa [Nat.zero_add]at this
 have t:Free P w.heap.size k (b+1):=by
  have:=c.free.sub (d:=k) (m:=b+1) om
  rwa [Nat.zero_add]at this
 refine(zgb P _ Y w.heap.size k (b+1) (b+1) R V b Z s (Sl.mk _ _ _) L p t (zae g c.below) rfl (fun h=> .inl (by have:=g.lt h;omega)) (by unfold maxLen;omega) z).mono ?_;rintro e A ⟨rfl,f,r,o⟩;rw[zah g c.below,X.out]at o;have E:Below w.heap.size w A:=c.below.trans (f.below (Nat.le_refl _) (by have:=c.lt;omega));have D:Arr .u64 B A w.heap.size 0 (b+k+1):=fun i hi=>by
  by_cases G:i<k
  ·have e:=f.cell (0+i) om;rw[zab e,e];exact c.arr i om
  ·obtain⟨j,rfl⟩:=Nat.exists_eq_add_of_le (Nat.le_of_not_lt G);have:=r j om
   rwa [Nat.zero_add]
 have U:num B A w.heap.size 0 (b+k+1)=x*2^m:=by
  have h0:num B A w.heap.size 0 k=0:=_root_.Rad.vs_zeros fun i hi=>by rw[Nat.zero_add,zab (f.cell i om)];exact c.zero i om
  have hB:B^k=2^(64*k):=(by rw[Nat.pow_mul];rfl);rw[show b+k+1=k+(b+1)by omega,za5,h0,Nat.zero_add,Nat.zero_add,o,hB,I.out,Nat.pow_add,Nat.mul_left_comm]
 have HV:Hid _:=U;clear U o c p t r f;have S:(b:Int)+(k:Int)+1=((b+k+1:Nat):Int):=om;have C:=za3 A (some ⟨w.heap.size,0,none⟩) w.heap.size 0 (b+k+1) (b+k+1) (b+k+1) (Sl.mk _ _ _) (Nat.le_refl _) l l D;rw[←S]at C;clear S;go_wp2_with (go_at_call 86;refine C.mono ?_;rintro e w' ⟨v,q,rfl,hw,H,ba,u⟩;subst hw);go_ret;rw[Nat.min_self,HV.out]at u;exact⟨_,q,rfl,E,u,H⟩
theorem short_any (n m:Nat) (f:n<160) (d:m≤n) (w:World):Calls Tryz.prog 138 #[.int .i64 n,.int .i64 m] w fun e w'=>e=.returned (.bool true)∧w'=w:=by
 by_cases h:m<80
 ·have b:(m:Int)<80:=om;go_enter Tryz.func138,Tryz.ntmps138;go_wp2;go_ret;exact⟨rfl,rfl⟩
 ·have b:¬(m:Int)<80:=om;have c:(n:Int)-(m:Int)<80:=om;go_enter Tryz.func138,Tryz.ntmps138;go_wp2;go_ret;exact⟨rfl,rfl⟩
theorem Mag.row {w:World} {v:Value} {x n:Nat} (h:Mag w v x n) (g:0<n):∃b o c:Nat,v=.slice (some ⟨b,o,none⟩) n c∧n≤c∧Arr .u64 B w b o n∧num B w b o n=x∧word w b (o+(n-1))≠0:=by obtain⟨p,b,o,c,l,k,f,d,m,j⟩:=h;obtain rfl:=k g;exact⟨b,o,c,l,f,d,m,by rcases j with h|h <;> first|omega|exact h⟩
theorem one_arr (w:World) (x:Nat) (h:x<B):Arr .u64 B (w.alloc (.cells #[.int .u64 (x:Int)] 98)) w.heap.size 0 1∧num B (w.alloc (.cells #[.int .u64 (x:Int)] 98)) w.heap.size 0 1=x:=by
 have b:(w.alloc (.cells #[.int .u64 (x:Int)] 98)).cell? ⟨w.heap.size,0,none⟩=some (.int .u64 (x:Int)):=(by rw[World.cell?_alloc_at (w:=w) _ _ w.heap.size 0 rfl];rfl);have c:=zbv b;refine⟨fun i hi=>?_,?_⟩
 ·obtain rfl:i=0:=om;rw[Nat.zero_add,c];exact⟨b,h⟩
 ·rw[zaj,zao,Nat.zero_add,c];simp
theorem Mag.chg {w w':World} {b o c x n p lo hi:Nat} (h:Mag w (.slice (some ⟨b,o,none⟩) n c) x n) (k:Chg w w' p lo hi) (d:0<n→b≠p∨o+n≤lo∨hi≤o):Mag w' (.slice (some ⟨b,o,none⟩) n c) x n:=by
 obtain⟨t,r,o',u,m,l,f,j,q,g⟩:=h;simp only[Value.slice.injEq,true_and]at m;obtain⟨rfl,rfl⟩:=m;by_cases s:n=0
 ·subst s;exact⟨_,r,o',c,rfl,l,f,fun i hi=>by omega,by rw[←q];rfl,.inl rfl⟩
 ·have e:=l om;simp only[Option.some.injEq,Addr.mk.injEq,and_true]at e;obtain⟨rfl,rfl⟩:=e;refine⟨_,b,o,c,rfl,Sl.mk _ _ _,f,k.arr j j.lt d,(k.num j.lt d).trans q,?_⟩;rcases g with g|g
  ·exact .inl g
  ·right;rw[zab (k.cellAt (j.lt om) (by have:=d om;omega))];exact g
theorem mul_pow_lt {β x a b n m:Nat} (g:0<x) (l:a<β^n) (d:β^(m-1)≤b) (o:0<m) (f:m≤n+1):a*x<b*x*β^(n+1-m):=by have j:β^n=β^(m-1)*β^(n+1-m):=(by rw[←Nat.pow_add];congr 1;omega);have k:=Nat.mul_le_mul_right (β^(n+1-m)) d;have c:=Nat.mul_lt_mul_of_pos_right (show a<b*β^(n+1-m)by omega) g;rw[Nat.mul_right_comm];exact c
theorem high_lt {β:Nat} {w:World} {b o n k y:Nat} (h:num β w b o (k+n)<y*β^k):num β w b (o+k) n<y:=by rw[za5]at h;refine Nat.lt_of_not_le fun c=>?_;have:=Nat.mul_le_mul_left (β^k) c;rw[Nat.mul_comm (β^k) y]at this;omega
theorem top_ge {w:World} {b o n y:Nat} (d:Arr .u64 B w b o (n+1)) (h:num B w b o (n+1)=y) (j:9223372036854775808*B^n≤y):9223372036854775808≤word w b (o+n):=by refine Nat.le_of_not_lt fun f=>?_;have g:num B w b o n<B^n:=za1 (fun i hi=>d i om);rw[zaj]at h;have c:=Nat.mul_le_mul_left (B^n) (show word w b (o+n)+1≤9223372036854775808 from f);rw[Nat.mul_add,Nat.mul_comm (B^n) 9223372036854775808]at c;omega
theorem len_shift' {y L:Nat} (d:0<y) (h:zcd y L) (c:L≤64):(y+1)*2^(64-L)≤18446744073709551616:=by
 rcases h with⟨h1,_⟩|⟨h1,h2,h3⟩
 ·omega
 ·have b:2^L*2^(64-L)=18446744073709551616:=(by rw[←Nat.pow_add,show L+(64-L)=64 by omega]);rw[←b];exact Nat.mul_le_mul_right _ h3
theorem shifted_range {w:World} {b o m y s:Nat} (g:Arr .u64 B w b o (m+1)) (h:num B w b o (m+1)=y) (c:9223372036854775808≤word w b (o+m)*2^s) (d:(word w b (o+m)+1)*2^s≤18446744073709551616):
 9223372036854775808*B^m≤y*2^s∧y*2^s<B^(m+1):=by
 have j:num B w b o m<B^m:=za1 (fun i hi=>g i om);rw[zaj]at h;have k:=Nat.mul_le_mul_right (B^m) c;have l:=Nat.mul_le_mul_right (B^m) d;constructor
 ·rw[←h,Nat.add_mul];have:B^m*word w b (o+m)*2^s=word w b (o+m)*2^s*B^m:=(by rw[Nat.mul_comm (B^m),Nat.mul_right_comm]);omega
 ·have f:y<B^m*(word w b (o+m)+1):=(by rw[Nat.mul_add];omega);have p:=Nat.mul_lt_mul_of_pos_right f (Nat.pow_pos (show 0<2 by decide) (n:=s));have q:B^m*(word w b (o+m)+1)*2^s=(word w b (o+m)+1)*2^s*B^m:=(by rw[Nat.mul_comm (B^m),Nat.mul_right_comm]);rw[Nat.pow_succ,Nat.mul_comm (B^m) B];unfold B at *;omega
theorem Fr_ge {base b o n c:Nat} (h:base≤b):Fr base (.slice (some ⟨b,o,none⟩) n c):=by intro d o' g f e;injection e with h1;injection h1 with h1;injection h1 with h1;omega
theorem zdn (w:World) (va vb:Value) (a b d nb:Nat) (I:Mag w va a d) (E:Mag w vb b nb) (cc:0<nb) (xc:d<160) (dc:nb≤35184372088832):
 Calls Tryz.prog 109 #[va,vb] w fun e w'=>∃vq vr nq nr,e=.returned (.tuple #[vq,vr])∧Below w.heap.size w w'∧Mag w' vq (a / b) nq∧Mag w' vr (a%b) nr∧(b≤a→Fr w.heap.size vr∧Fr w.heap.size vq):=by
 obtain⟨i0,xb,mc,nc,oc⟩:=info_parts zb0;have rb:0<b:=E.pos cc;rcases Nat.lt_or_ge a b with ea|db
 ·have R:zbb ((a:Nat):Int) ((b:Nat):Int)= -1:=zbc ea;have hq:a / b=0:=Nat.div_eq_of_lt ea;have hr:a%b=a:=Nat.mod_eq_of_lt ea;rw[hq,hr];have CC:=zdm w _ _ a b d nb I E om dc;rw[R]at CC;obtain⟨ao,Z,oa,ca,rfl,_⟩:=id I;obtain⟨bo,G,Y,cb,rfl,_⟩:=id E;have HA:Hid _:=I;clear I E hq hr R;go_enter Tryz.func109,Tryz.ntmps109;go_wp2_with (go_at_call 87;refine CC.mono ?_;rintro e w1 ⟨rfl,c⟩);go_ret2;exact⟨_,_,0,d,rfl,c,zff _,Mag.below HA.out c,fun h=>absurd h (Nat.not_le_of_lt ea)⟩
 ·have yc:nb≤d:=(by refine E.len_le ?_ |> fun h=>h;exact Nat.lt_of_le_of_lt db I.lt);have R:¬zbb ((a:Nat):Int) ((b:Nat):Int)<0:=(by unfold zbb;rw[if_neg om];split <;> omega);obtain⟨Z,oa,ca,rfl,kd,M,ia,ic⟩:=I.row om;obtain⟨G,Y,cb,rfl,ld,A,ja,ga⟩:=E.row cc;by_cases h1:nb=1
  ·subst h1;have CC:=zdm w _ _ a b d 1 I E om om;have g:=zag A (i:=0) om;have tb:word w G (Y+0)=b:=(by rw[←ja,zaj,zao,Nat.zero_add,Nat.pow_zero,Nat.one_mul]);rw[tb,Nat.add_zero]at g;have sb:b<B:=(by have:=E.lt;rwa [Nat.pow_one]at this);have HC:Hid _:=R;clear R I E ic ga db ja A tb;go_enter Tryz.func109,Tryz.ntmps109;go_wp2_with (go_at_call 87;fail);refine CC.mono ?_;rintro e w1 ⟨rfl,c⟩;clear CC;have R:=HC.out;have f:w1.cell? ⟨G,Y,none⟩=some (.int .u64 (b:Int)):=(c.cell (p:=⟨G,Y,none⟩) (zby g)).trans g;have wa:=zae M c;have kc:num B w1 Z oa d=a:=(zah M c).trans ia;have uc:Hid _:=kc;clear kc ia HC;go_wp2_with (first
    |(at_make;refine zap .u64 B za2 rfl _ _ 22 rfl 98 i0 Tryz.underlying22 xb mc nc .i64 .i64 _ _ d rfl rfl om om (by rw[oc];omega) (by unfold maxLen;omega) ?_;intro w2 x)
    |(refine zal .u64 B rfl _ _ 22 22 rfl 98 Tryz.underlying22 zb2 _ _ _ _ _ _ rfl rfl w1.heap.size 0 Z oa (Sl.mk _ _ _) (Sl.mk _ _ _) x.arr x.free (zae wa x.below) ?_;intro F da;rw[Nat.min_self]at da;have aa:F.cell? ⟨G,Y,none⟩=some (.int .u64 (b:Int)):=(((x.below.trans (da.chg.below (Nat.le_refl _) (by have:=x.lt;omega))).cell (p:=⟨G,Y,none⟩) (zby f)).trans f))
    |(go_at_call 134;fail))
   obtain⟨O,q,ub,ib,bd⟩:=zb9 x wa (Nat.le_refl _) da;have CD:=zd1 F (some ⟨w1.heap.size,0,none⟩) w1.heap.size 0 d d b (Sl.mk _ _ _) (by unfold maxLen;omega) q ub rb sb;rw[ib,uc.out]at CD;have t:Hid (Below w.heap.size w F):=c.trans (O.mono c.size);have l:Hid (w.heap.size≤w1.heap.size):=c.size;obtain⟨o,P⟩:∃o,o=w1.heap.size:=⟨_,rfl⟩;rw[←P]at CD bd l⊢;clear x da O q ub ib P f aa wa c;refine CD.mono ?_;rintro e w4 ⟨rfl,r,u,W⟩;clear CD;have z:Hid (Below w.heap.size w w4):=t.out.trans (r.below l.out (by have:=t.out.size;omega));have CF:=zbj w4 (some ⟨o,0,none⟩) o 0 d d d (Sl.mk _ _ _) (Nat.le_refl _) (by unfold maxLen;omega) (by unfold maxLen;omega) u;rw[Nat.min_self,W]at CF;clear W u r;go_wp2_with (go_at_call 86;fail);refine CF.mono ?_;rintro e D ⟨k5,rfl,cd,_,_,yb⟩;subst cd;clear CF;have zc:a%b<B:=Nat.lt_trans (Nat.mod_lt _ rb) sb;obtain⟨A1,N1⟩:=one_arr D (a%b) zc;have qc:Hid _:=yb;clear yb;go_wp2_with (go_at_call 86;fail);have CG:=zbj (D.alloc (.cells #[.int .u64 ((a%b:Nat):Int)] 98)) (some ⟨D.heap.size,0,none⟩) D.heap.size 0 1 1 1 (Sl.mk _ _ _) (Nat.le_refl _) (by unfold maxLen;omega) (by unfold maxLen;omega) A1;rw[Nat.min_self,N1]at CG;refine CG.mono ?_;rintro e w6 ⟨k6,rfl,ed,_,_,zb⟩;subst ed;clear CG;have rc:Hid _:=zb;clear zb A1 N1;go_wp2;go_ret2;exact⟨_,_,k5,k6,rfl,z.out.alloc z.out.size _,Mag.below qc.out ((zz).alloc (Nat.le_refl _) _),rc.out,fun _=>⟨Fr_ge z.out.size,Fr_ge l.out⟩⟩
  ·obtain⟨m,rfl⟩:∃m,nb=m+2:=⟨nb-2,by omega⟩;have CC:=zdm w _ _ a b d (m+2) I E om om;have V:=zat A (i:=m+1) om;have g:=zag A (i:=m+1) om;have eb:=fun L=>len_shift (y:=word w G (Y+(m+1))) (L:=L) (Nat.pos_of_ne_zero ga);have fb:=fun L=>len_shift' (y:=word w G (Y+(m+1))) (L:=L) (Nat.pos_of_ne_zero ga);have HC:Hid _:=R;have HA:Hid _:=I;have HB:Hid _:=E;have x:¬((m:Int)+2)=1:=om;have e1:(m:Int)+2-1=(m:Int)+1:=om;clear R I E ic ga db;go_enter Tryz.func109,Tryz.ntmps109;go_wp2_with (go_at_call 87;fail);refine CC.mono ?_;rintro e w1 ⟨rfl,c⟩;clear CC;have R:=HC.out;have f:w1.cell? ⟨G,Y+(m+1),none⟩=some (.int .u64 ((word w G (Y+(m+1)):Nat):Int)):=(c.cell (p:=⟨G,Y+(m+1),none⟩) (A.lt om)).trans g;go_wp2_with (go_at_call 135;fail);refine(zce _ V _).mono ?_;rintro e w2 ⟨L,rfl,hw,hl,H⟩;subst hw;have C:=shifted_range (m:=m+1) A ja (eb _ hl H).1 (fb _ hl H);have U:64-L<64:=by
    have h0:=(eb _ hl H).1;rcases Nat.eq_zero_or_pos L with h|h
    ·subst h;have h3:=fb _ hl H;omega
    ·omega
   obtain⟨s,hs⟩:∃s,s=64-L:=⟨_,rfl⟩;rw[←hs]at C U⊢;clear eb fb hl hs H;have CS:=shiftLeft_any w2 _ b (m+2) s (Mag.below HB.out c) om (by unfold maxLen;omega);go_wp2_with (go_at_call 136;fail);refine CS.mono ?_;rintro e F ⟨qd,n',rfl,O,fa,ib⟩;clear CS;have vc:n'=m+2:=(by refine Nat.le_antisymm (fa.len_le C.2) ?_;refine Nat.le_of_not_lt fun R=>?_;have h3:=fa.lt;have h4:B^n'≤B^(m+1):=Nat.pow_le_pow_right za2 om;have:=C.1;omega);subst vc;obtain⟨b3,o3,c3,rfl,jd,q,jb,_⟩:=fa.row om;have ra:=top_ge (n:=m+1) q jb C.1;have B3:Below w.heap.size w F:=c.trans (O.mono c.size);have J:Arr .u64 B F Z oa d:=zae M B3;have sa:num B F Z oa d=a:=(zah M B3).trans ia;have pd:Z<w.heap.size:=M.lt om;have gd:b3<F.heap.size:=q.lt om;have hd:Hid _:=C;have ka:Hid _:=ra;have la:Hid _:=sa;have pb:Hid _:=jb;have t:Hid _:=B3;clear C ra sa jb B3 fa f g V R ia ja O c HC;go_wp2_with (first
    |(at_make;refine zap .u64 B za2 rfl _ _ 22 rfl 98 i0 Tryz.underlying22 xb mc nc .i64 .i64 _ _ (d+1) rfl rfl om om (by rw[oc];omega) (by unfold maxLen;omega) ?_;intro w4 j)
    |(go_at_call 137;fail))
   have l4:=j.lt;have ma:Arr .u64 B w4 Z oa d:=zae J j.below;have ta:num B w4 Z oa d=a:=(zah J j.below).trans la.out;have u:Arr .u64 B w4 b3 o3 (m+2):=zae q j.below;have W:num B w4 b3 o3 (m+2)=b*2^s:=(zah q j.below).trans pb.out;have fc:9223372036854775808≤word w4 b3 (o3+(m+1)):=(by rw[zbp q j.below om];exact ka.out);have CM:=zgb w4 (some ⟨F.heap.size,0,none⟩) (some ⟨Z,oa,none⟩) F.heap.size 0 (d+1) (d+1) Z oa d ca s (Sl.mk _ _ _) (Sl.mk _ _ _) j.arr j.free ma rfl
    (fun _=> .inl (by have:=t.out.size;omega)) (by unfold maxLen;omega) U
   rw[ta]at CM;have z:Hid (Below w.heap.size w w4):=t.out.trans (j.below.mono t.out.size);have za:=j.free;obtain⟨o,P⟩:∃o,o=F.heap.size:=⟨_,rfl⟩;have l:Hid (w.heap.size≤F.heap.size):=t.out.size;rw[←P]at CM za l4 gd l⊢;clear j ta pb la ka t P q J;refine CM.mono ?_;rintro e D ⟨rfl,r,xa,kb⟩;clear CM;have pa:Arr .u64 B D b3 o3 (m+2):=r.arr u u.lt (fun _=> .inl om);have X:num B D b3 o3 (m+2)=b*2^s:=(r.num (fun _=>u.lt om) (fun _=> .inl om)).trans W;have gc:9223372036854775808≤word D b3 (o3+(m+1)):=(by rw[zab (r.cellAt (u.lt om) (.inl om))];exact fc);have ab:Free D o 0 (d+1):=r.free za (fun _=>l4);have qa:num B D o (0+(d+1-(m+2))) (m+2)<num B D b3 o3 (m+2):=(by refine high_lt (k:=d+1-(m+2)) ?_;rw[show d+1-(m+2)+(m+2)=d+1 by omega,kb,X];refine mul_pow_lt (Nat.pow_pos dd) (Mag.lt HA.out) ?_ om om;exact Mag.ge HB.out om);have CD:=divRows_any D o 0 (d+1) (d+1) b3 o3 c3 m om om (Nat.le_refl _) (by unfold maxLen;omega) xa ab pa om gc qa;rw[kb,X,Nat.mul_div_mul_right _ _ (Nat.pow_pos dd),Nat.mul_mod_mul_right]at CD;have ua:Hid (Below w.heap.size w D):=z.out.trans (r.below l.out (by have:=z.out.size;omega));clear X gc qa kb r ma u W fc za z;go_wp2_with (first
    |(go_at_call 138;refine(short_any d (m+2) xc yc _).mono ?_;rintro e w' ⟨rfl,hw⟩;subst hw)
    |(go_at_call 139;fail))
   refine CD.mono ?_;rintro e w6 ⟨kq,kr,rfl,nd,od,S,ya,gb,bc⟩;clear CD;rw[Nat.zero_add]at gb;have ec:num B w6 o 0 kr=a%b*2^s:=by
    obtain⟨ao,b',o',c',hv,ad,_,_,jc,_⟩:=bc;simp only[Value.slice.injEq,true_and]at hv;obtain⟨rfl,rfl⟩:=hv;by_cases h0:kr=0
    ·subst h0;rw[←jc];rfl
    ·have e:=ad om;simp only[Option.some.injEq,Addr.mk.injEq,and_true]at e;obtain⟨rfl,rfl⟩:=e;exact jc
   have l6:o<w6.heap.size:=ya.lt om;have wb:Free w6 o 0 kr:=zc6 (S.free ab (fun _=>xa.lt om)) om;have N:Arr .u64 B w6 o 0 kr:=zbg ya om;have CW:=moveDown_any w6 (some ⟨o,0,none⟩) (some ⟨o,0,none⟩) o 0 kr kr o 0 kr s (Sl.mk _ _ _) (Sl.mk _ _ _) N wb N (fun _=> .inr (.inr (.inr rfl))) (by unfold maxLen;omega) U;rw[ec,Nat.mul_div_cancel _ (Nat.pow_pos dd)]at CW;have lb:Hid (Below w.heap.size w w6):=ua.out.trans (S.below l.out (by have:=ua.out.size;omega));have tc:Hid _:=gb;clear bc ec wb N S ya ua xa pa ab gb;go_wp2_with (go_at_call 140;fail);refine CW.mono ?_;rintro e w7 ⟨rfl,T,qb,lc⟩;clear CW;have CF:=zbj w7 (some ⟨o,0,none⟩) o 0 kr kr kr (Sl.mk _ _ _) (Nat.le_refl _) (by unfold maxLen;omega) (by unfold maxLen;omega) qb;rw[Nat.min_self,lc]at CF;have mb:Hid _:=Mag.chg tc.out T (fun _=> .inr (.inr om));have pc:Hid (Below w.heap.size w w7):=lb.out.trans (T.below l.out (by have:=lb.out.size;omega));clear T qb lc;go_wp2_with (go_at_call 86;fail);refine CF.mono ?_;rintro e w8 ⟨k8,rfl,fd,md,_,ac⟩;subst fd;clear CF;have sc:Hid _:=ac;clear ac;go_wp2;go_ret2;exact⟨_,_,kq,k8,rfl,pc.out,mb.out,sc.out,fun _=>⟨Fr_ge l.out,Fr_ge l.out⟩⟩
theorem zep (w:World) (n o:Value) (a b l d:Nat) (t:Mag w n a l) (u:Mag w o b d) (k:0<d) (j:l<160) (c:d≤35184372088832):
 Calls Tryz.prog 109 #[n,o] w fun e w'=>∃f g nq m,e=.returned (.tuple #[f,g])∧Below w.heap.size w w'∧Mag w' f (a / b) nq∧Mag w' g (a%b) m:=
 (zdn w n o a b l d t u k j c).mono fun _ _ ⟨f,g,nq,m,p,q,r,s,_⟩=>⟨f,g,nq,m,p,q,r,s⟩
end Go.Proofs.YtjlkplidpdhgbaaGreatDoor
