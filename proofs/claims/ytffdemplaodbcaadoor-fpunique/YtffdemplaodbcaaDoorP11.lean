/- A part of the proof: F6, F7, F8, F9. -/
import Derived.Test.YtffdemplaodbcaaDoorP10
import Derived.Deep.Quiet
import Derived.Deep.QuietTactic
import Derived.Deep.AppendLies
set_option linter.all false
namespace Go.Proofs.YtffdemplaodbcaaDoor
open Go Go.Proofs Go.RowKit Go.Rad
set_option maxRecDepth 10000 in
set_option maxHeartbeats 1000000 in
theorem checkMod_any (w:World) (v:Value) (xs:List Int) (p:Int) (hv:IL w v xs):
 Calls Tryd.prog 8 #[v, .int .i64 p] w fun e w'=>e= .returned (Flt (ckC p xs) (ckA p xs))∧Below w.heap.size w w':=by
 obtain⟨a,b,o,n,c,rfl,hn,ha,hc,hm⟩:=hv;go_enter Tryd.func8,Tryd.ntmps8;by_cases hbig:1073741824<p
 ·have K:Hid (ckC p xs=6∧ckA p xs=0):=ck_pr (xs:=xs) (fun h=>by obtain⟨N,h1,h2,h3⟩:=h;omega);go_upto_region 1 with fail;refine wp_world (fun w1=>Below w.heap.size w w1∧FB w1 w.heap.size (.int .i64 0) (.int .i64 0)) (fb1 w _ _ _) ?_;rintro w1 ⟨hB1,hF⟩;have HB1:Hid (Below w.heap.size w w1):=hB1;obtain⟨b4,hb4⟩:∃x,x=w.heap.size:=⟨_,rfl⟩;rw[←hb4]at hF⊢;have HG:Hid (w.heap.size≤b4):=(by show _≤_;omega);have HF:Hid (FB w1 b4 (.int .i64 0) (.int .i64 0)):=hF;have FIN:Hid (∀(wn:World) (u0 u1:Value) (c a:Int),FB wn b4 u0 u1→Below w.heap.size w wn→Below w.heap.size w ((wn.setCell ⟨b4,0,none⟩ (.int .i64 c)).setCell ⟨b4,1,none⟩ (.int .i64 a))):=fun wn u0 u1 c a _ hB=>below_set2 hB HG.out _ _;clear hc hB1 hb4 hF;have CF:=fun w=>rfault_any w 6 0;go_wp2_with (go_at_call 29;fail);refine(CF _).mono ?_;rintro e wf ⟨rfl,hbf⟩;have hFf:=HF.out.below hbf;have E:Hid (Below w.heap.size w ((wf.setCell ⟨b4,0,none⟩ (.int .i64 6)).setCell ⟨b4,1,none⟩ (.int .i64 0))):=FIN.out wf _ _ 6 0 hFf (HB1.out.trans (hbf.mono HB1.out.size));obtain⟨l4,c0,c1,f0,f1⟩:=hFf;clear CF hbf;go_wp2;refine bodyPost_ret (v:=Flt 6 0) (by simp[results,go_sem,loadVar,World.cell?_setCell_same,World.cell?_setCell_other, *];try rfl) rfl ?_;exact⟨by rw[K.out.1,K.out.2],E.out⟩
 have CP:=fun w=>refPrime_any w p (by omega);go_wp2_with (go_at_call 28;fail);refine(CP _).mono ?_;rintro e w1 ⟨r,rfl,hr,hb1⟩;have hB1:Below w.heap.size w w1:=(bel1 w _).trans (hb1.mono (by simp));have hF:=(FB.mk0 w (.int .i64 0) (.int .i64 0) 24).below hb1;have HB1:Hid (Below w.heap.size w w1):=hB1;have HC:Hid (∀i,i<n→w1.cell? ⟨b,o+i,none⟩=some (.int .i64 (xs.getD i 0))):=fun i hi=>(hB1.cell (p:=⟨b,o+i,none⟩) (block_lt (hc i hi))).trans (hc i hi);have HR:Hid (r=true↔PrI p):=hr;obtain⟨b4,hb4⟩:∃x,x=w.heap.size:=⟨_,rfl⟩;rw[←hb4]at hF⊢;have HG:Hid (w.heap.size≤b4):=(by show _≤_;omega);have FIN:Hid (∀(wn:World) (u0 u1:Value) (c a:Int),FB wn b4 u0 u1→Below w.heap.size w wn→Below w.heap.size w ((wn.setCell ⟨b4,0,none⟩ (.int .i64 c)).setCell ⟨b4,1,none⟩ (.int .i64 a))):=fun wn u0 u1 c a _ hB=>below_set2 hB HG.out _ _;have HF:Hid (FB w1 b4 (.int .i64 0) (.int .i64 0)):=hF;clear CP hc hb1 hB1 hb4 hr hF;cases r with
 |false=>have K:Hid (ckC p xs=6∧ckA p xs=0):=ck_pr (xs:=xs) (fun h=>absurd (HR.out.2 h) (by simp));have CF:=fun w=>rfault_any w 6 0;go_wp2_with (go_at_call 29;fail);refine(CF _).mono ?_;rintro e wf ⟨rfl,hbf⟩;have hFf:=HF.out.below hbf;have E:Hid (Below w.heap.size w ((wf.setCell ⟨b4,0,none⟩ (.int .i64 6)).setCell ⟨b4,1,none⟩ (.int .i64 0))):=FIN.out wf _ _ 6 0 hFf (HB1.out.trans (hbf.mono HB1.out.size));obtain⟨l4,c0,c1,f0,f1⟩:=hFf;clear CF hbf;go_wp2;refine bodyPost_ret (v:=Flt 6 0) (by simp[results,go_sem,loadVar,World.cell?_setCell_same,World.cell?_setCell_other, *];try rfl) rfl ?_;exact⟨by rw[K.out.1,K.out.2],E.out⟩
 |true=>
  have HP:Hid (PrI p):=HR.out.1 rfl;by_cases hl:65<n
  ·have K:Hid (ckC p xs=9∧ckA p xs=0):=ck_len HP.out (by omega);have CF:=fun w=>rfault_any w 9 0;go_wp2_with (go_at_call 29;fail);refine(CF _).mono ?_;rintro e wf ⟨rfl,hbf⟩;have hFf:=HF.out.below hbf;have E:Hid (Below w.heap.size w ((wf.setCell ⟨b4,0,none⟩ (.int .i64 9)).setCell ⟨b4,1,none⟩ (.int .i64 0))):=FIN.out wf _ _ 9 0 hFf (HB1.out.trans (hbf.mono HB1.out.size));obtain⟨l4,c0,c1,f0,f1⟩:=hFf;clear CF hbf;go_wp2;refine bodyPost_ret (v:=Flt 9 0) (by simp[results,go_sem,loadVar,World.cell?_setCell_same,World.cell?_setCell_other, *];try rfl) rfl ?_;exact⟨by rw[K.out.1,K.out.2],E.out⟩
  ·have hl':n≤65:=(by omega);have HL:Hid (¬65<xs.length):=(by show ¬_;omega);go_wp2;go_loopw [5] (fun i wr=>∃k:Nat,k≤n∧i= .int .i64 k∧(∀j,j<k→¬badN p (xs.getD j 0))∧wr=w1) (fun i _=>n-(Lib.intOf i).toNat)
   case atStart=>exact⟨0,by omega,rfl,fun j hj=>by omega,rfl⟩
   case round=>
    obtain⟨k,hk,rfl,hno,rfl⟩:=hrel;have HNO:Hid (∀j,j<k→¬badN p (xs.getD j 0)):=hno;clear hno;by_cases hkn:k<n
    ·have hki:(k:Int)<(n:Int):=(by omega);obtain rfl:=ha (by omega);obtain⟨x,hx⟩:∃x,xs.getD k 0=x:=⟨_,rfl⟩;have hcell:=HC.out k hkn;rw[hx]at hcell;have HX:Hid (xs.getD k 0=x):=hx;clear hx;by_cases hb1:x<0
     ·have K:Hid (ckC p xs=7∧ckA p xs=k):=ck_bad HP.out HL.out (by omega) HNO.out (by rw[HX.out];exact .inl hb1);have CF:=fun w=>rfault_any w 7 k;go_wp2_with (go_at_call 29;fail);refine(CF _).mono ?_;rintro e wf ⟨rfl,hbf⟩;have hFf:=HF.out.below hbf;have E:Hid (Below w.heap.size w ((wf.setCell ⟨b4,0,none⟩ (.int .i64 7)).setCell ⟨b4,1,none⟩ (.int .i64 k))):=FIN.out wf _ _ 7 k hFf (HB1.out.trans (hbf.mono HB1.out.size));obtain⟨l4,c0,c1,f0,f1⟩:=hFf;clear CF hbf;go_wp2;refine bodyPost_ret (v:=Flt 7 k) (by simp[results,go_sem,loadVar,World.cell?_setCell_same,World.cell?_setCell_other, *];try rfl) rfl ?_;exact⟨by rw[K.out.1,K.out.2],E.out⟩
     ·by_cases hb2:p≤x
      ·have K:Hid (ckC p xs=7∧ckA p xs=k):=ck_bad HP.out HL.out (by omega) HNO.out (by rw[HX.out];exact .inr hb2);have CF:=fun w=>rfault_any w 7 k;go_wp2_with (go_at_call 29;fail);refine(CF _).mono ?_;rintro e wf ⟨rfl,hbf⟩;have hFf:=HF.out.below hbf;have E:Hid (Below w.heap.size w ((wf.setCell ⟨b4,0,none⟩ (.int .i64 7)).setCell ⟨b4,1,none⟩ (.int .i64 k))):=FIN.out wf _ _ 7 k hFf (HB1.out.trans (hbf.mono HB1.out.size));obtain⟨l4,c0,c1,f0,f1⟩:=hFf;clear CF hbf;go_wp2;refine bodyPost_ret (v:=Flt 7 k) (by simp[results,go_sem,loadVar,World.cell?_setCell_same,World.cell?_setCell_other, *];try rfl) rfl ?_;exact⟨by rw[K.out.1,K.out.2],E.out⟩
      ·have HNB:Hid (¬badN p x):=(by show ¬_;unfold badN;omega);go_wp2;go_roundw
       case rel=>
        refine⟨k+1,by omega,by first|rfl|trivial,fun j hj=>?_,by first|rfl|trivial⟩;rcases Nat.lt_or_ge j k with h|h
        ·exact HNO.out j h
        ·obtain rfl:j=k:=(by omega);rw[HX.out];exact HNB.out
       case measure=>simp only[Lib.intOf];omega
    ·obtain rfl:k=n:=(by omega);have hki:¬(k:Int)<(k:Int):=(by omega);have HNN:Hid (∀j,j<xs.length→¬badN p (xs.getD j 0)):=fun j hj=>HNO.out j (by omega);by_cases h0:k=0
     ·have K:Hid (ckC p xs=0∧ckA p xs=0):=ck_ok HP.out HL.out HNN.out (fun h=>by omega);subst h0;have E:Hid (Below w.heap.size w ((wr.setCell ⟨b4,0,none⟩ (.int .i64 0)).setCell ⟨b4,1,none⟩ (.int .i64 0))):=FIN.out wr _ _ 0 0 HF.out HB1.out;obtain⟨l4,c0,c1,f0,f1⟩:=HF.out;go_wp2;refine bodyPost_ret (v:=Flt 0 0) (by simp[results,go_sem,loadVar,World.cell?_setCell_same,World.cell?_setCell_other, *];try rfl) rfl ?_;exact⟨by rw[K.out.1,K.out.2],E.out⟩
     ·obtain⟨x,hx⟩:∃x,xs.getD (k-1) 0=x:=⟨_,rfl⟩;obtain rfl:=ha (by omega);have hcell:=HC.out (k-1) (by omega);rw[hx]at hcell;have hk1:1≤k:=(by omega);have hk0:0<k:=(by omega);have HX:Hid (xs.getD (xs.length-1) 0=x):=(by rw[hn];exact hx);clear hx;by_cases hx0:x=0
      ·have K:Hid (ckC p xs=3∧ckA p xs=(k:Int)-1):=(by have:=ck_last HP.out HL.out HNN.out ⟨by omega,by rw[HX.out];exact hx0⟩;rw[hn]at this;exact this);have hxb:(x==0)=true:=(by simpa using hx0);clear hx0;have CF:=fun w=>rfault_any w 3 ((k:Int)-1);go_wp2_with (go_at_call 29;fail);refine(CF _).mono ?_;rintro e wf ⟨rfl,hbf⟩;have hFf:=HF.out.below hbf;have E:Hid (Below w.heap.size w ((wf.setCell ⟨b4,0,none⟩ (.int .i64 3)).setCell ⟨b4,1,none⟩ (.int .i64 ((k:Int)-1)))):=FIN.out wf _ _ 3 ((k:Int)-1) hFf (HB1.out.trans (hbf.mono HB1.out.size));obtain⟨l4,c0,c1,f0,f1⟩:=hFf;clear CF hbf;go_wp2;refine bodyPost_ret (v:=Flt 3 ((k:Int)-1)) (by simp[results,go_sem,loadVar,World.cell?_setCell_same,World.cell?_setCell_other, *];try rfl) rfl ?_;exact⟨by rw[K.out.1,K.out.2],E.out⟩
      ·have K:Hid (ckC p xs=0∧ckA p xs=0):=ck_ok HP.out HL.out HNN.out (fun h=>hx0 (by rw[←HX.out];exact h.2));have hxb:(x==0)=false:=(by simpa using hx0);clear hx0;have E:Hid (Below w.heap.size w ((wr.setCell ⟨b4,0,none⟩ (.int .i64 0)).setCell ⟨b4,1,none⟩ (.int .i64 0))):=FIN.out wr _ _ 0 0 HF.out HB1.out;obtain⟨l4,c0,c1,f0,f1⟩:=HF.out;go_wp2;refine bodyPost_ret (v:=Flt 0 0) (by simp[results,go_sem,loadVar,World.cell?_setCell_same,World.cell?_setCell_other, *];try rfl) rfl ?_;exact⟨by rw[K.out.1,K.out.2],E.out⟩
end Go.Proofs.YtffdemplaodbcaaDoor
namespace Go.Proofs.YtffdemplaodbcaaDoor
open Go Go.Proofs Go.RowKit Go.Rad
def AR (w:World) (b o n:Nat) (f:Nat→Int):Prop:=∀i,i<n→w.cell? ⟨b,o+i,none⟩=some (.int .i64 (f i))
theorem AR.lt {w:World} {b o n:Nat} {f:Nat→Int} (h:AR w b o n f) (hn:0<n):b<w.heap.size:=block_lt (h 0 hn)
theorem AR.below {w w':World} {b o n:Nat} {f:Nat→Int} (h:AR w b o n f) (hb:Below w.heap.size w w'):AR w' b o n f:=fun i hi=>(hb.cell (p:=⟨b,o+i,none⟩) (block_lt (h i hi))).trans (h i hi)
theorem AR.chg {w w':World} {b o n c lo hi:Nat} {f:Nat→Int} (h:AR w b o n f) (hc:Chg w w' c lo hi) (hap:0<n→b≠c∨o+n≤lo∨hi≤o):AR w' b o n f:=fun i hi=>(hc.cellAt (block_lt (h i hi)) (by have:=hap (by omega);omega)).trans (h i hi)
theorem AR.sub {w:World} {b o n:Nat} {f:Nat→Int} (h:AR w b o n f) {d m:Nat} (hm:d+m≤n):AR w b (o+d) m (fun i=>f (d+i)):=fun i hi=>by
 have:=h (d+i) (by omega)
 rwa [←Nat.add_assoc]at this
theorem chg_of_below {w w':World} (hb:Below w.heap.size w w') {b:Nat} (h:b<w.heap.size) (lo hi:Nat):Chg w w' b lo hi:=⟨hb.os,hb.tape,hb.output,hb.size,fun k hk _=>hb.block k hk,fun i _=>World.cell?_of_block (hb.block b h),fun i=>World.frozen?_of_block (hb.block b h)⟩
theorem chg_drewN {a w:World} {b lo hi:Nat} (h:Chg a w b lo hi) (n:Nat):Chg a (w.drewN n) b lo hi:=⟨h.os,h.tape,h.output,h.size,h.block,h.cell,h.froz⟩
def gq (q s:Int):Int:=if s<q then s else s-q
theorem i64_and_all (x:Int) (h0:0≤x) (h:x<9223372036854775808):bits .and .i64 x (-1)=x:=by have h1:(BitVec.ofInt 64 (-1:Int)).toNat=2^64-1:=(by decide);have h2:((BitVec.ofInt 64 x).toNat:Int)=x%18446744073709551616:=(by rw[BitVec.toNat_ofInt];omega);have h3:(BitVec.ofInt 64 x).toNat<2^64:=BitVec.isLt _;show IntKind.i64.wrap ((BitVec.ofInt 64 x &&& BitVec.ofInt 64 (-1)).toNat:Int)=_;rw[BitVec.toNat_and,h1,Nat.and_two_pow_sub_one_eq_mod,Nat.mod_eq_of_lt h3,h2,IntKind.wrap_i64];omega
theorem i64_and_none (x:Int):bits .and .i64 x 0=0:=by have h1:(BitVec.ofInt 64 (0:Int)).toNat=0:=(by decide);show IntKind.i64.wrap ((BitVec.ofInt 64 x &&& BitVec.ofInt 64 0).toNat:Int)=_;rw[BitVec.toNat_and,h1,Nat.and_zero,IntKind.wrap_i64];rfl
set_option maxRecDepth 10000 in
set_option maxHeartbeats 1000000 in
theorem gather_any (w:World) (p q c:Int) (a1 a2:Option Addr) (b o n1 c1 b2 o2 n2 c2:Nat) (f g:Nat→Int) (hs:0<n2→a1=some ⟨b,o,none⟩) (hs2:0<n2→a2=some ⟨b2,o2,none⟩)
 (hn:n2≤n1) (hc1:n1≤c1) (hb:b<w.heap.size) (hF:AR w b o n2 f) (hfz:Free w b o n2) (hG:AR w b2 o2 n2 g) (hne:0<n2→b≠b2) (hq:0<q∧q<4611686018427387904) (hm:n2≤17592186044416)
 (hf:∀i,i<n2→0≤f i∧f i<q) (hg:∀i,i<n2→0≤c*g i∧c*g i<q):
 Calls Tryd.prog 57 #[FV p q, .slice a1 n1 c1, .slice a2 n2 c2, .int .i64 c] w fun e w'=>e= .returned (.tuple #[])∧Chg w w' b o (o+n2)∧AR w' b o n2 (fun i=>gq q (f i+c*g i)):=by
 go_enter Tryd.func57,Tryd.ntmps57;by_cases h0:n2=0
 ·subst h0;have HC:Hid (Chg w (w.alloc (Obj.cells #[.int .i64 p, .int .i64 q] 53)) b o (o+0)):=chg_of_below (bel1 _ _) hb _ _;clear hF hG hfz hf hg hs hs2 hne;go_wp2;go_loopw [17] (fun i wr=>i= .int .i64 0∧wr=w.alloc (Obj.cells #[.int .i64 p, .int .i64 q] 53)) (fun i _=>0)
  case atStart=>exact⟨rfl,rfl⟩
  case round=>obtain⟨rfl,rfl⟩:=hrel;go_wp2;go_end0;exact⟨rfl,HC.out,fun i hi=>by omega⟩
 ·obtain rfl:=hs (by omega);obtain rfl:=hs2 (by omega);have HF:Hid (AR w b o n2 f):=hF;have HG:Hid (AR w b2 o2 n2 g):=hG;have HZ:Hid (Free w b o n2):=hfz;have HNE:Hid (b≠b2):=hne (by omega);have HB:Hid (b<w.heap.size):=hb;have HFB:Hid (∀i,i<n2→0≤f i∧f i<q):=hf;have HGB:Hid (∀i,i<n2→0≤c*g i∧c*g i<q):=hg;clear hF hG hfz hne hb hf hg hs hs2;go_wp2;refine wp_world (fun w1=>Chg w w1 b o o∧w.heap.size<w1.heap.size∧w1.cell? ⟨w.heap.size,0,none⟩=some (.int .i64 p)∧w1.cell? ⟨w.heap.size,1,none⟩=some (.int .i64 q)) ⟨chg_of_below (bel1 _ _) HB.out _ _,by simp,by simp[go_sem],by simp[go_sem]⟩ ?_;rintro w1 ⟨hC1,hl1,c0,c1'⟩;obtain⟨b4,hb4⟩:∃x,x=w.heap.size:=⟨_,rfl⟩;rw[←hb4]at c0 c1' hl1⊢;have HB4:Hid (b≠b4):=(by have:=HB.out;show _≠_;omega);have HC1:Hid (Chg w w1 b o o):=hC1;clear hC1 hb4;go_loopw [17] (fun i wr=>∃k:Nat,k≤n2∧i= .int .i64 k∧Chg w wr b o (o+k)∧AR wr b o k (fun i=>gq q (f i+c*g i))∧b4<wr.heap.size∧wr.cell? ⟨b4,0,none⟩=some (.int .i64 p)∧wr.cell? ⟨b4,1,none⟩=some (.int .i64 q)) (fun i _=>n2-(Lib.intOf i).toNat)
  case atStart=>exact⟨0,by omega,rfl,HC1.out.mono (by omega) (by omega),fun i hi=>by omega,hl1,c0,c1'⟩
  case round=>
   obtain⟨k,hk,rfl,hC,hA,hl,d0,d1⟩:=hrel;have HC:Hid (Chg w wr b o (o+k)):=hC;have HA:Hid (AR wr b o k (fun i=>gq q (f i+c*g i))):=hA;clear hC hA c0 c1' hl1;by_cases hkn:k<n2
   ·have hki:(k:Int)<(n2:Int):=(by omega);have ck:wr.cell? ⟨b,o+k,none⟩=some (.int .i64 (f k)):=(HC.out.cell _ (by omega)).trans (HF.out k hkn);have gk:wr.cell? ⟨b2,o2+k,none⟩=some (.int .i64 (g k)):=(HC.out.cellAt (HG.out.lt (by omega)) (.inl HNE.out.symm)).trans (HG.out k hkn);have zk:wr.frozen? ⟨b,o+k,none⟩=false:=(HC.out.froz _).trans (HZ.out k hkn);obtain⟨r1,r2⟩:=HFB.out k hkn;obtain⟨r3,r4⟩:=HGB.out k hkn;obtain⟨fk,hfk⟩:∃x,f k=x:=⟨_,rfl⟩;obtain⟨m,hmk⟩:∃x,c*g k=x:=⟨_,rfl⟩;obtain⟨gk',hgk⟩:∃x,g k=x:=⟨_,rfl⟩;rw[hfk]at ck r1 r2;rw[hmk]at r3 r4;rw[hgk]at gk hmk;have HFK:Hid (f k=fk∧g k=gk'):=⟨hfk,hgk⟩;have hmw:wrap64 (c*gk')=m:=(by rw[hmk];exact wrap_in r3 (by omega));have HMK:Hid (c*gk'=m):=hmk;clear hfk hgk hmk;have hb1:=i64_and_all q (by omega) (by omega);have hb2:=i64_and_none q;have HGQ:Hid (gq q (f k+c*g k)=if fk+m<q then fk+m else fk+m-q):=(by show gq _ _=_;rw[HFK.out.1,HFK.out.2,HMK.out];rfl);have HV:Hid (wrap64 (wrap64 (wrap64 (fk+m)-q)+bits .and .i64 q (wrap64 (wrap64 (fk+m)-q) / 9223372036854775808))=gq q (f k+c*g k)):=by
     show _=_;rw[HGQ.out,wrap_in (x:=fk+m) (by omega) (by omega)];have e1:wrap64 (fk+m-q)=fk+m-q:=(by unfold wrap64;omega);rw[e1]
     split
     ·rw[show(fk+m-q) / 9223372036854775808= -1 by omega,hb1];unfold wrap64;omega
     ·rw[show(fk+m-q) / 9223372036854775808=0 by omega,hb2];unfold wrap64;omega
    clear hb1 hb2;go_wp2;go_quiet (fail);go_wp2;rw[HV.out];refine⟨⟨k+1,by omega,by congr 1,((chg_drewN HC.out nq).mono (by omega) (by omega)).set (by omega) (by omega) _,?_,by simpa using hl,?_,?_⟩,by simp only[Lib.intOf];omega⟩
    ·intro i hi;rcases Nat.lt_or_ge i k with h|h
     ·rw[cell_other (.inr (by omega))];exact HA.out i h
     ·obtain rfl:i=k:=(by omega);exact cell_same (u:= .int .i64 fk) ck
    ·rw[cell_other (.inl HB4.out.symm)];exact d0
    ·rw[cell_other (.inl HB4.out.symm)];exact d1
   ·obtain rfl:k=n2:=(by omega);have hki:¬(k:Int)<(k:Int):=(by omega);go_wp2;go_end0;exact⟨rfl,HC.out,HA.out⟩
end Go.Proofs.YtffdemplaodbcaaDoor
namespace Go.Proofs.YtffdemplaodbcaaDoor
open Go Go.Proofs Go.RowKit Go.Rad
inductive SetPost (w:World) (p:Int) (a:Option Addr) (b o n c:Nat) (f:Nat→Int) (e:Ending) (w':World):Prop
 |mk (m:Nat) (he:e= .returned (.slice a m c)) (hm:m≤n) (hC:Chg w w' b o (o+n)) (hA:AR w' b o n (fun i=>f i%p)) (hz:∀i,m≤i→i<n→f i%p=0) (hl:0<m→f (m-1)%p≠0)
set_option maxRecDepth 10000 in
set_option maxHeartbeats 1000000 in
theorem settled_any (w:World) (p q:Int) (a:Option Addr) (b o n c:Nat) (f:Nat→Int) (hs:0<n→a=some ⟨b,o,none⟩) (hc:n≤c) (hb:b<w.heap.size) (hF:AR w b o n f) (hfz:Free w b o n)
 (hp:0<p∧p<2147483648) (hm:n≤17592186044416) (hf:∀i,i<n→0≤f i∧f i<9223372036854775808):
 Calls Tryd.prog 32 #[FV p q, .slice a n c] w fun e w'=>SetPost w p a b o n c f e w':=by
 have HF:Hid (AR w b o n f):=hF;have HZ:Hid (Free w b o n):=hfz;have HB:Hid (b<w.heap.size):=hb;have HFB:Hid (∀i,i<n→0≤f i∧f i<9223372036854775808):=hf;clear hF hfz hb hf;go_enter Tryd.func32,Tryd.ntmps32;go_wp2;refine wp_world (fun w1=>Chg w w1 b o o∧w.heap.size<w1.heap.size∧w1.cell? ⟨w.heap.size,0,none⟩=some (.int .i64 p)∧w1.cell? ⟨w.heap.size,1,none⟩=some (.int .i64 q)) ⟨chg_of_below (bel1 _ _) HB.out _ _,by simp,by simp[go_sem],by simp[go_sem]⟩ ?_;rintro w1 ⟨hC1,hl1,c0,c1'⟩;obtain⟨b4,hb4⟩:∃x,x=w.heap.size:=⟨_,rfl⟩;rw[←hb4]at c0 c1' hl1⊢;have HB4:Hid (b≠b4):=(by have:=HB.out;show _≠_;omega);have HC1:Hid (Chg w w1 b o o):=hC1;clear hC1 hb4;go_loopw [5,10] (fun mv i wr=>∃k m:Nat,m≤k∧k≤n∧i= .int .i64 k∧mv= .int .i64 m∧Chg w wr b o (o+k)∧AR wr b o k (fun i=>f i%p)∧(∀i,m≤i→i<k→f i%p=0)∧(0<m→f (m-1)%p≠0)∧b4<wr.heap.size∧wr.cell? ⟨b4,0,none⟩=some (.int .i64 p)∧wr.cell? ⟨b4,1,none⟩=some (.int .i64 q)) (fun _ i _=>n-(Lib.intOf i).toNat)
 case atStart=>exact⟨0,0,by omega,by omega,rfl,rfl,HC1.out.mono (by omega) (by omega),fun i hi=>by omega,fun i h1 h2=>by omega,fun h=>by omega,hl1,c0,c1'⟩
 case round=>
  obtain⟨k,m,hmk,hk,rfl,rfl,hC,hA,hz,hlst,hl,d0,d1⟩:=hrel;have HC:Hid (Chg w wr b o (o+k)):=hC;have HA:Hid (AR wr b o k (fun i=>f i%p)):=hA;have HZR:Hid ((∀i,m≤i→i<k→f i%p=0)∧(0<m→f (m-1)%p≠0)):=⟨hz,hlst⟩;clear hC hA hz hlst c0 c1' hl1;by_cases hkn:k<n
  ·obtain rfl:=hs (by omega);have hki:(k:Int)<(n:Int):=(by omega);have ck:wr.cell? ⟨b,o+k,none⟩=some (.int .i64 (f k)):=(HC.out.cell _ (by omega)).trans (HF.out k hkn);have zk:wr.frozen? ⟨b,o+k,none⟩=false:=(HC.out.froz _).trans (HZ.out k hkn);obtain⟨r1,r2⟩:=HFB.out k hkn;obtain⟨fk,hfk⟩:∃x,f k=x:=⟨_,rfl⟩;rw[hfk]at ck r1 r2;have HFK:Hid (f k=fk):=hfk;have CL:=fun w=>least_any w p q fk hp.1 hp.2 r1 r2;clear hfk;go_wp2_with (go_at_call 56;fail);refine(CL _).mono ?_;rintro e w2 ⟨rfl,hb2⟩;have hbw:b<wr.heap.size:=block_lt ck;have HC2:Hid (Chg w w2 b o (o+k)):=HC.out.trans (chg_of_below hb2 hbw _ _);have HA2:Hid (AR w2 b o k (fun i=>f i%p)):=HA.out.below hb2;replace ck:=(hb2.cell (p:=⟨b,o+k,none⟩) hbw).trans ck;replace zk:=(hb2.frozen (p:=⟨b,o+k,none⟩) hbw).trans zk;replace d0:=(hb2.cell (p:=⟨b4,0,none⟩) hl).trans d0;replace d1:=(hb2.cell (p:=⟨b4,1,none⟩) hl).trans d1;replace hl:=Nat.lt_of_lt_of_le hl hb2.size;obtain⟨y,hy⟩:∃y,fk%p=y:=⟨_,rfl⟩;rw[hy];have HY:Hid (f k%p=y):=(by show _=_;rw[HFK.out];exact hy);have HREL:Hid (∀m':Nat,m'≤k+1→(∀i,m'≤i→i<k+1→f i%p=0)→(0<m'→f (m'-1)%p≠0)→∃k₁ m₁:Nat,m₁≤k₁∧k₁≤n∧Value.int .i64 ((k:Int)+1)= .int .i64 k₁∧Value.int .i64 (m':Int)= .int .i64 m₁∧Chg w (w2.setCell ⟨b,o+k,none⟩ (.int .i64 y)) b o (o+k₁)∧AR (w2.setCell ⟨b,o+k,none⟩ (.int .i64 y)) b o k₁ (fun i=>f i%p)∧(∀i,m₁≤i→i<k₁→f i%p=0)∧(0<m₁→f (m₁-1)%p≠0)∧b4<(w2.setCell ⟨b,o+k,none⟩ (.int .i64 y)).heap.size∧(w2.setCell ⟨b,o+k,none⟩ (.int .i64 y)).cell? ⟨b4,0,none⟩=some (.int .i64 p)∧(w2.setCell ⟨b,o+k,none⟩ (.int .i64 y)).cell? ⟨b4,1,none⟩=some (.int .i64 q)):=by
    intro m' h1 h2 h3;refine⟨k+1,m',h1,by omega,by congr 1,rfl,(HC2.out.mono (by omega) (by omega)).set (by omega) (by omega) _,?_,h2,h3,by simpa using hl,?_,?_⟩
    ·intro i hi;rcases Nat.lt_or_ge i k with h|h
     ·rw[cell_other (.inr (by omega))];exact HA2.out i h
     ·obtain rfl:i=k:=(by omega);rw[cell_same (u:= .int .i64 fk) ck];show some (Value.int _ y)=some (Value.int _ (f i%p));rw[HY.out]
    ·rw[cell_other (.inl HB4.out.symm)];exact d0
    ·rw[cell_other (.inl HB4.out.symm)];exact d1
   have hs2:(w2.setCell ⟨b,o+k,none⟩ (.int .i64 y)).cell? ⟨b,o+k,none⟩=some (.int .i64 y):=cell_same (u:= .int .i64 fk) ck;clear CL hb2 hbw hy;by_cases hy0:y=0
   ·have hyb:(y !=0)=false:=(by simpa using hy0);have HR:=HREL.out m (by omega) (fun i h1 h2=>by
     rcases Nat.lt_or_ge i k with h|h
     ·exact HZR.out.1 i h1 h
     ·obtain rfl:i=k:=(by omega);rw[HY.out];exact hy0) HZR.out.2
    have HR:Hid _:=HR;clear HREL;subst hy0;go_wp2;exact⟨HR.out,by simp only[Lib.intOf];omega⟩
   ·have hyb:(y !=0)=true:=(by simpa using hy0);have HR:=HREL.out (k+1) (by omega) (fun i h1 h2=>by omega) (fun _=>by rw[Nat.add_sub_cancel,HY.out];exact hy0);have HR:Hid _:=HR;clear HREL;have hy0':¬y=0:=hy0;go_wp2;exact⟨HR.out,by simp only[Lib.intOf];omega⟩
  ·obtain rfl:k=n:=(by omega);have hki:¬(k:Int)<(k:Int):=(by omega);go_wp2;refine bodyPost_ret (v:= .slice a m c) (by simp[results,go_sem,loadVar]) rfl ?_;exact .mk m rfl hmk HC.out HA.out HZR.out.1 HZR.out.2
end Go.Proofs.YtffdemplaodbcaaDoor
namespace Go.Proofs.YtffdemplaodbcaaDoor
open Go Go.Proofs Go.RowKit Go.Rad
structure OA (w:World) (B b n:Nat) (f:Nat→Int):Prop where
 base:B≤b
 lt:b<w.heap.size
 c:AR w b 0 n f
 z:Free w b 0 n
theorem OA.below {w w':World} {B b n:Nat} {f:Nat→Int} (h:OA w B b n f) (hb:Below w.heap.size w w'):OA w' B b n f:=⟨h.base,Nat.lt_of_lt_of_le h.lt hb.size,h.c.below hb,fun i hi=>(hb.frozen (p:=⟨b,0+i,none⟩) h.lt).trans (h.z i hi)⟩
theorem OA.mono {w:World} {B C b n:Nat} {f:Nat→Int} (h:OA w B b n f) (hc:C≤B):OA w C b n f:=⟨Nat.le_trans hc h.base,h.lt,h.c,h.z⟩
theorem info3:(Tryd.prog.info? 3).map (fun i=>(i.zero,i.size,i.bytes))=some (some (.int .i64 0),1,8):=by kernel_rfl
theorem wpList_makeI {w:World} {ops:Array Oper} {rest:List Oper} {o:Oper} {a:Act} {Q:Exit→Act→World→Prop}
 (hg:o.guard=none) (l c:Operand) (hop:o.op=Op.makeSlice 22 l c) (L:Int) (n:Nat) (hl:a.eval l= .int .i64 L) (hc:a.eval c= .int .i64 L) (hL:L=(n:Int)) (hn:n≤1099511627776)
 (hK:∀w',OA w' w.heap.size w.heap.size n (fun _=>0)→Below w.heap.size w w'→wpList Tryd.prog ops Q rest (a.put o.dst (.slice (some ⟨w.heap.size,0,none⟩) n n)) w'):
 wpList Tryd.prog ops Q (o::rest) a w:=by
 obtain⟨i,hi0,hi1⟩:=Option.map_eq_some_iff.1 info3;simp only[Prod.mk.injEq]at hi1;obtain⟨z0,z1,z2⟩:=hi1;subst hL;refine wpList_plain hg fun K hK'=>?_;obtain⟨w',hrun,hrow,hgr⟩:=run_make_full (P:=Tryd.prog) w w.heap.size 22 3 i (.int .i64 0) 1 Tryd.underlying22 hi0 z0 z1 .i64 .i64 n (by rw[z2];omega) (by unfold maxLen;omega) (Nat.le_refl _);unfold Oper.wp;simp[execOp,hop,hl,hc,hrun,Result.andThen];have hB:Below w.heap.size w w':=(Below.refl _ _).grown hgr (Nat.le_refl _) (fun k hk=>by cases hk);have e1:(madeCells (Value.int .i64 0).cells (n*1)).toList=List.replicate n (Value.int .i64 0):=(by rw[Nat.mul_one];exact toList_madeCells_one _ _);rw[e1]at hrow;have hlt:w.heap.size<w'.heap.size:=by
  rcases hrow.2 with⟨h,_⟩|⟨g,cap,cur,hv,_,hg,_⟩
  ·cases h
  ·have h2:=(Array.getElem?_eq_some_iff.1 hg).1;simp only[Value.slice.injEq,Option.some.injEq,Addr.mk.injEq]at hv;omega
 refine hK' _ _ (hK _ ⟨Nat.le_refl _,hlt,fun j hj=>?_,fun j hj=>?_⟩ hB)
 ·rw[Nat.zero_add,World.ownsRow.cellAt hrow j (by omega)];simp[hj]
 ·rw[Nat.zero_add];exact World.ownsRow.frozenAt hrow j
def cvp (x y:Nat→Int) (n2:Nat):Nat→Nat→Int
 |0,_=>0
 |k+1,i=>cvp x y n2 k i+(if k≤i∧i<k+n2 then x k*y (i-k) else 0)
theorem gq_ok {p q s:Int} (hq:q=p*p) (h0:0≤s) (h:s<2*q) (hq0:0<q):0≤gq q s∧gq q s<q∧gq q s%p=s%p:=by
 unfold gq
 split
 ·exact⟨h0,by assumption,rfl⟩
 ·refine⟨by omega,by omega,?_⟩;rw[hq,Int.sub_mul_emod_self_left]
theorem mul_lt_sq {p a b:Int} (ha0:0≤a) (ha:a<p) (hb0:0≤b) (hb:b<p):0≤a*b∧a*b<p*p:=by refine⟨Int.mul_nonneg ha0 hb0,?_⟩;have h1:=Int.mul_le_mul (show a≤p-1 by omega) (show b≤p-1 by omega) hb0 (by omega);have h2:(p-1)*(p-1)=p*p-2*p+1:=(by grind);omega
inductive ProdPost (w:World) (p q:Int) (n1 n2:Nat) (x y:Nat→Int) (e:Ending) (w':World):Prop
 |none (he:e= .returned (.slice none 0 0)) (h:n1=0∨n2=0) (hb:Below w.heap.size w w')
 |some (b:Nat) (h:Nat→Int) (he:e= .returned (.slice (some ⟨b,0,none⟩) (n1+n2-1) (n1+n2-1))) (h1:0<n1) (h2:0<n2) (hb:Below w.heap.size w w') (ho:OA w' w.heap.size b (n1+n2-1) h)
  (hh:∀i,i<n1+n2-1→0≤h i∧h i<q∧h i%p=cvp x y n2 n1 i%p)
set_option maxRecDepth 10000 in
set_option maxHeartbeats 1000000 in
theorem product_any (w:World) (p q:Int) (a1 a2:Option Addr) (b1 o1 n1 c1 b2 o2 n2 c2:Nat) (x y:Nat→Int) (hs1:0<n1→a1=some ⟨b1,o1,none⟩) (hs2:0<n2→a2=some ⟨b2,o2,none⟩) (hX:AR w b1 o1 n1 x) (hY:AR w b2 o2 n2 y)
 (hq:q=p*p) (hp:0<p∧p<2147483648) (hm1:n1≤1048576) (hm2:n2≤1048576) (hx:∀i,i<n1→0≤x i∧x i<p) (hy:∀i,i<n2→0≤y i∧y i<p):
 Calls Tryd.prog 33 #[FV p q, .slice a1 n1 c1, .slice a2 n2 c2] w fun e w'=>ProdPost w p q n1 n2 x y e w':=by
 have HX:Hid (AR w b1 o1 n1 x):=hX;have HY:Hid (AR w b2 o2 n2 y):=hY;have HXB:Hid (∀i,i<n1→0≤x i∧x i<p):=hx;have HYB:Hid (∀i,i<n2→0≤y i∧y i<p):=hy;have HQ:Hid (q=p*p):=hq;have hqq:=sq_lt (by omega:(0:Int)≤p) hp.2 (by omega) hp.2;rw[←hq]at hqq;have hq0:0<q:=(by rw[hq];exact Int.mul_pos hp.1 hp.1);clear hX hY hx hy hq;go_enter Tryd.func33,Tryd.ntmps33;by_cases h1:n1=0
 ·subst h1;go_wp2;refine bodyPost_ret (v:= .slice none 0 0) (by simp[results,go_sem,loadVar]) rfl ?_;exact .none rfl (.inl rfl) (bel1 _ _)
 by_cases h2:n2=0
 ·subst h2;go_wp2;refine bodyPost_ret (v:= .slice none 0 0) (by simp[results,go_sem,loadVar]) rfl ?_;exact .none rfl (.inr rfl) (bel1 _ _)
 obtain rfl:=hs1 (by omega);obtain rfl:=hs2 (by omega);have hN:((n1:Int)+(n2:Int)-1)=((n1+n2-1:Nat):Int):=(by omega);obtain⟨N,hNN⟩:∃N,N=n1+n2-1:=⟨_,rfl⟩;rw[←hNN]at hN;have HNN:Hid (N=n1+n2-1):=hNN;have hNk:n1≤N∧n2≤N∧N≤2097152:=(by omega);clear hNN;have hn1b:((n1:Int)==0)=false:=(by simpa using (show ¬(n1:Int)=0 by omega));have hn2b:((n2:Int)==0)=false:=(by simpa using (show ¬(n2:Int)=0 by omega));go_wp2_with (at_make;refine wpList_makeI rfl _ _ rfl _ N rfl rfl (by first|exact hN|omega) (by omega) ?_;intro w3 ho3 hb3);have hB3:Below w.heap.size w w3:=(bel1 w _).trans (hb3.mono (by simp));have c0:w3.cell? ⟨w.heap.size,0,none⟩=some (.int .i64 p):=(hb3.cell (p:=⟨w.heap.size,0,none⟩) (by simp)).trans (by simp[go_sem]);have c1':w3.cell? ⟨w.heap.size,1,none⟩=some (.int .i64 q):=(hb3.cell (p:=⟨w.heap.size,1,none⟩) (by simp)).trans (by simp[go_sem]);have hl:w.heap.size<w3.heap.size:=(by have:=hb3.size;simp at this;omega);have ho:OA w3 w.heap.size (w.heap.size+1) N (fun _=>0):=(by have h9:=ho3.mono (C:=w.heap.size) (by simp);simpa using h9);obtain⟨b,hbb⟩:∃x,x=w.heap.size+1:=⟨_,rfl⟩;obtain⟨b4,hb4⟩:∃x,x=w.heap.size:=⟨_,rfl⟩;have hbn:b≠b4:=(by omega);rw[←hbb]at ho⊢;rw[←hb4]at c0 c1' hl⊢;have HBN:Hid (b≠b4∧b4=w.heap.size):=⟨hbn,hb4⟩;have HB3:Hid (Below w.heap.size w w3):=hB3;have HO:Hid (OA w3 w.heap.size b N (fun _=>0)):=ho;clear ho3 hb3 hB3 hbb hb4 hbn ho hN;go_loopw [27] (fun i wr=>∃(k:Nat) (h:Nat→Int),k≤n1∧i= .int .i64 k∧Below w.heap.size w wr∧OA wr w.heap.size b N h∧(∀i,i<N→0≤h i∧h i<q∧h i%p=cvp x y n2 k i%p)∧b4<wr.heap.size∧wr.cell? ⟨b4,0,none⟩=some (.int .i64 p)∧wr.cell? ⟨b4,1,none⟩=some (.int .i64 q)) (fun i _=>n1-(Lib.intOf i).toNat)
 case atStart=>exact⟨0,fun _=>0,by omega,rfl,HB3.out,HO.out,fun i hi=>⟨Int.le_refl _,hq0,rfl⟩,hl,c0,c1'⟩
 case round=>
  obtain⟨k,h,hk,rfl,hB,ho,hh,hl4,d0,d1⟩:=hrel;have HB:Hid (Below w.heap.size w wr):=hB;have HO:Hid (OA wr w.heap.size b N h):=ho;have HH:Hid (∀i,i<N→0≤h i∧h i<q∧h i%p=cvp x y n2 k i%p):=hh;clear hB ho hh c0 c1' hl;by_cases hkn:k<n1
  ·have hki:(k:Int)<(n1:Int):=(by omega);have xk:wr.cell? ⟨b1,o1+k,none⟩=some (.int .i64 (x k)):=HX.out.below HB.out k hkn;have hxk:=HXB.out k hkn;obtain⟨X,hXk⟩:∃z,x k=z:=⟨_,rfl⟩;rw[hXk]at xk hxk;have HXK:Hid (x k=X):=hXk;clear hXk;have hs1:¬N=k:=(by omega);have hs2:(k:Int)≤(N:Int):=(by omega);have hb2:b2<w.heap.size:=HY.out.lt (by omega);have hbb2:b≠b2:=(by have:=HO.out.base;omega);have hq':0<q∧q<4611686018427387904:=⟨hq0,hqq.2⟩;have hmul:∀i,i<n2→0≤X*y i∧X*y i<q:=fun i hi=>by have h3:=HYB.out i hi;have h4:=mul_lt_sq hxk.1 hxk.2 h3.1 h3.2;rw[←HQ.out]at h4;exact h4
   have HM:Hid (∀i,i<n2→0≤X*y i∧X*y i<q):=hmul;have hkk:k+n2≤N:=(by have:=HNN.out;omega);have CG:=gather_any wr.drew p q X (some ⟨b,k,none⟩) (some ⟨b2,o2,none⟩) b k (N-k) (N-k) b2 o2 n2 c2 (fun i=>h (k+i)) y (fun _=>rfl) (fun _=>rfl) (by omega) (Nat.le_refl _) HO.out.lt
    (fun i hi=>by have h5:=HO.out.c (k+i) (by omega);rw[Nat.zero_add]at h5;exact h5)
    (fun i hi=>by have h5:=HO.out.z (k+i) (by omega);rw[Nat.zero_add]at h5;exact h5)
    ((HY.out.below HB.out).below (bel_drew wr)) (fun _=>hbb2) hq' (by omega) (fun i hi=>⟨(HH.out (k+i) (by omega)).1,(HH.out (k+i) (by omega)).2.1⟩) hmul
   have HBB:Hid (b≠b2):=hbb2;clear hmul hbb2 hb2;go_wp2;go_region_with (go_at_call 57;refine CG.mono ?_;rintro e w4 ⟨rfl,hC4,hA4⟩);have HC4:Hid (Chg wr.drew w4 b k (k+n2)):=hC4;have HA4:Hid (AR w4 b k n2 (fun i=>gq q (h (k+i)+X*y i))):=hA4;have HB4:Hid (Below w.heap.size w w4):=(by have h5:Below w.heap.size wr.drew w4:=hC4.below HO.out.base HB.out.size;exact HB.out.drew.trans h5);have HO4:Hid (OA w4 w.heap.size b N (fun i=>if k≤i∧i<k+n2 then gq q (h i+X*y (i-k)) else h i)):=by
    refine⟨HO.out.base,Nat.lt_of_lt_of_le HO.out.lt hC4.size,fun i hi=>?_,fun i hi=>?_⟩
    ·by_cases h5:k≤i∧i<k+n2
     ·rw[if_pos h5];have h6:w4.cell? ⟨b,k+(i-k),none⟩=some (.int .i64 (gq q (h (k+(i-k))+X*y (i-k)))):=hA4 (i-k) (by omega);rw[show k+(i-k)=i by omega]at h6;rw[Nat.zero_add];exact h6
     ·rw[if_neg h5,Nat.zero_add,hC4.cell i (by omega)];have h6:=HO.out.c i hi;rw[Nat.zero_add]at h6;exact h6
    ·rw[Nat.zero_add,hC4.froz];have h6:=HO.out.z i hi;rw[Nat.zero_add]at h6;exact h6
   have HH4:Hid (∀i,i<N→0≤(if k≤i∧i<k+n2 then gq q (h i+X*y (i-k)) else h i)∧(if k≤i∧i<k+n2 then gq q (h i+X*y (i-k)) else h i)<q∧(if k≤i∧i<k+n2 then gq q (h i+X*y (i-k)) else h i)%p=cvp x y n2 (k+1) i%p):=by
    intro i hi;obtain⟨g1,g2,g3⟩:=HH.out i hi;have ec:cvp x y n2 (k+1) i=cvp x y n2 k i+(if k≤i∧i<k+n2 then x k*y (i-k) else 0):=rfl;rw[ec,HXK.out];by_cases h5:k≤i∧i<k+n2
    ·rw[if_pos h5,if_pos h5];obtain⟨g4,g5⟩:=HM.out (i-k) (by omega);obtain⟨g6,g7,g8⟩:=gq_ok (p:=p) (s:=h i+X*y (i-k)) HQ.out (by omega) (by omega) hq0;exact⟨g6,g7,by rw[g8,Int.add_emod,g3,←Int.add_emod]⟩
    ·rw[if_neg h5,if_neg h5,Int.add_zero];exact⟨g1,g2,g3⟩
   have hb44:b4<w4.heap.size:=Nat.lt_of_lt_of_le hl4 hC4.size;have e0:w4.cell? ⟨b4,0,none⟩=some (.int .i64 p):=(hC4.cellAt hl4 (.inl HBN.out.1.symm)).trans d0;have e1:w4.cell? ⟨b4,1,none⟩=some (.int .i64 q):=(hC4.cellAt hl4 (.inl HBN.out.1.symm)).trans d1;clear hC4 hA4 CG d0 d1 hl4;go_wp2;exact⟨⟨k+1,_,by omega,by congr 1,HB4.out,HO4.out,HH4.out,hb44,e0,e1⟩,by simp only[Lib.intOf];omega⟩
  ·obtain rfl:k=n1:=(by omega);have hki:¬(k:Int)<(k:Int):=(by omega);go_wp2;refine bodyPost_ret (v:= .slice (some ⟨b,0,none⟩) N N) (by simp[results,go_sem,loadVar]) rfl ?_;exact .some b h (by rw[HNN.out]) (by omega) (by omega) HB.out (HNN.out▸HO.out) (HNN.out▸HH.out)
end Go.Proofs.YtffdemplaodbcaaDoor
