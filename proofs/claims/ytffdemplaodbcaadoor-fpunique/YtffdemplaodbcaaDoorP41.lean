/- A part of the proof: PX. -/
import Derived.Test.YtffdemplaodbcaaDoorP40
import Derived.Test.YtffdemplaodbcaaDoorP29
set_option linter.all false
namespace Go.Proofs.YtffdemplaodbcaaDoor
open Go Go.Proofs Go.RowKit Go.Rad
open _root_.Rad (CR Prm PD Dv Irr Vl)
theorem pw_sz {P:Nat} (hP:PrC P) {g:Ap P} (hg:Pm P g):∀n,CR.pw g n≠0∧n+1≤sz (CR.pw g n)
 |0=>⟨hP.pd.ne (by show 1≤sz (1:Ap P);rw[hP.pd.one];exact Nat.le_refl _),by show 0+1≤sz (1:Ap P);rw[hP.pd.one];exact Nat.le_refl _⟩
 |n+1=>by have h1:=pw_sz hP hg n;have h2:=hg.two;have h3:=hP.pd.m _ g h1.1 (hP.pd.ne (by omega));refine⟨h3.1,?_⟩;show n+1+1≤sz (CR.pw g n*g);omega
theorem vl_lt {P:Nat} (hP:PrC P) {g a:Ap P} {e:Nat} (hg:Pm P g) (h:Vl g a e):e+1≤sz a:=by have h1:=hP.pd.dv_sz (hP.pd.vl_dv h (Nat.le_refl e)) (hP.pd.vl_ne hg h);have h2:=(pw_sz hP hg e).2;omega
theorem OS.up {P:Nat} (hP:PrC P) {f0 f g:Ap P} {u e:Nat} (h:OS f0 u f) (hf0:f0≠0) (hg:Pm P g) (hv:Vl g f e) (he:1≤e):Vl g f0 (e*u):=by
 obtain⟨e0,h0⟩:=hP.pd.vl hg hf0;have h1:=hP.pd.vl_uniq hg hv (h g hg e0 h0);by_cases hd:u ∣ e0
 ·rw[if_pos hd]at h1;rw[h1,Nat.div_mul_cancel hd];exact h0
 ·rw[if_neg hd]at h1;omega
theorem OS.small {P:Nat} (hP:PrC P) {f0 f:Ap P} {u:Nat} (h:OS f0 u f) (hf0:f0≠0) (hf:f≠0) (h2:2≤sz f):u+1≤sz f0:=by obtain⟨g,hg,hd⟩:=hP.pd.irr_of h2;obtain⟨e,he⟩:=hP.pd.vl hg hf;have h1:=(hP.pd.vl_pos hg he).1 hd;have h3:=vl_lt hP hg (h.up hP hf0 hg he h1);have h4:=Nat.le_mul_of_pos_left u h1;omega
theorem PtS.small {P:Nat} (hP:PrC P) {f0 f once more:Ap P} {u k:Nat} (h:OS f0 u f) (hp:PtS f once more k) (hf0:f0≠0) (hf:f≠0) (h2:2≤sz once):k*u+1≤sz f0:=by
 obtain⟨g,hg,hd⟩:=hP.pd.irr_of h2;obtain⟨e,he⟩:=hP.pd.vl hg hf;have h1:=(hp g hg e he).1;have h3:=(hP.pd.vl_pos hg h1).1 hd;by_cases hc:¬P ∣ e∧k≤e
 ·have he1:1≤e:=by
   rcases Nat.eq_zero_or_pos e with h4|h4
   ·rw[h4]at hc;exact absurd (Nat.dvd_zero P) hc.1
   ·exact h4
  have h5:=vl_lt hP hg (h.up hP hf0 hg he he1);have h6:=Nat.mul_le_mul_right u hc.2;omega
 ·rw[if_neg hc]at h3;omega
theorem EM.sqf {P:Nat} (hP:PrC P) {f0:Ap P} {E:List (List Int×Nat)} {cov:Nat→Prop} (h:EM P f0 E cov) {a:List Int} {n:Nat} (hm:(a,n)∈E):SqF (mq a:Ap P):=by obtain⟨h1,h2,h3,h4,h5⟩:=h.mem a n hm;exact sqf_of hP (h1.ne hP) fun g hg hd=>(h5 g hg hd).2
theorem der_nrm {P:Nat} {f d:List Int} (h:Nrm (P:Int) (fun j=>((j+1:Nat):Int)*row f (j+1)) d):(mq d:Ap P)=Dr (mq f):=by rw[dr_mq];exact mk_eq.2 (.of fun j=>by rw[h.eq,row_der,Int.emod_emod])
inductive PaT (w:World) (p q:Int) (fv:Value) (e:Ending) (w':World):Prop
 |mk (bk bf:Nat) (he:e= .returned (.func (.func 64) #[] #[.pointer (some ⟨bf,0,none⟩), .pointer (some ⟨bk,0,none⟩)])) (hk:FB w' bk (.int .i64 p) (.int .i64 q)) (hf:F1 w' bf fv)
  (hge:w.heap.size≤bk∧w.heap.size≤bf∧bk≠bf) (hb:Below w.heap.size w w')
set_option maxRecDepth 10000 in
theorem parts_any (w:World) (p q:Int) (fv:Value) (hfs:∃a k c,fv= .slice a k c):Calls Tryd.prog 44 #[FV p q,fv] w fun e w'=>PaT w p q fv e w':=by
 obtain⟨a2,k2,c2,rfl⟩:=hfs;go_enter Tryd.func44,Tryd.ntmps44;go_upto_region 1 with fail;refine wp_world (fun w1=>Below w.heap.size w w1∧FB w1 w.heap.size (.int .i64 p) (.int .i64 q)∧F1 w1 (w.heap.size+1) (.slice a2 k2 c2)) ⟨bel2 _ _ _,(FB.mk0 w (.int .i64 p) (.int .i64 q) 53).alloc _,?_⟩ ?_
 ·have h:=f1_new (w.alloc (Obj.cells #[.int .i64 p, .int .i64 q] 53)) (.slice a2 k2 c2) 22
  rwa [World.size_alloc]at h
 rintro w1 ⟨hB1,hK1,hF1⟩;have R:Hid (PaT w p q (.slice a2 k2 c2) (.returned (.func (.func 64) #[] #[.pointer (some ⟨w.heap.size+1,0,none⟩), .pointer (some ⟨w.heap.size,0,none⟩)])) w1):= .mk _ _ rfl hK1 hF1 (by omega) hB1;clear hB1 hK1 hF1;go_wp2;refine bodyPost_ret (v:= .func (.func 64) #[] #[.pointer (some ⟨w.heap.size+1,0,none⟩), .pointer (some ⟨w.heap.size,0,none⟩)]) (by simp[results,go_sem,loadVar]) rfl ?_;exact R.out
inductive PaY (P:Nat) (f0:Ap P) (E:List (List Int×Nat)) (args:Array Value) (E':List (List Int×Nat)) (O O1:Nat→Prop) (A:World):Prop
 |mk (u:Value) (part:List Int) (n b:Nat) (ha:args= #[u, .int .i64 n]) (hE:E'=E++[(part,n)]) (hV:VC A u part) (hM:Mon P part) (hl:2≤part.length) (hl2:part.length≤65) (hq:SqF (mq part:Ap P)) (hn:n≤64)
  (hb:u.ownBlock=some b) (hO:O b) (hO1:¬O1 b) (cov:Nat→Prop) (hE2:EM P f0 (E++[(part,n)]) cov)
theorem VC.putObj {A:World} {l:Nat} {o:Obj} {u:Value} {x:List Int} (h:VC A u x) (hl:∃r,A.heap[l]? =some (.loop r)):VC (A.putObj l o) u x:=by obtain⟨b,o',c,hv,hc,hb,hA⟩:=h;exact⟨b,o',c,hv,hc,by simpa [World.putObj]using hb,fun i hi=>cell_putObj (hA i hi) hl⟩
theorem PaY.putObj {P:Nat} {f0:Ap P} {E E':List (List Int×Nat)} {args:Array Value} {O O1:Nat→Prop} {A:World} {l:Nat} {o:Obj} (h:PaY P f0 E args E' O O1 A) (hl:∃r,A.heap[l]? =some (.loop r)):PaY P f0 E args E' O O1 (A.putObj l o):=by obtain⟨u,part,n,b,ha,hE,hV,hM,hl1,hl2,hq,hn,hb,hO,hO1,cov,hE2⟩:=h;exact⟨u,part,n,b,ha,hE,hV.putObj hl,hM,hl1,hl2,hq,hn,hb,hO,hO1,cov,hE2⟩
end Go.Proofs.YtffdemplaodbcaaDoor
