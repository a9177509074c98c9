/- A part of the proof: IT, ZA, ZB, ZC. -/
import Derived.Test.YtffdemplaodbcaaDoorP22
import Derived.ControlIn
import Derived.Test.YtffdemplaodbcaaDoorP02
import Derived.Test.YtffdemplaodbcaaDoorP14
set_option linter.all false
namespace Go.Proofs.YtffdemplaodbcaaDoor
open Go Go.Proofs Go.RowKit Go.Rad
def IterC {γ:Type} (gf:Nat) (lb:Array Value) (Y:γ→Array Value→γ→(Nat→Prop)→World→Prop) (Fin:γ→Prop) (s0:γ) (O0 Rd:Nat→Prop) (W:World):Prop:=
 ∀(l:Nat) (J:γ→(Nat→Prop)→World→Prop) (X:(Nat→Prop)→World→Prop),
  (∀s O O' A C,J s O A→Kept O A C→(∀k,O' k→O k∨A.heap.size≤k)→J s O' C)→
  (∀O O' A C,X O A→Kept O A C→(∀k,O' k→O k∨A.heap.size≤k)→X O' C)→
  (∀m s args s' O A,J s O A→(∀k,O k→k<A.heap.size)→Y s args s' O A→YieldAt Fence.wide m Tryd.prog l args A fun e W'=>Kept (fun k=>¬O k∧¬Rd k) A W'∧((e= .returned (.bool true)∧J s' O W')∨(e= .returned (.bool false)∧X O W')))→
  J s0 O0 W→
  Calls Tryd.prog gf (#[.func (.yield l) #[] #[]]++lb) W fun e W'=>(∃u,e= .returned u)∧((∃s O,Fin s∧J s O W')∨∃O,X O W')
theorem wp_rangeN {γ:Type} {g:Operand} {ps:Array Tmp} {assign body:Code} {Q:Exit→Act→World→Prop} {a:Act} {w:World} {gf:Nat} {lb:Array Value} (hg:a.eval g= .func (.func gf) #[] lb)
 (eg:∀args w,(callFunc gf args).run Tryd.prog w= .ok (.enter gf args) w) {Y:γ→Array Value→γ→(Nat→Prop)→World→Prop} {Fin:γ→Prop} {s0:γ} {O0 Rd:Nat→Prop}
 (hps:∀s args s' O A,Y s args s' O A→args.size=ps.size) (hO0:∀k,O0 k→k<w.heap.size) (hRd:∀k,Rd k→k<w.heap.size)
 (hYs:∀s args s' O A l o,Y s args s' O A→(∃r,A.heap[l]? =some (.loop r))→Y s args s' O (A.putObj l o))
 (hIt:∀W,Below w.heap.size w W→IterC gf lb Y Fin s0 O0 Rd W)
 (J:γ→(Nat→Prop)→World→Prop) (X:(Nat→Prop)→World→Prop)
 (hJ:∀s O O' A C,J s O A→Kept O A C→(∀k,O' k→O k∨A.heap.size≤k)→J s O' C)
 (hX:∀O O' A C,X O A→Kept O A C→(∀k,O' k→O k∨A.heap.size≤k)→X O' C) (h0:J s0 O0 w) (a₁:Array Value→Act)
 (hassign:∀(l m:Nat) s args s' O (A W:World) (K:Act→World→Prop),Y s args s' O A→K (a₁ args) W→
  assign.wpIn (Fence.wide.inRound l) m Tryd.prog (Exit.then K (fun _ _ _=>False)) {tmps:=(ps.zip args).foldl (fun t (p,v)=>t.setIfInBounds p v) a.tmps,defers:=[]} W)
 (hbody:∀(l m:Nat) s args s' (O O':Nat→Prop) (W:World),J s O W→(∀k,O' k→O k)→(∀k,O k→k<W.heap.size)→Y s args s' O' W→
  body.wpIn (Fence.wide.inRound l) m Tryd.prog (fun e _ W'=>Kept (fun k=>¬O k∧¬Rd k) W W'∧((e= .normal∧J s' O W')∨(e= .ret∧X O W'))) (a₁ args) W)
 (hdone:∀s O W,Fin s→J s O W→O w.heap.size→W.heap[w.heap.size]? =some (.deferred (some []))→Q .normal {a with defers:={target:= .collected w.heap.size,args:=#[]}:: a.defers} W)
 (hstop:∀O W,X O W→O w.heap.size→W.heap[w.heap.size]? =some (.deferred (some []))→Q .ret {a with defers:={target:= .collected w.heap.size,args:=#[]}:: a.defers} W):
 (Code.rangeFunc g ps assign body).wp Tryd.prog Q a w:=by
 refine(wpIn_wide (n:=3)).1 (wpIn_rangeFunc ?_);intro fn hfn;obtain⟨rec,hrec⟩:∃rec:LoopState→Option Code→Loop,rec=fun st pe=>{state:=st,pending:=pe,fn,tmps:=a.tmps,params:=ps,assign,body,defers:=w.heap.size} :=⟨_,rfl⟩;obtain⟨W1,hW1⟩:∃W1,(w.alloc (.deferred (some []))).alloc (.loop (rec .ready none))=W1:=⟨_,rfl⟩;have hL1:W1.heap[w.heap.size+1]? =some (.loop (rec .ready none)):=(by rw[←hW1];have:=World.alloc_heap_new (w.alloc (.deferred (some []))) (.loop (rec .ready none));rwa [World.size_alloc]at this);have hK1:W1.heap[w.heap.size]? =some (.deferred (some [])):=(by rw[←hW1];exact(Below.heap_alloc _ _ _ (by simp)).trans (World.alloc_heap_new w _));have hB1:Below w.heap.size w W1:=(by rw[←hW1];exact bel2 _ _ _);obtain⟨h,hh⟩:∃h,h=w.heap.size:=⟨_,rfl⟩;rw[←hh]at hrec hL1 hK1 hB1 hdone hstop;obtain⟨pl,hpl⟩:∃pl:(Nat→Prop)→Nat→Prop,∀O k,pl O k↔(O k∨k=h∨k=h+1):=⟨fun O k=>O k∨k=h∨k=h+1,fun _ _=>Iff.rfl⟩;have hO0':∀k,O0 k→k<h:=fun k hk=>by rw[hh];exact hO0 k hk
 have hr1:¬Rd (h+1):=fun e=>by have:=hRd _ e;omega
 have hJ1:J s0 (pl O0) W1:=hJ s0 O0 (pl O0) w W1 h0 (.of_below (by rw[hh]at hB1;exact hB1)) fun k hk=>by
  rcases(hpl _ _).1 hk with h1|h1
  ·exact .inl h1
  ·exact .inr (by omega)
 have hput:∀ {s O A} (o:Obj),J s (pl O) A→J s (pl O) (A.putObj (h+1) o):=fun {s O A} o hj=>hJ s (pl O) (pl O) A _ hj ((Kept.refl _ A).put o ((hpl _ _).2 (.inr (.inr rfl)))) fun k hk=> .inl hk;have hputX:∀ {O A} (o:Obj),X (pl O) A→X (pl O) (A.putObj (h+1) o):=fun {O A} o hj=>hX (pl O) (pl O) A _ hj ((Kept.refl _ A).put o ((hpl _ _).2 (.inr (.inr rfl)))) fun k hk=> .inl hk;refine⟨h+1,[{target:= .collected h,args:=#[]}],W1,{target:= .fn (.func gf) lb,args:=#[.func (.yield (h+1)) #[] #[]]},W1,gf,
  #[.func (.yield (h+1)) #[] #[]]++lb,W1,?_,?_,?_,?_,fun _=>by decide,?_⟩
 ·rw[←hW1,hrec,hh];exact run_enterLoop_outer _ _ _ _ _
 ·simp only[resolve,hg];simp[go_sem]
 ·intro f' _;trivial
 ·simp[invoke,go_sem,eg]
 ·refine(callsIn_wide.2 (hIt W1 (by rw[hh]at hB1;exact hB1) (h+1)
   (fun s O W=>J s (pl O) W∧W.heap[h+1]? =some (.loop (rec .ready none))∧W.heap[h]? =some (.deferred (some []))∧¬O h∧¬O (h+1))
   (fun O W=>X (pl O) W∧W.heap[h+1]? =some (.loop (rec .done (some .ret)))∧W.heap[h]? =some (.deferred (some []))∧¬O h∧¬O (h+1))
   (fun s O O' A C hj hk ho=>?_) (fun O O' A C hj hk ho=>?_) ?_ ⟨hJ1,hL1,hK1,fun h1=>by have:=hO0' _ h1;omega,fun h1=>by have:=hO0' _ h1;omega⟩)).mono ?_
  ·obtain⟨h1,h2,h3,h4,h5⟩:=hj;have hs:h+1<A.heap.size:=(Array.getElem?_eq_some_iff.1 h2).1;refine⟨hJ s _ _ A C h1 (hk.mono fun k hk=>(hpl _ _).2 (.inl hk)) fun k hk=>?_,hk.obj h2 h5,hk.obj h3 h4,fun h6=>?_,fun h6=>?_⟩
   ·rcases(hpl _ _).1 hk with h6|h6
    ·rcases ho k h6 with h7|h7
     ·exact .inl ((hpl _ _).2 (.inl h7))
     ·exact .inr h7
    ·exact .inl ((hpl _ _).2 (.inr h6))
   ·rcases ho _ h6 with h7|h7
    ·exact h4 h7
    ·omega
   ·rcases ho _ h6 with h7|h7
    ·exact h5 h7
    ·omega
  ·obtain⟨h1,h2,h3,h4,h5⟩:=hj;have hs:h+1<A.heap.size:=(Array.getElem?_eq_some_iff.1 h2).1;refine⟨hX _ _ A C h1 (hk.mono fun k hk=>(hpl _ _).2 (.inl hk)) fun k hk=>?_,hk.obj h2 h5,hk.obj h3 h4,fun h6=>?_,fun h6=>?_⟩
   ·rcases(hpl _ _).1 hk with h6|h6
    ·rcases ho k h6 with h7|h7
     ·exact .inl ((hpl _ _).2 (.inl h7))
     ·exact .inr h7
    ·exact .inl ((hpl _ _).2 (.inr h6))
   ·rcases ho _ h6 with h7|h7
    ·exact h4 h7
    ·omega
   ·rcases ho _ h6 with h7|h7
    ·exact h5 h7
    ·omega
  ·rintro m s args s' O W ⟨hj,hl,hk,hn0,hn1⟩ hOlt hYA;have hlt:h+1<W.heap.size:=(Array.getElem?_eq_some_iff.1 hl).1;have hy:=run_yield (P:=Tryd.prog) (args:=args) hl (by rw[hrec];exact hps _ _ _ _ _ hYA);rw[hrec]at hy;refine⟨fn,_,assign,body,hy,roundIn_of_wpIn hfn (hassign _ m s args s' O W W _ hYA ⟨_,run_beginRound hl (by rw[hrec]),?_⟩)⟩;have hk0:Kept (fun k=>k=h+1) W (W.putObj (h+1) (.loop {rec .ready none with state:= .busy})):=(Kept.refl _ W).put _ rfl;have hl2:(W.putObj (h+1) (.loop {rec .ready none with state:= .busy})).heap[h+1]? =some (.loop {rec .ready none with state:= .busy}):=World.putObj_heap_same hlt;have hk2:(W.putObj (h+1) (.loop {rec .ready none with state:= .busy})).heap[h]? =some (.deferred (some [])):=(World.putObj_heap_other (by omega)).trans hk;refine wpIn_mono (hbody _ m s args s' (pl O) O _ (hput _ hj) (fun k hk=>(hpl _ _).2 (.inl hk)) (fun k hk=>?_) (hYs _ _ _ _ _ _ _ hYA ⟨_,hl⟩)) ?_
   ·have e:(W.putObj (h+1) (.loop {rec .ready none with state:= .busy})).heap.size=W.heap.size:=(by simp[World.putObj]);rw[e];rcases(hpl _ _).1 hk with h6|h6
    ·exact hOlt k h6
    ·omega
   ·intro e a3 W3 hp;have fin:∀(jump:Option Code),Kept (fun k=>¬pl O k∧¬Rd k) (W.putObj (h+1) (.loop {rec .ready none with state:= .busy})) W3→
     (Instr.endRound (h+1) jump).run Tryd.prog W3= .ok (.bool jump.isNone) (W3.putObj (h+1) (.loop (rec (if jump.isNone then .ready else .done) jump)))∧
     (W3.putObj (h+1) (.loop (rec (if jump.isNone then .ready else .done) jump))).heap[h+1]? =some (.loop (rec (if jump.isNone then .ready else .done) jump))∧
     (W3.putObj (h+1) (.loop (rec (if jump.isNone then .ready else .done) jump))).heap[h]? =some (.deferred (some []))∧
     Kept (fun k=>¬O k∧¬Rd k) W (W3.putObj (h+1) (.loop (rec (if jump.isNone then .ready else .done) jump))):=fun jump hk3=>by
     have hl3:=hk3.obj hl2 (fun hn=>hn.1 ((hpl _ _).2 (.inr (.inr rfl))));have hd3:=hk3.obj hk2 (fun hn=>hn.1 ((hpl _ _).2 (.inr (.inl rfl))));have:=run_endRound (P:=Tryd.prog) jump hl3;rw[hrec]at this⊢;exact⟨this,World.putObj_heap_same (Array.getElem?_eq_some_iff.1 hl3).1,(World.putObj_heap_other (by omega)).trans hd3,
      ((hk0.mono fun k e=>by rw[e];exact⟨hn1,hr1⟩).trans (hk3.mono fun k hn=>⟨fun ho=>hn.1 ((hpl _ _).2 (.inl ho)),hn.2⟩)).put _ ⟨hn1,hr1⟩⟩
    obtain⟨hkp,⟨rfl,hj3⟩|⟨rfl,hx3⟩⟩:=hp
    ·obtain⟨hr,hl4,hd4,hk4⟩:=fin none hkp;exact⟨_,_,hr,hk4, .inl ⟨rfl,hput _ hj3,hl4,hd4,hn0,hn1⟩⟩
    ·obtain⟨hr,hl4,hd4,hk4⟩:=fin (some .ret) hkp;exact⟨_,_,hr,hk4, .inr ⟨rfl,hputX _ hx3,hl4,hd4,hn0,hn1⟩⟩
  ·rintro e W2 ⟨⟨v,rfl⟩,(⟨s,O,hF,hj,hl,hk,hn0,hn1⟩|⟨O,hx,hl,hk,hn0,hn1⟩)⟩
   ·exact⟨none,_,by have:=run_endLoop (P:=Tryd.prog) hl (by rw[hrec];simp);rw[hrec]at this;exact this,hdone s _ _ hF (hput _ hj) ((hpl _ _).2 (.inr (.inl rfl))) ((World.putObj_heap_other (by omega)).trans hk)⟩
   ·exact⟨some .ret,_,by have:=run_endLoop (P:=Tryd.prog) hl (by rw[hrec];simp);rw[hrec]at this;exact this,wpIn_ret (hstop _ _ (hputX _ hx) ((hpl _ _).2 (.inr (.inl rfl))) ((World.putObj_heap_other (by omega)).trans hk))⟩
end Go.Proofs.YtffdemplaodbcaaDoor
namespace Rad
class CR (A:Type) extends Add A,Mul A,Neg A,Zero A,One A where
 add_assoc:∀a b c:A,a+b+c=a+(b+c)
 add_comm:∀a b:A,a+b=b+a
 zero_add:∀a:A,0+a=a
 neg_add:∀a:A,-a+a=0
 mul_assoc:∀a b c:A,a*b*c=a*(b*c)
 mul_comm:∀a b:A,a*b=b*a
 one_mul:∀a:A,1*a=a
 mul_add:∀a b c:A,a*(b+c)=a*b+a*c
namespace CR
variable {A:Type} [CR A]
theorem add_zero (a:A):a+0=a:=by rw[add_comm,zero_add]
theorem add_neg (a:A):a+ -a=0:=by rw[add_comm,neg_add]
theorem mul_one (a:A):a*1=a:=by rw[mul_comm,one_mul]
theorem add_mul (a b c:A):(a+b)*c=a*c+b*c:=by rw[mul_comm,mul_add,mul_comm c a,mul_comm c b]
theorem add_cancel {a b c:A} (h:a+c=b+c):a=b:=by
 have h2:a+c+ -c=b+c+ -c:=(by rw[h])
 rwa [add_assoc,add_assoc,add_neg,add_zero,add_zero]at h2
theorem mul_zero (a:A):a*0=0:=by apply add_cancel (c:=a*0);rw[←mul_add,zero_add,zero_add]
theorem zero_mul (a:A):0*a=0:=by rw[mul_comm,mul_zero]
theorem mul_neg (a b:A):a* -b= -(a*b):=by apply add_cancel (c:=a*b);rw[←mul_add,neg_add,neg_add,mul_zero]
theorem neg_mul (a b:A): -a*b= -(a*b):=by rw[mul_comm,mul_neg,mul_comm]
theorem neg_neg (a:A): - -a=a:=by apply add_cancel (c:= -a);rw[neg_add,add_neg]
theorem sub_zero {a b:A} (h:a+ -b=0):a=b:=by apply add_cancel (c:= -b);rw[h,add_neg]
theorem add_left_comm (a b c:A):a+(b+c)=b+(a+c):=by rw[←add_assoc,add_comm a b,add_assoc]
theorem mul_left_comm (a b c:A):a*(b*c)=b*(a*c):=by rw[←mul_assoc,mul_comm a b,mul_assoc]
theorem neg_add_rev (a b:A): -(a+b)= -a+ -b:=by apply add_cancel (c:=a+b);rw[neg_add,add_assoc,add_left_comm (-b),neg_add,add_zero,neg_add]
theorem neg_zero: -(0:A)=0:=by apply add_cancel (c:=(0:A));rw[neg_add,add_zero]
instance:Std.Associative (α:=A) (·+ ·):=⟨add_assoc⟩
instance:Std.Commutative (α:=A) (·+ ·):=⟨add_comm⟩
instance:Std.Associative (α:=A) (·* ·):=⟨mul_assoc⟩
instance:Std.Commutative (α:=A) (·* ·):=⟨mul_comm⟩
def pw (a:A):Nat→A
 |0=>1
 |n+1=>pw a n*a
theorem pw_add (a:A) (m:Nat):∀n,pw a (m+n)=pw a m*pw a n
 |0=>by show pw a m=pw a m*1;rw[mul_one]
 |n+1=>by show pw a (m+n)*a=pw a m*(pw a n*a);rw[pw_add a m n,mul_assoc]
theorem one_pw:∀n,pw (1:A) n=1
 |0=>rfl
 |n+1=>by show pw 1 n*1=1;rw[one_pw n,mul_one]
theorem pw_one (a:A):pw a 1=a:=by show 1*a=a;rw[one_mul]
theorem pw_mul (a:A) (m:Nat):∀n,pw a (m*n)=pw (pw a m) n
 |0=>rfl
 |n+1=>by show pw a (m*n+m)=pw (pw a m) n*pw a m;rw[pw_add,pw_mul a m n]
theorem mul_pw (a b:A):∀n,pw (a*b) n=pw a n*pw b n
 |0=>by show(1:A)=1*1;rw[mul_one]
 |n+1=>by
  show pw (a*b) n*(a*b)=pw a n*a*(pw b n*b);rw[mul_pw a b n]
  ac_rfl
theorem zero_pw {n:Nat} (h:0<n):pw (0:A) n=0:=by obtain⟨k,rfl⟩:∃k,n=k+1:=⟨n-1,by omega⟩;exact mul_zero _
def nsm:Nat→A→A
 |0,_=>0
 |n+1,a=>nsm n a+a
theorem nsm_add (m:Nat) (a:A):∀n,nsm (m+n) a=nsm m a+nsm n a
 |0=>by show nsm m a=nsm m a+0;rw[add_zero]
 |n+1=>by show nsm (m+n) a+a=nsm m a+(nsm n a+a);rw[nsm_add m a n,add_assoc]
theorem nsm_mul (a b:A):∀n,nsm n (a*b)=nsm n a*b
 |0=>by show(0:A)=0*b;rw[zero_mul]
 |n+1=>by show nsm n (a*b)+a*b=(nsm n a+a)*b;rw[nsm_mul a b n,add_mul]
theorem nsm_one (a:A):nsm 1 a=a:=by show 0+a=a;rw[zero_add]
theorem nsm_char {p:Nat} (hp:∀a:A,nsm p a=0) {k:Nat} (h:p ∣ k) (a:A):nsm k a=0:=by
 obtain⟨t,rfl⟩:=h
 induction t with
 |zero=>rfl
 |succ t ih=>rw[Nat.mul_succ,nsm_add,ih,hp,add_zero]
def sA (f:Nat→A):Nat→A
 |0=>0
 |n+1=>sA f n+f n
theorem sA_succ (f:Nat→A):∀n,sA f (n+1)=f 0+sA (fun k=>f (k+1)) n
 |0=>by show 0+f 0=f 0+0;rw[add_comm]
 |n+1=>by show sA f (n+1)+f (n+1)=f 0+(sA (fun k=>f (k+1)) n+f (n+1));rw[sA_succ f n,add_assoc]
theorem sA_add (f g:Nat→A):∀n,sA (fun k=>f k+g k) n=sA f n+sA g n
 |0=>by show(0:A)=0+0;rw[add_zero]
 |n+1=>by
  show sA (fun k=>f k+g k) n+(f n+g n)=sA f n+f n+(sA g n+g n);rw[sA_add f g n]
  ac_rfl
theorem sA_mul (f:Nat→A) (c:A):∀n,sA (fun k=>f k*c) n=sA f n*c
 |0=>by show(0:A)=0*c;rw[zero_mul]
 |n+1=>by show sA (fun k=>f k*c) n+f n*c=(sA f n+f n)*c;rw[sA_mul f c n,add_mul]
theorem sA_congr {f g:Nat→A}:∀ {n},(∀k,k<n→f k=g k)→sA f n=sA g n
 |0,_=>rfl
 |n+1,h=>by show sA f n+f n=sA g n+g n;rw[sA_congr fun k hk=>h k (by omega),h n (by omega)]
theorem sA_zero {f:Nat→A}:∀ {n},(∀k,k<n→f k=0)→sA f n=0
 |0,_=>rfl
 |n+1,h=>by show sA f n+f n=0;rw[sA_zero fun k hk=>h k (by omega),h n (by omega),add_zero]
theorem binom (a b:A):∀n,pw (a+b) n=sA (fun k=>nsm (ch n k) (pw a k*pw b (n-k))) (n+1)
 |0=>by show(1:A)=0+nsm 1 (1*1);rw[zero_add,nsm_one,one_mul]
 |n+1=>by
  have e1:sA (fun k=>nsm (ch (n+1) k) (pw a k*pw b (n+1-k))) (n+1+1)=
   pw b (n+1)+(sA (fun k=>nsm (ch n k) (pw a k*pw b (n-k))*a) (n+1)+sA (fun k=>nsm (ch n (k+1)) (pw a (k+1)*pw b (n-k))) (n+1)):=by
   rw[sA_succ,←sA_add];congr 1
   ·show nsm (ch (n+1) 0) (1*pw b (n+1))=_;rw[ch_zero,nsm_one,one_mul]
   ·refine sA_congr fun k hk=>?_;show nsm (ch n k+ch n (k+1)) (pw a (k+1)*pw b (n+1-(k+1)))=_;rw[nsm_add,show n+1-(k+1)=n-k by omega];congr 1;rw[←nsm_mul];congr 1;show pw a k*a*pw b (n-k)=_
    ac_rfl
  have e2:pw b (n+1)+sA (fun k=>nsm (ch n (k+1)) (pw a (k+1)*pw b (n-k))) (n+1)=sA (fun k=>nsm (ch n k) (pw a k*pw b (n-k))*b) (n+1):=by
   rw[sA_succ (fun k=>nsm (ch n k) (pw a k*pw b (n-k))*b)];congr 1
   ·show pw b n*b=nsm (ch n 0) (1*pw b n)*b;rw[ch_zero,nsm_one,one_mul]
   ·show sA _ n+nsm (ch n (n+1)) _=_;rw[ch_big n (n+1) (by omega)];show _+0=_;rw[add_zero];refine sA_congr fun k hk=>?_;rw[←nsm_mul,show n-k=n-(k+1)+1 by omega];congr 1;show pw a (k+1)*(pw b (n-(k+1))*b)=_;rw[mul_assoc]
  show pw (a+b) n*(a+b)=_;rw[e1,mul_add,binom a b n,←sA_mul,←sA_mul,←e2]
  ac_rfl
theorem dream {p:Nat} (hp:Prm p) (hc:∀a:A,nsm p a=0) (a b:A):pw (a+b) p=pw a p+pw b p:=by
 have h2:=hp.two;obtain⟨q,rfl⟩:∃q,p=q+1:=⟨p-1,by omega⟩;rw[binom];show sA _ (q+1)+nsm (ch (q+1) (q+1)) (pw a (q+1)*pw b (q+1-(q+1)))=_;rw[sA_succ,ch_self,nsm_one,Nat.sub_self];show nsm (ch (q+1) 0) (1*pw b (q+1))+_+pw a (q+1)*1=_;rw[ch_zero,nsm_one,one_mul,mul_one,sA_zero (n:=q)]
 ·rw[add_zero,add_comm]
 ·intro k hk;refine nsm_char hc ?_ _;have h3:(q+1) ∣ (k+1)*ch (q+1) (k+1):=(by rw[ch_mul];exact Nat.dvd_mul_right _ _);rcases hp.mul h3 with h4|h4
  ·have:=Nat.le_of_dvd (by omega) h4;omega
  ·exact h4
theorem dreams {p:Nat} (hp:Prm p) (hc:∀a:A,nsm p a=0) (a b:A):∀k,pw (a+b) (p^k)=pw a (p^k)+pw b (p^k)
 |0=>by rw[Nat.pow_zero,pw_one,pw_one,pw_one]
 |k+1=>by rw[Nat.pow_succ,pw_mul,dreams hp hc a b k,dream hp hc,pw_mul,pw_mul]
end CR
end Rad
namespace Rad
namespace CR
variable {A:Type} [CR A]
def ss (c:A):A→List A→List A
 |e,[]=>[e]
 |e,a::l=>(e+ -(c*a))::ss c a l
def ev:List A→A→A
 |[],_=>0
 |a::l,t=>a+t*ev l t
theorem ev_ss (c t:A):∀(l:List A) (e:A),ev (ss c e l) t=e+(t+ -c)*ev l t
 |[],e=>by show e+t*0=e+(t+ -c)*0;rw[mul_zero,mul_zero]
 |a::l,e=>by
  show e+ -(c*a)+t*ev (ss c a l) t=e+(t+ -c)*(a+t*ev l t);rw[ev_ss c t l a];simp only[mul_add,add_mul,neg_mul];rw[show c*(t*ev l t)=t*(c*ev l t)from mul_left_comm _ _ _,←mul_neg t (c*ev l t)]
  ac_rfl
theorem ss_length (c:A):∀(l:List A) (e:A),(ss c e l).length=l.length+1
 |[],_=>rfl
 |a::l,e=>by show(ss c a l).length+1=_;rw[ss_length c l a];rfl
theorem ss_last (c:A):∀(l:List A) (e:A),(ss c e l).getLast? =some ((l.getLast?).getD e)
 |[],_=>rfl
 |a::l,e=>by show((e+ -(c*a))::ss c a l).getLast? =_;rw[List.getLast?_cons,ss_last c l a,List.getLast?_cons];simp
theorem ss_map (φ:A→A) (ha:∀a b,φ (a+b)=φ a+φ b) (hn:∀a,φ (-a)= -φ a) (hm:∀a b,φ (a*b)=φ a*φ b) (c:A):∀(l:List A) (e:A),(ss c e l).map φ=ss (φ c) (φ e) (l.map φ)
 |[],_=>rfl
 |a::l,e=>by show φ (e+ -(c*a))::(ss c a l).map φ=(φ e+ -(φ c*φ a))::ss (φ c) (φ a) (l.map φ);rw[ss_map φ ha hn hm c l a,ha,hn,hm]
theorem ss_swap (c e:A):∀(l:List A) (x x' y:A),x+ -(c*y)=x'+ -(e*y)→ss c x (ss e y l)=ss e x' (ss c y l)
 |[],x,x',y,h=>by show[x+ -(c*y),y]=[x'+ -(e*y),y];rw[h]
 |a::l,x,x',y,h=>by show(x+ -(c*(y+ -(e*a))))::ss c (y+ -(e*a)) (ss e a l)=(x'+ -(e*(y+ -(c*a))))::ss e (y+ -(c*a)) (ss c a l);have h1:x+ -(c*(y+ -(e*a)))=x'+ -(e*(y+ -(c*a))):=(by rw[mul_add,mul_add,neg_add_rev,neg_add_rev,←add_assoc,←add_assoc,h,mul_neg,mul_neg,neg_neg,neg_neg,mul_left_comm]);rw[h1,ss_swap c e l (y+ -(e*a)) (y+ -(c*a)) a (by ac_rfl)]
def rts:List A→List A
 |[]=>[1]
 |c::cs=>ss c 0 (rts cs)
theorem rts_perm {cs ds:List A} (h:cs.Perm ds):rts cs=rts ds:=by
 induction h with
 |nil=>rfl
 |cons c _ ih=>show ss c 0 _=ss c 0 _;rw[ih]
 |swap c d l=>show ss d 0 (ss c 0 (rts l))=ss c 0 (ss d 0 (rts l));exact ss_swap d c _ 0 0 0 (by rw[mul_zero,mul_zero])
 |trans _ _ h1 h2=>exact h1.trans h2
theorem rts_length:∀cs:List A,(rts cs).length=cs.length+1
 |[]=>rfl
 |c::cs=>by show(ss c 0 (rts cs)).length=_;rw[ss_length,rts_length cs];rfl
theorem rts_last:∀cs:List A,(rts cs).getLast? =some 1
 |[]=>rfl
 |c::cs=>by show(ss c 0 (rts cs)).getLast? =_;rw[ss_last,rts_last cs];rfl
theorem rts_ev {t:A}:∀ {cs:List A},t∈cs→ev (rts cs) t=0
 |[],h=>by cases h
 |c::cs,h=>by
  show ev (ss c 0 (rts cs)) t=0;rw[ev_ss,zero_add];rcases List.mem_cons.1 h with rfl|h
  ·rw[add_neg,zero_mul]
  ·rw[rts_ev h,mul_zero]
theorem rts_map (φ:A→A) (ha:∀a b,φ (a+b)=φ a+φ b) (hn:∀a,φ (-a)= -φ a) (hm:∀a b,φ (a*b)=φ a*φ b) (h0:φ 0=0) (h1:φ 1=1):∀cs:List A,(rts cs).map φ=rts (cs.map φ)
 |[]=>by show[φ 1]=[1];rw[h1]
 |c::cs=>by show(ss c 0 (rts cs)).map φ=ss (φ c) 0 (rts (cs.map φ));rw[ss_map φ ha hn hm,rts_map φ ha hn hm h0 h1 cs,h0]
theorem small {p r:Nat} (hp:Prm p) (hc:∀a:A,nsm p a=0) (h0:0<r) (x:A) (hr:pw x (p^r)=x):
 ∃L:List A,L.length=r+1∧L.getLast? =some 1∧(∀a,a∈L→pw a p=a)∧ev L x=0:=by
 have h2:=hp.two;have hz:pw (0:A) p=0:=zero_pw (by omega);have hneg:∀a:A,pw (-a) p= -pw a p:=fun a=>by apply add_cancel (c:=pw a p);rw[←dream hp hc,neg_add,neg_add,hz]
 obtain⟨s,rfl⟩:∃s,r=s+1:=⟨r-1,by omega⟩;refine⟨rts ((List.range (s+1)).map fun i=>pw x (p^i)),by rw[rts_length];simp,rts_last _,?_,rts_ev ?_⟩
 ·have e:((rts ((List.range (s+1)).map fun i=>pw x (p^i))).map fun a=>pw a p)=rts ((List.range (s+1)).map fun i=>pw x (p^i)):=(by rw[rts_map (fun a=>pw a p) (dream hp hc) hneg (fun a b=>mul_pw a b p) hz (one_pw p)];apply rts_perm;rw[List.map_map];have e1:((fun a=>pw a p) ∘ fun i=>pw x (p^i))=fun i=>pw x (p^(i+1)):=(by funext i;show pw (pw x (p^i)) p=_;rw[←pw_mul,Nat.pow_succ]);rw[e1];have e2:(List.range (s+1)).map (fun i=>pw x (p^(i+1)))=(List.range s).map (fun i=>pw x (p^(i+1)))++[x]:=(by rw[List.range_succ,List.map_append];show _++[pw x (p^(s+1))]=_;rw[hr]);have e3:(List.range (s+1)).map (fun i=>pw x (p^i))=x::(List.range s).map (fun i=>pw x (p^(i+1))):=(by rw[List.range_succ_eq_map,List.map_cons,List.map_map,Nat.pow_zero,pw_one];rfl);rw[e2,e3];exact List.perm_append_singleton _ _);intro a ha;have h3:∀(l:List A) (φ:A→A),l.map φ=l→∀a,a∈l→φ a=a:=fun l φ=>by
   induction l with
   |nil=>intro _ a h;cases h
   |cons b l ih=>
    intro h a ha;rw[List.map_cons,List.cons.injEq]at h;rcases List.mem_cons.1 ha with rfl|ha
    ·exact h.1
    ·exact ih h.2 a ha
  exact h3 _ _ e a ha
 ·refine List.mem_map.2 ⟨0,by simp,?_⟩;rw[Nat.pow_zero,pw_one]
def pr:List A→A
 |[]=>1
 |a::l=>a*pr l
theorem pr_perm {l m:List A} (h:l.Perm m):pr l=pr m:=by
 induction h with
 |nil=>rfl
 |cons c _ ih=>show c*_=c*_;rw[ih]
 |swap c d l=>show d*(c*pr l)=c*(d*pr l);rw[mul_left_comm]
 |trans _ _ h1 h2=>exact h1.trans h2
theorem pr_map (a:A):∀l:List A,pr (l.map (a* ·))=pw a l.length*pr l
 |[]=>by show(1:A)=1*1;rw[one_mul]
 |b::l=>by
  show a*b*pr (l.map (a* ·))=pw a l.length*a*(b*pr l);rw[pr_map a l]
  ac_rfl
theorem pr_inv:∀ {l:List A},(∀a,a∈l→∃b,a*b=1)→∃b,pr l*b=1
 |[],_=>⟨1,one_mul _⟩
 |a::l,h=>by obtain⟨b,hb⟩:=h a (by simp);obtain⟨c,hc⟩:=pr_inv fun d hd=>h d (List.mem_cons_of_mem _ hd);refine⟨b*c,?_⟩;show a*pr l*(b*c)=1;rw[show a*pr l*(b*c)=a*b*(pr l*c)by ac_rfl,hb,hc,one_mul]
open Classical in
theorem lagrange (L:List A) (hall:∀a,a∈L) (hnd:L.Nodup) (hinv:∀a:A,a≠0→∃b,a*b=1) (a:A):pw a L.length=a:=by
 have hL:L.Perm (0::L.filter fun a=>decide (a≠0)):=by
  refine(List.perm_ext_iff_of_nodup hnd ?_).2 fun b=>?_
  ·exact List.nodup_cons.2 ⟨by simp,hnd.filter _⟩
  ·constructor
   ·intro _;by_cases h:b=0
    ·simp[h]
    ·exact List.mem_cons_of_mem _ (List.mem_filter.2 ⟨hall b,by simpa using h⟩)
   ·intro _;exact hall b
 generalize hL':(L.filter fun a=>decide (a≠0))=M at hL;have hM:∀b,b∈M↔b≠0:=fun b=>by rw[←hL',List.mem_filter];simp[hall b]
 have hMn:M.Nodup:=(by rw[←hL'];exact hnd.filter _);have hlen:L.length=M.length+1:=(by rw[hL.length_eq];rfl);rw[hlen];by_cases h0:a=0
 ·rw[h0,zero_pw (by omega)]
 ·obtain⟨b,hb⟩:=hinv a h0;have hcan:∀x y:A,a*x=a*y→x=y:=fun x y h=>by
   have h2:b*(a*x)=b*(a*y):=(by rw[h])
   rwa [←mul_assoc,←mul_assoc,mul_comm b a,hb,one_mul,one_mul]at h2
  have hp:(M.map (a* ·)).Perm M:=by
   refine(List.perm_ext_iff_of_nodup ?_ hMn).2 fun c=>?_
   ·exact List.pairwise_map.2 (List.Pairwise.imp (fun h e=>h (hcan _ _ e)) hMn)
   ·rw[hM];constructor
    ·intro h;obtain⟨d,hd,rfl⟩:=List.mem_map.1 h;intro h3;exact(hM d).1 hd (hcan d 0 (by rw[mul_zero];exact h3))
    ·intro h;refine List.mem_map.2 ⟨b*c,(hM _).2 fun h3=>h ?_,?_⟩
     ·have:a*(b*c)=0:=(by rw[h3,mul_zero])
      rwa [←mul_assoc,hb,one_mul]at this
     ·show a*(b*c)=c;rw[←mul_assoc,hb,one_mul]
  have h4:=pr_perm hp;rw[pr_map]at h4;obtain⟨c,hc⟩:=pr_inv (l:=M) fun d hd=>hinv d ((hM d).1 hd);have h5:pw a M.length=1:=by
   have h6:pw a M.length*pr M*c=pr M*c:=(by rw[h4])
   rwa [mul_assoc,hc,mul_one]at h6
  show pw a M.length*a=a;rw[h5,one_mul]
end CR
end Rad
namespace Go.Proofs.YtffdemplaodbcaaDoor
open Go Go.Proofs Go.RowKit Go.Rad
open _root_.Rad (CR Prm)
def cgS (p:Int) (m:List Int):Setoid (List Int):=⟨fun x y=>Cg p m (row x) (row y),⟨fun x=> .refl p m (row x),fun h=>h.symm,fun h k=>h.trans k⟩⟩
def Am (p:Int) (m:List Int):Type:=Quotient (cgS p m)
def mq {p:Int} {m:List Int} (x:List Int):Am p m:=Quotient.mk (cgS p m) x
theorem mk_eq {p:Int} {m x y:List Int}: (mq x:Am p m)=mq y↔Cg p m (row x) (row y):=⟨fun h=>Quotient.exact h,fun h=>Quotient.sound h⟩
theorem mk_row {p:Int} {m x y:List Int} (h:∀j,row x j=row y j):(mq x:Am p m)=mq y:=mk_eq.2 (.of fun j=>by rw[h])
theorem mk_rep {p:Int} {m:List Int} (a:Am p m):∃x,a=mq x:=by obtain⟨x,hx⟩:=Quotient.exists_rep a;exact⟨x,hx.symm⟩
theorem Cg.add {p:Int} {m:List Int} {u v u' v':Nat→Int} (h:Cg p m u u') (k:Cg p m v v'):Cg p m (fun j=>u j+v j) (fun j=>u' j+v' j):=by obtain⟨q,hq⟩:=h;obtain⟨r,hr⟩:=k;refine⟨padd q r,fun j=>?_⟩;show(u j+v j)%p=(u' j+v' j+act (padd q r) (row m) j)%p;rw[Int.add_emod,hq j,hr j,←Int.add_emod,act_padd];congr 1;omega
theorem Cg.smul {p:Int} {m:List Int} {u u':Nat→Int} (c:Int) (h:Cg p m u u'):Cg p m (fun j=>c*u j) (fun j=>c*u' j):=by obtain⟨q,hq⟩:=h;refine⟨q.map (c* ·),fun j=>?_⟩;rw[Int.mul_emod,hq j,←Int.mul_emod,act_map,Int.mul_add]
theorem row_padd (x y:List Int) (j:Nat):row (padd x y) j=row x j+row y j:=act_padd x y one0 j
theorem row_map (x:List Int) (c:Int) (j:Nat):row (x.map (c* ·)) j=c*row x j:=act_map x c one0 j
theorem row_nil (j:Nat):row [] j=0:=rfl
theorem row_mul_comm (x y:List Int) (j:Nat):row (pmul x y) j=row (pmul y x) j:=by rw[row_pmul,row_pmul];exact act_comm x y one0 j
def addQ {p:Int} {m:List Int} (a b:Am p m):Am p m:=Quotient.liftOn₂ a b (fun x y=>(mq (padd x y):Am p m)) fun x y x' y' hx hy=>mk_eq.2 (((Cg.of fun j=>by rw[row_padd]).trans (Cg.add hx hy)).trans (.of fun j=>by rw[row_padd]))
def mulQ {p:Int} {m:List Int} (a b:Am p m):Am p m:=Quotient.liftOn₂ a b (fun x y=>(mq (pmul x y):Am p m)) fun x y x' y' hx hy=>mk_eq.2 (Cg.mul hx hy)
def negQ {p:Int} {m:List Int} (a:Am p m):Am p m:=Quotient.liftOn a (fun x=>(mq (x.map (-1* ·)):Am p m)) fun x y h=>mk_eq.2 (((Cg.of fun j=>by rw[row_map]).trans (Cg.smul (-1) h)).trans (.of fun j=>by rw[row_map]))
theorem row_mul_assoc (x y z:List Int) (j:Nat):row (pmul (pmul x y) z) j=row (pmul x (pmul y z)) j:=by rw[row_pmul,row_pmul,act_pmul];exact act_congr x (fun i=>(row_pmul y z i).symm) j
theorem row_one_mul (x:List Int) (j:Nat):row (pmul [1] x) j=row x j:=by rw[row_pmul];show 1*row x j+sft (fun _=>0) j=_;cases j <;> simp[sft]
theorem row_mul_add (x y z:List Int) (j:Nat):row (pmul x (padd y z)) j=row (padd (pmul x y) (pmul x z)) j:=by rw[row_padd,row_pmul,row_pmul,row_pmul,←act_add];exact act_congr x (fun i=>row_padd y z i) j
instance amCR (p:Int) (m:List Int):CR (Am p m) where
 add:=addQ
 mul:=mulQ
 neg:=negQ
 zero:=mq []
 one:=mq [1]
 add_assoc a b c:=by obtain⟨x,rfl⟩:=mk_rep a;obtain⟨y,rfl⟩:=mk_rep b;obtain⟨z,rfl⟩:=mk_rep c;exact mk_row fun j=>by rw[row_padd,row_padd,row_padd,row_padd,Int.add_assoc]
 add_comm a b:=by obtain⟨x,rfl⟩:=mk_rep a;obtain⟨y,rfl⟩:=mk_rep b;exact mk_row fun j=>by rw[row_padd,row_padd,Int.add_comm]
 zero_add a:=by obtain⟨x,rfl⟩:=mk_rep a;exact mk_row fun j=>by rw[row_padd,row_nil,Int.zero_add]
 neg_add a:=by obtain⟨x,rfl⟩:=mk_rep a;exact mk_row fun j=>by rw[row_padd,row_map,row_nil];omega
 mul_assoc a b c:=by obtain⟨x,rfl⟩:=mk_rep a;obtain⟨y,rfl⟩:=mk_rep b;obtain⟨z,rfl⟩:=mk_rep c;exact mk_row fun j=>row_mul_assoc x y z j
 mul_comm a b:=by obtain⟨x,rfl⟩:=mk_rep a;obtain⟨y,rfl⟩:=mk_rep b;exact mk_row fun j=>row_mul_comm x y j
 one_mul a:=by obtain⟨x,rfl⟩:=mk_rep a;exact mk_row fun j=>row_one_mul x j
 mul_add a b c:=by obtain⟨x,rfl⟩:=mk_rep a;obtain⟨y,rfl⟩:=mk_rep b;obtain⟨z,rfl⟩:=mk_rep c;exact mk_row fun j=>row_mul_add x y z j
theorem mk_add {p:Int} {m:List Int} (x y:List Int):(mq x:Am p m)+mq y=mq (padd x y):=rfl
theorem mk_mul {p:Int} {m:List Int} (x y:List Int):(mq x:Am p m)*mq y=mq (pmul x y):=rfl
theorem mk_neg {p:Int} {m:List Int} (x:List Int): -(mq x:Am p m)=mq (x.map (-1* ·)):=rfl
theorem mk_zero {p:Int} {m:List Int}: (0:Am p m)=mq []:=rfl
theorem mk_one {p:Int} {m:List Int}: (1:Am p m)=mq [1]:=rfl
theorem mk_pw {p:Int} {m:List Int} (x:List Int):∀n,CR.pw (mq x:Am p m) n=mq (ppow x n)
 |0=>rfl
 |n+1=>by show CR.pw (mq x:Am p m) n*mq x=mq (pmul x (ppow x n));rw[mk_pw x n,CR.mul_comm];rfl
theorem mk_nsm {p:Int} {m:List Int} (x:List Int):∀n:Nat,CR.nsm n (mq x:Am p m)=mq (x.map ((n:Int)* ·))
 |0=>mk_row fun j=>by rw[row_map,row_nil];simp
 |n+1=>by show CR.nsm n (mq x:Am p m)+mq x=_;rw[mk_nsm x n,mk_add];exact mk_row fun j=>by rw[row_padd,row_map,row_map,Int.natCast_add,Int.add_mul];simp
theorem am_char (P:Nat) (m:List Int) (a:Am (P:Int) m):CR.nsm P a=0:=by obtain⟨x,rfl⟩:=mk_rep a;rw[mk_nsm,mk_zero,mk_eq];exact .of fun j=>by rw[row_map,row_nil,Int.mul_emod_right];rfl
theorem mk_self {p:Int} {m:List Int}: (mq m:Am p m)=0:=by rw[mk_zero,mk_eq];exact⟨[1],fun j=>by rw[row_nil,Int.zero_add,←row_pmul,row_one_mul]⟩
theorem mk_cons {p:Int} {m:List Int} (k:Int) (x:List Int):(mq (k::x):Am p m)=mq [k]+mq [0,1]*mq x:=by
 rw[mk_mul,mk_add];refine mk_row fun j=>?_;rw[row_padd,row_pmul];show k*one0 j+sft (act x one0) j=k*one0 j+sft (fun _=>0) j+(0*row x j+sft (fun i=>1*row x i+sft (fun _=>0) i) j);cases j with
 |zero=>simp[sft]
 |succ j=>cases j <;> simp[sft,row]
theorem mk_ev {p:Int} {m:List Int}:∀x:List Int,CR.ev (x.map fun k=>(mq [k]:Am p m)) (mq [0,1])=mq x
 |[]=>rfl
 |k::x=>by show(mq [k]:Am p m)+mq [0,1]*CR.ev (x.map fun k=>(mq [k]:Am p m)) (mq [0,1])=_;rw[mk_ev x,←mk_cons]
end Go.Proofs.YtffdemplaodbcaaDoor
