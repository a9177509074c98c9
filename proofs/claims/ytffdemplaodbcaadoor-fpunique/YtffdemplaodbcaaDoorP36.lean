/- A part of the proof: MI, MJ. -/
import Derived.Test.YtffdemplaodbcaaDoorP34
import Derived.Test.YtffdemplaodbcaaDoorP33
import Derived.Test.YtffdemplaodbcaaDoorP35
set_option linter.all false
namespace Go.Proofs.YtffdemplaodbcaaDoor
open Go Go.Proofs Go.RowKit Go.Rad
def OWS (w:World) (B:Nat) (v:Value) (xs:List Value):Prop:=w.ownsRow B 22 1 v xs.length xs
theorem OWS.nil (w:World) (B:Nat):OWS w B (.slice none 0 0) []:=⟨rfl, .inl ⟨rfl,rfl⟩⟩
theorem ownsRow_kept {w w':World} {B e n:Nat} {v:Value} {xs:List Value} {S:Nat→Prop} (h:w.ownsRow B e 1 v n xs) (hk:Kept S w w') (hs:∀g,v.ownBlock=some g→¬S g):w'.ownsRow B e 1 v n xs:=by
 refine⟨h.1,?_⟩;rcases h.2 with h1|⟨g,cap,cur,hv,hB,hg,h2⟩
 ·exact .inl h1
 ·exact .inr ⟨g,cap,cur,hv,hB,(hk.block g (Array.getElem?_eq_some_iff.1 hg).1 (hs g (by rw[hv];rfl))).trans hg,h2⟩
theorem ownsRow_at {w:World} {B e n:Nat} {v:Value} {xs:List Value} (h:w.ownsRow B e 1 v n xs) {g:Nat} (hg:v.ownBlock=some g):B≤g∧g<w.heap.size∧∃cur,w.heap[g]? =some (.cells cur e (0,0)):=by
 rcases h.2 with⟨hv,_⟩|⟨g',cap,cur,hv,hB,hg',h2⟩
 ·rw[hv]at hg;cases hg
 ·rw[hv]at hg;obtain rfl:g'=g:=(by simpa [Value.ownBlock]using hg);exact⟨hB,(Array.getElem?_eq_some_iff.1 hg').1,cur,hg'⟩
theorem wpList_appendI2 {w:World} {ops:Array Oper} {rest:List Oper} {o:Oper} {a:Act} {Q:Exit→Act→World→Prop} (hgd:o.guard=none) (s x:Operand)
 (ho:o.op= .call {callee:= .builtin .append,args:=#[s,x],argTypes:=#[22,22]}) {B:Nat} {v:Value} {xs:List Int} (hs:a.eval s=v) (hown:OWI w B v xs) (g7 m7:Nat) (c:Int)
 (hx:a.eval x= .slice (some ⟨g7,0,none⟩) 1 m7) (hc:w.cell? ⟨g7,0,none⟩=some (.int .i64 c)) (hl:xs.length≤1048576) (hB:B≤w.heap.size)
 (h:∀v' w',OWI w' B v' (xs++[c])→Kept (fun g=>v.ownBlock=some g) w w'→(∀g,v'.ownBlock=some g→v.ownBlock=some g∨w.heap.size≤g)→wpList Tryd.prog ops Q rest (a.put o.dst v') w'):wpList Tryd.prog ops Q (o::rest) a w:=by
 obtain⟨i,hi0,hi1⟩:=Option.map_eq_some_iff.1 info3;simp only[Prod.mk.injEq]at hi1;obtain⟨z0,z1,z2⟩:=hi1;obtain⟨g,cap,w',hrun,hrow,hgr,hg,hlt⟩:=run_append_lies (P:=Tryd.prog) w 22 o.type B 3 i (.int .i64 0) 1 8 Tryd.underlying22 hi0 z0 z1 z2 rfl (by omega) v xs.length _ hown ⟨g7,0,none⟩ 1 m7 [.int .i64 c] rfl
  (fun j u hj=>by
   cases j with
   |zero=>simp at hj;subst hj;exact hc
   |succ j=>simp at hj) (fun u hu=>by simp at hu;subst hu;rfl) (by omega) (by unfold maxLen;omega) (by omega) hB w.heap.size rfl
 refine wpList_plain hgd fun K hK=>?_;unfold Oper.wp execOp;simp only[ho,resolve,invoke,builtin,Sem.run_bind,Sem.run_pure,Result.andThen_ok,List.map_toArray,List.map_cons,List.map_nil,hs,hx,hrun];refine hK _ _ (h _ _ ?_ ⟨hgr.os,hgr.tape,hgr.output,hgr.size,fun k hk hne=>hgr.block k hk fun e=>hne e.symm⟩ fun g' hg'=>?_)
 ·unfold OWI;rw[List.length_append,List.map_append];exact hrow
 ·obtain rfl:g=g':=(by simpa [Value.ownBlock]using hg');exact hg.imp id fun h=>by omega
theorem wpList_appendS {w:World} {ops:Array Oper} {rest:List Oper} {o:Oper} {a:Act} {Q:Exit→Act→World→Prop} (hgd:o.guard=none) (s x:Operand)
 (ho:o.op= .call {callee:= .builtin .append,args:=#[s,x],argTypes:=#[64,64]}) {B:Nat} {v:Value} {xs:List Value} (hs:a.eval s=v) (hown:OWS w B v xs) (g7 m7:Nat) (c:Value) (a1:Option Addr) (n1 c1:Nat) (hcv:c= .slice a1 n1 c1)
 (hx:a.eval x= .slice (some ⟨g7,0,none⟩) 1 m7) (hc:w.cell? ⟨g7,0,none⟩=some c) (hl:xs.length≤1048576) (hB:B≤w.heap.size)
 (h:∀v' w',OWS w' B v' (xs++[c])→Kept (fun g=>v.ownBlock=some g) w w'→(∀g,v'.ownBlock=some g→v.ownBlock=some g∨w.heap.size≤g)→wpList Tryd.prog ops Q rest (a.put o.dst v') w'):wpList Tryd.prog ops Q (o::rest) a w:=by
 obtain⟨i,hi0,hi1⟩:=Option.map_eq_some_iff.1 info22;simp only[Prod.mk.injEq]at hi1;obtain⟨z0,z1,z2⟩:=hi1;obtain⟨g,cap,w',hrun,hrow,hgr,hg,hlt⟩:=run_append_lies (P:=Tryd.prog) w 64 o.type B 22 i (.slice none 0 0) 1 24 Tryd.underlying64 hi0 z0 z1 z2 rfl (by omega) v xs.length _ hown ⟨g7,0,none⟩ 1 m7 [c] rfl
  (fun j u hj=>by
   cases j with
   |zero=>simp at hj;subst hj;exact hc
   |succ j=>simp at hj) (fun u hu=>by simp at hu;subst hu;subst hcv;rfl) (by omega) (by unfold maxLen;omega) (by omega) hB w.heap.size rfl
 refine wpList_plain hgd fun K hK=>?_;unfold Oper.wp execOp;simp only[ho,resolve,invoke,builtin,Sem.run_bind,Sem.run_pure,Result.andThen_ok,List.map_toArray,List.map_cons,List.map_nil,hs,hx,hrun];refine hK _ _ (h _ _ ?_ ⟨hgr.os,hgr.tape,hgr.output,hgr.size,fun k hk hne=>hgr.block k hk fun e=>hne e.symm⟩ fun g' hg'=>?_)
 ·unfold OWS;rw[List.length_append];exact hrow
 ·obtain rfl:g=g':=(by simpa [Value.ownBlock]using hg');exact hg.imp id fun h=>by omega
theorem OA.kept {w w':World} {B b n:Nat} {f:Nat→Int} {S:Nat→Prop} (h:OA w B b n f) (hk:Kept S w w') (hs:¬S b):OA w' B b n f:=⟨h.base,Nat.lt_of_lt_of_le h.lt hk.size,fun i hi=>(hk.cell h.lt hs).trans (h.c i hi),fun i hi=>(hk.froz h.lt hs).trans (h.z i hi)⟩
theorem MT.kept {w w':World} {B R n:Nat} {rb:Nat→Nat} {M:Nat→Nat→Int} {T:Nat→Prop} (h:MT w B R n rb M) (hk:Kept T w w') (hT:∀g,T g→¬SwK R n rb g):MT w' B R n rb M:=
 ⟨fun i hi=>(hk.cell h.lt (fun e=>hT _ e (.inl rfl))).trans (h.cR i hi),fun i hi=>(hk.froz h.lt (fun e=>hT _ e (.inl rfl))).trans (h.zR i hi),h.base,Nat.lt_of_lt_of_le h.lt hk.size,
  fun i hi=>(h.row i hi).kept hk (fun e=>hT _ e (.inr ⟨i,hi,rfl⟩)),h.ne,h.inj⟩
theorem MT.swap {w:World} {B R n:Nat} {rb:Nat→Nat} {M:Nat→Nat→Int} (h:MT w B R n rb M) {k t:Nat} (hk:k<n) (ht:t<n):
 MT ((w.setCell ⟨R,k,none⟩ (.slice (some ⟨rb t,0,none⟩) n n)).setCell ⟨R,t,none⟩ (.slice (some ⟨rb k,0,none⟩) n n)) B R n (fun i=>if i=k then rb t else if i=t then rb k else rb i) (swp k t M):=by
 have keep:∀ {b:Nat} {f:Nat→Int},OA w B b n f→b≠R→OA ((w.setCell ⟨R,k,none⟩ (.slice (some ⟨rb t,0,none⟩) n n)).setCell ⟨R,t,none⟩ (.slice (some ⟨rb k,0,none⟩) n n)) B b n f:=fun {b f} ho hb=>⟨ho.base,by simpa [World.setCell]using ho.lt,fun i hi=>by rw[cell_other (.inl hb),cell_other (.inl hb)];exact ho.c i hi,fun i hi=>by rw[World.frozen?_setCell,World.frozen?_setCell];exact ho.z i hi⟩;refine⟨fun i hi=>?_,fun i hi=>by rw[World.frozen?_setCell,World.frozen?_setCell];exact h.zR i hi,h.base,by simpa [World.setCell]using h.lt,fun i hi=>?_,fun i hi=>?_,fun i j hi hj=>?_⟩
 ·show _=some (Value.slice (some ⟨if i=k then rb t else if i=t then rb k else rb i,0,none⟩) n n);by_cases h1:i=t
  ·subst h1;by_cases h2:i=k
   ·subst h2;rw[if_pos rfl];exact cell_same (cell_same (h.cR i hi))
   ·rw[if_neg h2,if_pos rfl];exact cell_same ((cell_other (.inr h2)).trans (h.cR i hi))
  ·rw[cell_other (.inr h1)];by_cases h2:i=k
   ·subst h2;rw[if_pos rfl];exact cell_same (h.cR i hi)
   ·rw[if_neg h2,if_neg h1,cell_other (.inr h2)];exact h.cR i hi
 ·show OA _ B (if i=k then rb t else if i=t then rb k else rb i) n (fun j=>swp k t M i j);unfold swp;by_cases h2:i=k
  ·simp only[if_pos h2];exact keep (h.row t ht) (h.ne t ht)
  ·by_cases h1:i=t
   ·simp only[if_neg h2,if_pos h1];exact keep (h.row k hk) (h.ne k hk)
   ·simp only[if_neg h2,if_neg h1];exact keep (h.row i hi) (h.ne i hi)
 ·show(if i=k then rb t else if i=t then rb k else rb i)≠R
  split
  ·exact h.ne t ht
  ·split
   ·exact h.ne k hk
   ·exact h.ne i hi
 ·have hs:∀i,(if i=k then rb t else if i=t then rb k else rb i)=rb (if i=k then t else if i=t then k else i):=fun i=>by
   split
   ·rfl
   ·split <;> rfl
  have hl:∀i,i<n→(if i=k then t else if i=t then k else i)<n:=fun i hi=>by
   split
   ·exact ht
   ·split
    ·exact hk
    ·exact hi
  show(if i=k then rb t else if i=t then rb k else rb i)=(if j=k then rb t else if j=t then rb k else rb j)→i=j;rw[hs,hs];intro e;have e2:=h.inj _ _ (hl i hi) (hl j hj) e
  (repeat' split at e2) <;> omega
structure OV (w:World) (B:Nat) (S:Nat→Prop) (vv:Value) (vs:List Value) (m:Nat) (fr vb:Nat→Nat) (V:Nat→Nat→Int) (pp:Value) (pl:List Int):Prop where
 ov:OWS w B vv vs
 nv:∀g,vv.ownBlock=some g→¬S g
 vl:vs.length=m
 vi:∀i,i<m→vs[i]? =some (.slice (some ⟨vb i,0,none⟩) (fr i+1:Nat) (fr i+1:Nat))
 oa:∀i,i<m→OA w B (vb i) (fr i+1) (V i)
 na:∀i,i<m→¬S (vb i)
 nb:∀i,i<m→vv.ownBlock≠some (vb i)∧pp.ownBlock≠some (vb i)
 op:OWI w B pp pl
 np:∀g,pp.ownBlock=some g→¬S g
theorem OV.kept {w w':World} {B:Nat} {S:Nat→Prop} {vv:Value} {vs:List Value} {m:Nat} {fr vb:Nat→Nat} {V:Nat→Nat→Int} {pp:Value} {pl:List Int} (h:OV w B S vv vs m fr vb V pp pl) (hk:Kept S w w'):OV w' B S vv vs m fr vb V pp pl:=⟨ownsRow_kept h.ov hk h.nv,h.nv,h.vl,h.vi,fun i hi=>(h.oa i hi).kept hk (h.na i hi),h.na,h.nb,ownsRow_kept h.op hk h.np,h.np⟩
theorem OV.below {w w':World} {B:Nat} {S:Nat→Prop} {vv:Value} {vs:List Value} {m:Nat} {fr vb:Nat→Nat} {V:Nat→Nat→Int} {pp:Value} {pl:List Int} (h:OV w B S vv vs m fr vb V pp pl) (hb:Below w.heap.size w w'):OV w' B S vv vs m fr vb V pp pl:=h.kept (.of_below hb)
theorem OV.apart {w:World} {B:Nat} {S T:Nat→Prop} {vv:Value} {vs:List Value} {m:Nat} {fr vb:Nat→Nat} {V:Nat→Nat→Int} {pp:Value} {pl:List Int} (h:OV w B S vv vs m fr vb V pp pl) (ht:∀g,g<w.heap.size→T g→S g):OV w B T vv vs m fr vb V pp pl:=⟨h.ov,fun g hg hT=>h.nv g hg (ht g (ownsRow_at h.ov hg).2.1 hT),h.vl,h.vi,h.oa,fun i hi hT=>h.na i hi (ht _ (h.oa i hi).lt hT),h.nb,h.op,fun g hg hT=>h.np g hg (ht g (ownsRow_at h.op hg).2.1 hT)⟩
theorem OV.move {w w':World} {B:Nat} {S T:Nat→Prop} {vv:Value} {vs:List Value} {m:Nat} {fr vb:Nat→Nat} {V:Nat→Nat→Int} {pp:Value} {pl:List Int} (h:OV w B S vv vs m fr vb V pp pl) (hk:Kept S w w') (ht:∀g,g<w.heap.size→T g→S g):OV w' B T vv vs m fr vb V pp pl:=⟨(h.kept hk).ov,(h.apart ht).nv,h.vl,h.vi,(h.kept hk).oa,(h.apart ht).na,h.nb,(h.kept hk).op,(h.apart ht).np⟩
theorem OV.start (w:World) (B:Nat) (S:Nat→Prop) (fr vb:Nat→Nat) (V:Nat→Nat→Int):OV w B S (.slice none 0 0) [] 0 fr vb V (.slice none 0 0) []:=⟨OWS.nil _ _,fun g hg=>(by cases hg),rfl,fun i hi=>(by omega),fun i hi=>(by omega),fun i hi=>(by omega),fun i hi=>(by omega),OWI.nil _ _,fun g hg=>(by cases hg)⟩
theorem own_ne {w:World} {B C:Nat} {vv pp:Value} {vs:List Value} {pl:List Int} (h:OWS w B vv vs) (k:OWI w C pp pl) {g:Nat} (h1:vv.ownBlock=some g) (h2:pp.ownBlock=some g):False:=by obtain⟨_,_,cur,e⟩:=ownsRow_at h h1;obtain⟨_,_,cur',e'⟩:=ownsRow_at k h2;rw[e]at e';simp at e'
theorem OV.addV {w w':World} {B:Nat} {S:Nat→Prop} {vv vv':Value} {vs:List Value} {m:Nat} {fr vb:Nat→Nat} {V:Nat→Nat→Int} {pp:Value} {pl:List Int} (h:OV w B S vv vs m fr vb V pp pl) {b c:Nat} {y:Nat→Int}
 (hO:OA w B b (c+1) y) (hS:¬S b) (hnb:vv.ownBlock≠some b∧pp.ownBlock≠some b) (hSz:∀g,S g→g<w.heap.size) (ha:OWS w' B vv' (vs++[.slice (some ⟨b,0,none⟩) (c+1:Nat) (c+1:Nat)])) (hk:Kept (fun g=>vv.ownBlock=some g) w w')
 (hg:∀g,vv'.ownBlock=some g→vv.ownBlock=some g∨w.heap.size≤g):
 OV w' B S vv' (vs++[.slice (some ⟨b,0,none⟩) (c+1:Nat) (c+1:Nat)]) (m+1) (fun i=>if i=m then c else fr i) (fun i=>if i=m then b else vb i) (fun i j=>if i=m then y j else V i j) pp pl:=by
 refine⟨ha,fun g hg' hs=>?_,by simp[h.vl],fun i hi=>?_,fun i hi=>?_,fun i hi=>?_,fun i hi=>?_,ownsRow_kept h.op hk (fun g h1 h2=>own_ne h.ov h.op h2 h1),h.np⟩
 ·rcases hg g hg' with h1|h1
  ·exact h.nv g h1 hs
  ·have:=hSz g hs;omega
 ·by_cases him:i=m
  ·simp only[him,if_true];rw[List.getElem?_append_right (by rw[h.vl];exact Nat.le_refl _),h.vl,Nat.sub_self];rfl
  ·simp only[if_neg him];rw[List.getElem?_append_left (by rw[h.vl];omega)];exact h.vi i (by omega)
 ·by_cases him:i=m
  ·simp only[him,if_true];exact hO.kept hk hnb.1
  ·simp only[if_neg him];exact(h.oa i (by omega)).kept hk (h.nb i (by omega)).1
 ·by_cases him:i=m
  ·simp only[him,if_true];exact hS
  ·simp only[if_neg him];exact h.na i (by omega)
 ·by_cases him:i=m
  ·simp only[him,if_true];refine⟨fun e=>?_,hnb.2⟩;rcases hg b e with h1|h1
   ·exact hnb.1 h1
   ·have:=hO.lt;omega
  ·simp only[if_neg him];refine⟨fun e=>?_,(h.nb i (by omega)).2⟩;rcases hg _ e with h1|h1
   ·exact(h.nb i (by omega)).1 h1
   ·have:=(h.oa i (by omega)).lt;omega
theorem OV.addP {w w':World} {B:Nat} {S:Nat→Prop} {vv pp':Value} {vs:List Value} {m:Nat} {fr vb:Nat→Nat} {V:Nat→Nat→Int} {pp:Value} {pl:List Int} (h:OV w B S vv vs m fr vb V pp pl) {c:Int}
 (hSz:∀g,S g→g<w.heap.size) (ha:OWI w' B pp' (pl++[c])) (hk:Kept (fun g=>pp.ownBlock=some g) w w')
 (hg:∀g,pp'.ownBlock=some g→pp.ownBlock=some g∨w.heap.size≤g):OV w' B S vv vs m fr vb V pp' (pl++[c]):=by
 refine⟨ownsRow_kept h.ov hk (fun g h1 h2=>own_ne h.ov h.op h1 h2),h.nv,h.vl,h.vi,fun i hi=>(h.oa i hi).kept hk (h.nb i hi).2,h.na,fun i hi=>⟨(h.nb i hi).1,fun e=>?_⟩,ha,fun g hg' hs=>?_⟩
 ·rcases hg _ e with h1|h1
  ·exact(h.nb i hi).2 h1
  ·have:=(h.oa i hi).lt;omega
 ·rcases hg g hg' with h1|h1
  ·exact h.np g h1 hs
  ·have:=hSz g hs;omega
end Go.Proofs.YtffdemplaodbcaaDoor
namespace Go.Proofs.YtffdemplaodbcaaDoor
open Go Go.Proofs Go.RowKit Go.Rad
inductive FixP (w:World) (p:Int) (f:List Int) (n:Nat) (e:Ending) (w':World):Prop
 |mk (M0:Nat→Nat→Int) (s:List Int) (ql:Nat→List Int) (k m:Nat) (N:Nat→Nat→Int) (pv fr vb:Nat→Nat) (V:Nat→Nat→Int) (v:Value) (vs:List Value) (he:e= .returned v) (hb:Below w.heap.size w w')
  (hs:Res p f (row (ppow [0,1] p.toNat)) s) (hql:∀c,c<n→Res p f (row (ppow s c)) (ql c)) (hM0:∀r c,r<n→c<n→M0 r c%p=((if r=c then p-1 else 0)+row (ql c) r)%p)
  (hX:FX p n M0 n k N pv m fr V) (hO:OWS w' w.heap.size v vs) (hl:vs.length=m) (hi:∀i,i<m→vs[i]? =some (.slice (some ⟨vb i,0,none⟩) (fr i+1:Nat) (fr i+1:Nat))) (ha:∀i,i<m→OA w' w.heap.size (vb i) (fr i+1) (V i))
  (hn:∀i,i<m→v.ownBlock≠some (vb i))
inductive FS (w wr:World) (B R n:Nat) (p q:Int) (M0:Nat→Nat→Int) (b4:Nat) (vv pp i:Value) (c:Nat):Prop
 |mk (k m:Nat) (rb:Nat→Nat) (N:Nat→Nat→Int) (pv fr vb:Nat→Nat) (V:Nat→Nat→Int) (vs:List Value) (pl:List Int) (hi:i= .int .i64 c) (hX:FX p n M0 c k N pv m fr V) (hM:MT wr B R n rb N)
  (hN:∀i j,i<n→j<n→0≤N i j∧N i j<q) (hO:OV wr B (SwK R n rb) vv vs m fr vb V pp pl) (hpl:pl.length=k) (hpv:∀i,i<k→pl.getD i 0=pv i) (hF:FB wr b4 (.int .i64 p) (.int .i64 q)) (hB:Below B w wr)
theorem swk_lt {w:World} {B R n:Nat} {rb:Nat→Nat} {M:Nat→Nat→Int} (h:MT w B R n rb M):∀g,SwK R n rb g→g<w.heap.size:=fun g hg=>by
 rcases hg with rfl|⟨i,hi,rfl⟩
 ·exact h.lt
 ·exact(h.row i hi).lt
theorem swk_ge {w:World} {B R n:Nat} {rb:Nat→Nat} {M:Nat→Nat→Int} (h:MT w B R n rb M):∀g,SwK R n rb g→B≤g:=fun g hg=>by
 rcases hg with rfl|⟨i,hi,rfl⟩
 ·exact h.base
 ·exact(h.row i hi).base
theorem FB.kept9 {w w':World} {b:Nat} {u0 u1:Value} {S:Nat→Prop} (h:FB w b u0 u1) (hk:Kept S w w') (hs:¬S b):FB w' b u0 u1:=⟨Nat.lt_of_lt_of_le h.lt hk.size,(hk.cell h.lt hs).trans h.c0,(hk.cell h.lt hs).trans h.c1,(hk.froz h.lt hs).trans h.f0,(hk.froz h.lt hs).trans h.f1⟩
set_option maxRecDepth 20000 in
set_option maxHeartbeats 4000000 in
theorem fixed_any (w:World) (p q:Int) (b2 o2 n c2:Nat) (y:Nat→Int) (hM:MD w p b2 o2 n c2 y) (hb2:b2<w.heap.size) (hq:q=p*p) (hpr:PrI p) (hn:n≤1000) (hn0:0<n):
 Calls Tryd.prog 51 #[FV p q, .slice (some ⟨b2,o2,none⟩) (n+1:Nat) c2] w fun e w'=>FixP w p (lst y (n+1)) n e w':=by
 have hp:1<p∧p<2147483648:=(by obtain⟨P,h1,h2,h3⟩:=hpr;have:=h2.1;omega);have hq2:q<4611686018427387904:=(by have h1:=sq_lt (by omega:(0:Int)≤p) hp.2 (by omega) hp.2;rw[hq];exact h1.2);have HPR:Hid (PrI p):=hpr;have HM:Hid (MD w p b2 o2 n c2 y):=hM;have HB2:Hid (b2<w.heap.size):=hb2;have HQ:Hid (q=p*p):=hq;have HN1:Hid (n≤1000):=hn;have hni:(n:Int)≤1000:=(by omega);clear hM hb2 hq hpr hn;go_enter Tryd.func51,Tryd.ntmps51;go_upto_region 1 with fail;refine wp_world (fun w1=>Below w.heap.size w w1∧FB w1 w.heap.size (.int .i64 p) (.int .i64 q)) ⟨bel1 _ _,FB.mk0 _ _ _ _⟩ ?_;rintro w1 ⟨hB1,hF1⟩;obtain⟨b4,hb4⟩:∃x,x=w.heap.size:=⟨_,rfl⟩;rw[←hb4]at hF1⊢;have H4:Hid (b4=w.heap.size):=hb4;have HB1:Hid (Below w.heap.size w w1):=hB1;have HF1:Hid (FB w1 b4 (.int .i64 p) (.int .i64 q)):=hF1;clear hB1 hb4;obtain⟨l4,k40,k41,z4,z5⟩:=hF1;go_wp2_with (go_at_call 70;fail);refine(equations_any w1 p q b2 o2 n c2 y (HM.out.below HB1.out) (Nat.lt_of_lt_of_le HB2.out HB1.out.size) HQ.out hp HN1.out hn0).mono ?_;rintro e w2 ⟨R,rb0,M0,s,ql,rfl,hM2,hb2',hbd,hs,hql,hM0⟩;have HR1:Hid (Res p (lst y (n+1)) (row (ppow [0,1] p.toNat)) s∧(∀c,c<n→Res p (lst y (n+1)) (row (ppow s c)) (ql c))∧∀r c,r<n→c<n→M0 r c%p=((if r=c then p-1 else 0)+row (ql c) r)%p):=⟨hs,hql,hM0⟩;have HS0:Hid (FS w1 w2 w1.heap.size R n p q M0 b4 (.slice none 0 0) (.slice none 0 0) (.int .i64 0) 0):= .mk 0 0 rb0 M0 (fun _=>0) (fun _=>0) (fun _=>0) (fun _ _=>0) [] [] rfl (.start _ _ _ _) hM2 hbd (.start _ _ _ _ _ _) rfl (fun i hi=>by omega) (HF1.out.below hb2') hb2';have HG:Hid (b4<w1.heap.size):=HF1.out.lt;clear l4 k40 k41 z4 z5 hM2 hb2' hbd hs hql hM0;go_wp2;go_loopw [6,7,16] (fun vv pp i wr=>∃c,c≤n∧FS w1 wr w1.heap.size R n p q M0 b4 vv pp i c) (fun _ _ i _=>n-(Lib.intOf i).toNat)
 case atStart=>exact⟨0,by omega,HS0.out⟩
 case round=>
  obtain⟨c,hcn,hFS⟩:=hrel;obtain⟨k,m,rb,N,pv,fr,vb,V,vs,pl,rfl,hX,hM,hN,hO,hpl,hpv,hF,hB⟩:=hFS;have HX:Hid (FX p n M0 c k N pv m fr V):=hX;have HMr:Hid (MT wr w1.heap.size R n rb N):=hM;have HN:Hid (∀i j,i<n→j<n→0≤N i j∧N i j<q):=hN;have HO:Hid (OV wr w1.heap.size (SwK R n rb) u6 vs m fr vb V u7 pl):=hO;have HPL:Hid (pl.length=k∧∀i,i<k→pl.getD i 0=pv i):=⟨hpl,hpv⟩;have HF:Hid (FB wr b4 (.int .i64 p) (.int .i64 q)):=hF;have HB:Hid (Below w1.heap.size w1 wr):=hB;clear hX hM hN hO hpl hpv hF hB;by_cases hc:c<n
  ·have hci:(c:Int)<(n:Int):=(by omega);obtain⟨cap7,a7,hu7⟩:∃cap a,u7= .slice a k cap:=by
    have h:=HO.out.op;have hk:=HPL.out.1;rcases h.2 with⟨hv,h0⟩|⟨g,cap,cur,hv,_⟩
    ·exact⟨0,none,by rw[hv,←hk,h0]⟩
    ·exact⟨cap,_,by rw[hv,hk]⟩
   have hkm:=HX.out.cnt;have hkn:k≤n:=(by omega);have hw4:wrap64 ((c:Int)+1)=(c:Int)+1:=wrap_in (by omega) (by omega);subst hu7;obtain⟨l4,k40,k41,z4,z5⟩:=HF.out;clear hkm;go_wp2_with (go_at_call 71;fail);refine(find_any wr p q w1.heap.size R n c k rb N HMr.out hp hq2 hc hkn HN1.out HN.out).mono ?_;rintro e w3 hfp;cases hfp with
   |none he hb3 h0=>
    subst he;have HO3:Hid (OV w3 w1.heap.size (SwK R n rb) u6 vs m fr vb V (.slice a7 k cap7) pl):=HO.out.below hb3;have HM3:Hid (MT w3 w1.heap.size R n rb N):=HMr.out.below hb3;have HF3:Hid (FB w3 b4 (.int .i64 p) (.int .i64 q)):=HF.out.below hb3;have HB3:Hid (Below w1.heap.size w1 w3):=HB.out.trans (hb3.mono HB.out.size);have H0:Hid (∀r,k≤r→r<n→N r c%p=0):=h0;clear l4 k40 k41 z4 z5 hb3 h0;obtain⟨l4,k40,k41,z4,z5⟩:=HF3.out;have HVP:Hid (VW w3 (.slice a7 k cap7) pl):=(sr_of_row HO3.out.op).view;have CS:=solution_any w3 p q w1.heap.size R n c rb N (.slice a7 k cap7) pl HM3.out HVP.out hp hq2 hc HN1.out HN.out (by rw[HPL.out.1];exact hkn) (fun j hj=>by
     have h1:=HPL.out.1;rw[HPL.out.2 j (by omega)];have:=HX.out.el.lt j (by omega);omega) (fun i j hij hj=>by
     have h1:=HPL.out.1;rw[HPL.out.2 i (by omega),HPL.out.2 j (by omega)];have:=HX.out.el.inc i j hij (by omega);omega)
    go_wp2_with (go_at_call 72;fail);refine CS.mono ?_;rintro e w4 ⟨bs,ys,rfl,hOs,hb4',hys⟩;have HO4:Hid (OV w4 w1.heap.size (SwK R n rb) u6 vs m fr vb V (.slice a7 k cap7) pl):=HO3.out.below hb4';have HM4:Hid (MT w4 w1.heap.size R n rb N):=HM3.out.below hb4';have HF4:Hid (FB w4 b4 (.int .i64 p) (.int .i64 q)):=HF3.out.below hb4';have HB4:Hid (Below w1.heap.size w1 w4):=HB3.out.trans (hb4'.mono HB3.out.size);have HOS:Hid (OA w4 w3.heap.size bs (c+1) ys):=hOs;have HSM:Hid (∀g,SwK R n rb g→g<w3.heap.size):=swk_lt HM3.out;have HYS:Hid (SolV p N c pl pl.length ys):=hys;clear l4 k40 k41 z4 z5 hOs hb4' hys CS;have hown:OWS (w4.alloc (.cells #[.slice (some ⟨bs,0,none⟩) (c+1:Nat) (c+1:Nat)] 22)) w1.heap.size u6 vs:=(HO4.out.below (bel1 w4 _)).ov;go_wp2_with (refine wpList_appendS (by rfl) _ _ (by rfl) (by rfl) (HO4.out.below (bel1 w4 _)).ov _ _ (.slice (some ⟨bs,0,none⟩) (c+1:Nat) (c+1:Nat)) _ _ _ rfl (by rfl) (by simp[go_sem]) (by have:=HO4.out.vl;have:=HX.out.cnt;omega) (by have:=HB4.out.size;simp;omega) ?_;intro v' w5 ho5 hk5 hg5);have HNEW:Hid (∃c₁,c₁≤n∧FS w1 w5 w1.heap.size R n p q M0 b4 v' (.slice a7 k cap7) (.int .i64 ((c:Int)+1)) c₁):=by
     have hsz:w4.heap.size≤(w4.alloc (.cells #[.slice (some ⟨bs,0,none⟩) (c+1:Nat) (c+1:Nat)] 22)).heap.size:=(bel1 w4 _).size;have h34:w3.heap.size≤bs:=HOS.out.base;have hbs:∀g,SwK R n rb g→g≠bs:=fun g hg e=>by have:=HSM.out g hg;omega
     have hob:∀g,u6.ownBlock=some g→g≠bs:=fun g hg e=>by have:=(ownsRow_at HO3.out.ov hg).2.1;omega
     have hop:∀g,(Value.slice a7 k cap7).ownBlock=some g→g≠bs:=fun g hg e=>by have:=(ownsRow_at HO3.out.op hg).2.1;omega
     have hOO:=HO4.out.below (bel1 w4 (.cells #[.slice (some ⟨bs,0,none⟩) (c+1:Nat) (c+1:Nat)] 22));have hMM:=HM4.out.below (bel1 w4 (.cells #[.slice (some ⟨bs,0,none⟩) (c+1:Nat) (c+1:Nat)] 22));have hB2:=HB4.out.trans ((bel1 w4 (.cells #[.slice (some ⟨bs,0,none⟩) (c+1:Nat) (c+1:Nat)] 22)).mono HB4.out.size);refine⟨c+1,hc, .mk k (m+1) rb N pv _ _ _ _ pl rfl
      (HX.out.free hp.1 H0.out HPL.out.1 HPL.out.2 HYS.out (fun j hj=>HYS.out.zero j (by omega) fun r hr=>by have h1:=HPL.out.1;rw[HPL.out.2 r (by omega)];have:=HX.out.el.lt r (by omega);omega)) (hMM.kept hk5 fun g h1 h2=>hOO.nv g h1 h2) HN.out
      (hOO.addV (b:=bs) (c:=c) (y:=ys) ((HOS.out.below (bel1 w4 _)).mono (by have:=HB3.out.size;omega)) (fun e=>hbs _ e rfl) ⟨fun e=>hob _ e rfl,fun e=>hop _ e rfl⟩ (fun g hg=>by have:=HSM.out g hg;have:=HB4.out.size;have h9:=HOS.out.lt;omega) ho5 hk5 hg5) HPL.out.1 HPL.out.2
      ((HF4.out.below (bel1 w4 _)).kept9 hk5 fun e=>by have:=(ownsRow_at hOO.ov e).1;have:=HG.out;omega) (hB2.trans ⟨hk5.os,hk5.tape,hk5.output,hk5.size,fun g hg=>hk5.block g (by have:=hB2.size;omega) fun e=>by have:=(ownsRow_at hOO.ov e).1;omega⟩)⟩
    clear ho5 hk5 hg5 hown;go_wp2
    try rw[hw4]
    exact⟨HNEW.out,meas_up hc⟩
   |some r he hb3 h1 h2 h3=>
    subst he;obtain⟨rk,hrk⟩:∃x,x=rb k:=⟨_,rfl⟩;obtain⟨rr,hrr⟩:∃x,x=rb r:=⟨_,rfl⟩;have HRR:Hid (rk=rb k∧rr=rb r):=⟨hrk,hrr⟩;have HO3:Hid (OV w3 w1.heap.size (SwK R n rb) u6 vs m fr vb V (.slice a7 k cap7) pl):=HO.out.below hb3;have HM3:Hid (MT w3 w1.heap.size R n rb N):=HMr.out.below hb3;have HF3:Hid (FB w3 b4 (.int .i64 p) (.int .i64 q)):=HF.out.below hb3;have HB3:Hid (Below w1.heap.size w1 w3):=HB.out.trans (hb3.mono HB.out.size);have HNE:Hid (N r c%p≠0):=h3;have hkn2:k<n:=(by omega);have hkni:(k:Int)<(n:Int):=(by omega);have hrni:(r:Int)<(n:Int):=(by omega);have hr0:¬((r:Int)<0):=(by omega);have HRN:Hid (k≤r∧r<n):=⟨h1,h2⟩;have ck:=HM3.out.cR k hkn2;have cr:=HM3.out.cR r h2;rw[←hrk]at ck;rw[←hrr]at cr;have zk:=HM3.out.zR k hkn2;have zr:=HM3.out.zR r h2;have lR:=HM3.out.lt;clear l4 k40 k41 z4 z5 hb3 h3 hrk hrr h1 h2;go_upto_region 11 with fail;go_cut [] from 37 to 50 (fun wx=>MT wx w1.heap.size R n (fun i=>if i=k then rb r else if i=r then rb k else rb i) (swp k r N)∧Kept (fun g=>g=R) w3 wx)
    case first=>
     by_cases hkr:r=k
     ·have hkr':rr=rk:=(by rw[HRR.out.1,HRR.out.2,hkr]);subst hkr;subst hkr';go_region;go_wp2_with fail;go_meet
      case rel=>have hm:=HM3.out.swap hkn2 HRN.out.2;rw[←HRR.out.1]at hm⊢;exact⟨hm.below (bel_drew _),(Kept.set (S:=fun g=>g=R) (Kept.set (S:=fun g=>g=R) (Kept.refl _ w3) rfl _) rfl _).trans (.of_below (bel_drew _))⟩
     ·have hkr2:¬k=r:=fun e=>hkr e.symm;go_region;go_wp2_with fail;go_meet
      case rel=>have hm:=HM3.out.swap hkn2 HRN.out.2;rw[←HRR.out.1,←HRR.out.2]at hm;rw[←HRR.out.1,←HRR.out.2];exact⟨hm.below (bel_drew _),(Kept.set (S:=fun g=>g=R) (Kept.set (S:=fun g=>g=R) (Kept.refl _ w3) rfl _) rfl _).trans (.of_below (bel_drew _))⟩
    case rest=>
    obtain⟨hMc,hKc⟩:=hcut;obtain⟨rb1,hrb1⟩:∃f:Nat→Nat,f=fun i=>if i=k then rb r else if i=r then rb k else rb i:=⟨_,rfl⟩;rw[←hrb1]at hMc;have HT1:Hid (∀g,SwK R n rb1 g→SwK R n rb g):=by
     intro g hg;rcases hg with e|⟨i,hi,e⟩
     ·exact .inl e
     ·rw[hrb1]at e;have e2:g=(if i=k then rb r else if i=r then rb k else rb i):=e
      split at e2
      ·exact .inr ⟨r,HRN.out.2,e2⟩
      ·split at e2
       ·exact .inr ⟨k,hkn2,e2⟩
       ·exact .inr ⟨i,hi,e2⟩
    have HRW:Hid (w1.heap.size≤R):=HM3.out.base;have HMc:Hid (MT wc w1.heap.size R n rb1 (swp k r N)):=hMc;have HOc:Hid (OV wc w1.heap.size (SwK R n rb1) u6 vs m fr vb V (.slice a7 k cap7) pl):=HO3.out.move (hKc.mono fun g e=> .inl e) fun g _=>HT1.out g;have HFc:Hid (FB wc b4 (.int .i64 p) (.int .i64 q)):=HF3.out.kept9 hKc (by have:=HG.out;have:=HRW.out;omega);have HBc:Hid (Below w1.heap.size w1 wc):=HB3.out.trans (hKc.below HB3.out.size fun g hg e=>by have:=HRW.out;omega);have HNb:Hid (∀i j,i<n→j<n→0≤swp k r N i j∧swp k r N i j<q):=fun i j hi hj=>by
     unfold swp
     split
     ·exact HN.out r j HRN.out.2 hj
     ·split
      ·exact HN.out k j hkn2 hj
      ·exact HN.out i j hi hj
    have HNe:Hid (swp k r N k c%p≠0):=(by unfold swp;rw[if_pos rfl];exact HNE.out);have HXs:Hid (FX p n M0 c k (swp k r N) pv m fr V):=HX.out.swap HRN.out.1 HRN.out.2;clear hMc hKc hrb1 ck cr zk zr lR HO3 HM3 HF3 HB3;obtain⟨l4,k40,k41,z4,z5⟩:=HFc.out;have CW:=sweep_any wc p q w1.heap.size R n k c rb1 (swp k r N) HMc.out HBc.out.size HQ.out HPR.out hkn2 hc HN1.out HNb.out HNe.out;go_wp2_with (go_at_call 73;fail);refine CW.mono ?_;rintro e w8 ⟨rb2,N2,ys,r8,rfl,hM8,hb8,hk8,hrb8,hN8,hr8,hy8,hh8⟩;have HM8:Hid (MT w8 w1.heap.size R n rb2 N2):=hM8;have HO8:Hid (OV w8 w1.heap.size (SwK R n rb2) u6 vs m fr vb V (.slice a7 k cap7) pl):=HOc.out.move hk8 fun g hg hg2=>by
     rcases hg2 with e|⟨i,hi,e⟩
     ·exact .inl e
     ·rcases hrb8 i hi with h9|h9
      ·exact .inr ⟨i,hi,e.trans h9⟩
      ·omega
    have HF8:Hid (FB w8 b4 (.int .i64 p) (.int .i64 q)):=HFc.out.kept9 hk8 fun hg=>by have:=swk_ge HMc.out _ hg;have:=HG.out;omega
    have HB8:Hid (Below w1.heap.size w1 w8):=HBc.out.trans hb8;have HN8:Hid (∀i j,i<n→j<n→0≤N2 i j∧N2 i j<q):=hN8;have HX8:Hid (FX p n M0 (c+1) (k+1) N2 (fun i=>if i=k then c else pv i) m fr V):=HXs.out.step hp.1 hkn2 hc hr8 hy8 hh8;have HPL8:Hid ((pl++[(c:Int)]).length=k+1∧∀i,i<k+1→(pl++[(c:Int)]).getD i 0=(((if i=k then c else pv i):Nat):Int)):=by
     have h1:=HPL.out.1;refine⟨by simp[h1],fun i hi=>?_⟩;by_cases hik:i=k
     ·rw[if_pos hik,List.getD_eq_getElem?_getD,List.getElem?_append_right (by omega),hik,h1,Nat.sub_self];rfl
     ·rw[if_neg hik,List.getD_eq_getElem?_getD,List.getElem?_append_left (by omega),←List.getD_eq_getElem?_getD];exact HPL.out.2 i (by omega)
    clear l4 k40 k41 z4 z5 hM8 hb8 hk8 hrb8 hN8 hr8 hy8 hh8 CW;go_wp2_with (refine wpList_appendI2 (by rfl) _ _ (by rfl) (by rfl) (HO8.out.below (bel1 w8 _)).op _ _ (c:Int) (by rfl) (by simp[go_sem]) (by have:=HPL.out.1;omega) (by have:=HB8.out.size;simp;omega) ?_;intro v' w9 ho9 hk9 hg9);have HNEW:Hid (∃c₁,c₁≤n∧FS w1 w9 w1.heap.size R n p q M0 b4 u6 v' (.int .i64 ((c:Int)+1)) c₁):=by
     have hOO:=HO8.out.below (bel1 w8 (.cells #[.int .i64 (c:Int)] 3));have hMM:=HM8.out.below (bel1 w8 (.cells #[.int .i64 (c:Int)] 3));have hB2:=HB8.out.trans ((bel1 w8 (.cells #[.int .i64 (c:Int)] 3)).mono HB8.out.size);exact⟨c+1,hc, .mk (k+1) m rb2 N2 _ fr vb V vs (pl++[(c:Int)]) rfl HX8.out (hMM.kept hk9 fun g h1 h2=>hOO.np g h1 h2) HN8.out
      (hOO.addP (swk_lt hMM) ho9 hk9 hg9) HPL8.out.1 HPL8.out.2
      ((HF8.out.below (bel1 w8 _)).kept9 hk9 fun e=>by have:=(ownsRow_at hOO.op e).1;have:=HG.out;omega) (hB2.trans ⟨hk9.os,hk9.tape,hk9.output,hk9.size,fun g hg=>hk9.block g (by have:=hB2.size;omega) fun e=>by have:=(ownsRow_at hOO.op e).1;omega⟩)⟩
    clear ho9 hk9 hg9;go_wp2
    try rw[hw4]
    exact⟨HNEW.out,meas_up hc⟩
  ·obtain rfl:c=n:=(by omega);have hki:¬((c:Int)<(c:Int)):=(by omega);have RR:Hid (FixP w p (lst y (c+1)) c (.returned u6) wr):=by
    have hb9:∀ {b l:Nat} {g:Nat→Int},OA wr w1.heap.size b l g→OA wr w.heap.size b l g:=fun h=>h.mono HB1.out.size;exact .mk M0 s ql k m N pv fr vb V u6 vs rfl (HB1.out.trans (HB.out.mono HB1.out.size)) HR1.out.1 HR1.out.2.1 HR1.out.2.2 HX.out ⟨HO.out.ov.1,by
     rcases HO.out.ov.2 with h|⟨g,cap,cur,h1,h2,h3⟩
     ·exact .inl h
     ·exact .inr ⟨g,cap,cur,h1,Nat.le_trans HB1.out.size h2,h3⟩⟩ HO.out.vl HO.out.vi (fun i hi=>hb9 (HO.out.oa i hi)) (fun i hi=>(HO.out.nb i hi).1)
   go_wp2;refine bodyPost_ret (v:=u6) (by simp[results,go_sem,loadVar]) rfl ?_;exact RR.out
end Go.Proofs.YtffdemplaodbcaaDoor
