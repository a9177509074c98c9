/- A part of the proof: Q1. -/
import Derived.Test.YtjlkplidpdhgbaaGreatDoorP00
import Derived.Test.YtjlkplidpdhgbaaGreatDoorP09
import Derived.Test.YtjlkplidpdhgbaaGreatDoorP14
import Derived.Test.YtjlkplidpdhgbaaGreatDoorP15
set_option linter.all false
namespace Go.Proofs.YtjlkplidpdhgbaaGreatDoor
open Go Go.Proofs Go.RowKit Go.Rad
structure FB4 (w:World) (b:Nat) (u0 u1 u2 u3:Value):Prop where
 lt:b<w.heap.size
 c0:w.cell? ⟨b,0,none⟩=some u0
 c1:w.cell? ⟨b,1,none⟩=some u1
 c2:w.cell? ⟨b,2,none⟩=some u2
 c3:w.cell? ⟨b,3,none⟩=some u3
 f0:w.frozen? ⟨b,0,none⟩=false
 f1:w.frozen? ⟨b,1,none⟩=false
 f2:w.frozen? ⟨b,2,none⟩=false
 f3:w.frozen? ⟨b,3,none⟩=false
theorem FB4.step {w w':World} {b C:Nat} {u0 u1 u2 u3:Value} (h:FB4 w b u0 u1 u2 u3) (c:Below C w w') (d:b<C):FB4 w' b u0 u1 u2 u3:=
 ⟨Nat.lt_of_lt_of_le h.lt c.size,(World.cell?_of_block (c.block b d)).trans h.c0,(World.cell?_of_block (c.block b d)).trans h.c1,(World.cell?_of_block (c.block b d)).trans h.c2,(World.cell?_of_block (c.block b d)).trans h.c3,
  (World.frozen?_of_block (c.block b d)).trans h.f0,(World.frozen?_of_block (c.block b d)).trans h.f1,(World.frozen?_of_block (c.block b d)).trans h.f2,(World.frozen?_of_block (c.block b d)).trans h.f3⟩
theorem FB4.below {w w':World} {b:Nat} {u0 u1 u2 u3:Value} (h:FB4 w b u0 u1 u2 u3) (c:Below w.heap.size w w'):FB4 w' b u0 u1 u2 u3:=h.step c h.lt
theorem FB4.mk0 (w:World) (u0 u1 u2 u3:Value) (T:TypeId):FB4 (w.alloc (Obj.cells #[u0,u1,u2,u3] T)) w.heap.size u0 u1 u2 u3:=⟨by simp,qq,qq,qq,qq,qq,qq,qq,qq⟩
theorem FB4.alloc {w:World} {b:Nat} {u0 u1 u2 u3:Value} (h:FB4 w b u0 u1 u2 u3) (X:Obj):FB4 (w.alloc X) b u0 u1 u2 u3:=h.below (zau _ _)
theorem FB4.drew {w:World} {b:Nat} {u0 u1 u2 u3:Value} (h:FB4 w b u0 u1 u2 u3):FB4 w.drew b u0 u1 u2 u3:=h.below (zad _)
abbrev za9 (w:World) (b:Nat) (v0 v1:Value):World:=(w.setCell ⟨b,0,none⟩ v0).setCell ⟨b,1,none⟩ v1
abbrev put4 (w:World) (b:Nat) (v0 v1 v2 v3:Value):World:=(((w.setCell ⟨b,0,none⟩ v0).setCell ⟨b,1,none⟩ v1).setCell ⟨b,2,none⟩ v2).setCell ⟨b,3,none⟩ v3
theorem zc0 {w:World} {b c i:Nat} {d f g j:Value}: (put4 w b d f g j).frozen? ⟨c,i,none⟩=w.frozen? ⟨c,i,none⟩:=by rw[World.frozen?_setCell,World.frozen?_setCell,World.frozen?_setCell,World.frozen?_setCell]
theorem zdd {w:World} {b c i:Nat} {d f:Value} (h:c≠b):(za9 w b d f).cell? ⟨c,i,none⟩=w.cell? ⟨c,i,none⟩:=by rw[zaa (.inl h),zaa (.inl h)]
theorem zcz {w:World} {b c i:Nat} {d f:Value}: (za9 w b d f).frozen? ⟨c,i,none⟩=w.frozen? ⟨c,i,none⟩:=by rw[World.frozen?_setCell,World.frozen?_setCell]
theorem FB4.set {w:World} {b:Nat} {u0 u1 u2 u3:Value} (h:FB4 w b u0 u1 u2 u3) (c d f g:Value):FB4 (put4 w b c d f g) b c d f g:=by
 refine⟨by simp;exact h.lt,?_,?_,?_,?_,by rw[zc0];exact h.f0,by rw[zc0];exact h.f1,by rw[zc0];exact h.f2,by rw[zc0];exact h.f3⟩
 ·rw[zaa (.inr dd),zaa (.inr dd),zaa (.inr dd),zar h.c0]
 ·rw[zaa (.inr dd),zaa (.inr dd),zar (u:=u1) (by rw[zaa (.inr dd)];exact h.c1)]
 ·rw[zaa (.inr dd),zar (u:=u2) (by rw[zaa (.inr dd),zaa (.inr dd)];exact h.c2)]
 ·rw[zar (u:=u3) (by rw[zaa (.inr dd),zaa (.inr dd),zaa (.inr dd)];exact h.c3)]
theorem FB4.other2 {w:World} {b c:Nat} {u0 u1 u2 u3:Value} (h:FB4 w b u0 u1 u2 u3) (f g:Value) (d:b≠c):FB4 (za9 w c f g) b u0 u1 u2 u3:=
 ⟨by simp;exact h.lt,by rw[zdd d];exact h.c0,by rw[zdd d];exact h.c1,by rw[zdd d];exact h.c2,by rw[zdd d];exact h.c3,
  by rw[zcz];exact h.f0,by rw[zcz];exact h.f1,by rw[zcz];exact h.f2,by rw[zcz];exact h.f3⟩
theorem FB.other2 {w:World} {b c:Nat} {u0 u1:Value} (h:FB w b u0 u1) (d f:Value) (g:b≠c):FB (za9 w c d f) b u0 u1:=h.other d f g
inductive Soft:Value→Prop
 |slice (a:Option Addr) (n c:Nat):Soft (.slice a n c)
 |bool (b:Bool):Soft (.bool b)
inductive Soft64:Value→Prop
 |soft {v:Value} (h:Soft v):Soft64 v
 |int (z:Int):Soft64 (.int .i64 z)
structure Ext (w w':World):Prop where
 i:∀v z,IsInt w v z→IsInt w' v z
 z:∀v z,IsZ w v z→IsZ w' v z
theorem Ext.refl (w:World):Ext w w:=⟨fun _ _ h=>h,fun _ _ h=>h⟩
theorem Ext.trans {a b c:World} (h:Ext a b) (k:Ext b c):Ext a c:=⟨fun v z x=>k.i v z (h.i v z x),fun v z x=>k.z v z (h.z v z x)⟩
theorem Ext.of_below {w w':World} (h:Below w.heap.size w w'):Ext w w':=⟨fun _ _ x=>x.below h,fun _ _ x=>x.below h⟩
theorem Ext.setSoft {w:World} {b i:Nat} {u v:Value} (q:w.cell? ⟨b,i,none⟩=some u) (s:Soft u):Ext w (w.setCell ⟨b,i,none⟩ v):=by
 refine⟨fun x z h=>h.set (p:=⟨b,i,none⟩) ?_ rfl,fun x z h=>?_⟩
 ·rw[q];intro y H;cases s <;> simp at H
 ·obtain⟨A,m,F,t,p,o,c,B,D,j,l,n,G,E⟩:=h;have e:∀k,k<m→p≠b∨o+k≠i:=by
   intro k d;by_cases r:p=b
   ·right;intro hi;have:=(n k d).1;rw[r,hi,q]at this;cases s <;> simp at this
   ·exact .inl r
  have f:∀k,k<m→(w.setCell ⟨b,i,none⟩ v).cell? ⟨p,o+k,none⟩=w.cell? ⟨p,o+k,none⟩:=fun k d=>zaa (e k d);refine⟨A,m,F,t,p,o,c,B,D,j,l,fun k d=>?_,?_,?_⟩
  ·rw[zab (f k d),f k d];exact n k d
  ·rw[←G];exact zaz fun k d=>zab (f k d)
  ·rcases E with g|g
   ·exact .inl g
   ·by_cases C:m=0
    ·exact .inl C
    ·right;rw[zab (f (m-1) om)];exact g
theorem Ext.setSame {w:World} {b i:Nat} {u:Value} (g:w.cell? ⟨b,i,none⟩=some u) (F:Soft64 u):Ext w (w.setCell ⟨b,i,none⟩ u):=by
 refine⟨fun x z h=>h.set (p:=⟨b,i,none⟩) ?_ rfl,fun x z h=>?_⟩
 ·rw[g];intro y r;cases F with
  |soft h=>cases h <;> simp at r
  |int z=>simp at r
 ·obtain⟨t,m,G,s,p,o,c,B,D,j,l,A,H,E⟩:=h;have d:∀q k,(w.setCell ⟨b,i,none⟩ u).cell? ⟨q,k,none⟩=w.cell? ⟨q,k,none⟩:=by
   intro q k;by_cases C:q=b∧k=i
   ·obtain⟨rfl,rfl⟩:=C;rw[zar g,g]
   ·exact zaa om
  refine⟨t,m,G,s,p,o,c,B,D,j,l,fun k n=>?_,?_,?_⟩
  ·rw[zab (d p _),d];exact A k n
  ·rw[←H];exact zaz fun k n=>zab (d p _)
  ·rcases E with f|f
   ·exact .inl f
   ·right;rw[zab (d p _)];exact f
theorem FB.ext {w:World} {b:Nat} {u0 u1:Value} (h:FB w b u0 u1) (c:Soft u0) (d:Soft u1) (f g:Value):Ext w (za9 w b f g):=(Ext.setSoft h.c0 c).trans (Ext.setSoft (u:=u1) (by rw[zaa (.inr dd)];exact h.c1) d)
theorem FB.extSame {w:World} {b:Nat} {u0 u1:Value} (h:FB w b u0 u1) (c:Soft64 u0) (d:Soft64 u1):Ext w (za9 w b u0 u1):=(Ext.setSame h.c0 c).trans (Ext.setSame (u:=u1) (by rw[zaa (.inr dd)];exact h.c1) d)
theorem FB4.ext {w:World} {b:Nat} {u0 u1 u2 u3:Value} (h:FB4 w b u0 u1 u2 u3) (c:Soft u0) (d:Soft u1) (f:Soft u2) (g:Soft u3) (j k l m:Value):Ext w (put4 w b j k l m):=
 (((Ext.setSoft h.c0 c).trans (Ext.setSoft (u:=u1) (by rw[zaa (.inr dd)];exact h.c1) d)).trans
  (Ext.setSoft (u:=u2) (by rw[zaa (.inr dd),zaa (.inr dd)];exact h.c2) f)).trans
  (Ext.setSoft (u:=u3) (by rw[zaa (.inr dd),zaa (.inr dd),zaa (.inr dd)];exact h.c3) g)
theorem zdb {w:World} {b i:Nat} {u v:Value} (d:w.cell? ⟨b,i,none⟩=some u) (g:Soft64 u):Keep w (w.setCell ⟨b,i,none⟩ v):=by
 refine⟨by simp,fun p j y e=>?_⟩;rw[zaa]
 ·exact e
 ·by_cases c:p=b
  ·right;intro f;rw[c,f,d]at e;cases g with
   |soft h=>cases h <;> simp at e
   |int z=>simp at e
  ·exact .inl c
theorem FB.keep' {w:World} {b:Nat} {u0 u1:Value} (h:FB w b u0 u1) (c:Soft64 u0) (d:Soft64 u1) (f g:Value):Keep w (za9 w b f g):=(zdb h.c0 c).trans (zdb (u:=u1) (by rw[zaa (.inr dd)];exact h.c1) d)
theorem FB4.keep' {w:World} {b:Nat} {u0 u1 u2 u3:Value} (h:FB4 w b u0 u1 u2 u3) (c:Soft64 u0) (d:Soft64 u1) (f:Soft64 u2) (g:Soft64 u3) (j k l m:Value):Keep w (put4 w b j k l m):=
 (((zdb h.c0 c).trans (zdb (u:=u1) (by rw[zaa (.inr dd)];exact h.c1) d)).trans
  (zdb (u:=u2) (by rw[zaa (.inr dd),zaa (.inr dd)];exact h.c2) f)).trans
  (zdb (u:=u3) (by rw[zaa (.inr dd),zaa (.inr dd),zaa (.inr dd)];exact h.c3) g)
def TI (d:Bool) (v:Value) (w:World) (b:Nat):Prop:=∃s a n c,FB w b (.int .i64 s) (.slice a n c)∧(d=true→v=.agg #[.int .i64 s,.slice a n c])
theorem TI.below {d:Bool} {v:Value} {w w':World} {b:Nat} (h:TI d v w b) (j:Below w.heap.size w w'):TI d v w' b:=by obtain⟨s,a,n,c,f,g⟩:=h;exact⟨s,a,n,c,f.below j,g⟩
theorem TI.free {v v':Value} {w:World} {b:Nat} (h:TI false v w b):TI false v' w b:=by obtain⟨s,a,n,c,d,f⟩:=h;exact⟨s,a,n,c,d,fun h=>(by cases h)⟩
theorem TI.fr {d:Bool} {v v':Value} {w:World} {b:Nat} (h:TI d v w b) (c:d=false):TI d v' w b:=by subst c;exact h.free
theorem TI.lt {d:Bool} {v:Value} {w:World} {b:Nat} (h:TI d v w b):b<w.heap.size:=by obtain⟨s,a,n,c,f,g⟩:=h;exact f.lt
theorem TI.at {d:Bool} {fr:Act} {q t:Nat} {u:Value} {w:World} {b:Nat} (c:q≠t) (h:TI d (fr.eval (.tmp t)) w b):TI d ((fr.put (some q) u).eval (.tmp t)) w b:=by rw[zbe c];exact h
theorem TI.other2 {d:Bool} {v:Value} {w:World} {b c:Nat} (h:TI d v w b) (k l:Value) (j:b≠c):TI d v (za9 w c k l) b:=by obtain⟨s,a,n,c,f,g⟩:=h;exact⟨s,a,n,c,f.other2 _ _ j,g⟩
theorem TI.store {d:Bool} {v:Value} {w:World} {b:Nat} (h:TI d v w b) (s:Int) (a:Option Addr) (n c:Nat):TI true (.agg #[.int .i64 s,.slice a n c]) (za9 w b (.int .i64 s) (.slice a n c)) b:=by obtain⟨_,_,_,_,f,g⟩:=h;exact⟨s,a,n,c,f.set _ _,fun _=>rfl⟩
theorem TI.keep {d:Bool} {v:Value} {w:World} {b:Nat} (h:TI d v w b) (g j:Value):Keep w (za9 w b g j):=by obtain⟨s,a,n,c,f,k⟩:=h;exact f.keep' (.int _) (.soft (.slice _ _ _)) _ _
def TZ (d:Bool) (v:Value) (w:World) (b:Nat):Prop:=∃s a n c,FB w b (.bool s) (.slice a n c)∧(d=true→v=.agg #[.bool s,.slice a n c])
theorem TZ.below {d:Bool} {v:Value} {w w':World} {b:Nat} (h:TZ d v w b) (j:Below w.heap.size w w'):TZ d v w' b:=by obtain⟨s,a,n,c,f,g⟩:=h;exact⟨s,a,n,c,f.below j,g⟩
theorem TZ.free {v v':Value} {w:World} {b:Nat} (h:TZ false v w b):TZ false v' w b:=by obtain⟨s,a,n,c,d,f⟩:=h;exact⟨s,a,n,c,d,fun h=>(by cases h)⟩
theorem TZ.fr {d:Bool} {v v':Value} {w:World} {b:Nat} (h:TZ d v w b) (c:d=false):TZ d v' w b:=by subst c;exact h.free
theorem TZ.lt {d:Bool} {v:Value} {w:World} {b:Nat} (h:TZ d v w b):b<w.heap.size:=by obtain⟨s,a,n,c,f,g⟩:=h;exact f.lt
theorem TZ.at {d:Bool} {fr:Act} {q t:Nat} {u:Value} {w:World} {b:Nat} (c:q≠t) (h:TZ d (fr.eval (.tmp t)) w b):TZ d ((fr.put (some q) u).eval (.tmp t)) w b:=by rw[zbe c];exact h
theorem TZ.other2 {d:Bool} {v:Value} {w:World} {b c:Nat} (h:TZ d v w b) (k l:Value) (j:b≠c):TZ d v (za9 w c k l) b:=by obtain⟨s,a,n,c,f,g⟩:=h;exact⟨s,a,n,c,f.other2 _ _ j,g⟩
theorem TZ.store {d:Bool} {v:Value} {w:World} {b:Nat} (h:TZ d v w b) (s:Bool) (a:Option Addr) (n c:Nat):TZ true (.agg #[.bool s,.slice a n c]) (za9 w b (.bool s) (.slice a n c)) b:=by obtain⟨_,_,_,_,f,g⟩:=h;exact⟨s,a,n,c,f.set _ _,fun _=>rfl⟩
theorem TZ.keep {d:Bool} {v:Value} {w:World} {b:Nat} (h:TZ d v w b) (g j:Value):Keep w (za9 w b g j):=by obtain⟨s,a,n,c,f,k⟩:=h;exact f.keep' (.soft (.bool _)) (.soft (.slice _ _ _)) _ _
theorem TZ.ext {d:Bool} {v:Value} {w:World} {b:Nat} (h:TZ d v w b) (g j:Value):Ext w (za9 w b g j):=by obtain⟨s,a,n,c,f,k⟩:=h;exact f.ext (.bool _) (.slice _ _ _) _ _
def TFa (d:Bool) (v:Value) (w:World) (b:Nat):Prop:=∃x y,FB w b (.int .i64 x) (.int .i64 y)∧(d=true→v=.agg #[.int .i64 x,.int .i64 y])∧(d=false→x=0∧y=0)
theorem TFa.below {d:Bool} {v:Value} {w w':World} {b:Nat} (h:TFa d v w b) (g:Below w.heap.size w w'):TFa d v w' b:=by obtain⟨x,y,c,f⟩:=h;exact⟨x,y,c.below g,f⟩
theorem TFa.free {v v':Value} {w:World} {b:Nat} (h:TFa false v w b):TFa false v' w b:=by obtain⟨x,y,c,f,d⟩:=h;exact⟨x,y,c,fun h=>(by cases h),d⟩
theorem TFa.fr {d:Bool} {v v':Value} {w:World} {b:Nat} (h:TFa d v w b) (c:d=false):TFa d v' w b:=by subst c;exact h.free
theorem TFa.lt {d:Bool} {v:Value} {w:World} {b:Nat} (h:TFa d v w b):b<w.heap.size:=by obtain⟨x,y,c,f⟩:=h;exact c.lt
theorem TFa.at {d:Bool} {fr:Act} {q t:Nat} {u:Value} {w:World} {b:Nat} (c:q≠t) (h:TFa d (fr.eval (.tmp t)) w b):TFa d ((fr.put (some q) u).eval (.tmp t)) w b:=by rw[zbe c];exact h
theorem TFa.other2 {d:Bool} {v:Value} {w:World} {b c:Nat} (h:TFa d v w b) (k l:Value) (j:b≠c):TFa d v (za9 w c k l) b:=by obtain⟨x,y,f,g⟩:=h;exact⟨x,y,f.other2 _ _ j,g⟩
theorem TFa.store {d:Bool} {v:Value} {w:World} {b:Nat} (h:TFa d v w b) (x y:Int):TFa true (.agg #[.int .i64 x,.int .i64 y]) (za9 w b (.int .i64 x) (.int .i64 y)) b:=by obtain⟨_,_,c,f⟩:=h;exact⟨x,y,c.set _ _,fun _=>rfl,fun h=>(by cases h)⟩
theorem TFa.keep {d:Bool} {v:Value} {w:World} {b:Nat} (h:TFa d v w b) (f g:Value):Keep w (za9 w b f g):=by obtain⟨x,y,c,j⟩:=h;exact c.keep' (.int _) (.int _) _ _
def TQ (d:Bool) (v:Value) (w:World) (b:Nat):Prop:=∃s a n c t p m e,FB4 w b (.int .i64 s) (.slice a n c) (.int .i64 t) (.slice p m e)∧(d=true→v=.agg #[.int .i64 s,.slice a n c,.int .i64 t,.slice p m e])
theorem TQ.below {d:Bool} {v:Value} {w w':World} {b:Nat} (h:TQ d v w b) (j:Below w.heap.size w w'):TQ d v w' b:=by obtain⟨s,a,n,c,t,p,m,e,f,g⟩:=h;exact⟨s,a,n,c,t,p,m,e,f.below j,g⟩
theorem TQ.free {v v':Value} {w:World} {b:Nat} (h:TQ false v w b):TQ false v' w b:=by obtain⟨s,a,n,c,t,p,m,e,d,f⟩:=h;exact⟨s,a,n,c,t,p,m,e,d,fun h=>(by cases h)⟩
theorem TQ.fr {d:Bool} {v v':Value} {w:World} {b:Nat} (h:TQ d v w b) (c:d=false):TQ d v' w b:=by subst c;exact h.free
theorem TQ.lt {d:Bool} {v:Value} {w:World} {b:Nat} (h:TQ d v w b):b<w.heap.size:=by obtain⟨s,a,n,c,t,p,m,e,f,g⟩:=h;exact f.lt
theorem TQ.at {d:Bool} {fr:Act} {q t:Nat} {u:Value} {w:World} {b:Nat} (c:q≠t) (h:TQ d (fr.eval (.tmp t)) w b):TQ d ((fr.put (some q) u).eval (.tmp t)) w b:=by rw[zbe c];exact h
theorem TQ.other2 {d:Bool} {v:Value} {w:World} {b c:Nat} (h:TQ d v w b) (k l:Value) (j:b≠c):TQ d v (za9 w c k l) b:=by obtain⟨s,a,n,c,t,p,m,e,f,g⟩:=h;exact⟨s,a,n,c,t,p,m,e,f.other2 _ _ j,g⟩
theorem TQ.store {d:Bool} {v:Value} {w:World} {b:Nat} (h:TQ d v w b) (s:Int) (a:Option Addr) (n c:Nat) (t:Int) (p:Option Addr) (m e:Nat):TQ true (.agg #[.int .i64 s,.slice a n c,.int .i64 t,.slice p m e]) (put4 w b (.int .i64 s) (.slice a n c) (.int .i64 t) (.slice p m e)) b:=by obtain⟨_,_,_,_,_,_,_,_,f,g⟩:=h;exact⟨s,a,n,c,t,p,m,e,f.set _ _ _ _,fun _=>rfl⟩
theorem TQ.keep {d:Bool} {v:Value} {w:World} {b:Nat} (h:TQ d v w b) (g j k l:Value):Keep w (put4 w b g j k l):=by obtain⟨s,a,n,c,t,p,m,e,f,o⟩:=h;exact f.keep' (.int _) (.soft (.slice _ _ _)) (.int _) (.soft (.slice _ _ _)) _ _ _ _
def TR (d:Bool) (v:Value) (w:World) (b:Nat):Prop:=∃s a n c t p m e,FB4 w b (.bool s) (.slice a n c) (.bool t) (.slice p m e)∧(d=true→v=.agg #[.bool s,.slice a n c,.bool t,.slice p m e])
theorem TR.below {d:Bool} {v:Value} {w w':World} {b:Nat} (h:TR d v w b) (j:Below w.heap.size w w'):TR d v w' b:=by obtain⟨s,a,n,c,t,p,m,e,f,g⟩:=h;exact⟨s,a,n,c,t,p,m,e,f.below j,g⟩
theorem TR.free {v v':Value} {w:World} {b:Nat} (h:TR false v w b):TR false v' w b:=by obtain⟨s,a,n,c,t,p,m,e,d,f⟩:=h;exact⟨s,a,n,c,t,p,m,e,d,fun h=>(by cases h)⟩
theorem TR.fr {d:Bool} {v v':Value} {w:World} {b:Nat} (h:TR d v w b) (c:d=false):TR d v' w b:=by subst c;exact h.free
theorem TR.lt {d:Bool} {v:Value} {w:World} {b:Nat} (h:TR d v w b):b<w.heap.size:=by obtain⟨s,a,n,c,t,p,m,e,f,g⟩:=h;exact f.lt
theorem TR.at {d:Bool} {fr:Act} {q t:Nat} {u:Value} {w:World} {b:Nat} (c:q≠t) (h:TR d (fr.eval (.tmp t)) w b):TR d ((fr.put (some q) u).eval (.tmp t)) w b:=by rw[zbe c];exact h
theorem TR.other2 {d:Bool} {v:Value} {w:World} {b c:Nat} (h:TR d v w b) (k l:Value) (j:b≠c):TR d v (za9 w c k l) b:=by obtain⟨s,a,n,c,t,p,m,e,f,g⟩:=h;exact⟨s,a,n,c,t,p,m,e,f.other2 _ _ j,g⟩
theorem TR.store {d:Bool} {v:Value} {w:World} {b:Nat} (h:TR d v w b) (s:Bool) (a:Option Addr) (n c:Nat) (t:Bool) (p:Option Addr) (m e:Nat):TR true (.agg #[.bool s,.slice a n c,.bool t,.slice p m e]) (put4 w b (.bool s) (.slice a n c) (.bool t) (.slice p m e)) b:=by obtain⟨_,_,_,_,_,_,_,_,f,g⟩:=h;exact⟨s,a,n,c,t,p,m,e,f.set _ _ _ _,fun _=>rfl⟩
theorem TR.keep {d:Bool} {v:Value} {w:World} {b:Nat} (h:TR d v w b) (g j k l:Value):Keep w (put4 w b g j k l):=by obtain⟨s,a,n,c,t,p,m,e,f,o⟩:=h;exact f.keep' (.soft (.bool _)) (.soft (.slice _ _ _)) (.soft (.bool _)) (.soft (.slice _ _ _)) _ _ _ _
theorem TR.ext {d:Bool} {v:Value} {w:World} {b:Nat} (h:TR d v w b) (g j k l:Value):Ext w (put4 w b g j k l):=by obtain⟨s,a,n,c,t,p,m,e,f,o⟩:=h;exact f.ext (.bool _) (.slice _ _ _) (.bool _) (.slice _ _ _) _ _ _ _
def Al (T:Bool→Value→World→Nat→Prop) (la d:Bool) (p v:Value) (B:Nat) (w:World):Prop:=la=true→∃b,p=.pointer (some ⟨b,0,none⟩)∧B≤b∧T d v w b
theorem Al.mono {T:Bool→Value→World→Nat→Prop} {c d:Bool} {p v:Value} {B:Nat} {w w':World} (h:Al T c d p v B w) (k:∀b,T d v w b→T d v w' b):Al T c d p v B w':=by intro e;obtain⟨b,f,g,j⟩:=h e;exact⟨b,f,g,k b j⟩
theorem Al.at {T:Bool→Value→World→Nat→Prop} {f d:Bool} {fr:Act} {q b c:Nat} {u:Value} {B:Nat} {w:World} (g:q≠b) (j:q≠c) (h:Al T f d (fr.eval (.tmp b)) (fr.eval (.tmp c)) B w):
 Al T f d ((fr.put (some q) u).eval (.tmp b)) ((fr.put (some q) u).eval (.tmp c)) B w:=by
 rw[zbe g,zbe j];exact h
theorem Al.no {T:Bool→Value→World→Nat→Prop} {d:Bool} {p v:Value} {B:Nat} {w:World}: Al T false d p v B w:=fun h=>(by cases h)
theorem Al.src {T:Bool→Value→World→Nat→Prop} {f:Bool} {fr:Act} {q d:Nat} {u v:Value} {B:Nat} {w:World} (c:q≠d) (k:∀b v v',T false v w b→T false v' w b) (h:Al T f false (fr.eval (.tmp d)) v B w):
 Al T f false ((fr.put (some q) u).eval (.tmp d)) ((fr.put (some q) u).eval (.tmp q)) B w:=by
 rw[zbe c];intro e;obtain⟨b,c,g,j⟩:=h e;exact⟨b,c,g,k b _ _ j⟩
theorem Al.new {T:Bool→Value→World→Nat→Prop} {fr:Act} {q c:Nat} {B b:Nat} {w:World} (f:q≠c) (g:q<fr.tmps.size) (d:B≤b) (h:T false (fr.eval (.tmp c)) w b):
 Al T true false ((fr.put (some q) (.pointer (some ⟨b,0,none⟩))).eval (.tmp q)) ((fr.put (some q) (.pointer (some ⟨b,0,none⟩))).eval (.tmp c)) B w:=by
 rw[zbe f,zay g];exact fun _=>⟨b,rfl,d,h⟩
def Apt (l1 l2:Bool) (p q:Value):Prop:=l1=true→l2=true→p≠q
theorem Apt.at {d f:Bool} {fr:Act} {q b c:Nat} {u:Value} (g:q≠b) (j:q≠c) (h:Apt d f (fr.eval (.tmp b)) (fr.eval (.tmp c))):
 Apt d f ((fr.put (some q) u).eval (.tmp b)) ((fr.put (some q) u).eval (.tmp c)):=by
 rw[zbe g,zbe j];exact h
theorem Apt.newL {T:Bool→Value→World→Nat→Prop} {g d:Bool} {fr:Act} {q c:Nat} {B:Nat} {v:Value} {w:World} (m:q≠c) (n:q<fr.tmps.size) (l:∀d v b,T d v w b→b<w.heap.size) (h:Al T g d (fr.eval (.tmp c)) v B w):
 Apt true g ((fr.put (some q) (.pointer (some ⟨w.heap.size,0,none⟩))).eval (.tmp q)) ((fr.put (some q) (.pointer (some ⟨w.heap.size,0,none⟩))).eval (.tmp c)):=by
 rw[zbe m,zay n];intro _ e f;obtain⟨b,j,-,k⟩:=h e;rw[j]at f;have:=l _ _ _ k;simp only[Value.pointer.injEq,Option.some.injEq,Addr.mk.injEq]at f;omega
theorem Apt.newR {T:Bool→Value→World→Nat→Prop} {f d:Bool} {fr:Act} {q c:Nat} {B:Nat} {v:Value} {w:World} (j:q≠c) (k:q<fr.tmps.size) (g:∀d v b,T d v w b→b<w.heap.size) (h:Al T f d (fr.eval (.tmp c)) v B w):
 Apt f true ((fr.put (some q) (.pointer (some ⟨w.heap.size,0,none⟩))).eval (.tmp c)) ((fr.put (some q) (.pointer (some ⟨w.heap.size,0,none⟩))).eval (.tmp q)):=by
 have:=Apt.newL j k g h;exact fun a b=>(this b a).symm
end Go.Proofs.YtjlkplidpdhgbaaGreatDoor
