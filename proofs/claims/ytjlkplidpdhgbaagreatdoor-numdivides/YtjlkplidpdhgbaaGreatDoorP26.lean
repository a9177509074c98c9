/- A part of the proof: Q2. -/
import Derived.Test.YtjlkplidpdhgbaaGreatDoorP00
import Derived.Test.YtjlkplidpdhgbaaGreatDoorP16
import Derived.Deep.Cut
import Derived.Deep.CutRange
set_option linter.all false
namespace Go.Proofs.YtjlkplidpdhgbaaGreatDoor
open Go Go.Proofs Go.RowKit Go.Rad
def bot (x:Rat):Int:=if x.den=1 then 0 else x.den
def IsQ (w:World) (v:Value) (x:Rat):Prop:=∃s a n c t p m e,v=.agg #[.int .i64 s,.slice a n c,.int .i64 t,.slice p m e]∧IsInt w (.agg #[.int .i64 s,.slice a n c]) x.num∧IsInt w (.agg #[.int .i64 t,.slice p m e]) (bot x)
def IsR (w:World) (v:Value) (x:Rat):Prop:=∃s a n c t p m e,v=.agg #[.bool s,.slice a n c,.bool t,.slice p m e]∧IsZ w (.agg #[.bool s,.slice a n c]) x.num∧IsZ w (.agg #[.bool t,.slice p m e]) (x.den:Int)
theorem IsQ.below {w w':World} {v:Value} {x:Rat} (h:IsQ w v x) (b:Below w.heap.size w w'):IsQ w' v x:=by obtain⟨s,a,n,c,t,p,m,e,g,d,f⟩:=h;exact⟨s,a,n,c,t,p,m,e,g,d.below b,f.below b⟩
theorem IsQ.keep {w w':World} {v:Value} {x:Rat} (h:IsQ w v x) (b:Keep w w'):IsQ w' v x:=by obtain⟨s,a,n,c,t,p,m,e,g,d,f⟩:=h;exact⟨s,a,n,c,t,p,m,e,g,d.keep b,f.keep b⟩
theorem IsQ.ext {w w':World} {v:Value} {x:Rat} (h:IsQ w v x) (b:Ext w w'):IsQ w' v x:=by obtain⟨s,a,n,c,t,p,m,e,g,d,f⟩:=h;exact⟨s,a,n,c,t,p,m,e,g,b.i _ _ d,b.i _ _ f⟩
theorem IsR.below {w w':World} {v:Value} {x:Rat} (h:IsR w v x) (b:Below w.heap.size w w'):IsR w' v x:=by obtain⟨s,a,n,c,t,p,m,e,g,d,f⟩:=h;exact⟨s,a,n,c,t,p,m,e,g,d.below b,f.below b⟩
theorem IsR.ext {w w':World} {v:Value} {x:Rat} (h:IsR w v x) (b:Ext w w'):IsR w' v x:=by obtain⟨s,a,n,c,t,p,m,e,g,d,f⟩:=h;exact⟨s,a,n,c,t,p,m,e,g,b.z _ _ d,b.z _ _ f⟩
theorem IsQ.form {w:World} {v:Value} {x:Rat} (h:IsQ w v x):∃s a n c t p m e,v=.agg #[.int .i64 s,.slice a n c,.int .i64 t,.slice p m e]:=by obtain⟨s,a,n,c,t,p,m,e,b,d,f⟩:=h;exact⟨s,a,n,c,t,p,m,e,b⟩
theorem IsR.form {w:World} {v:Value} {x:Rat} (h:IsR w v x):∃s a n c t p m e,v=.agg #[.bool s,.slice a n c,.bool t,.slice p m e]:=by obtain⟨s,a,n,c,t,p,m,e,b,d,f⟩:=h;exact⟨s,a,n,c,t,p,m,e,b⟩
theorem IsQ.parts {w:World} {s t:Int} {a p:Option Addr} {n c m e:Nat} {x:Rat} (h:IsQ w (.agg #[.int .i64 s,.slice a n c,.int .i64 t,.slice p m e]) x):
 IsInt w (.agg #[.int .i64 s,.slice a n c]) x.num∧IsInt w (.agg #[.int .i64 t,.slice p m e]) (bot x):=by
 obtain⟨A,o,y,q,B,z,u,r,b,k,l⟩:=h;simp only[Value.agg.injEq,Array.mk.injEq,List.cons.injEq,and_true]at b;obtain⟨d,f,g,j⟩:=b;rw[d,f,g,j];exact⟨k,l⟩
theorem IsR.parts {w:World} {s t:Bool} {a p:Option Addr} {n c m e:Nat} {x:Rat} (h:IsR w (.agg #[.bool s,.slice a n c,.bool t,.slice p m e]) x):
 IsZ w (.agg #[.bool s,.slice a n c]) x.num∧IsZ w (.agg #[.bool t,.slice p m e]) (x.den:Int):=by
 obtain⟨A,o,y,q,B,z,u,r,b,k,l⟩:=h;simp only[Value.agg.injEq,Array.mk.injEq,List.cons.injEq,and_true]at b;obtain⟨d,f,g,j⟩:=b;rw[d,f,g,j];exact⟨k,l⟩
theorem IsQ.mk {w:World} {s t:Int} {a p:Option Addr} {n c m e:Nat} {x:Rat} (b:IsInt w (.agg #[.int .i64 s,.slice a n c]) x.num) (d:IsInt w (.agg #[.int .i64 t,.slice p m e]) (bot x)):
 IsQ w (.agg #[.int .i64 s,.slice a n c,.int .i64 t,.slice p m e]) x:=⟨_,_,_,_,_,_,_,_,rfl,b,d⟩
theorem IsR.mk {w:World} {s t:Bool} {a p:Option Addr} {n c m e:Nat} {x:Rat} (b:IsZ w (.agg #[.bool s,.slice a n c]) x.num) (d:IsZ w (.agg #[.bool t,.slice p m e]) (x.den:Int)):
 IsR w (.agg #[.bool s,.slice a n c,.bool t,.slice p m e]) x:=⟨_,_,_,_,_,_,_,_,rfl,b,d⟩
theorem bot_zero {x:Rat}: bot x=0↔x.den=1:=by have:=x.den_pos;unfold bot;split <;> omega
theorem IsInt.bot {w:World} {t:Int} {p:Option Addr} {m e:Nat} {x:Rat} (h:IsInt w (.agg #[.int .i64 t,.slice p m e]) (bot x)):(t=0↔x.den=1):=by have:=h.sgn;rw[←bot_zero];omega
end Go.Proofs.YtjlkplidpdhgbaaGreatDoor
