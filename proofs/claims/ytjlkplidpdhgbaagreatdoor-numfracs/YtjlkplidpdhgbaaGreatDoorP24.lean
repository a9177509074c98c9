/- A part of the proof: Q2. -/
import Derived.Test.YtjlkplidpdhgbaaGreatDoorP00
import Derived.Test.YtjlkplidpdhgbaaGreatDoorP07
import Derived.Deep.Cut
import Derived.Deep.CutRange
set_option linter.all false
set_option maxRecDepth 10000
set_option maxHeartbeats 1000000
namespace Go.Proofs.YtjlkplidpdhgbaaGreatDoor
open Go Go.Proofs Go.RowKit Go.Rad
def bot (x:Rat):Int:=if x.den=1 then 0 else x.den
def IsQ (w:World) (v:Value) (x:Rat):Prop:=∃s a n c t p m e,v=.agg #[.int .i64 s,.slice a n c,.int .i64 t,.slice p m e]∧IsInt w (.agg #[.int .i64 s,.slice a n c]) x.num∧IsInt w (.agg #[.int .i64 t,.slice p m e]) (bot x)
def IsR (w:World) (v:Value) (x:Rat):Prop:=∃s a n c t p m e,v=.agg #[.bool s,.slice a n c,.bool t,.slice p m e]∧IsZ w (.agg #[.bool s,.slice a n c]) x.num∧IsZ w (.agg #[.bool t,.slice p m e]) (x.den:Int)
theorem IsQ.below {w w':World} {v:Value} {x:Rat} (h:IsQ w v x) (b:Below w.heap.size w w'):IsQ w' v x:=by obtain⟨s,a,n,c,t,p,m,e,g,d,f⟩:=h;exact⟨s,a,n,c,t,p,m,e,g,d.below b,f.below b⟩
theorem IsQ.keep {w w':World} {v:Value} {x:Rat} (h:IsQ w v x) (b:Keep w w'):IsQ w' v x:=by obtain⟨s,a,n,c,t,p,m,e,g,d,f⟩:=h;exact⟨s,a,n,c,t,p,m,e,g,d.keep b,f.keep b⟩
theorem IsQ.ext {w w':World} {v:Value} {x:Rat} (h:IsQ w v x) (b:Ext w w'):IsQ w' v x:=by obtain⟨s,a,n,c,t,p,m,e,g,d,f⟩:=h;exact⟨s,a,n,c,t,p,m,e,g,b.i _ _ d,b.i _ _ f⟩
theorem IsR.below {w w':World} {v:Value} {x:Rat} (h:IsR w v x) (b:Below w.heap.size w w'):IsR w' v x:=by obtain⟨s,a,n,c,t,p,m,e,g,d,f⟩:=h;exact⟨s,a,n,c,t,p,m,e,g,d.below b,f.below b⟩
theorem IsR.ext {w w':World} {v:Value} {x:Rat} (h:IsR w v x) (b:Ext w w'):IsR w' v x:=by obtain⟨s,a,n,c,t,p,m,e,g,d,f⟩:=h;exact⟨s,a,n,c,t,p,m,e,g,b.z _ _ d,b.z _ _ f⟩
theorem IsQ.form {w:World} {v:Value} {x:Rat} (h:IsQ w v x):∃s a n c t p m e,v=.agg #[.int .i64 s,.slice a n c,.int .i64 t,.slice p m e]:=by obtain⟨s,a,n,c,t,p,m,e,b,d,f⟩:=h;exact⟨s,a,n,c,t,p,m,e,b⟩
theorem IsR.form {w:World} {v:Value} {x:Rat} (h:IsR w v x):∃s a n c t p m e,v=.agg #[.bool s,.slice a n c,.bool t,.slice p m e]:=by obtain⟨s,a,n,c,t,p,m,e,b,d,f⟩:=h;exact⟨s,a,n,c,t,p,m,e,b⟩
theorem IsQ.parts {w:World} {s t:Int} {a p:Option Addr} {n c m e:Nat} {x:Rat} (h:IsQ w (.agg #[.int .i64 s,.slice a n c,.int .i64 t,.slice p m e]) x):
 IsInt w (.agg #[.int .i64 s,.slice a n c]) x.num∧IsInt w (.agg #[.int .i64 t,.slice p m e]) (bot x):=by
 obtain⟨A,o,y,q,B,z,u,r,b,k,l⟩:=h;simp only[Value.agg.injEq,Array.mk.injEq,List.cons.injEq,and_true]at b;obtain⟨d,f,g,j⟩:=b;rw[d,f,g,j];exact⟨k,l⟩
theorem IsR.parts {w:World} {s t:Bool} {a p:Option Addr} {n c m e:Nat} {x:Rat} (h:IsR w (.agg #[.bool s,.slice a n c,.bool t,.slice p m e]) x):
 IsZ w (.agg #[.bool s,.slice a n c]) x.num∧IsZ w (.agg #[.bool t,.slice p m e]) (x.den:Int):=by
 obtain⟨A,o,y,q,B,z,u,r,b,k,l⟩:=h;simp only[Value.agg.injEq,Array.mk.injEq,List.cons.injEq,and_true]at b;obtain⟨d,f,g,j⟩:=b;rw[d,f,g,j];exact⟨k,l⟩
theorem IsQ.mk {w:World} {s t:Int} {a p:Option Addr} {n c m e:Nat} {x:Rat} (b:IsInt w (.agg #[.int .i64 s,.slice a n c]) x.num) (d:IsInt w (.agg #[.int .i64 t,.slice p m e]) (bot x)):
 IsQ w (.agg #[.int .i64 s,.slice a n c,.int .i64 t,.slice p m e]) x:=⟨_,_,_,_,_,_,_,_,rfl,b,d⟩
theorem IsR.mk {w:World} {s t:Bool} {a p:Option Addr} {n c m e:Nat} {x:Rat} (b:IsZ w (.agg #[.bool s,.slice a n c]) x.num) (d:IsZ w (.agg #[.bool t,.slice p m e]) (x.den:Int)):
 IsR w (.agg #[.bool s,.slice a n c,.bool t,.slice p m e]) x:=⟨_,_,_,_,_,_,_,_,rfl,b,d⟩
theorem zfp {x:Rat} (h:x.den≠1):bot x=x.den:=if_neg h
theorem bot_zero {x:Rat}: bot x=0↔x.den=1:=by have:=x.den_pos;unfold bot;split <;> omega
theorem IsInt.bot {w:World} {t:Int} {p:Option Addr} {m e:Nat} {x:Rat} (h:IsInt w (.agg #[.int .i64 t,.slice p m e]) (bot x)):(t=0↔x.den=1):=by have:=h.sgn;rw[←bot_zero];omega
theorem zer {x:Rat} (h:x.den=1):x=(x.num:Rat):=Rat.ext rfl h
theorem isQ_whole {w:World} {s:Int} {a:Option Addr} {n c:Nat} {z:Int} (h:IsInt w (.agg #[.int .i64 s,.slice a n c]) z):IsQ w (.agg #[.int .i64 s,.slice a n c,.int .i64 0,.slice none 0 0]) (z:Rat):=IsQ.mk h (za9 w 0 dd dd)
theorem zcx (w:World):IsQ w (.agg #[.int .i64 0,.slice none 0 0,.int .i64 0,.slice none 0 0]) 0:=isQ_whole (za9 w 0 dd dd)
theorem zdr (w:World) (v:Value) (z:Int) (b:IsInt w v z):
 Calls Tryz.prog 44 #[v] w fun e w'=>∃u,e=.returned u∧Below w.heap.size w w'∧IsQ w' u (z:Rat):=by
 obtain⟨s,a,n,c,rfl⟩:=b.form;go_enter Tryz.func44,Tryz.ntmps44;go_wp2;refine bodyPost_ret (v:= .agg #[.int .i64 s,.slice a n c,.int .i64 0,.slice none 0 0]) (by simp[results,go_sem,loadVar];try rfl) rfl ?_;exact⟨_,rfl,zd2 _ _ _,isQ_whole (b.below (zd2 _ _ _))⟩
theorem zfz (w:World) (v:Value) (x:Rat) (d:IsQ w v x):
 Calls Tryz.prog 60 #[v] w fun e w'=>e=.returned (.int .i64 (zat x.num 0))∧Below w.heap.size w w':=by
 obtain⟨s,a,n,c,t,p,m,e,rfl⟩:=d.form;obtain⟨f,j⟩:=d.parts;have b:=zao w (Obj.cells #[.int .i64 s,.slice a n c,.int .i64 t,.slice p m e] 62);have g:=zbr _ _ _ (f.below b);have HB:Hid _:=b;clear d f j b;go_enter Tryz.func60,Tryz.ntmps60;go_wp2_with (go_at_call 18;refine g.mono ?_;rintro e w' ⟨rfl,k⟩);go_ret;exact⟨rfl,HB.out.trans (k.mono HB.out.size)⟩
theorem zb1 (w:World) (v:Value) (x:Rat) (z:IsQ w v x):
 Calls Tryz.prog 99 #[v] w fun e w'=>∃u,e=.returned u∧Below w.heap.size w w'∧IsInt w' u (x.den:Int):=by
 obtain⟨s,a,n,c,t,p,m,e,rfl⟩:=z.form;obtain⟨M,k⟩:=z.parts;have y:=k.bot;by_cases j:x.den=1
 ·have r:=y.2 j;subst r;rw[j];clear z M k y j;go_enter Tryz.func99,Tryz.ntmps99;go_upto_region 2 with fail;refine zab (fun A=>Below w.heap.size w A∧FB A (w.heap.size+1) (.int .i64 0) (.slice none 0 0)) ⟨zd2 _ _ _,by simpa using (FB.mk0 (w.alloc (Obj.cells #[.int .i64 s,.slice a n c,.int .i64 0,.slice p m e] 62)) (.int .i64 0) (.slice none 0 0) 24)⟩ ?_;rintro A ⟨o,B⟩;obtain⟨O,d⟩:∃b,b=w.heap.size+1:=⟨_,rfl⟩;have q:w.heap.size≤O:=om;rw[←d]at B⊢;have f:Hid _:=o;have J:Hid _:=B;have L:Hid _:=q;clear d o B q;go_wp2_with (go_at_call 16;fail);refine(zga A 1 dd dd).mono ?_;rintro e V ⟨U,rfl,d,g⟩;obtain⟨H,E,G,F,rfl⟩:=g.form;have I:=J.out.below d;have C:Hid _:=zad (f.out.trans (d.mono f.out.size)) L.out (.int .i64 H) (.slice E G F);have D:Hid (IsInt _ _ _):=g.keep (I.keep (.int .i64 H) (.slice E G F));obtain⟨l,P,R,S,T⟩:=I;clear g d J f L;go_wp2;refine bodyPost_ret (v:= .agg #[.int .i64 H,.slice E G F]) rs rfl ?_;exact⟨_,rfl,C.out,D.out⟩
 ·have r:¬t=0:=fun h=>j (y.1 h);rw[zfp j]at k;have N:Hid (IsInt _ _ _):=k;clear z M k y j;go_enter Tryz.func99,Tryz.ntmps99;go_wp2;refine bodyPost_ret (v:= .agg #[.int .i64 t,.slice p m e]) (by simp[results,go_sem,loadVar];try rfl) rfl ?_;exact⟨_,rfl,zd2 _ _ _,N.out.below (zd2 _ _ _)⟩
end Go.Proofs.YtjlkplidpdhgbaaGreatDoor
