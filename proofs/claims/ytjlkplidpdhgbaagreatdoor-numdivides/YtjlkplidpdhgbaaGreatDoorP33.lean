/- Whatever two texts are handed to the program's numbers and to the document's: both read them alike, quotient, rest, greatest divisor and their faults have the same texts, and Bezout's numbers are what the document asks of them; for every two texts, with the package-level variables as the program's text lays them. -/
import Derived.Test.YtjlkplidpdhgbaaGreatDoorP00
import Derived.Test.YtjlkplidpdhgbaaGreatDoorP32
import Derived.Test.YtjlkplidpdhgbaaGreatDoorRows
import Derived.Test.YtjlkplidpdhgbaaGreatDoorCards
import Derived.Test.YtjlkplidpdhgbaaGreatDoorTie
import Derived.SevenTiedAt
import Derived.ProofKit
import Derived.LaidMore
import Derived.LaidSub
import Derived.MakeChecks
import Derived.OpenShut
import Derived.ShutString
import Derived.ChangeOld
import Derived.DataShut
import Derived.Stop.Joined
set_option linter.all false
set_option maxRecDepth 100000
namespace Go.Proofs.YtjlkplidpdhgbaaGreatDoor
open Go.ChangeShapes Go.WideShapes Go.ChangeAt Go.RowKit
open Go.ChangeMaps (open_string shut_string)
theorem own:ownKnob Tryz.prog.godebug=none:=by kernel_rfl
theorem gPow : Tryz.prog.globalNamed "internal/strconv.uint64pow10" = some 6 := by kernel_rfl
theorem tPow:(Tryz.prog.globals[6]?).map (·.type)=some 193:=by kernel_rfl
abbrev LL:List (String×DataW Unit):=Rows.numDividesRow.laid
theorem tab_of_laid {W : World} (h : laidMetH Tryz.prog LL W) : TabP W := by have b := h.filter (fun x => x.1 == "internal/strconv.uint64pow10");have e : LL.filter (fun x => x.1 == "internal/strconv.uint64pow10") = [("internal/strconv.uint64pow10", Lib.tabData .u64 Lib.pow10Tab)] := kfl;rw [e, MakeChecks.laidMetH_plain _ _ _ kfl] at b;exact Lib.tabIs_of_head gPow tPow (n := 20) (e := 98) kfl kfl kfl kfl b
theorem gDb : Tryz.prog.globalNamed "math/bits.deBruijn64tab" = some 1 := by kernel_rfl
theorem tDb:(Tryz.prog.globals[1]?).map (·.type)=some 168:=by kernel_rfl
def dbTab:List Int:=[0,1,56,2,57,49,28,3,61,58,42,50,38,29,17,4,62,47,59,36,45,43,51,22,53,39,33,30,24,18,12,5,63,55,48,27,60,41,37,16,46,35,44,21,52,32,23,11,54,26,40,15,34,20,31,10,25,14,19,9,13,8,7,6]
theorem tabB_of_laid {W:World} (h:laidMetH Tryz.prog LL W):TabB W:=by
 have g := h.filter (fun x => x.1 == "math/bits.deBruijn64tab");have e : LL.filter (fun x => x.1 == "math/bits.deBruijn64tab") = [("math/bits.deBruijn64tab", Lib.tabData .u8 dbTab)] := kfl;rw [e, MakeChecks.laidMetH_plain _ _ _ kfl] at g;have b := Lib.tabIs_of_head gDb tDb (n := 64) (e := 5) kfl kfl kfl kfl g;unfold Lib.TabIs World.var? at b;rw [gDb, Option.bind_some] at b;intro j c;unfold World.cell?;cases hh : W.heap[1]? with
 |none=>rw[hh]at b;simp at b
 |some o=>
  rw[hh]at b;cases o with
  |cells cs t f=>simp only[Option.some.injEq]at b;subst b;have d:∀j,j<64→((dbTab.map fun z=>Value.int .u8 z).toArray)[j]? =some (.int .u8 ((dB j:Nat):Int)):=(by intro j c;have k:(List.range 64).all (fun j=>dbTab[j]? ==some ((dB j:Nat):Int))=true:=kfl;have l:=eq_of_beq (List.all_eq_true.1 k j (List.mem_range.2 c));simp[l]);simpa using d j c
  |_=>simp at b
theorem door_met (os:Os) (b:Array Value):laidMetH Tryz.prog LL ((World.doorLaid Tryz.prog 400 os).forCall (fun _ _=>0) ⟨#[],b,[]⟩).memory:=laidMetH_of_parts3 (fuel:=8) (laidMet_of_run' 8 kfl kfl) kfl kfl
theorem zej (os:Os) (f:os.Started) (H:Type) (enc:TypeId×Value→H):
 ReturnsInHanded {} Tryz.checked os 6 .any (fun w b=>(Rows.numDividesSpec.pre enc Tryz.prog Tryz.f6 [] false w b∧laidMetH Tryz.prog LL w)∧sizedMet enc Tryz.prog Tryz.f6 (OpenSpec.ofChange Rows.numDividesSpec) false w b)
  (Rows.numDividesSpec.post enc Tryz.prog Tryz.f6 false true false false):=by
 refine returnsInHanded_of_change_and (C:=Tryz.checked) (X:=fun w _=>laidMetH Tryz.prog LL w) (fun _ _ _ J h=>h.of_heap J) own f kfl Tryz.func6
  (ChangeSpec.witness_shaped (enc:=enc) (C:=Tryz.checked) (os:=os) (X:=fun w _=>laidMetH Tryz.prog LL w) false (World.doorLaid Tryz.prog 400 os) #[.string ByteArray.empty,.string ByteArray.empty] 8 rfl (World.shaped_of_RefB kfl kfl) kfl kfl kfl (door_met os _)) ?_
 intro W base b z Y k d u _ g r _;have c:∀(j:Nat) t v,Tryz.f6.params[j]? =some t→b[j]? =some v→Value.okWide Tryz.prog W .any base t v:=d;have m:=u;obtain⟨p,q,hA0,F,rfl,I,L⟩:=u;have o:DataW.TrodAll enc Tryz.prog W 0 (fun _=>true) true Tryz.f6.params.toList b.toList z p:=hA0;rw[Tryz.params6]at o c;obtain⟨x,T,d0,A,Z,q0,n,rfl,rfl,D,R⟩:=trodAll_cons o;obtain⟨y,U,d1,B,p1,q1,rfl,rfl,rfl,E,S⟩:=trodAll_cons R;obtain⟨rfl,rfl,rfl⟩:=trodAll_nil S;obtain rfl:b= #[x,y]:=(by cases b;simp_all);obtain⟨rfl,rfl⟩:=trodVars_none F;obtain⟨s,rfl,rfl,rfl,M⟩:=open_string Tryz.underlying9 (c 0 9 x rfl rfl) D;obtain⟨t,rfl,rfl,rfl,O⟩:=open_string Tryz.underlying9 (c 1 9 y rfl rfl) E;clear hA0 d;have N:s.size≤140737488351232:=(by have h:=sized_string g (j:=0) rfl rfl;rw[zas]at h;exact h);have P:t.size≤140737488351232:=(by have h:=sized_string g (j:=1) rfl rfl;rw[zas]at h;exact h);refine(zf4 W s t om om (tab_of_laid r) (tabB_of_laid r)).mono fun e V ⟨G,l⟩=>?_;subst G;exact⟨_,rfl,_,_,_,[],_,[],m,trodAll_mk1 (shut_bool Tryz.underlying4 _),(trodAll_cons_mk (shut_string Tryz.underlying9 M) (trodAll_cons_mk (shut_string Tryz.underlying9 O) trodAll_mk0)),rfl,l.frame _,fun h=>by cases h⟩
theorem zew:Rows.NumDividesSaid:=
 OpenClaim.holds_of_wide 6 Tryz.f6 rfl rfl rfl rfl rfl rfl rfl ⟨rfl,rfl,rfl,rfl,rfl⟩ rfl rfl rfl rfl rfl kfl Tryz.func6 kfl
  (of_decide_eq_true kfl) (by unfold Func.isWrapper;first|(rw[if_pos (by decide+kernel)];kernel_rfl)|(rw[if_neg (by decide+kernel)];exact⟨rfl,rfl⟩))
  (fun os b H enc _=>zej os b H enc)
theorem numDivides_card_holds:Rows.NumDividesCardSaid:=
 Claim7.holds_tied_plain_at .later [] [.data,.data,.data,.sentinel,.sentinel] true (true, "bccdcc31e3cf1579b4a6e0714bf527378552637ec50fb6977e1a0dd9a7f5d84a") true
  zew (fun _ h=>by cases h) kfl (fun _ h=>by cases h) numDivides_row_tie rfl ⟨rfl,rfl⟩ kfl rfl
  (fun f g k c => by obtain rfl : f = 6 := oi ((show Tryz.prog.funcNamed "radicand/radicandlaw.NumDivides" = some 6 by kernel_rfl).symm.trans k) |>.symm;obtain rfl : g = Tryz.f6 := (oi (Tryz.func6.symm.trans c)).symm;exact ⟨by kernel_rfl, fun j t d => by rw [Tryz.params6] at d;have l : t ∈ [9, 9] := (by simpa using Array.mem_of_getElem? d);have b : ([9, 9].all fun u => !Tryz.prog.wantsStandIn u) = true := kfl;exact (show Tryz.prog.wantsStandIn t = false by simpa using List.all_eq_true.1 b t l)⟩)
  kfl
#print axioms numDivides_card_holds
end Go.Proofs.YtjlkplidpdhgbaaGreatDoor
