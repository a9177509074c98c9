/- Factors modulo a prime are unique: for every f, g and p of the input's types, where f and g have factors modulo p (each without a fault, of at most 60 coefficients together), those of the product are those of f and of g together, each as often as in both; it holds whatever the input, by the program's text as given (a pruned copy of it, and the table of trailing zeros of math/bits as it is laid). -/
import Derived.Test.YtffdemplaodbcaaDoorP48
import Derived.Test.YtffdemplaodbcaaDoorRows
import Derived.Test.YtffdemplaodbcaaDoorCards
import Derived.Test.YtffdemplaodbcaaDoorTie
import Derived.SevenTiedAt
import Derived.ProofKit
import Derived.LaidMore
import Derived.LaidSub
import Derived.Lib.LaidTab
import Derived.MakeChecks
import Derived.OpenShut
import Derived.ChangeOld
import Derived.DataShut
import Derived.SizedLaws
import Derived.Stop.Joined
set_option linter.all false
namespace Go.Proofs.YtffdemplaodbcaaDoor
open Go Go.Proofs Go.RowKit Go.Rad
open Go.ChangeShapes Go.WideShapes Go.ChangeAt
theorem own:ownKnob Tryd.prog.godebug=none:=by kernel_rfl
theorem laidOut:laidOutB Tryd.prog=true:=by kernel_rfl
theorem cellsAt3:Tryd.prog.cellsOf 3=1:=by kernel_rfl
theorem bytesAt3:Tryd.prog.bytesOf 3=8:=by kernel_rfl
theorem gDb : Tryd.prog.globalNamed "math/bits.deBruijn64tab" = some 1 := by kernel_rfl
theorem tDb:(Tryd.prog.globals[1]?).map (·.type)=some 113:=by kernel_rfl
abbrev LL:List (String×DataW Unit):=Rows.fpUniqueRow.laid
def dbTab:List Int:=[0,1,56,2,57,49,28,3,61,58,42,50,38,29,17,4,62,47,59,36,45,43,51,22,53,39,33,30,24,18,12,5,63,55,48,27,60,41,37,16,46,35,44,21,52,32,23,11,54,26,40,15,34,20,31,10,25,14,19,9,13,8,7,6]
theorem tabB_of_laid {W:World} (h:laidMetH Tryd.prog LL W):TabB W:=by
 have h1 := h.filter (fun x => x.1 == "math/bits.deBruijn64tab");have e : LL.filter (fun x => x.1 == "math/bits.deBruijn64tab") = [("math/bits.deBruijn64tab", Lib.tabData .u8 dbTab)] := (by kernel_rfl);rw [e, MakeChecks.laidMetH_plain _ _ _ (by kernel_rfl)] at h1;have h2 := Lib.tabIs_of_head gDb tDb (n := 64) (e := 5) (by kernel_rfl) (by kernel_rfl) (by kernel_rfl) (by kernel_rfl) h1;unfold Lib.TabIs World.var? at h2;rw [gDb, Option.bind_some] at h2;intro j hj;unfold World.cell?;cases hh : W.heap[1]? with
 |none=>rw[hh]at h2;simp at h2
 |some o=>
  rw[hh]at h2;cases o with
  |cells cs t f=>simp only[Option.some.injEq]at h2;subst h2;have key:∀j,j<64→((dbTab.map fun z=>Value.int .u8 z).toArray)[j]? =some (.int .u8 ((dB j:Nat):Int)):=(by intro j hj;have h3:(List.range 64).all (fun j=>dbTab[j]? ==some ((dB j:Nat):Int))=true:=(by kernel_rfl);have h4:=eq_of_beq (List.all_eq_true.1 h3 j (List.mem_range.2 hj));simp[h4]);simpa using key j hj
  |_=>simp at h2
theorem door_met (os:Os) (args:Array Value):laidMetH Tryd.prog LL ((World.doorLaid Tryd.prog 400 os).forCall (fun _ _=>0) ⟨#[],args,[]⟩).memory:=laidMetH_of_parts3 (fuel:=8) (laidMet_of_run' 8 (by kernel_rfl) (by kernel_rfl)) (by kernel_rfl) (by kernel_rfl)
theorem viewIL {H:Type} {enc:TypeId×Value→H} {W:World} {fuel:Nat} {a0:Option Addr} {len cap:Nat} {d:DataW H} {p:List MemPlace}
 (hf:DataW.trod enc Tryd.prog W 0 (fun _=>true) true fuel 22 (Value.slice a0 len cap).cells.toList=some (d,p)) (hd:∀zs sp,d= .slice zs sp→zs.length*8≤140737488351232):
 ∃Z:List Int,IL W (.slice a0 len cap) Z:=by
 rcases open_ints Tryd.underlying22 Tryd.underlying3 cellsAt3 hf with⟨hcs,hx⟩|⟨a,len',cap',zs,hcs,_,hl,hm,hz,hx,hcell,hwz⟩
 ·simp[Value.cells]at hcs;obtain⟨rfl,rfl,rfl⟩:=hcs;exact⟨[],IL.nil _ _ _⟩
 ·simp[Value.cells]at hcs;obtain⟨rfl,rfl,rfl⟩:=hcs;simp only[Prod.mk.injEq]at hx;obtain⟨rfl,rfl⟩:=hx;simp only[if_true]at hz;have hb:=hd _ _ rfl;have hlen:(zs.take len).length=len:=(by simp;omega);simp only[lits,List.length_map,hlen]at hb;by_cases h0:len=0
  ·subst h0;exact⟨[],IL.nil _ _ _⟩
  obtain⟨b,o,spot⟩:=a;have hp:spot=none:=(by simpa [Addr.add]using World.cell?_spot (hcell 0 (by omega)));subst hp;refine⟨zs.take len, .mk (some ⟨b,o,none⟩) b o len cap rfl hlen (fun _=>rfl) (fun i hi=>?_) (by omega)⟩;have h:=hcell i (by omega);rw[List.getD_eq_getElem?_getD,List.getElem?_take_of_lt hi,←List.getD_eq_getElem?_getD];rw[add_plain]at h;exact h
set_option maxRecDepth 100000 in
theorem fpUnique_lifted (os:Os) (started:os.Started) (H:Type) (enc:TypeId×Value→H):
 ReturnsInHanded {} Tryd.checked os 6 .any (fun w args=>(Rows.fpUniqueSpec.pre enc Tryd.prog Tryd.f6 [] false w args∧laidMetH Tryd.prog LL w)∧sizedMet enc Tryd.prog Tryd.f6 (OpenSpec.ofChange Rows.fpUniqueSpec) false w args)
  (Rows.fpUniqueSpec.post enc Tryd.prog Tryd.f6 false true false false):=by
 refine returnsInHanded_of_change_and (C:=Tryd.checked) (X:=fun w _=>laidMetH Tryd.prog LL w) (fun _ _ _ hh h=>h.of_heap hh) own started (by kernel_rfl) Tryd.func6
  (ChangeSpec.witness_shaped (enc:=enc) (C:=Tryd.checked) (os:=os) (X:=fun w _=>laidMetH Tryd.prog LL w) false (World.doorLaid Tryd.prog 400 os) #[.slice none 0 0, .slice none 0 0, .int .i64 0] 8 rfl (World.shaped_of_RefB (by kernel_rfl) (by kernel_rfl)) (by kernel_rfl) (by kernel_rfl) (by kernel_rfl) (door_met os _)) ?_
 intro W base args ds gs before hval0 hW _ hsz hL _;have hval:∀(j:Nat) t v,Tryd.f6.params[j]? =some t→args[j]? =some v→Value.okWide Tryd.prog W .any base t v:=hval0;have hW':=hW;obtain⟨p,q,hA0,hV,rfl,hfz,hnd⟩:=hW;have hA:DataW.TrodAll enc Tryd.prog W 0 (fun _=>true) true Tryd.f6.params.toList args.toList ds p:=hA0;rw[Tryd.params6]at hA hval;obtain⟨v0,vs0,d0,ds0,p0,q0,hargs,rfl,rfl,h0,r0⟩:=trodAll_cons hA;obtain⟨v1,vs1,d1,ds1,p1,q1,rfl,rfl,rfl,h1,r1⟩:=trodAll_cons r0;obtain⟨v2,vs2,d2,ds2,p2,q2,rfl,rfl,rfl,h2,r2⟩:=trodAll_cons r1;obtain⟨rfl,rfl,rfl⟩:=trodAll_nil r2;obtain rfl:args= #[v0,v1,v2]:=(by cases args;simp_all);obtain⟨rfl,rfl⟩:=trodVars_none hV;obtain⟨a0,la,ca,rfl⟩:=okWide_slice Tryd.underlying22 (hval 0 22 v0 rfl rfl);obtain⟨b0,lb,cb,rfl⟩:=okWide_slice Tryd.underlying22 (hval 1 22 v1 rfl rfl);obtain⟨n,rfl,rfl,rfl,hn⟩:=open_int Tryd.underlying3 (hval 2 3 v2 rfl rfl) h2;have h0k:=h0;have h1k:=h1;obtain⟨fa,hfa⟩:=h0;obtain⟨fb,hfb⟩:=h1;clear hA0 hval0;simp only[List.append_nil]at hW';have hlt:∀x∈p0++p1,x.block<W.heap.size:=fun x hx=>hW'.lt x (by simpa using hx);obtain⟨A,hIA⟩:=viewIL hfa (fun zs sp h=>by have:=sized_slice hsz (j:=0) (t:=22) (e:=3) rfl (by rw[h];rfl) Tryd.underlying22;rw[show Tryd.checked.prog.bytesOf 3=8 from bytesAt3]at this;simp only[reachBytes]at this;omega);obtain⟨B,hIB⟩:=viewIL hfb (fun zs sp h=>by have:=sized_slice hsz (j:=1) (t:=22) (e:=3) rfl (by rw[h];rfl) Tryd.underlying22;rw[show Tryd.checked.prog.bytesOf 3=8 from bytesAt3]at this;simp only[reachBytes]at this;omega);refine(fpUnique_any W (.slice a0 la ca) (.slice b0 lb cb) A B n hIA hIB (tabB_of_laid hL)).mono fun e W' ⟨he,bel⟩=>?_;subst he;exact⟨_,rfl,_,_,_,[],_,[],hW',trodAll_mk1 (shut_bool Tryd.underlying4 _),(trodAll_cons_mk (Below.trod laidOut (by kernel_rfl) (of_decide_eq_true (by kernel_rfl)) h0k bel (fun x hx=>hlt x (by simp[hx]))) (trodAll_cons_mk (Below.trod laidOut (by kernel_rfl) (of_decide_eq_true (by kernel_rfl)) h1k bel (fun x hx=>hlt x (by simp[hx]))) (trodAll_cons_mk (shut_int Tryd.underlying3 hn) trodAll_mk0))),rfl,bel.frame _,fun h=>by cases h⟩
theorem fpUnique_holds:Rows.FpUniqueSaid:=
 OpenClaim.holds_of_wide 6 Tryd.f6 rfl rfl rfl rfl rfl rfl rfl ⟨rfl,rfl,rfl,rfl,rfl⟩ rfl rfl rfl rfl rfl (by kernel_rfl) Tryd.func6 (by kernel_rfl)
  (of_decide_eq_true (by kernel_rfl)) (by unfold Func.isWrapper;first|(rw[if_pos (by decide+kernel)];kernel_rfl)|(rw[if_neg (by decide+kernel)];exact⟨rfl,rfl⟩))
  (fun os started H enc _=>fpUnique_lifted os started H enc)
theorem fpUnique_card_holds:Rows.FpUniqueCardSaid:=
 Claim7.holds_tied_plain_at .later [] [.data, .data] true (true, "c58953ffc3ba52475ea91cc222199a66813a874b888309b753bd1c24cb694af8") false
  fpUnique_holds (fun _ h=>by cases h) (by kernel_rfl) (fun _ h=>by cases h) fpUnique_row_tie rfl ⟨rfl,rfl⟩ (by kernel_rfl) rfl
  (fun f fn hf hfn => by obtain rfl : f = 6 := Option.some.inj ((show Tryd.prog.funcNamed "radicand/radicandlaw.FpUnique" = some 6 by kernel_rfl).symm.trans hf) |>.symm;obtain rfl : fn = Tryd.f6 := (Option.some.inj (Tryd.func6.symm.trans hfn)).symm;exact ⟨by kernel_rfl, fun j t ht => by rw [Tryd.params6] at ht;have hm : t ∈ [22, 22, 3] := (by simpa using Array.mem_of_getElem? ht);have hall : ([22, 22, 3].all fun u => !Tryd.prog.wantsStandIn u) = true := (by kernel_rfl);exact (show Tryd.prog.wantsStandIn t = false by simpa using List.all_eq_true.1 hall t hm)⟩)
  (by kernel_rfl)
#print axioms fpUnique_card_holds
end Go.Proofs.YtffdemplaodbcaaDoor
