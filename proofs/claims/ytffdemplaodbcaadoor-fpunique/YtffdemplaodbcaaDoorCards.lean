/-
  DERIVED. GIVEN WITH THE SEED: THE CARDS: each row of YtffdemplaodbcaaDoorRows.lean that lists a variable, with what it lists TIED to the program's text (the seventh form; the later family's looks); each row that meets fmt, with fmt's text TOLD by the authors' own Lean function (tested against real Go, not proved from fmt's source: count such statements apart). THE CARD IS WHAT COUNTS. Prove the row's statement (the work); the ties are given (YtffdemplaodbcaaDoorTie.lean); close each card by the builder's one call (the guide's Derived/Test/ToyasCard.lean, 'card_holds'). Laid BY PROGRAM, IN A SANDBOX (cutbox-door.mjs). By AI agents, Wed Nov 11 2026. No macro, syntax, notation, axiom, sorry.
-/
import Derived.Test.YtffdemplaodbcaaDoorRows
import GoSem.ClaimSeven
namespace Go.Proofs.YtffdemplaodbcaaDoor
namespace Rows

/-- THE TIED CARD OF 'radicandlaw.FpReckons'. -/
def fpReckonsCard : Claim7 := { stood := { row := fpReckonsRow, standIns := [], harness := (true, "c58953ffc3ba52475ea91cc222199a66813a874b888309b753bd1c24cb694af8"), looks := false }, kinds := [], alts := [], laidByText := true, laidKinds := [.data, .data], laidTests := true, laidLooks := .later }
def FpReckonsCardSaid : Prop := Claim7.holds Tryd.pinned (.plain (OpenSpec.ofChange fpReckonsSpec)) fpReckonsCard

/-- THE TIED CARD OF 'radicandlaw.FpGcds'. -/
def fpGcdsCard : Claim7 := { stood := { row := fpGcdsRow, standIns := [], harness := (true, "c58953ffc3ba52475ea91cc222199a66813a874b888309b753bd1c24cb694af8"), looks := false }, kinds := [], alts := [], laidByText := true, laidKinds := [.data, .data], laidTests := true, laidLooks := .later }
def FpGcdsCardSaid : Prop := Claim7.holds Tryd.pinned (.plain (OpenSpec.ofChange fpGcdsSpec)) fpGcdsCard

/-- THE TIED CARD OF 'radicandlaw.FpFactors'. -/
def fpFactorsCard : Claim7 := { stood := { row := fpFactorsRow, standIns := [], harness := (true, "c58953ffc3ba52475ea91cc222199a66813a874b888309b753bd1c24cb694af8"), looks := false }, kinds := [], alts := [], laidByText := true, laidKinds := [.data, .data], laidTests := true, laidLooks := .later }
def FpFactorsCardSaid : Prop := Claim7.holds Tryd.pinned (.plain (OpenSpec.ofChange fpFactorsSpec)) fpFactorsCard

/-- THE TIED CARD OF 'radicandlaw.FpUnique'. -/
def fpUniqueCard : Claim7 := { stood := { row := fpUniqueRow, standIns := [], harness := (true, "c58953ffc3ba52475ea91cc222199a66813a874b888309b753bd1c24cb694af8"), looks := false }, kinds := [], alts := [], laidByText := true, laidKinds := [.data, .data], laidTests := true, laidLooks := .later }
def FpUniqueCardSaid : Prop := Claim7.holds Tryd.pinned (.plain (OpenSpec.ofChange fpUniqueSpec)) fpUniqueCard

/-- THE TIED CARD OF 'radicandlaw.FpFermat'. -/
def fpFermatCard : Claim7 := { stood := { row := fpFermatRow, standIns := [], harness := (true, "c58953ffc3ba52475ea91cc222199a66813a874b888309b753bd1c24cb694af8"), looks := false }, kinds := [], alts := [], laidByText := true, laidKinds := [.data, .data], laidTests := true, laidLooks := .later }
def FpFermatCardSaid : Prop := Claim7.holds Tryd.pinned (.plain (OpenSpec.ofChange fpFermatSpec)) fpFermatCard

/-- THE SECOND FORM's CARD OF 'radicandlaw.FpReckons'. -/
def fpReckonsUptoCard : Claim7 := { stood := { row := fpReckonsUptoRow, standIns := [], harness := (true, "c58953ffc3ba52475ea91cc222199a66813a874b888309b753bd1c24cb694af8"), looks := false }, kinds := [], alts := [], laidByText := true, laidKinds := [.data, .data], laidTests := true, laidLooks := .later }
def FpReckonsUptoCardSaid : Prop := Claim7.holds Tryd.pinned (.plain (OpenSpec.upto fpReckonsSpec)) fpReckonsUptoCard

/-- THE SECOND FORM's CARD OF 'radicandlaw.FpGcds'. -/
def fpGcdsUptoCard : Claim7 := { stood := { row := fpGcdsUptoRow, standIns := [], harness := (true, "c58953ffc3ba52475ea91cc222199a66813a874b888309b753bd1c24cb694af8"), looks := false }, kinds := [], alts := [], laidByText := true, laidKinds := [.data, .data], laidTests := true, laidLooks := .later }
def FpGcdsUptoCardSaid : Prop := Claim7.holds Tryd.pinned (.plain (OpenSpec.upto fpGcdsSpec)) fpGcdsUptoCard

/-- THE SECOND FORM's CARD OF 'radicandlaw.FpFactors'. -/
def fpFactorsUptoCard : Claim7 := { stood := { row := fpFactorsUptoRow, standIns := [], harness := (true, "c58953ffc3ba52475ea91cc222199a66813a874b888309b753bd1c24cb694af8"), looks := false }, kinds := [], alts := [], laidByText := true, laidKinds := [.data, .data], laidTests := true, laidLooks := .later }
def FpFactorsUptoCardSaid : Prop := Claim7.holds Tryd.pinned (.plain (OpenSpec.upto fpFactorsSpec)) fpFactorsUptoCard

/-- THE SECOND FORM's CARD OF 'radicandlaw.FpUnique'. -/
def fpUniqueUptoCard : Claim7 := { stood := { row := fpUniqueUptoRow, standIns := [], harness := (true, "c58953ffc3ba52475ea91cc222199a66813a874b888309b753bd1c24cb694af8"), looks := false }, kinds := [], alts := [], laidByText := true, laidKinds := [.data, .data], laidTests := true, laidLooks := .later }
def FpUniqueUptoCardSaid : Prop := Claim7.holds Tryd.pinned (.plain (OpenSpec.upto fpUniqueSpec)) fpUniqueUptoCard

/-- THE SECOND FORM's CARD OF 'radicandlaw.FpFermat'. -/
def fpFermatUptoCard : Claim7 := { stood := { row := fpFermatUptoRow, standIns := [], harness := (true, "c58953ffc3ba52475ea91cc222199a66813a874b888309b753bd1c24cb694af8"), looks := false }, kinds := [], alts := [], laidByText := true, laidKinds := [.data, .data], laidTests := true, laidLooks := .later }
def FpFermatUptoCardSaid : Prop := Claim7.holds Tryd.pinned (.plain (OpenSpec.upto fpFermatSpec)) fpFermatUptoCard
end Rows
end Go.Proofs.YtffdemplaodbcaaDoor
