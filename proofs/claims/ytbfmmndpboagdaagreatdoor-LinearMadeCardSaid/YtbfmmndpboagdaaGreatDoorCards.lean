/-
  DERIVED. GIVEN WITH THE SEED: THE CARDS: each row of YtbfmmndpboagdaaGreatDoorRows.lean that lists a variable, with what it lists TIED to the program's text (the seventh form; the later family's looks); each row that meets fmt, with fmt's text TOLD by the authors' own Lean function (tested against real Go, not proved from fmt's source: count such statements apart). THE CARD IS WHAT COUNTS. Prove the row's statement (the work); the ties are given (YtbfmmndpboagdaaGreatDoorTie.lean); close each card by the builder's one call (the guide's Derived/Test/ToyasCard.lean, 'card_holds'). Laid BY PROGRAM, IN A SANDBOX (cutbox-door.mjs). By AI agents, Wed Nov 11 2026. No macro, syntax, notation, axiom, sorry.
-/
import Derived.Test.YtbfmmndpboagdaaGreatDoorRows
import GoSem.ClaimSeven
namespace Go.Proofs.YtbfmmndpboagdaaGreatDoor
namespace Rows

/-- THE TIED CARD OF 'coxswainlaw09.LinearKnown'. -/
def linearKnownCard : Claim7 := { stood := { row := linearKnownRow, standIns := [], harness := (true, "4d204fbf17c7bd639b8b74e587fdfd2ce7327085ddb0eebb6a0fd767b9637a31"), looks := false }, kinds := [], alts := [], laidByText := true, laidKinds := [.data], laidTests := true, laidLooks := .later }
def LinearKnownCardSaid : Prop := Claim7.holds Tryz.pinned (.plain (OpenSpec.ofChange linearKnownSpec)) linearKnownCard

/-- THE TIED CARD OF 'coxswainlaw09.LinearMade'. -/
def linearMadeCard : Claim7 := { stood := { row := linearMadeRow, standIns := [], harness := (true, "4d204fbf17c7bd639b8b74e587fdfd2ce7327085ddb0eebb6a0fd767b9637a31"), looks := false }, kinds := [], alts := [], laidByText := true, laidKinds := [.data], laidTests := true, laidLooks := .later }
def LinearMadeCardSaid : Prop := Claim7.holds Tryz.pinned (.plain (OpenSpec.ofChange linearMadeSpec)) linearMadeCard

/-- THE TIED CARD OF 'coxswainlaw09.LinearKeeps'. -/
def linearKeepsCard : Claim7 := { stood := { row := linearKeepsRow, standIns := [], harness := (true, "4d204fbf17c7bd639b8b74e587fdfd2ce7327085ddb0eebb6a0fd767b9637a31"), looks := false }, kinds := [], alts := [], laidByText := true, laidKinds := [.data], laidTests := true, laidLooks := .later }
def LinearKeepsCardSaid : Prop := Claim7.holds Tryz.pinned (.plain (OpenSpec.ofChange linearKeepsSpec)) linearKeepsCard

/-- THE SECOND FORM's CARD OF 'coxswainlaw09.LinearKnown'. -/
def linearKnownUptoCard : Claim7 := { stood := { row := linearKnownUptoRow, standIns := [], harness := (true, "4d204fbf17c7bd639b8b74e587fdfd2ce7327085ddb0eebb6a0fd767b9637a31"), looks := false }, kinds := [], alts := [], laidByText := true, laidKinds := [.data], laidTests := true, laidLooks := .later }
def LinearKnownUptoCardSaid : Prop := Claim7.holds Tryz.pinned (.plain (OpenSpec.upto linearKnownSpec)) linearKnownUptoCard

/-- THE SECOND FORM's CARD OF 'coxswainlaw09.LinearMade'. -/
def linearMadeUptoCard : Claim7 := { stood := { row := linearMadeUptoRow, standIns := [], harness := (true, "4d204fbf17c7bd639b8b74e587fdfd2ce7327085ddb0eebb6a0fd767b9637a31"), looks := false }, kinds := [], alts := [], laidByText := true, laidKinds := [.data], laidTests := true, laidLooks := .later }
def LinearMadeUptoCardSaid : Prop := Claim7.holds Tryz.pinned (.plain (OpenSpec.upto linearMadeSpec)) linearMadeUptoCard

/-- THE SECOND FORM's CARD OF 'coxswainlaw09.LinearKeeps'. -/
def linearKeepsUptoCard : Claim7 := { stood := { row := linearKeepsUptoRow, standIns := [], harness := (true, "4d204fbf17c7bd639b8b74e587fdfd2ce7327085ddb0eebb6a0fd767b9637a31"), looks := false }, kinds := [], alts := [], laidByText := true, laidKinds := [.data], laidTests := true, laidLooks := .later }
def LinearKeepsUptoCardSaid : Prop := Claim7.holds Tryz.pinned (.plain (OpenSpec.upto linearKeepsSpec)) linearKeepsUptoCard
end Rows
end Go.Proofs.YtbfmmndpboagdaaGreatDoor
