/-
  DERIVED. GIVEN WITH THE SEED: THE CARDS: each row of YtfbpdbndejefdaaGreatDoorRows.lean that lists a variable, with what it lists TIED to the program's text (the seventh form; the later family's looks); each row that meets fmt, with fmt's text TOLD by the authors' own Lean function (tested against real Go, not proved from fmt's source: count such statements apart). THE CARD IS WHAT COUNTS. Prove the row's statement (the work); the ties are given (YtfbpdbndejefdaaGreatDoorTie.lean); close each card by the builder's one call (the guide's Derived/Test/ToyasCard.lean, 'card_holds'). Laid BY PROGRAM, IN A SANDBOX (cutbox-door.mjs). By AI agents, Wed Nov 11 2026. No macro, syntax, notation, axiom, sorry.
-/
import Derived.Test.YtfbpdbndejefdaaGreatDoorRows
import GoSem.ClaimSeven
namespace Go.Proofs.YtfbpdbndejefdaaGreatDoor
namespace Rows

/-- THE TIED CARD OF 'packtrailkeep.ModelLonger'. -/
def modelLongerCard : Claim7 := { stood := { row := modelLongerRow, standIns := [], harness := (true, "6da289448874517ce6f37265c0f1bc3625dafdb2aa41f4a0b6fcb64c1e3c5aa5"), looks := true }, kinds := [], alts := [], laidByText := true, laidKinds := [.data, .data, .data, .sentinel, .sentinel, .listed, .data], laidTests := true, laidLooks := .later }
def ModelLongerCardSaid : Prop := Claim7.holds Tryz.pinned (.plain (OpenSpec.ofChange modelLongerSpec)) modelLongerCard

/-- THE SECOND FORM's CARD OF 'packtrailkeep.ModelLonger'. -/
def modelLongerUptoCard : Claim7 := { stood := { row := modelLongerUptoRow, standIns := [], harness := (true, "6da289448874517ce6f37265c0f1bc3625dafdb2aa41f4a0b6fcb64c1e3c5aa5"), looks := true }, kinds := [], alts := [], laidByText := true, laidKinds := [.data, .data, .data, .sentinel, .sentinel, .listed, .data], laidTests := true, laidLooks := .later }
def ModelLongerUptoCardSaid : Prop := Claim7.holds Tryz.pinned (.plain (OpenSpec.upto modelLongerSpec)) modelLongerUptoCard
end Rows
end Go.Proofs.YtfbpdbndejefdaaGreatDoor
