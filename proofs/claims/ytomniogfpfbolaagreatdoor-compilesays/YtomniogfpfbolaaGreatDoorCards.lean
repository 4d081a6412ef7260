/-
  DERIVED. GIVEN WITH THE SEED: THE CARDS: each row of YtomniogfpfbolaaGreatDoorRows.lean that lists a variable, with what it lists TIED to the program's text (the seventh form; the later family's looks); each row that meets fmt, with fmt's text TOLD by the authors' own Lean function (tested against real Go, not proved from fmt's source: count such statements apart). THE CARD IS WHAT COUNTS. Prove the row's statement (the work); the ties are given (YtomniogfpfbolaaGreatDoorTie.lean); close each card by the builder's one call (the guide's Derived/Test/ToyasCard.lean, 'card_holds'). Laid BY PROGRAM, IN A SANDBOX (cutbox-door.mjs). By AI agents, Wed Nov 11 2026. No macro, syntax, notation, axiom, sorry.
-/
import Derived.Test.YtomniogfpfbolaaGreatDoorRows
import GoSem.ClaimSeven
namespace Go.Proofs.YtomniogfpfbolaaGreatDoor
namespace Rows

/-- THE TIED CARD OF 'packtraillaw.CompileSays'. -/
def compileSaysCard : Claim7 := { stood := { row := compileSaysRow, standIns := [], harness := (true, "b12c72b672104b726ff193831a65a47392a3e5df7231064b2e4f28673d8ab52a"), looks := true }, kinds := [], alts := [], laidByText := true, laidKinds := [.data, .data, .data, .sentinel, .sentinel, .listed, .data], laidTests := true, laidLooks := .later }
def CompileSaysCardSaid : Prop := Claim7.holds Tryz.pinned (.plain (OpenSpec.ofChange compileSaysSpec)) compileSaysCard

/-- THE SECOND FORM's CARD OF 'packtraillaw.CompileSays'. -/
def compileSaysUptoCard : Claim7 := { stood := { row := compileSaysUptoRow, standIns := [], harness := (true, "b12c72b672104b726ff193831a65a47392a3e5df7231064b2e4f28673d8ab52a"), looks := true }, kinds := [], alts := [], laidByText := true, laidKinds := [.data, .data, .data, .sentinel, .sentinel, .listed, .data], laidTests := true, laidLooks := .later }
def CompileSaysUptoCardSaid : Prop := Claim7.holds Tryz.pinned (.plain (OpenSpec.upto compileSaysSpec)) compileSaysUptoCard
end Rows
end Go.Proofs.YtomniogfpfbolaaGreatDoor
