/-
  DERIVED. GIVEN WITH THE SEED: THE CARDS: each row of YthljpnmhddfblaaGreatDoorRows.lean that lists a variable, with what it lists TIED to the program's text (the seventh form; the later family's looks); each row that meets fmt, with fmt's text TOLD by the authors' own Lean function (tested against real Go, not proved from fmt's source: count such statements apart). THE CARD IS WHAT COUNTS. Prove the row's statement (the work); the ties are given (YthljpnmhddfblaaGreatDoorTie.lean); close each card by the builder's one call (the guide's Derived/Test/ToyasCard.lean, 'card_holds'). Laid BY PROGRAM, IN A SANDBOX (cutbox-door.mjs). By AI agents, Wed Nov 11 2026. No macro, syntax, notation, axiom, sorry.
-/
import Derived.Test.YthljpnmhddfblaaGreatDoorRows
import GoSem.ClaimSeven
namespace Go.Proofs.YthljpnmhddfblaaGreatDoor
namespace Rows

/-- THE TIED CARD OF 'packtraillaw.JitHot'. -/
def jitHotCard : Claim7 := { stood := { row := jitHotRow, standIns := [], harness := (true, "735961f749d5882dc577f1b6e5fcb430c5160bd6848b6190a5a2684cae6cfac9"), looks := true }, kinds := [], alts := [], laidByText := true, laidKinds := [.data, .data, .data], laidTests := true, laidLooks := .later }
def JitHotCardSaid : Prop := Claim7.holds Tryz.pinned (.plain (OpenSpec.ofChange jitHotSpec)) jitHotCard

/-- THE SECOND FORM's CARD OF 'packtraillaw.JitHot'. -/
def jitHotUptoCard : Claim7 := { stood := { row := jitHotUptoRow, standIns := [], harness := (true, "735961f749d5882dc577f1b6e5fcb430c5160bd6848b6190a5a2684cae6cfac9"), looks := true }, kinds := [], alts := [], laidByText := true, laidKinds := [.data, .data, .data], laidTests := true, laidLooks := .later }
def JitHotUptoCardSaid : Prop := Claim7.holds Tryz.pinned (.plain (OpenSpec.upto jitHotSpec)) jitHotUptoCard
end Rows
end Go.Proofs.YthljpnmhddfblaaGreatDoor
