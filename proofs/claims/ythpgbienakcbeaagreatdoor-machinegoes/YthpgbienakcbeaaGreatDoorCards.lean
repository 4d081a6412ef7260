/-
  DERIVED. GIVEN WITH THE SEED: THE CARDS: each row of YthpgbienakcbeaaGreatDoorRows.lean that lists a variable, with what it lists TIED to the program's text (the seventh form; the later family's looks); each row that meets fmt, with fmt's text TOLD by the authors' own Lean function (tested against real Go, not proved from fmt's source: count such statements apart). THE CARD IS WHAT COUNTS. Prove the row's statement (the work); the ties are given (YthpgbienakcbeaaGreatDoorTie.lean); close each card by the builder's one call (the guide's Derived/Test/ToyasCard.lean, 'card_holds'). Laid BY PROGRAM, IN A SANDBOX (cutbox-door.mjs). By AI agents, Wed Nov 11 2026. No macro, syntax, notation, axiom, sorry.
-/
import Derived.Test.YthpgbienakcbeaaGreatDoorRows
import GoSem.ClaimSeven
namespace Go.Proofs.YthpgbienakcbeaaGreatDoor
namespace Rows

/-- THE TIED CARD OF 'packtraillaw.MachineGoes'. -/
def machineGoesCard : Claim7 := { stood := { row := machineGoesRow, standIns := [], harness := (true, "024fbbed4e7fc1d9785c853e7a8362605ed8c4170aaa7b27175cfaf6147ba6a6"), looks := true }, kinds := [], alts := [], laidByText := true, laidKinds := [.data, .data, .data], laidTests := true, laidLooks := .later }
def MachineGoesCardSaid : Prop := Claim7.holds Tryz.pinned (.plain (OpenSpec.ofChange machineGoesSpec)) machineGoesCard

/-- THE TIED CARD OF 'packtraillaw.MachineRuns'. -/
def machineRunsCard : Claim7 := { stood := { row := machineRunsRow, standIns := [], harness := (true, "024fbbed4e7fc1d9785c853e7a8362605ed8c4170aaa7b27175cfaf6147ba6a6"), looks := true }, kinds := [], alts := [], laidByText := true, laidKinds := [.data, .data, .data], laidTests := true, laidLooks := .later }
def MachineRunsCardSaid : Prop := Claim7.holds Tryz.pinned (.plain (OpenSpec.ofChange machineRunsSpec)) machineRunsCard

/-- THE TIED CARD OF 'packtrailkeep.MachineParts'. -/
def machinePartsCard : Claim7 := { stood := { row := machinePartsRow, standIns := [], harness := (true, "024fbbed4e7fc1d9785c853e7a8362605ed8c4170aaa7b27175cfaf6147ba6a6"), looks := true }, kinds := [], alts := [], laidByText := true, laidKinds := [.data, .data, .data], laidTests := true, laidLooks := .later }
def MachinePartsCardSaid : Prop := Claim7.holds Tryz.pinned (.plain (OpenSpec.ofChange machinePartsSpec)) machinePartsCard

/-- THE SECOND FORM's CARD OF 'packtraillaw.MachineGoes'. -/
def machineGoesUptoCard : Claim7 := { stood := { row := machineGoesUptoRow, standIns := [], harness := (true, "024fbbed4e7fc1d9785c853e7a8362605ed8c4170aaa7b27175cfaf6147ba6a6"), looks := true }, kinds := [], alts := [], laidByText := true, laidKinds := [.data, .data, .data], laidTests := true, laidLooks := .later }
def MachineGoesUptoCardSaid : Prop := Claim7.holds Tryz.pinned (.plain (OpenSpec.upto machineGoesSpec)) machineGoesUptoCard

/-- THE SECOND FORM's CARD OF 'packtraillaw.MachineRuns'. -/
def machineRunsUptoCard : Claim7 := { stood := { row := machineRunsUptoRow, standIns := [], harness := (true, "024fbbed4e7fc1d9785c853e7a8362605ed8c4170aaa7b27175cfaf6147ba6a6"), looks := true }, kinds := [], alts := [], laidByText := true, laidKinds := [.data, .data, .data], laidTests := true, laidLooks := .later }
def MachineRunsUptoCardSaid : Prop := Claim7.holds Tryz.pinned (.plain (OpenSpec.upto machineRunsSpec)) machineRunsUptoCard

/-- THE SECOND FORM's CARD OF 'packtrailkeep.MachineParts'. -/
def machinePartsUptoCard : Claim7 := { stood := { row := machinePartsUptoRow, standIns := [], harness := (true, "024fbbed4e7fc1d9785c853e7a8362605ed8c4170aaa7b27175cfaf6147ba6a6"), looks := true }, kinds := [], alts := [], laidByText := true, laidKinds := [.data, .data, .data], laidTests := true, laidLooks := .later }
def MachinePartsUptoCardSaid : Prop := Claim7.holds Tryz.pinned (.plain (OpenSpec.upto machinePartsSpec)) machinePartsUptoCard
end Rows
end Go.Proofs.YthpgbienakcbeaaGreatDoor
