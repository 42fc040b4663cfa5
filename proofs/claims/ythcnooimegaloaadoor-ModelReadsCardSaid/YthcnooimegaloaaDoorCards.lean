/-
  DERIVED. GIVEN WITH THE SEED: THE CARDS: each row of YthcnooimegaloaaDoorRows.lean that lists a variable, with what it lists TIED to the program's text (the seventh form; the later family's looks); each row that meets fmt, with fmt's text TOLD by the authors' own Lean function (tested against real Go, not proved from fmt's source: count such statements apart). THE CARD IS WHAT COUNTS. Prove the row's statement (the work); the ties are given (YthcnooimegaloaaDoorTie.lean); close each card by the builder's one call (the guide's Derived/Test/ToyasCard.lean, 'card_holds'). Laid BY PROGRAM, IN A SANDBOX (cutbox-door.mjs). By AI agents, Wed Nov 11 2026. No macro, syntax, notation, axiom, sorry.
-/
import Derived.Test.YthcnooimegaloaaDoorRows
import GoSem.ClaimSeven
namespace Go.Proofs.YthcnooimegaloaaDoor
namespace Rows

/-- THE TIED CARD OF 'portholelaw18.ModelQueues'. -/
def modelQueuesCard : Claim7 := { stood := { row := modelQueuesRow, standIns := [], harness := (true, "7959ff8aa5d7eb7a2da9c3483301b8d55a96058b09aad2b40360fef6627d9869"), looks := false }, kinds := [], alts := [], laidByText := true, laidKinds := [.data], laidTests := true, laidLooks := .later }
def ModelQueuesCardSaid : Prop := Claim7.holds Tryd.pinned (.plain (OpenSpec.ofChange modelQueuesSpec)) modelQueuesCard

/-- THE TIED CARD OF 'portholelaw18.ModelReads'. -/
def modelReadsCard : Claim7 := { stood := { row := modelReadsRow, standIns := [], harness := (true, "7959ff8aa5d7eb7a2da9c3483301b8d55a96058b09aad2b40360fef6627d9869"), looks := false }, kinds := [], alts := [], laidByText := true, laidKinds := [.data], laidTests := true, laidLooks := .later }
def ModelReadsCardSaid : Prop := Claim7.holds Tryd.pinned (.plain (OpenSpec.ofChange modelReadsSpec)) modelReadsCard

/-- THE SECOND FORM's CARD OF 'portholelaw18.ModelQueues'. -/
def modelQueuesUptoCard : Claim7 := { stood := { row := modelQueuesUptoRow, standIns := [], harness := (true, "7959ff8aa5d7eb7a2da9c3483301b8d55a96058b09aad2b40360fef6627d9869"), looks := false }, kinds := [], alts := [], laidByText := true, laidKinds := [.data], laidTests := true, laidLooks := .later }
def ModelQueuesUptoCardSaid : Prop := Claim7.holds Tryd.pinned (.plain (OpenSpec.upto modelQueuesSpec)) modelQueuesUptoCard

/-- THE SECOND FORM's CARD OF 'portholelaw18.ModelReads'. -/
def modelReadsUptoCard : Claim7 := { stood := { row := modelReadsUptoRow, standIns := [], harness := (true, "7959ff8aa5d7eb7a2da9c3483301b8d55a96058b09aad2b40360fef6627d9869"), looks := false }, kinds := [], alts := [], laidByText := true, laidKinds := [.data], laidTests := true, laidLooks := .later }
def ModelReadsUptoCardSaid : Prop := Claim7.holds Tryd.pinned (.plain (OpenSpec.upto modelReadsSpec)) modelReadsUptoCard
end Rows
end Go.Proofs.YthcnooimegaloaaDoor
