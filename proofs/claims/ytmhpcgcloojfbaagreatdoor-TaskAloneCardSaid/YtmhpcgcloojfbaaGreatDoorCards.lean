/-
  DERIVED. GIVEN WITH THE SEED: THE CARDS: each row of YtmhpcgcloojfbaaGreatDoorRows.lean that lists a variable, with what it lists TIED to the program's text (the seventh form; the later family's looks); each row that meets fmt, with fmt's text TOLD by the authors' own Lean function (tested against real Go, not proved from fmt's source: count such statements apart). THE CARD IS WHAT COUNTS. Prove the row's statement (the work); the ties are given (YtmhpcgcloojfbaaGreatDoorTie.lean); close each card by the builder's one call (the guide's Derived/Test/ToyasCard.lean, 'card_holds'). Laid BY PROGRAM, IN A SANDBOX (cutbox-door.mjs). By AI agents, Wed Nov 11 2026. No macro, syntax, notation, axiom, sorry.
-/
import Derived.Test.YtmhpcgcloojfbaaGreatDoorRows
import GoSem.ClaimSeven
namespace Go.Proofs.YtmhpcgcloojfbaaGreatDoor
namespace Rows

/-- THE TIED CARD OF 'portholelaw13.TaskBegins'. -/
def taskBeginsCard : Claim7 := { stood := { row := taskBeginsRow, standIns := [], harness := (true, "211db9779d7a4b1881a3bd6749e1f6f5ebc972373e2a7f83e2c06aeef5244485"), looks := false }, kinds := [], alts := [], laidByText := true, laidKinds := [.data], laidTests := true, laidLooks := .later }
def TaskBeginsCardSaid : Prop := Claim7.holds Tryz.pinned (.plain (OpenSpec.ofChange taskBeginsSpec)) taskBeginsCard

/-- THE TIED CARD OF 'portholelaw13.TaskSteps'. -/
def taskStepsCard : Claim7 := { stood := { row := taskStepsRow, standIns := [], harness := (true, "211db9779d7a4b1881a3bd6749e1f6f5ebc972373e2a7f83e2c06aeef5244485"), looks := false }, kinds := [], alts := [], laidByText := true, laidKinds := [.data], laidTests := true, laidLooks := .later }
def TaskStepsCardSaid : Prop := Claim7.holds Tryz.pinned (.plain (OpenSpec.ofChange taskStepsSpec)) taskStepsCard

/-- THE TIED CARD OF 'portholelaw13.TaskRuns'. -/
def taskRunsCard : Claim7 := { stood := { row := taskRunsRow, standIns := [], harness := (true, "211db9779d7a4b1881a3bd6749e1f6f5ebc972373e2a7f83e2c06aeef5244485"), looks := false }, kinds := [], alts := [], laidByText := true, laidKinds := [.data], laidTests := true, laidLooks := .later }
def TaskRunsCardSaid : Prop := Claim7.holds Tryz.pinned (.plain (OpenSpec.ofChange taskRunsSpec)) taskRunsCard

/-- THE TIED CARD OF 'portholelaw13.TaskAlone'. -/
def taskAloneCard : Claim7 := { stood := { row := taskAloneRow, standIns := [], harness := (true, "211db9779d7a4b1881a3bd6749e1f6f5ebc972373e2a7f83e2c06aeef5244485"), looks := false }, kinds := [], alts := [], laidByText := true, laidKinds := [.data], laidTests := true, laidLooks := .later }
def TaskAloneCardSaid : Prop := Claim7.holds Tryz.pinned (.plain (OpenSpec.ofChange taskAloneSpec)) taskAloneCard

/-- THE SECOND FORM's CARD OF 'portholelaw13.TaskBegins'. -/
def taskBeginsUptoCard : Claim7 := { stood := { row := taskBeginsUptoRow, standIns := [], harness := (true, "211db9779d7a4b1881a3bd6749e1f6f5ebc972373e2a7f83e2c06aeef5244485"), looks := false }, kinds := [], alts := [], laidByText := true, laidKinds := [.data], laidTests := true, laidLooks := .later }
def TaskBeginsUptoCardSaid : Prop := Claim7.holds Tryz.pinned (.plain (OpenSpec.upto taskBeginsSpec)) taskBeginsUptoCard

/-- THE SECOND FORM's CARD OF 'portholelaw13.TaskSteps'. -/
def taskStepsUptoCard : Claim7 := { stood := { row := taskStepsUptoRow, standIns := [], harness := (true, "211db9779d7a4b1881a3bd6749e1f6f5ebc972373e2a7f83e2c06aeef5244485"), looks := false }, kinds := [], alts := [], laidByText := true, laidKinds := [.data], laidTests := true, laidLooks := .later }
def TaskStepsUptoCardSaid : Prop := Claim7.holds Tryz.pinned (.plain (OpenSpec.upto taskStepsSpec)) taskStepsUptoCard

/-- THE SECOND FORM's CARD OF 'portholelaw13.TaskRuns'. -/
def taskRunsUptoCard : Claim7 := { stood := { row := taskRunsUptoRow, standIns := [], harness := (true, "211db9779d7a4b1881a3bd6749e1f6f5ebc972373e2a7f83e2c06aeef5244485"), looks := false }, kinds := [], alts := [], laidByText := true, laidKinds := [.data], laidTests := true, laidLooks := .later }
def TaskRunsUptoCardSaid : Prop := Claim7.holds Tryz.pinned (.plain (OpenSpec.upto taskRunsSpec)) taskRunsUptoCard

/-- THE SECOND FORM's CARD OF 'portholelaw13.TaskAlone'. -/
def taskAloneUptoCard : Claim7 := { stood := { row := taskAloneUptoRow, standIns := [], harness := (true, "211db9779d7a4b1881a3bd6749e1f6f5ebc972373e2a7f83e2c06aeef5244485"), looks := false }, kinds := [], alts := [], laidByText := true, laidKinds := [.data], laidTests := true, laidLooks := .later }
def TaskAloneUptoCardSaid : Prop := Claim7.holds Tryz.pinned (.plain (OpenSpec.upto taskAloneSpec)) taskAloneUptoCard
end Rows
end Go.Proofs.YtmhpcgcloojfbaaGreatDoor
