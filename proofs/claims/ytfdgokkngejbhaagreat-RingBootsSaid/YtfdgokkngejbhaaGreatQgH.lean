/- Texts of the ring, joined, what is used of them. No condition but those in the statements. -/
import Derived.BigQuiet
import Derived.BigRegion
import Derived.Deep.MidRow
import Derived.Deep.RegionHeld3
import Derived.Deep.Upon
import Derived.IntWalk
import Derived.Shelf.Abstract
import Derived.Test.YtfdgokkngejbhaaGreatQRPrA
import Derived.Test.YtfdgokkngejbhaaGreatQRPrB
import Derived.Test.YtfdgokkngejbhaaGreatQRPsA
import Derived.Test.YtfdgokkngejbhaaGreatQRPsB
section
namespace Go.Proofs.YtfdgokkngejbhaaGreat
open Go.RowKit Go.Sort
set_option linter.unusedVariables false
set_option linter.unusedSimpArgs false
set_option linter.unusedVariables false
set_option linter.unusedSimpArgs false
open Go.Proofs.YtfdgokkngejbhaaGreat.Simp
set_option maxRecDepth 100000
set_option maxHeartbeats 12800000
section
variable {W w w' : World} {E : Nat → Prop} {pb mb rb bb br N D K sq rq : Nat} {boot : Int} {x : CfgAt} {P : Ql}
theorem send_b (h : PQAt W w E pb mb rb bb br N D boot x (K) (P) sq rq) (hK : K ≤ 90000) (hok : (playS N D P).2 = true)  : Calls Tryz.prog 30 #[.pointer (some ⟨pb, 0, none⟩)] w fun e w' => e = .returned (.bool true) ∧ ∃ sq', PQAt W w' E pb mb rb bb br N D boot x (K + 1) ((playS N D P).1) sq' rq ∧ Only (fun k => (¬ E k ∨ k = pb) ∧ W.heap.size ≤ k) w w' := by
  cases hs : P.s with
  | none => exact sendN_b h hK hok hs
  | some s => exact sendS_b h hK hok hs
end
end Go.Proofs.YtfdgokkngejbhaaGreat
end
section
namespace Go.Proofs.YtfdgokkngejbhaaGreat
open Go.RowKit Go.Sort
set_option linter.unusedVariables false
set_option linter.unusedSimpArgs false
set_option linter.unusedVariables false
set_option linter.unusedSimpArgs false
open Go.Proofs.YtfdgokkngejbhaaGreat.Simp
set_option maxRecDepth 100000
set_option maxHeartbeats 12800000
section
variable {W w w' : World} {E : Nat → Prop} {pb mb rb bb br N D K sq rq : Nat} {boot : Int} {x : CfgAt} {P : Ql}
theorem recv_b (h : PQAt W w E pb mb rb bb br N D boot x (K) (P) sq rq) (hK : K ≤ 90000) (hok : (playQ N D boot P).2 = true)  : Calls Tryz.prog 31 #[.pointer (some ⟨pb, 0, none⟩)] w fun e w' => e = .returned (.bool true) ∧ ∃ rq', PQAt W w' E pb mb rb bb br N D boot x (K + 1) ((playQ N D boot P).1) sq rq' ∧ Only (fun k => (¬ E k ∨ k = pb) ∧ W.heap.size ≤ k) w w' := by
  cases hs : P.r with
  | none => exact recvN_b h hK hok hs
  | some s => exact recvS_b h hK hok hs
end
end Go.Proofs.YtfdgokkngejbhaaGreat
end
