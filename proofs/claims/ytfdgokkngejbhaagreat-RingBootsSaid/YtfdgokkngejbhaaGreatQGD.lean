/- Texts of the ring, joined, what is used of them. No condition but those in the statements. -/
import Derived.BigQuiet
import Derived.BigRegion
import Derived.Deep.MidRow
import Derived.Deep.RegionHeld3
import Derived.Deep.Upon
import Derived.IntWalk
import Derived.Shelf.Abstract
import Derived.Test.YtfdgokkngejbhaaGreatQGC
import Derived.Test.YtfdgokkngejbhaaGreatQgA
import Derived.Test.YtfdgokkngejbhaaGreatQgD
namespace Go.Proofs.YtfdgokkngejbhaaGreat
open Go.RowKit Go.Sort
set_option linter.unusedVariables false
set_option linter.unusedSimpArgs false
set_option linter.unusedVariables false
set_option linter.unusedSimpArgs false
open Go.Proofs.YtfdgokkngejbhaaGreat.Simp
set_option maxRecDepth 100000
set_option maxHeartbeats 3200000
theorem cell_of_blk {w w' : World} {b o : Nat} {v : Value} (h : w.cell? ⟨b, o, none⟩ = some v) (e : w'.heap[b]? = w.heap[b]?) : w'.cell? ⟨b, o, none⟩ = some v := by
  unfold World.cell? at h ⊢; rw [e]; exact h
end Go.Proofs.YtfdgokkngejbhaaGreat
namespace Go.Proofs.YtfdgokkngejbhaaGreat
open Go.RowKit Go.Sort
set_option linter.unusedVariables false
set_option linter.unusedSimpArgs false
set_option linter.unusedVariables false
set_option linter.unusedSimpArgs false
open Go.Proofs.YtfdgokkngejbhaaGreat.Simp
set_option maxRecDepth 100000
set_option maxHeartbeats 3200000
theorem own_over {w w' : World} {v : Value} {n : Nat} {xs : List Value} (ho : OwnsOff w 0 34 1 v n xs) (hk : ∀ g, v.ownBlock = some g → ∀ o, w.heap[g]? = some o → w'.heap[g]? = some o) : OwnsOff w' 0 34 1 v n xs := by
  refine ⟨ho.1, ?_⟩
  rcases ho.2 with hn | ⟨g, off, cap, cur, rfl, hb, hg, rest⟩
  · exact .inl hn
  · exact .inr ⟨g, off, cap, cur, rfl, hb, hk _ rfl _ hg, rest⟩
end Go.Proofs.YtfdgokkngejbhaaGreat
