/- Texts of the ring, joined, what is used of them. No condition but those in the statements. -/
import Derived.BigQuiet
import Derived.BigRegion
import Derived.Deep.MidRow
import Derived.Deep.RegionHeld3
import Derived.Deep.Upon
import Derived.IntWalk
import Derived.Laws.EntriesVeiled
import Derived.Shelf.Abstract
import Derived.Test.YtfdgokkngejbhaaGreatQGD
import Derived.Test.YtfdgokkngejbhaaGreatQLK
namespace Go.Proofs.YtfdgokkngejbhaaGreat
open Go.RowKit Go.Sort
set_option linter.unusedVariables false
set_option linter.unusedSimpArgs false
set_option linter.unusedVariables false
set_option linter.unusedSimpArgs false
open Go.Proofs.YtfdgokkngejbhaaGreat.Simp
set_option maxRecDepth 100000
set_option maxHeartbeats 3200000
theorem blk_put {W : World} {a o : Nat} {cs cs' : Array Value} {v : Value} {t : TypeId} {m : Nat × Nat} (h : W.heap[a]? = some (.cells cs t m)) (e : cs.setIfInBounds o v = cs') : (W.setCell ⟨a, o, none⟩ v).heap[a]? = some (.cells cs' t m) := by
  subst e; simp [World.setCell, Array.getElem?_modify, h]
end Go.Proofs.YtfdgokkngejbhaaGreat
