/- Texts of the ring, joined, what is used of them. No condition but those in the statements. -/
import Derived.BigQuiet
import Derived.BigRegion
import Derived.Deep.MidRow
import Derived.Deep.RegionHeld3
import Derived.Deep.Upon
import Derived.IntWalk
import Derived.Laws.EntriesVeiled
import Derived.Shelf.Abstract
import Derived.Test.YtmhpcgcloojfbaaGreatQLK
import Derived.Test.YtmhpcgcloojfbaaGreatQOffB
import Derived.Test.YtmhpcgcloojfbaaGreatQgA
import Derived.Test.YtmhpcgcloojfbaaGreatQgD
section
namespace Go.Proofs.YtmhpcgcloojfbaaGreat
open Go.RowKit Go.Sort
set_option linter.unusedVariables false
set_option linter.unusedSimpArgs false
set_option linter.unusedVariables false
set_option linter.unusedSimpArgs false
open Go.Proofs.YtmhpcgcloojfbaaGreat.Simp (oddN)
set_option maxRecDepth 100000
set_option maxHeartbeats 3200000
/-- The block's cells when values have been stored from place o on. -/
def wr11 (cs:Array Value) (o:Nat):List Value → Array Value
  | [] => cs
  | v :: r => wr11 (cs.setIfInBounds o v) (o + 1) r
theorem blk_sets {b:Nat} {ty:TypeId} {m:Nat × Nat}:∀ (vs:List Value) (o:Nat) (X:World) (cs:Array Value),X.heap[b]? = some (.cells cs ty m) → (X.setCells b o vs).heap[b]? = some (.cells (wr11 cs o vs) ty m)
  | [],_,_,_,h => h
  | v :: r,o,X,cs,h => blk_sets r (o + 1) _ _ (by simp [World.setCell,Array.getElem?_modify,h])
theorem blk_did {X:World} {b:Nat} (h:X.heap[b]? = some (.cells (didV false 0 (.slice none 0 0) false false false 0) 56 (0,0))) (cs:List Value) (hc:cs.length = 9):(X.setCells b 0 cs).heap[b]? = some (.cells cs.toArray 56 (0,0)):=by
  match cs,hc with
  | [a0,a1,a2,a3,a4,a5,a6,a7,a8],_ =>
    have e:wr11 (didV false 0 (.slice none 0 0) false false false 0) 0 [a0,a1,a2,a3,a4,a5,a6,a7,a8] = #[a0,a1,a2,a3,a4,a5,a6,a7,a8]:=by kernel_rfl
    have q:=blk_sets [a0,a1,a2,a3,a4,a5,a6,a7,a8] 0 X (didV false 0 (.slice none 0 0) false false false 0) h
    rw [e] at q
    exact q
end Go.Proofs.YtmhpcgcloojfbaaGreat
end
section
namespace Go.Proofs.YtmhpcgcloojfbaaGreat
open Go.RowKit Go.Sort
set_option linter.unusedVariables false
set_option linter.unusedSimpArgs false
set_option linter.unusedVariables false
set_option linter.unusedSimpArgs false
open Go.Proofs.YtmhpcgcloojfbaaGreat.Simp
set_option maxRecDepth 100000
set_option maxHeartbeats 3200000
theorem cell_of_blk {w w':World} {b o:Nat} {v:Value} (h:w.cell? ⟨b,o,none⟩ = some v) (e:w'.heap[b]? = w.heap[b]?):w'.cell? ⟨b,o,none⟩ = some v:=by
  unfold World.cell? at h ⊢;rw [e];exact h
end Go.Proofs.YtmhpcgcloojfbaaGreat
end
section
namespace Go.Proofs.YtmhpcgcloojfbaaGreat
open Go.RowKit Go.Sort
set_option linter.unusedVariables false
set_option linter.unusedSimpArgs false
set_option linter.unusedVariables false
set_option linter.unusedSimpArgs false
open Go.Proofs.YtmhpcgcloojfbaaGreat.Simp
set_option maxRecDepth 100000
set_option maxHeartbeats 3200000
theorem blk_put {W:World} {a o:Nat} {cs cs':Array Value} {v:Value} {t:TypeId} {m:Nat × Nat} (h:W.heap[a]? = some (.cells cs t m)) (e:cs.setIfInBounds o v = cs'):(W.setCell ⟨a,o,none⟩ v).heap[a]? = some (.cells cs' t m):=by
  subst e;simp [World.setCell,Array.getElem?_modify,h]
theorem run_span0 (a b:Int) (w:World):(Instr.field 117 (.agg #[.int .i64 a,.int .i64 b]) 0).run Tryz.prog w = .ok (.int .i64 a) w:=by kernel_rfl
end Go.Proofs.YtmhpcgcloojfbaaGreat
end
