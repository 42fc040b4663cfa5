/- Texts of the ring, joined, what is used of them. No condition but those in the statements. -/
import Derived.BigQuiet
import Derived.BigRegion
import Derived.ChangeSlices
import Derived.Deep.Grids
import Derived.Deep.MidRow
import Derived.Deep.RegionHeld3
import Derived.Deep.Upon
import Derived.IntWalk
import Derived.ProofKit
import Derived.Shelf.Abstract
import Derived.Test.YtmhpcgcloojfbaaGreatQRWk
import Derived.Test.YtmhpcgcloojfbaaGreatQgG
import Derived.Test.YtmhpcgcloojfbaaGreatQgN
section
namespace Go.Proofs.YtmhpcgcloojfbaaGreat
open Go.RowKit Go.Sort
set_option linter.unusedVariables false
set_option linter.unusedSimpArgs false
set_option linter.unusedVariables false
set_option linter.unusedSimpArgs false
open Go.Proofs.YtmhpcgcloojfbaaGreat.Simp
open Go.ChangeShapes Go.WideShapes Go.Deep
set_option maxRecDepth 100000
set_option maxHeartbeats 1600000
theorem u32_inQ {n:Int} (h:(Lit.int .u32 n).wf = true):0 ≤ n ∧ n ≤ 4294967295:=by
  simp [Lit.wf,IntKind.min,IntKind.max,IntKind.signed,IntKind.bits] at h;omega
theorem PQAt.more {W w w':World} {E:Nat → Prop} {pb mb rb bb br N D K sq rq:Nat} {boot:Int} {x:CfgAt} {P:Ql} (h:PQAt W w E pb mb rb bb br N D boot x (K) (P) sq rq):PQAt W w E pb mb rb bb br N D boot x (K + 1) (P) sq rq:=by
  obtain ⟨h1,h2,h3,h4,h5,⟨l1,l2,l3,l4,l5,l6,l7,l8,l9,l10⟩,h7⟩:=h
  exact ⟨h1,h2,h3,h4,h5,⟨l1,by omega,l3,by omega,l5,by omega,l7,by omega,l9,by omega⟩,h7⟩
end Go.Proofs.YtmhpcgcloojfbaaGreat
end
section
namespace Go.Proofs.YtmhpcgcloojfbaaGreat
open Go.RowKit Go.Sort
set_option linter.unusedVariables false
set_option linter.unusedSimpArgs false
set_option linter.unusedVariables false
set_option linter.unusedSimpArgs false
open Go.Proofs.YtmhpcgcloojfbaaGreat.Simp
set_option maxRecDepth 100000
set_option maxHeartbeats 12800000
section
variable {W w w':World} {E:Nat → Prop} {pb mb rb bb br N D K sq rq:Nat} {boot:Int} {x:CfgAt} {P:Ql}
theorem PQAt.later (h:PQAt W w E pb mb rb bb br N D boot x (K) (P) sq rq) (hb:Below w.heap.size w w'):PQAt W w' E pb mb rb bb br N D boot x (K) (P) sq rq:=by
  obtain ⟨bs,hq,h1,h2⟩:=h.quo
  exact ⟨(hb.block pb h.lt).trans h.blk,⟨bs,hq.later hb,h1,h2⟩,h.pe,h.cfg,h.nn,h.lim,h.u32⟩
end
end Go.Proofs.YtmhpcgcloojfbaaGreat
end
