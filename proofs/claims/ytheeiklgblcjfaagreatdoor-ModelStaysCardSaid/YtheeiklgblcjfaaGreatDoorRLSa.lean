/- Texts of the ring, joined, what is used of them. No condition but those in the statements. -/
import Derived.BigQuiet
import Derived.BigRegion
import Derived.Deep.MidRow
import Derived.Deep.RegionHeld3
import Derived.Deep.Slices
import Derived.Deep.Upon
import Derived.IntWalk
import Derived.Lib.SmallJoins
import Derived.Test.YtheeiklgblcjfaaGreatDoorRLSt
import Derived.Test.YtheeiklgblcjfaaGreatDoorRgb
namespace Go.Proofs.YtheeiklgblcjfaaGreatDoor
open Go.RowKit Go.Sort Go.Deep Go.ChangeShapes Go.WideShapes Go.Joins
set_option linter.unusedVariables false
set_option linter.unusedSimpArgs false
set_option linter.unusedVariables false
set_option linter.unusedSimpArgs false
set_option maxRecDepth 100000
section
variable {H:Type} {enc:TypeId × Value → H} {w:World}
theorem acts_weight {R:Nat} {a:Option Addr} {len cap:Nat} {d:DataW H} {p:List MemPlace} (h:DataW.Trod enc Tryz.prog w 0 (fun _ => true) true 30 (.slice a len cap) d p) (hR:∀ m ∈ d.weights Tryz.prog 30,m ≤ R):len * 200 ≤ R:=by
  obtain ⟨fuel,h⟩:=h
  simp only [Value.cells] at h
  rcases open_slice Tryz.underlying30 h with ⟨hcs,_⟩ | ⟨a',len',cap',m,n',D,Pl,hcs,_,hl,hm,hmm,hxx,hx⟩
  · simp at hcs
    obtain ⟨rfl,rfl,rfl⟩:=hcs
    omega
  · simp at hcs
    obtain ⟨rfl,rfl,rfl⟩:=hcs
    have hlm:len ≤ m:=by rw [hmm];split <;> omega
    have hd:d = .slice ((List.range len).map D) ((List.range (m - len)).map fun j => D (len + j)):=congrArg Prod.fst hxx
    have:=hR ((((List.range len).map D).length + ((List.range (m - len)).map fun j => D (len + j)).length) * 200) (by rw [hd];simp only [DataW.weights,Tryz.underlying30,bytesA];exact List.mem_cons_self ..)
    simp at this
    omega
theorem call_arg {r:Reach} {b0:Nat} {v:Value} {d:DataW H} {p:List MemPlace} (hv:Value.okWide Tryz.prog w r b0 44 v) (h:DataW.Trod enc Tryz.prog w 0 (fun _ => true) true 44 v d p):∃ y:CV,v = .agg (cCells y).toArray ∧ CWf y ∧ CRows w w.heap.size y:=by
  obtain ⟨cs,rfl,hsz⟩:=okWide_struct Tryz.underlying44 hv
  obtain ⟨fuel,hf⟩:=h
  obtain ⟨y,hy,hw,hr⟩:=open_call (show DataW.trod enc Tryz.prog w 0 (fun _ => true) true fuel 44 cs.toList = some (d,p) by simpa [Value.cells] using hf)
  exact ⟨y,by rw [← hy],hw,hr⟩
end
end Go.Proofs.YtheeiklgblcjfaaGreatDoor
