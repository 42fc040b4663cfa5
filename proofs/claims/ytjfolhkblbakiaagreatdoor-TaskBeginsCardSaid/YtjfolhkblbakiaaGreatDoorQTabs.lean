/- Texts of the ring, joined, what is used of them. No condition but those in the statements. -/
import Derived.Test.YtjfolhkblbakiaaGreatDoorQgT
namespace Go.Proofs.YtjfolhkblbakiaaGreatDoor
open Go.RowKit Go.Sort
set_option linter.unusedVariables false
set_option linter.unusedSimpArgs false
set_option linter.unusedVariables false
set_option linter.unusedSimpArgs false
def tabL:List ByteArray:=[⟨#[99,114,101,97,116,101]⟩,⟨#[110,111,114,109,97,108]⟩,⟨#[119,114,105,116,101]⟩,⟨#[114,101,97,100]⟩,⟨#[115,101,110,100]⟩,⟨#[114,101,99,101,105,118,101]⟩,⟨#[115,116,97,116,117,115]⟩,⟨#[112,101,101,107]⟩,⟨#[112,111,107,101]⟩]
/-- The table holds its texts. -/
def TabsAt (w:World):Prop:=0 < w.heap.size ∧ ∀ i (h:i < 9),w.cell? ⟨0,i,none⟩ = some (.string (tabL.getD i ⟨#[]⟩))
theorem TabsAt.later {w w':World} (h:TabsAt w) (hb:Below w.heap.size w w'):TabsAt w':=⟨Nat.lt_of_lt_of_le h.1 hb.size,fun i hi => (hb.cell (p:=⟨0,i,none⟩) h.1).trans (h.2 i hi)⟩
end Go.Proofs.YtjfolhkblbakiaaGreatDoor
