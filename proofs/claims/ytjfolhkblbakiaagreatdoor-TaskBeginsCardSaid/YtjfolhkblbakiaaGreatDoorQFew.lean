/- Texts of the ring, joined, what is used of them. No condition but those in the statements. -/
import Derived.Test.YtjfolhkblbakiaaGreatDoorProg
import Derived.Test.YtjfolhkblbakiaaGreatDoorQgB
import Derived.Test.YtjfolhkblbakiaaGreatDoorQgT
namespace Go.Proofs.YtjfolhkblbakiaaGreatDoor
open Go.RowKit Go.Sort Go.ChangeShapes Go.WideShapes
set_option linter.unusedVariables false
set_option linter.unusedSimpArgs false
def icells (xs:List Int):List Value:=xs.map (Value.int .i64)
theorem icells_app (a b:List Int):icells (a ++ b) = icells a ++ icells b:=by simp [icells]
/-- A call that hands back a new list of integers,and turns nothing that was there. -/
def GivesNums (w:World) (xs:List Int) (e:Ending) (w':World):Prop:=∃ v,e = .returned v ∧ OwnsOff w' w.heap.size 3 1 v xs.length (icells xs) ∧ Below w.heap.size w w'
theorem news_new (w:World) (cs:Array Value) (t:TypeId):∀ j u,cs.toList[j]? = some u → (w.alloc (.cells cs t)).cell? ((⟨w.heap.size,0,none⟩:Addr).add j) = some u:=fun j u hu => by
  rw [Addr.add_lit,Nat.zero_add]
  exact cell_blk (heap_alloc_new w _) (by simpa using hu)
theorem Tryz.infoI:(Tryz.prog.info? 3).map (fun i => (i.zero,i.size,i.bytes)) = some (some (.int .i64 0),1,8):=by kernel_rfl
/-- Few rows. -/
def CfgFew (c:Cfg):Prop:=c.parts.length ≤ 1000000 ∧ c.chans.length ≤ 1000000 ∧ c.win0.length ≤ 1000000 ∧ c.win1.length ≤ 1000000
end Go.Proofs.YtjfolhkblbakiaaGreatDoor
