/- RawReads at whatever words and numbers. No condition but those in the statements. -/
import Derived.Test.YtajhfijpbfikkaaLReads
namespace Go.Proofs.Ytajhfijpbfikkaa
open Go.RowKit Go.Sort

theorem reads_all (xs l : List Int) (A AL : Option Addr) (c cl : Nat) (w : World) (h1 : xs.length ≤ c) (h4 : A = none → xs = []) (h3 : IntRowK .u32 w w.heap.size A xs)
    (hL : IntRowK .i64 w w.heap.size AL l) : Calls Try.prog 3 #[.slice A xs.length c, .slice AL l.length cl] w fun e w' => e = .returned (.bool true) ∧ Below w.heap.size w w' := by
  by_cases h : 200 < xs.length ∨ 100 < l.length
  · exact reads_big xs l A AL c cl w h
  · exact reads_in xs l A AL c cl w (by omega) (by omega) h1 h4 h3 hL
end Go.Proofs.Ytajhfijpbfikkaa
