/- RawOnes at whatever words and number. No condition but those in the statements. -/
import Derived.Test.YtajhfijpbfikkaaLOnes
import Derived.OpenShut
namespace Go.Proofs.Ytajhfijpbfikkaa
open Go.RowKit Go.Sort Go.ChangeShapes Go.WideShapes

theorem ones_all (xs : List Int) (A : Option Addr) (c : Nat) (q : Int) (w : World) (h1 : xs.length ≤ c) (h2 : c ≤ maxLen) (h4 : A = none → xs = []) (h3 : IntRowK .u32 w w.heap.size A xs) (hq : (Lit.int .u8 q).wf = true) :
    Calls Try.prog 6 #[.slice A xs.length c, .int .u8 q] w fun e w' => e = .returned (.bool true) ∧ Below w.heap.size w w' := by
  obtain ⟨q0, q1⟩ := bounds_u8 hq
  by_cases h : 300 < xs.length
  · exact ones_big xs A c q w h
  obtain ⟨k, rfl⟩ := Int.eq_ofNat_of_zero_le q0
  by_cases hk : k ≤ xs.length
  · exact ones_in xs A c k w (by omega) hk h1 h2 h3 h4 (by omega)
  · exact ones_short xs A c k w (by omega) (by omega) h1 h2 h3 h4 (by omega)
end Go.Proofs.Ytajhfijpbfikkaa
