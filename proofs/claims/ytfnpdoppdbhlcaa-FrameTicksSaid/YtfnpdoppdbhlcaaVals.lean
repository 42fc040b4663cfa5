/- Pairs by their two values. No condition but those in the statements. -/
import Derived.Test.YtfnpdoppdbhlcaaNext
import Derived.Test.YtfnpdoppdbhlcaaRNext
import Derived.BigQuiet
import Derived.IntWalk
import Derived.BigRegion
import Derived.OpenShut
namespace Go.Proofs.Ytfnpdoppdbhlcaa
open Go.RowKit Go.Sort Go.ChangeShapes Go.WideShapes
set_option linter.unusedVariables false
set_option linter.unusedSimpArgs false

theorem at_open_v (len : Int) (l : List (List Int)) (A : Option Addr) (c : Nat) (t : Int) (x : Int) (q : Bool) (w : World) (hf : FIn w len l A) (h0 : (atO openB len l t).getD 0 = x) (h1 : (atO openB len l t).isSome = q) : Calls Try.prog 9 #[.agg #[.int .i64 len, .slice A l.length c], .int .i64 t] w fun e w' => e = .returned (.tuple #[.int .i64 x, .bool q]) ∧ Below w.heap.size w w' := by
  subst h0 h1
  exact at_open_b len l A c t w hf
theorem at_ent_v (len : Int) (l : List (List Int)) (A : Option Addr) (c : Nat) (t : Int) (x : Int) (q : Bool) (w : World) (hf : FIn w len l A) (h0 : (atO entB len l t).getD 0 = x) (h1 : (atO entB len l t).isSome = q) : Calls Try.prog 10 #[.agg #[.int .i64 len, .slice A l.length c], .int .i64 t] w fun e w' => e = .returned (.tuple #[.int .i64 x, .bool q]) ∧ Below w.heap.size w w' := by
  subst h0 h1
  exact at_ent_b len l A c t w hf
theorem rat_v (len : Int) (l : List (List Int)) (A : Option Addr) (c : Nat) (t : Int) (x : Int) (q : Bool) (w : World) (hf : FIn w len l A) (h0 : (atO openB len l t).getD 0 = x) (h1 : (atO openB len l t).isSome = q) : Calls Try.prog 11 #[.agg #[.int .i64 len, .slice A l.length c], .int .i64 t] w fun e w' => e = .returned (.tuple #[.int .i64 x, .bool q]) ∧ Below w.heap.size w w' := by
  subst h0 h1
  exact rat_b len l A c t w hf
theorem renters_v (len : Int) (l : List (List Int)) (A : Option Addr) (c : Nat) (t : Int) (x : Int) (q : Bool) (w : World) (hf : FIn w len l A) (h0 : (atO entB len l t).getD 0 = x) (h1 : (atO entB len l t).isSome = q) : Calls Try.prog 12 #[.agg #[.int .i64 len, .slice A l.length c], .int .i64 t] w fun e w' => e = .returned (.tuple #[.int .i64 x, .bool q]) ∧ Below w.heap.size w w' := by
  subst h0 h1
  exact renters_b len l A c t w hf
theorem rat_no (len : Int) (l : List (List Int)) (A : Option Addr) (c : Nat) (t : Int) (w : World) (hf : FIn w len l A)  (h : atO openB len l t = none) : Calls Try.prog 11 #[.agg #[.int .i64 len, .slice A l.length c], .int .i64 t] w fun e w' => e = .returned (.tuple #[.int .i64 0, .bool false]) ∧ Below w.heap.size w w' := by
  have := rat_b len l A c t w hf
  rwa [h] at this
theorem rat_yes (len : Int) (l : List (List Int)) (A : Option Addr) (c : Nat) (t : Int) (q : Int) (w : World) (hf : FIn w len l A)  (h : atO openB len l t = some q) : Calls Try.prog 11 #[.agg #[.int .i64 len, .slice A l.length c], .int .i64 t] w fun e w' => e = .returned (.tuple #[.int .i64 q, .bool true]) ∧ Below w.heap.size w w' := by
  have := rat_b len l A c t w hf
  rwa [h] at this
theorem renters_no (len : Int) (l : List (List Int)) (A : Option Addr) (c : Nat) (t : Int) (w : World) (hf : FIn w len l A)  (h : atO entB len l t = none) : Calls Try.prog 12 #[.agg #[.int .i64 len, .slice A l.length c], .int .i64 t] w fun e w' => e = .returned (.tuple #[.int .i64 0, .bool false]) ∧ Below w.heap.size w w' := by
  have := renters_b len l A c t w hf
  rwa [h] at this
theorem renters_yes (len : Int) (l : List (List Int)) (A : Option Addr) (c : Nat) (t : Int) (q : Int) (w : World) (hf : FIn w len l A)  (h : atO entB len l t = some q) : Calls Try.prog 12 #[.agg #[.int .i64 len, .slice A l.length c], .int .i64 t] w fun e w' => e = .returned (.tuple #[.int .i64 q, .bool true]) ∧ Below w.heap.size w w' := by
  have := renters_b len l A c t w hf
  rwa [h] at this
theorem next_no (len : Int) (l : List (List Int)) (A : Option Addr) (c : Nat) (part t : Int) (w : World) (hf : FIn w len l A)  (h : nextO len l part t = none) : Calls Try.prog 15 #[.agg #[.int .i64 len, .slice A l.length c], .int .i64 part, .int .i64 t] w fun e w' => e = .returned (.tuple #[.int .i64 0, .bool false]) ∧ Below w.heap.size w w' := by
  have := next_b len l A c part t w hf
  rwa [h] at this
theorem next_yes (len : Int) (l : List (List Int)) (A : Option Addr) (c : Nat) (part t : Int) (q : Int) (w : World) (hf : FIn w len l A)  (h : nextO len l part t = some q) : Calls Try.prog 15 #[.agg #[.int .i64 len, .slice A l.length c], .int .i64 part, .int .i64 t] w fun e w' => e = .returned (.tuple #[.int .i64 q, .bool true]) ∧ Below w.heap.size w w' := by
  have := next_b len l A c part t w hf
  rwa [h] at this
theorem rnext_no (len : Int) (l : List (List Int)) (A : Option Addr) (c : Nat) (part t : Int) (w : World) (hf : FIn w len l A)  (h : nextO len l part t = none) : Calls Try.prog 16 #[.agg #[.int .i64 len, .slice A l.length c], .int .i64 part, .int .i64 t] w fun e w' => e = .returned (.tuple #[.int .i64 0, .bool false]) ∧ Below w.heap.size w w' := by
  have := rnext_b len l A c part t w hf
  rwa [h] at this
theorem rnext_yes (len : Int) (l : List (List Int)) (A : Option Addr) (c : Nat) (part t : Int) (q : Int) (w : World) (hf : FIn w len l A)  (h : nextO len l part t = some q) : Calls Try.prog 16 #[.agg #[.int .i64 len, .slice A l.length c], .int .i64 part, .int .i64 t] w fun e w' => e = .returned (.tuple #[.int .i64 q, .bool true]) ∧ Below w.heap.size w w' := by
  have := rnext_b len l A c part t w hf
  rwa [h] at this
end Go.Proofs.Ytfnpdoppdbhlcaa
