/- Sound calls, in plain data; the program's Sound, as a contract. No condition but those in the statements. -/
import Derived.Test.YtmonneeikkgllaaHMp
import Derived.BigQuiet
import Derived.IntWalk
import Derived.BigRegion
import Derived.OpenShut
import Derived.Deep.MidRow
import Derived.Maps.OwnSet
import Derived.Maps.OwnOps
namespace Go.Proofs.Ytmonneeikkgllaa
open Go.RowKit Go.Sort Go.ChangeShapes Go.WideShapes
set_option linter.unusedVariables false
set_option linter.unusedSimpArgs false


/-- Does From rise at place i? -/
def riseB (l : List CV) (i : Nat) (x : CV) : Bool := match i with | 0 => true | j + 1 => (match l[j]? with | some y => decide (y.frm < x.frm) | none => true)
def okB (l : List CV) (i : Nat) : Bool := match l[i]? with | some x => riseB l i x && oneB x && sawB l x && followsB l i x | none => true
/-- Are calls sound? -/
def soundB (l : List CV) : Bool := (List.range l.length).all (okB l)
def OkUp (l : List CV) (i : Nat) : Prop := ∀ j, j < i → okB l j = true
theorem okB_at {l : List CV} {i : Nat} {x : CV} (h : l[i]? = some x) : okB l i = (riseB l i x && oneB x && sawB l x && followsB l i x) := by unfold okB; simp only [h]
theorem sound_bad {l : List CV} {i : Nat} (hi : i < l.length) (h : okB l i = false) : soundB l = false := by
  unfold soundB
  rw [List.all_eq_false]
  exact ⟨i, List.mem_range.2 hi, by rw [h]; decide⟩
theorem sound_all {l : List CV} (h : OkUp l l.length) : soundB l = true := by
  unfold soundB
  rw [List.all_eq_true]
  exact fun i hi => h i (List.mem_range.1 hi)
theorem sound_up {l : List CV} (h : soundB l = true) : OkUp l l.length := by
  unfold soundB at h
  rw [List.all_eq_true] at h
  exact fun i hi => h i (List.mem_range.2 hi)
theorem OkUp.next {l : List CV} {i : Nat} (h : OkUp l i) (hi : okB l i = true) : OkUp l (i + 1) := fun j hj => by
  by_cases e : j = i
  · subst e; exact hi
  · exact h j (by omega)
end Go.Proofs.Ytmonneeikkgllaa
