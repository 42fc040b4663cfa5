/- HistPlace answers true. No condition but those in the statements. -/
import Derived.Test.YtjhfkpimejaboaaHPl
import Derived.BigQuiet
import Derived.IntWalk
import Derived.BigRegion
import Derived.OpenShut
import Derived.Deep.MidRow
import Derived.Laws.StructEq
namespace Go.Proofs.Ytjhfkpimejaboaa
open Go.RowKit Go.Sort Go.ChangeShapes Go.WideShapes
set_option linter.unusedVariables false
set_option linter.unusedSimpArgs false


set_option maxRecDepth 100000 in
set_option maxHeartbeats 4000000 in
theorem lplace_b (A : Option Addr) (l : List CV) (c : Nat) (i : Int) (w : World) (hr : CRow w w.heap.size A l) : Calls Try.prog 5 #[.slice A l.length c, .int .i64 i] w fun e w' => e = .returned (.bool true) ∧ Below w.heap.size w w' := by
  have HR := Lib.hid hr
  clear hr
  go_enter Try.func5, Try.ntmps5
  go_wp2_with fail
  refine (wakes_b _).mono ?_
  rintro e w1 ⟨rfl, hb1⟩
  have HB1 := Lib.hid hb1
  clear hb1
  by_cases hl : (60 : Int) < (l.length : Int)
  · go_wp2
    go_ret
    exact ⟨rfl, HB1.out⟩
  have hld : decide ((60 : Int) < (l.length : Int)) = false := decide_eq_false hl
  have hl60 : l.length ≤ 60 := by omega
  cases hso : soundB l with
  | false =>
    have HSO := Lib.hid hso
    clear hso
    go_wp2_with fail
    refine (rsound_q A l c false _ (HR.out.later HB1.out) hl60 HSO.out).mono ?_
    rintro e w2 ⟨rfl, hb2⟩
    have HB2 := Lib.hid (HB1.out.trans (hb2.mono HB1.out.size))
    clear hb2
    go_wp2
    go_ret
    exact ⟨rfl, HB2.out⟩
  | true =>
    have HSO := Lib.hid hso
    clear hso
    go_wp2_with fail
    refine (rsound_q A l c true _ (HR.out.later HB1.out) hl60 HSO.out).mono ?_
    rintro e w2 ⟨rfl, hb2⟩
    have HB2 := Lib.hid (HB1.out.trans (hb2.mono HB1.out.size))
    clear hb2 hl hld
    cases hp : placeB l.length i with
    | false =>
      have HP := Lib.hid hp
      have hpn := of_decide_eq_false hp
      clear hp
      go_wp2_with fail
      refine (place_out A l c i _ HP.out).mono ?_
      rintro e w3 ⟨rfl, hb3⟩
      have HB3 := Lib.hid (HB2.out.trans (hb3.mono HB2.out.size))
      clear hb3
      by_cases h1 : i < 0
      · clear hpn
        go_wp2
        go_ret
        exact ⟨rfl, HB3.out⟩
      · have h2 : (l.length : Int) ≤ i := by omega
        have h1d : decide (i < 0) = false := decide_eq_false h1
        clear hpn
        go_wp2
        go_ret
        exact ⟨rfl, HB3.out⟩
    | true =>
      obtain ⟨k, hk, hkl⟩ := placeB_true hp
      subst hk
      obtain ⟨x, hx⟩ : ∃ x, l[k]? = some x := ⟨_, List.getElem?_eq_getElem hkl⟩
      have HX := Lib.hid hx
      obtain ⟨-, -, -, hsw, -⟩ := ok_parts hx (sound_up HSO.out k hkl)
      have HSW := Lib.hid hsw
      obtain ⟨a, p, q, ha⟩ : ∃ a p q, spotN l x = (a, p, q) := ⟨_, _, _, rfl⟩
      have HA := Lib.hid ha
      have hkd : decide ((l.length : Int) ≤ (k : Int)) = false := decide_eq_false (by omega)
      clear hp hx hsw ha
      go_wp2_with fail
      refine (place_b A l c k x a p q _ (HR.out.later HB2.out) HX.out HA.out).mono ?_
      rintro e w3 ⟨rfl, hb3⟩
      have HB3 := Lib.hid (HB2.out.trans (hb3.mono HB2.out.size))
      clear hb3
      go_wp2_with fail
      refine (rplace_b A l c k x a p q _ (HR.out.later HB3.out) HX.out HSW.out HA.out).mono ?_
      rintro e w4 ⟨rfl, hb4⟩
      have HB4 := Lib.hid (HB3.out.trans (hb4.mono HB3.out.size))
      clear hb4
      go_wp2
      go_ret
      exact ⟨by simp, HB4.out⟩
end Go.Proofs.Ytjhfkpimejaboaa
