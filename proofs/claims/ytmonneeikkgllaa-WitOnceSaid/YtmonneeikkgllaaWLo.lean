/- WitOrder answers true. No condition but those in the statements. -/
import Derived.Test.YtmonneeikkgllaaWWk
import Derived.Test.YtmonneeikkgllaaWRd
import Derived.BigQuiet
import Derived.IntWalk
import Derived.BigRegion
import Derived.OpenShut
import Derived.Deep.MidRow
import Derived.Lib.Hide
import Derived.Deep.Slices
import Derived.Lib.SmallJoins
import Derived.OwnWalk
namespace Go.Proofs.Ytmonneeikkgllaa
open WtP Go.RowKit Go.Sort Go.Deep Go.ChangeShapes Go.WideShapes Go.Joins
set_option linter.unusedVariables false
set_option linter.unusedSimpArgs false


set_option maxRecDepth 100000 in
set_option maxHeartbeats 4000000 in
theorem lorder_b (l : List CV) (A : Option Addr) (c : Nat) (b : List BV) (B : Option Addr) (d : Nat) (w : World) (hr : CRow w w.heap.size A l) (hrb : BRow w w.heap.size B b) : Calls Try.prog 3 #[.slice A l.length c, .slice B b.length d] w fun e w' => e = .returned (.bool true) ∧ Below w.heap.size w w' := by
  have HR := Lib.hid hr; have HRB := Lib.hid hrb
  clear hr hrb
  go_enter Try.func3, Try.ntmps3
  go_wp2_with fail
  refine (wakes19_b _).mono ?_
  rintro e w1 ⟨rfl, hb1⟩
  have HB1 := Lib.hid hb1
  clear hb1
  by_cases hl : (60 : Int) < (l.length : Int)
  · go_wp2
    go_ret
    exact ⟨rfl, HB1.out⟩
  have hld : decide ((60 : Int) < (l.length : Int)) = false := decide_eq_false hl
  have hl60 : l.length ≤ 60 := by omega
  by_cases hbl : (60 : Int) < (b.length : Int)
  · go_wp2
    go_ret
    exact ⟨rfl, HB1.out⟩
  have hbld : decide ((60 : Int) < (b.length : Int)) = false := decide_eq_false hbl
  have hb60 : b.length ≤ 60 := by omega
  cases hso : soundB l with
  | false =>
    have HSO := Lib.hid hso
    clear hso
    go_wp2_with fail
    refine (rsound_q A l c false _ (HR.out.later HB1.out) hl60 HSO.out).mono ?_
    rintro e w2 ⟨rfl, hb2⟩
    have HB2 := Lib.hid (HB1.out.trans (hb2.mono HB1.out.size))
    clear hb2
    go_wp2
    go_ret
    exact ⟨rfl, HB2.out⟩
  | true =>
    have HSO := Lib.hid hso
    clear hso
    go_wp2_with fail
    refine (rsound_q A l c true _ (HR.out.later HB1.out) hl60 HSO.out).mono ?_
    rintro e w2 ⟨rfl, hb2⟩
    have HB2 := Lib.hid (HB1.out.trans (hb2.mono HB1.out.size))
    have HL60 := Lib.hid hl60; have HB60 := Lib.hid hb60
    clear hb2 hl hbl hld hbld
    go_wp2_with fail
    refine (order19_b l A c b B d _ (HR.out.later HB2.out) (HRB.out.later HB2.out) HL60.out HB60.out).mono ?_
    rintro e w3 ⟨v3, rfl, hown3, hb3⟩
    obtain ⟨L, hL⟩ : ∃ L, witS l b = L := ⟨_, rfl⟩
    have hLL := witS_len l b HL60.out HB60.out
    have HRO := Lib.hid (fun (u : World) (h : Below w.heap.size w u) => rorder_b l A c b B d u (HR.out.later h) (HRB.out.later h) HL60.out HB60.out HSO.out)
    rw [hL] at hown3 hLL HRO
    obtain ⟨A3, c3, rfl, -, -, hi3⟩ := own_irow hown3 rfl
    have HLL := Lib.hid hLL
    have HB3 := Lib.hid (HB2.out.trans (hb3.mono HB2.out.size))
    have HI3 := Lib.hid hi3
    clear hown3 hb3 hi3 hL hLL
    go_wp2_with fail
    refine (HRO.out _ HB3.out).mono ?_
    rintro e w4 ⟨v4, rfl, hown4, hb4⟩
    obtain ⟨A4, c4, rfl, -, -, ht4⟩ := own_trow hown4 rfl
    have HB4 := Lib.hid (HB3.out.trans (hb4.mono HB3.out.size))
    have HI4 := Lib.hid (HI3.out.later hb4)
    have HT4 := Lib.hid ht4
    clear hown4 hb4 ht4
    go_wp2_with fail
    refine (items_b L A4 c4 _ HT4.out (by have := HLL.out; omega)).mono ?_
    rintro e w5 ⟨v5, rfl, hown5, hb5⟩
    obtain ⟨A5, c5, rfl, -, -, hi5⟩ := own_irow hown5 rfl
    have HB5 := Lib.hid (HB4.out.trans (hb5.mono HB4.out.size))
    have HI5 := Lib.hid (HI4.out.later hb5)
    have HJ5 := Lib.hid hi5
    clear hown5 hb5 hi5
    go_wp2_with fail
    refine (same19_b L A3 A5 c3 c5 _ HI5.out HJ5.out (by have := HLL.out; omega)).mono ?_
    rintro e w6 ⟨rfl, hb6⟩
    have HB6 := Lib.hid (HB5.out.trans (hb6.mono HB5.out.size))
    clear hb6
    go_wp2
    go_ret
    exact ⟨rfl, HB6.out⟩
end Go.Proofs.Ytmonneeikkgllaa
