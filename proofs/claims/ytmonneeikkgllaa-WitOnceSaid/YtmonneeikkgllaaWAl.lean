/- wit.All, as a contract. No condition but those in the statements. -/
import Derived.Test.YtmonneeikkgllaaWCo
import Derived.BigQuiet
import Derived.IntWalk
import Derived.BigRegion
import Derived.OpenShut
import Derived.Deep.MidRow
import Derived.Lib.Hide
import Derived.Deep.Slices
import Derived.Lib.SmallJoins
import Derived.OwnWalk
namespace Go.Proofs.Ytmonneeikkgllaa
open WtP Go.RowKit Go.Sort Go.Deep Go.ChangeShapes Go.WideShapes Go.Joins
set_option linter.unusedVariables false
set_option linter.unusedSimpArgs false


/-- The items in their order. -/
def witS (l : List CV) (b : List BV) : List T4 := ordS (allP (spL l) (rgL l) (btL b) l.length b.length)
theorem witS_len (l : List CV) (b : List BV) (hl : l.length ≤ 60) (hlb : b.length ≤ 60) : (witS l b).length ≤ 180 := by
  have := len_allP (sp := spL l) (rg := rgL l) (bt := btL b) l.length b.length
  unfold witS
  rw [ordS_len]
  omega
/-- What All hands back: its closure, over a box that holds the row. -/
def GivesAll (w : World) (L : List T4) (e : Ending) (w' : World) : Prop := ∃ p A c, e = .returned (.func (.func 25) #[] #[.pointer (some ⟨p, 0, none⟩)]) ∧ w.heap.size ≤ p ∧ w'.heap[p]? = some (.cells #[.slice A L.length c] 61 (0, 0)) ∧ TRow w' w'.heap.size A L ∧ Below w.heap.size w w' ∧ ∀ a, A = some a → w.heap.size ≤ a.block ∧ a.block < w'.heap.size
set_option maxRecDepth 100000 in
set_option maxHeartbeats 4000000 in
theorem all19_b (l : List CV) (A : Option Addr) (c : Nat) (b : List BV) (B : Option Addr) (d : Nat) (w : World) (hr : CRow w w.heap.size A l) (hrb : BRow w w.heap.size B b) (hl : l.length ≤ 60) (hlb : b.length ≤ 60) : Calls Try.prog 12 #[.slice A l.length c, .slice B b.length d] w (GivesAll w (witS l b)) := by
  have HR := Lib.hid hr; have HRB := Lib.hid hrb
  clear hr hrb
  obtain ⟨xs, hxs⟩ : ∃ xs, upN (both (spL l) (rgL l)) l.length = xs := ⟨_, rfl⟩
  obtain ⟨ys, hys⟩ : ∃ ys, upN (dels (btL b)) b.length = ys := ⟨_, rfl⟩
  have hlx : xs.length ≤ 120 := by
    rw [← hxs]
    have := len_upN (f := both (spL l) (rgL l)) (c := 2) (fun i => by unfold both effs rngs; rw [List.length_append]; split <;> split <;> simp) l.length
    omega
  have hly : ys.length ≤ 60 := by
    rw [← hys]
    have := len_upN (f := dels (btL b)) (c := 1) (fun i => Nat.le_refl _) b.length
    omega
  have HS := Lib.hid (show allP (spL l) (rgL l) (btL b) l.length b.length = xs ++ ys by unfold allP; rw [hxs, hys])
  have HPOS := Lib.hid (show Pos (xs ++ ys) by rw [← HS.out]; exact pos_allP _ _)
  have HLX := Lib.hid hlx; have HLY := Lib.hid hly
  have HCA := Lib.hid (fun (u : World) (h : CRow u u.heap.size A l) => by
    have := ofCalls_b A l c u h hl
    rwa [hxs] at this)
  have HCB := Lib.hid (fun (u : World) (h : BRow u u.heap.size B b) => by
    have := ofBells_b B b d u h hlb
    rwa [hys] at this)
  clear hxs hys hlx hly
  go_enter Try.func12, Try.ntmps12
  go_wp2_with fail
  refine (HCA.out _ HR.out).mono ?_
  rintro e w1 ⟨v1, rfl, hown1, hb1⟩
  obtain ⟨A1, c1, rfl, h11, h12, ht1⟩ := own_trow hown1 rfl
  have HO1 := Lib.hid hown1; have HB1 := Lib.hid hb1; have HT1 := Lib.hid ht1
  clear hown1 hb1 ht1
  go_wp2_with fail
  refine (HCB.out _ (HRB.out.later HB1.out)).mono ?_
  rintro e w2 ⟨v2, rfl, hown2, hb2⟩
  obtain ⟨A2, c2, rfl, h21, h22, ht2⟩ := own_trow hown2 rfl
  have N1 := Lib.hid (own_nil19 HO1.out rfl)
  have N2 := Lib.hid (own_nil19 hown2 rfl)
  have HB2 := Lib.hid (HB1.out.trans (hb2.mono HB1.out.size))
  obtain ⟨W, HW⟩ : ∃ u, Hid (u = w2.alloc (.cells #[.slice A1 xs.length c1, .slice A2 ys.length c2] 61)) := ⟨_, rfl⟩
  have hbW : Below w2.heap.size w2 W := by rw [HW.out]; exact (Below.refl _ _).alloc (Nat.le_refl _) _
  have HPW : Hid (W.heap[w2.heap.size]? = some (.cells #[.slice A1 xs.length c1, .slice A2 ys.length c2] 61 (0, 0))) := Lib.hid (by rw [HW.out]; exact heap_alloc_new _ _)
  have HBW := Lib.hid (HB2.out.trans (hbW.mono HB2.out.size))
  have HT1W := Lib.hid ((HT1.out.later hb2).later hbW)
  have HT2W := Lib.hid (ht2.later hbW)
  clear hown2 hb2 ht2 hbW h11 h12 h21 h22 HO1 HT1
  go_wp2_with (rw [← HW.out])
  obtain ⟨zs, hzs⟩ : ∃ zs, xs ++ ys = zs := ⟨_, rfl⟩
  have hcc := concat19_b xs ys A1 A2 c1 c2 w2.heap.size W (by have := HLX.out; omega) (by have := HLY.out; omega) HPW.out HT1W.out N1.out HT2W.out N2.out
  have HZL := Lib.hid (show zs.length ≤ 180 by rw [← hzs, List.length_append]; have := HLX.out; have := HLY.out; omega)
  rw [hzs] at hcc HS HPOS
  clear hzs
  refine hcc.mono ?_
  rintro e w3 ⟨v3, rfl, hown3, hb3⟩
  obtain ⟨A3, c3, rfl, h31, h32⟩ := hown3.slice
  have HB3 := Lib.hid (HBW.out.trans (hb3.mono HBW.out.size))
  have HO3 := Lib.hid hown3
  obtain ⟨Y, HY⟩ : ∃ u, Hid (u = w3.alloc (.cells #[.slice A3 zs.length c3] 61)) := ⟨_, rfl⟩
  have hbY : Below w3.heap.size w3 Y := by rw [HY.out]; exact (Below.refl _ _).alloc (Nat.le_refl _) _
  have HPY : Hid (Y.heap[w3.heap.size]? = some (.cells #[.slice A3 zs.length c3] 61 (0, 0))) := Lib.hid (by rw [HY.out]; exact heap_alloc_new _ _)
  have HBY := Lib.hid (HB3.out.trans (hbY.mono HB3.out.size))
  have HOY := Lib.hid (HO3.out.keptB hbY)
  have HSZ := Lib.hid (show W.heap.size ≤ Y.heap.size from Nat.le_trans hb3.size hbY.size)
  have y0 := cell_at19 HPY.out (i := 0) rfl
  clear hown3 hb3 hbY h31 h32
  go_wp2_with (rw [← HY.out])
  have hsrt := sort19_b W.heap.size zs (.slice A3 zs.length c3) Y HSZ.out (by have := HZL.out; omega) HPOS.out (HOY.out)
  refine hsrt.mono ?_
  rintro e w5 ⟨rfl, A5, c5, hA5, htr, ho⟩
  injection hA5 with q1 q2 q3
  subst q1 q3
  have hne : ∀ k, (Value.slice A3 zs.length c3).ownBlock = some k → k ≠ w3.heap.size := fun k e e2 => by have := HO3.out.lt k e; omega
  have HP5 : Hid (w5.heap[w3.heap.size]? = some (.cells #[.slice A3 zs.length c3] 61 (0, 0))) := Lib.hid ((ho.block _ (Array.getElem?_eq_some_iff.1 HPY.out).1 (fun e => hne _ e rfl)).trans HPY.out)
  have HB5 := Lib.hid (HBY.out.trans (ho.below (B := w.heap.size) HBY.out.size (fun k e => by have := (HOY.out.lt k e).1; have := HBW.out.size; omega)))
  have HTR := Lib.hid htr
  have HLE := Lib.hid (Nat.le_trans HB3.out.size (Nat.le_refl _))
  have HYS := Lib.hid ho.size
  clear hsrt htr ho hne y0
  go_wp2
  go_ret
  refine ⟨w3.heap.size, A3, c3, rfl, HB3.out.size, ?_, ?_, HB5.out, fun a ha => by have h1 := HOY.out.lt a.block (by rw [ha]; rfl); have h2 := HBW.out.size; have h3 := HYS.out; omega⟩
  · have e1 : (witS l b).length = zs.length := by unfold witS; rw [ordS_len, HS.out]
    rw [e1]; exact HP5.out
  · have e2 : witS l b = ordS zs := by unfold witS; rw [HS.out]
    rw [e2]; exact HTR.out
end Go.Proofs.Ytmonneeikkgllaa
