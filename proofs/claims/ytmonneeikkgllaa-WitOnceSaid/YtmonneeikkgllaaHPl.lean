/- Place of both sides, as contracts. No condition but those in the statements. -/
import Derived.Test.YtmonneeikkgllaaHWk
import Derived.BigQuiet
import Derived.IntWalk
import Derived.BigRegion
import Derived.OpenShut
import Derived.Deep.MidRow
import Derived.OwnWalk
namespace Go.Proofs.Ytmonneeikkgllaa
open Go.RowKit Go.Sort Go.ChangeShapes Go.WideShapes
set_option linter.unusedVariables false
set_option linter.unusedSimpArgs false


/-- Behind which moment a Read's effect is. -/
def foundN (l : List CV) (x : CV) : Int := if placeB l.length x.saw = true then (match l[x.saw.toNat]? with | some y => (if x.frm < y.mark then y.mark else x.frm) | none => x.frm) else x.frm
theorem found_at {l : List CV} {x y : CV} {k : Nat} (hk : x.saw = (k : Int)) (hkl : k < l.length) (hy : l[k]? = some y) : foundN l x = if x.frm < y.mark then y.mark else x.frm := by
  have h : placeB l.length x.saw = true := decide_eq_true (by omega)
  unfold foundN
  rw [if_pos h, hk, Int.toNat_natCast, hy]
theorem found_no {l : List CV} {x : CV} (h : placeB l.length x.saw = false) : foundN l x = x.frm := by
  unfold foundN
  rw [if_neg (by rw [h]; decide)]
/-- Where a call's effect is. -/
def spotN (l : List CV) (x : CV) : Int × Bool × Bool := if 0 ≤ x.mark then (x.mark, false, true) else if x.done = true ∧ x.op = 4 then (foundN l x, true, true) else (0, false, false)
set_option maxRecDepth 100000 in
set_option maxHeartbeats 4000000 in
theorem found_b (A : Option Addr) (l : List CV) (c : Nat) (x : CV) (z : Int) (w : World) (hr : CRow w w.heap.size A l) (hz : foundN l x = z) : Calls Try.prog 32 #[.slice A l.length c, .agg (cCells x).toArray] w fun e w' => e = .returned (.int .i64 z) ∧ Below w.heap.size w w' := by
  obtain ⟨W, HW, hB, hs, hv⟩ := box17 w x
  have hrW := hr.later hB
  have HB := Lib.hid hB
  have x_frm := hv.b_frm
  have x_saw := hv.b_saw
  cases hp : placeB l.length x.saw with
  | false =>
    have HP := Lib.hid hp
    have HZ := Lib.hid ((found_no hp).symm.trans hz)
    clear hB hs hv hr hrW hp hz
    go_enter Try.func32, Try.ntmps32
    go_wp2_with (rw [← HW.out])
    refine (isPlace_b A l.length c x.saw _).mono ?_
    rintro e w1 ⟨rfl, rfl⟩
    rw [HP.out]
    go_wp2
    go_ret
    exact ⟨by rw [HZ.out]; rfl, HB.out⟩
  | true =>
    obtain ⟨k, hk, hkl⟩ := placeB_true hp
    obtain ⟨b, o, y, rfl, hbl, hy, -, hyc⟩ := hrW.at_ hkl
    have hfa := (found_at hk hkl hy).symm.trans hz
    have HP := Lib.hid (show placeB l.length (k : Int) = true by rw [← hk]; exact hp)
    have hy2 := (hyc W.drew (Below.refl _ _).drew).1
    have y_mark := hy2.mark
    have hk1 : (k : Int) < (l.length : Int) := by omega
    rw [hk] at x_saw
    clear hB hs hv hr hrW hp hyc hy hbl hk hz hy2
    by_cases hg : x.frm < y.mark
    · have HZ := Lib.hid (show y.mark = z by rw [if_pos hg] at hfa; exact hfa)
      clear hfa
      go_enter Try.func32, Try.ntmps32
      go_wp2_with (rw [← HW.out])
      refine (isPlace_b _ l.length c (k : Int) _).mono ?_
      rintro e w1 ⟨rfl, rfl⟩
      rw [HP.out]
      go_wp2
      go_region
      go_wp2
      go_ret
      exact ⟨by rw [← HZ.out]; rfl, HB.out.drew⟩
    · have HZ := Lib.hid (show x.frm = z by rw [if_neg hg] at hfa; exact hfa)
      have hgd : decide (x.frm < y.mark) = false := decide_eq_false hg
      clear hfa
      go_enter Try.func32, Try.ntmps32
      go_wp2_with (rw [← HW.out])
      refine (isPlace_b _ l.length c (k : Int) _).mono ?_
      rintro e w1 ⟨rfl, rfl⟩
      rw [HP.out]
      go_wp2
      go_region
      go_wp2
      go_ret
      exact ⟨by rw [← HZ.out]; rfl, HB.out.drew⟩
theorem place_out (A : Option Addr) (l : List CV) (c : Nat) (i : Int) (w : World) (hp : placeB l.length i = false) : Calls Try.prog 27 #[.slice A l.length c, .int .i64 i] w fun e w' => e = .returned (.tuple #[.int .i64 0, .bool false, .bool false]) ∧ Below w.heap.size w w' := by
  have HP := Lib.hid hp
  clear hp
  go_enter Try.func27, Try.ntmps27
  go_wp2_with fail
  refine (isPlace_b A l.length c i _).mono ?_
  rintro e w1 ⟨rfl, rfl⟩
  rw [HP.out]
  go_wp2
  go_ret3
  exact ⟨rfl, Below.refl _ _⟩

set_option maxRecDepth 100000 in
set_option maxHeartbeats 8000000 in
theorem place_b (A : Option Addr) (l : List CV) (c : Nat) (k : Nat) (x : CV) (a : Int) (p q : Bool) (w : World) (hr : CRow w w.heap.size A l) (hx : l[k]? = some x) (ha : spotN l x = (a, p, q)) : Calls Try.prog 27 #[.slice A l.length c, .int .i64 k] w fun e w' => e = .returned (.tuple #[.int .i64 a, .bool p, .bool q]) ∧ Below w.heap.size w w' := by
  have hkl : k < l.length := (List.getElem?_eq_some_iff.1 hx).1
  have HP := Lib.hid (show placeB l.length (k : Int) = true from decide_eq_true (by omega))
  have HR := Lib.hid hr
  obtain ⟨b, o, x', rfl, hbl, hx', -, hxc⟩ := hr.at_ hkl
  rw [hx] at hx'
  injection hx' with hx'
  subst hx'
  have HXR := Lib.hid (hxc _ (Below.refl _ _)).1
  obtain ⟨X1, X2, HX1, HX2, hth, hxb1, hxb2, hxs, hxv⟩ := var17 w x #[.int .i64 0, .int .i64 0, .int .i64 0, .int .u64 0, .slice none 0 0, .int .i64 0, .slice none 0 0, .bool false, .int .i64 0, .bool false, .int .i64 0, .int .i64 0, .int .i64 0, .int .i64 0, .int .i64 0, .int .i64 0, .int .i64 0, .int .i64 0, .int .i64 0, .int .i64 0] rfl
  have HXB := Lib.hid hxb2; have HXV := Lib.hid hxv; have HTH := Lib.hid hth
  clear hxb1 hxb2 hxs hxv hth
  have x_op := HXV.out.b_op
  have x_done := HXV.out.b_done
  have x_mark := HXV.out.b_mark
  have x_at := Lib.hid HXV.out
  have hk1 : (k : Int) < (l.length : Int) := by omega
  clear hxc hx hbl hr
  unfold spotN at ha
  by_cases hm : 0 ≤ x.mark
  · rw [if_pos hm] at ha
    injection ha with h1 h2
    injection h2 with h2 h3
    subst h1 h2 h3
    go_enter Try.func27, Try.ntmps27
    go_wp2_with fail
    refine (isPlace_b _ l.length c (k : Int) _).mono ?_
    rintro e w1 ⟨rfl, rfl⟩
    rw [HP.out]
    go_wp2_with (first | (rw [← HX1.out]) | (with_reducible refine wpList_store_mid (by kernel_rfl) _ _ _ rfl w.heap.size 0 (cCells x).toArray (by kernel_rfl) (by kernel_rfl) HTH.out (cCells_infoA x) (cCells_one x) ?_) | (rw [← HX2.out]) | (with_reducible refine wpList_loadC (by with_unfolding_all rfl) _ rfl _ _ _ (by with_unfolding_all rfl) HXR.out ?_) | (with_reducible refine wpList_loadC (by with_unfolding_all rfl) _ rfl _ _ _ (by with_unfolding_all rfl) x_at.out ?_))
    go_ret3
    exact ⟨rfl, HXB.out⟩
  · have hmd : decide (0 ≤ x.mark) = false := decide_eq_false hm
    rw [if_neg hm] at ha
    cases hd : x.done with
    | false =>
      rw [hd] at x_done
      rw [if_neg (by rw [hd]; simp)] at ha
      injection ha with h1 h2
      injection h2 with h2 h3
      subst h1 h2 h3
      go_enter Try.func27, Try.ntmps27
      go_wp2_with fail
      refine (isPlace_b _ l.length c (k : Int) _).mono ?_
      rintro e w1 ⟨rfl, rfl⟩
      rw [HP.out]
      go_wp2_with (first | (rw [← HX1.out]) | (with_reducible refine wpList_store_mid (by kernel_rfl) _ _ _ rfl w.heap.size 0 (cCells x).toArray (by kernel_rfl) (by kernel_rfl) HTH.out (cCells_infoA x) (cCells_one x) ?_) | (rw [← HX2.out]) | (with_reducible refine wpList_loadC (by with_unfolding_all rfl) _ rfl _ _ _ (by with_unfolding_all rfl) HXR.out ?_) | (with_reducible refine wpList_loadC (by with_unfolding_all rfl) _ rfl _ _ _ (by with_unfolding_all rfl) x_at.out ?_))
      go_ret3
      exact ⟨rfl, HXB.out⟩
    | true =>
      rw [hd] at x_done
      by_cases ho : x.op = 4
      · rw [if_pos ⟨hd, ho⟩] at ha
        injection ha with h1 h2
        injection h2 with h2 h3
        subst h2 h3
        have HA := Lib.hid h1
        have hoa : (x.op == 4) = true := by simp [ho]
        rw [ho] at x_op
        clear h1 hd ho hoa
        go_enter Try.func27, Try.ntmps27
        go_wp2_with fail
        refine (isPlace_b _ l.length c (k : Int) _).mono ?_
        rintro e w1 ⟨rfl, rfl⟩
        rw [HP.out]
        go_wp2_with (first | (rw [← HX1.out]) | (with_reducible refine wpList_store_mid (by kernel_rfl) _ _ _ rfl w.heap.size 0 (cCells x).toArray (by kernel_rfl) (by kernel_rfl) HTH.out (cCells_infoA x) (cCells_one x) ?_) | (rw [← HX2.out]) | (with_reducible refine wpList_loadC (by with_unfolding_all rfl) _ rfl _ _ _ (by with_unfolding_all rfl) HXR.out ?_) | (with_reducible refine wpList_loadC (by with_unfolding_all rfl) _ rfl _ _ _ (by with_unfolding_all rfl) x_at.out ?_))
        refine (found_b _ l c x a X2 (HR.out.later HXB.out) HA.out).mono ?_
        rintro e w2 ⟨rfl, hb2⟩
        have HB2 := Lib.hid (HXB.out.trans (hb2.mono HXB.out.size))
        clear hb2
        go_wp2_with fail
        go_ret3
        exact ⟨rfl, HB2.out⟩
      · have hoa : (x.op == 4) = false := by simp [ho]
        rw [if_neg (by simp [ho])] at ha
        injection ha with h1 h2
        injection h2 with h2 h3
        subst h1 h2 h3
        clear hd
        go_enter Try.func27, Try.ntmps27
        go_wp2_with fail
        refine (isPlace_b _ l.length c (k : Int) _).mono ?_
        rintro e w1 ⟨rfl, rfl⟩
        rw [HP.out]
        go_wp2_with (first | (rw [← HX1.out]) | (with_reducible refine wpList_store_mid (by kernel_rfl) _ _ _ rfl w.heap.size 0 (cCells x).toArray (by kernel_rfl) (by kernel_rfl) HTH.out (cCells_infoA x) (cCells_one x) ?_) | (rw [← HX2.out]) | (with_reducible refine wpList_loadC (by with_unfolding_all rfl) _ rfl _ _ _ (by with_unfolding_all rfl) HXR.out ?_) | (with_reducible refine wpList_loadC (by with_unfolding_all rfl) _ rfl _ _ _ (by with_unfolding_all rfl) x_at.out ?_))
        go_ret3
        exact ⟨rfl, HXB.out⟩

set_option maxRecDepth 100000 in
set_option maxHeartbeats 8000000 in
theorem rplace_b (A : Option Addr) (l : List CV) (c : Nat) (k : Nat) (x : CV) (a : Int) (p q : Bool) (w : World) (hr : CRow w w.heap.size A l) (hx : l[k]? = some x) (hs : sawB l x = true) (ha : spotN l x = (a, p, q)) : Calls Try.prog 13 #[.slice A l.length c, .int .i64 k] w fun e w' => e = .returned (.agg #[.int .i64 a, .bool p, .bool q]) ∧ Below w.heap.size w w' := by
  have hkl : k < l.length := (List.getElem?_eq_some_iff.1 hx).1
  obtain ⟨b, o, x', rfl, hbl, hx', -, hxc⟩ := hr.at_ hkl
  rw [hx] at hx'
  injection hx' with hx'
  subst hx'
  obtain ⟨W, HW⟩ : ∃ u, Hid (u = w.alloc (.cells #[.int .i64 0, .bool false, .bool false] 53)) := ⟨_, rfl⟩
  have hB : Below w.heap.size w W := by rw [HW.out]; exact (Below.refl _ _).alloc (Nat.le_refl _) _
  have hlt : w.heap.size < W.heap.size := by rw [HW.out]; simp
  have HB := Lib.hid hB
  have HXR := Lib.hid (hxc _ hB).1
  obtain ⟨X1, X2, HX1, HX2, hth, hxb1, hxb2, hxs, hxv⟩ := var17 W x #[.int .i64 0, .int .i64 0, .int .i64 0, .int .u64 0, .slice none 0 0, .int .i64 0, .slice none 0 0, .bool false, .int .i64 0, .bool false, .int .i64 0, .int .i64 0, .int .i64 0, .int .i64 0, .int .i64 0, .int .i64 0, .int .i64 0, .int .i64 0, .int .i64 0, .int .i64 0] rfl
  have HXB := Lib.hid hxb2; have HXV := Lib.hid hxv; have HTH := Lib.hid hth
  clear hxb1 hxb2 hxs hxv hth
  have HBS : Hid (X2.heap[w.heap.size]? = some (.cells #[.int .i64 0, .bool false, .bool false] 53 (0, 0))) := Lib.hid ((HXB.out.block _ hlt).trans (by rw [HW.out]; exact heap_alloc_new _ _))
  have HTS : Hid (X2.there w.heap.size 0 (#[.int .i64 a, .bool p, .bool q] : Array Value).size) := Lib.hid (there_at HBS.out rfl)
  have hss : (Try.prog.info? 53).map (·.size) = some 3 := by kernel_rfl
  have x_op := HXV.out.b_op
  have x_done := HXV.out.b_done
  have x_frm := HXV.out.b_frm
  have x_mark := HXV.out.b_mark
  have x_saw := HXV.out.b_saw
  have hk1 : (k : Int) < (l.length : Int) := by omega
  unfold spotN at ha
  by_cases hm : 0 ≤ x.mark
  · rw [if_pos hm] at ha
    injection ha with h1 h2
    injection h2 with h2 h3
    subst h1 h2 h3
    clear hxc hx hbl hr hB hlt hs
    have HTS2 := Lib.hid (show X2.there w.heap.size 0 (#[.int .i64 x.mark, .bool false, .bool true] : Array Value).size from HTS.out)
    have hss2 : (Try.prog.info? 53).map (·.size) = some (#[.int .i64 x.mark, .bool false, .bool true] : Array Value).size := hss
    clear HTS
    go_enter Try.func13, Try.ntmps13
    go_wp2_with (first | (rw [← HW.out]) | (rw [← HX1.out]) | (with_reducible refine wpList_store_mid (by kernel_rfl) _ _ _ rfl W.heap.size 0 (cCells x).toArray (by kernel_rfl) (by kernel_rfl) HTH.out (cCells_infoA x) (cCells_one x) ?_) | (rw [← HX2.out]) | (with_reducible refine wpList_loadC (by with_unfolding_all rfl) _ rfl _ _ _ (by with_unfolding_all rfl) HXR.out ?_) | (with_reducible refine wpList_store_mid (by kernel_rfl) _ _ _ rfl w.heap.size 0 #[.int .i64 x.mark, .bool false, .bool true] (by kernel_rfl) (by kernel_rfl) HTS2.out hss2 (by kernel_rfl) ?_))
    generalize hwf : X2.setCells w.heap.size 0 _ = wf
    have hwb : wf.heap[w.heap.size]? = some (.cells #[.int .i64 x.mark, .bool false, .bool true] 53 (0, 0)) := by rw [← hwf]; simp [World.setCells, World.setCell, Array.getElem?_modify, HBS.out]
    have hbw : Below w.heap.size w wf := by rw [← hwf]; exact below_setCells _ _ _ (HB.out.trans (HXB.out.mono HB.out.size)) (Nat.le_refl _)
    (try simp only [Exit.inBlock, Exit.then])
    refine bodyPost_ret (results_cell_row rfl _ _ w.heap.size 53 #[.int .i64 x.mark, .bool false, .bool true] (0, 0) _ rfl hwb Try.underlying53 rfl hss) rfl ?_
    exact ⟨by first | rfl | rw [HA.out], hbw⟩
  · have hmd : decide (0 ≤ x.mark) = false := decide_eq_false hm
    rw [if_neg hm] at ha
    cases hd : x.done with
    | false =>
      rw [hd] at x_done
      rw [if_neg (by rw [hd]; simp)] at ha
      injection ha with h1 h2
      injection h2 with h2 h3
      subst h1 h2 h3
      clear hxc hx hbl hr hB hlt hs
      have HTS2 := Lib.hid (show X2.there w.heap.size 0 (#[.int .i64 0, .bool false, .bool false] : Array Value).size from HTS.out)
      have hss2 : (Try.prog.info? 53).map (·.size) = some (#[.int .i64 0, .bool false, .bool false] : Array Value).size := hss
      clear HTS
      go_enter Try.func13, Try.ntmps13
      go_wp2_with (first | (rw [← HW.out]) | (rw [← HX1.out]) | (with_reducible refine wpList_store_mid (by kernel_rfl) _ _ _ rfl W.heap.size 0 (cCells x).toArray (by kernel_rfl) (by kernel_rfl) HTH.out (cCells_infoA x) (cCells_one x) ?_) | (rw [← HX2.out]) | (with_reducible refine wpList_loadC (by with_unfolding_all rfl) _ rfl _ _ _ (by with_unfolding_all rfl) HXR.out ?_) | (with_reducible refine wpList_store_mid (by kernel_rfl) _ _ _ rfl w.heap.size 0 #[.int .i64 0, .bool false, .bool false] (by kernel_rfl) (by kernel_rfl) HTS2.out hss2 (by kernel_rfl) ?_))
      generalize hwf : X2.setCells w.heap.size 0 _ = wf
      have hwb : wf.heap[w.heap.size]? = some (.cells #[.int .i64 0, .bool false, .bool false] 53 (0, 0)) := by rw [← hwf]; simp [World.setCells, World.setCell, Array.getElem?_modify, HBS.out]
      have hbw : Below w.heap.size w wf := by rw [← hwf]; exact below_setCells _ _ _ (HB.out.trans (HXB.out.mono HB.out.size)) (Nat.le_refl _)
      (try simp only [Exit.inBlock, Exit.then])
      refine bodyPost_ret (results_cell_row rfl _ _ w.heap.size 53 #[.int .i64 0, .bool false, .bool false] (0, 0) _ rfl hwb Try.underlying53 rfl hss) rfl ?_
      exact ⟨by first | rfl | rw [HA.out], hbw⟩
    | true =>
      rw [hd] at x_done
      by_cases ho : x.op = 4
      · rw [if_pos ⟨hd, ho⟩] at ha
        injection ha with h1 h2
        injection h2 with h2 h3
        subst h2 h3
        rw [ho] at x_op
        by_cases hw1 : x.saw = -1
        · have hp : placeB l.length x.saw = false := decide_eq_false (by omega)
          have HA := Lib.hid ((found_no hp).symm.trans h1)
          rw [hw1] at x_saw
          clear hxc hx hbl hr hB hlt hs h1 hd ho hp hw1
          have HTS2 := Lib.hid (show X2.there w.heap.size 0 (#[.int .i64 x.frm, .bool true, .bool true] : Array Value).size from HTS.out)
          have hss2 : (Try.prog.info? 53).map (·.size) = some (#[.int .i64 x.frm, .bool true, .bool true] : Array Value).size := hss
          clear HTS
          go_enter Try.func13, Try.ntmps13
          go_wp2_with (first | (rw [← HW.out]) | (rw [← HX1.out]) | (with_reducible refine wpList_store_mid (by kernel_rfl) _ _ _ rfl W.heap.size 0 (cCells x).toArray (by kernel_rfl) (by kernel_rfl) HTH.out (cCells_infoA x) (cCells_one x) ?_) | (rw [← HX2.out]) | (with_reducible refine wpList_loadC (by with_unfolding_all rfl) _ rfl _ _ _ (by with_unfolding_all rfl) HXR.out ?_) | (with_reducible refine wpList_store_mid (by kernel_rfl) _ _ _ rfl w.heap.size 0 #[.int .i64 x.frm, .bool true, .bool true] (by kernel_rfl) (by kernel_rfl) HTS2.out hss2 (by kernel_rfl) ?_))
          generalize hwf : X2.setCells w.heap.size 0 _ = wf
          have hwb : wf.heap[w.heap.size]? = some (.cells #[.int .i64 x.frm, .bool true, .bool true] 53 (0, 0)) := by rw [← hwf]; simp [World.setCells, World.setCell, Array.getElem?_modify, HBS.out]
          have hbw : Below w.heap.size w wf := by rw [← hwf]; exact below_setCells _ _ _ (HB.out.trans (HXB.out.mono HB.out.size)) (Nat.le_refl _)
          (try simp only [Exit.inBlock, Exit.then])
          refine bodyPost_ret (results_cell_row rfl _ _ w.heap.size 53 #[.int .i64 x.frm, .bool true, .bool true] (0, 0) _ rfl hwb Try.underlying53 rfl hss) rfl ?_
          exact ⟨by first | rfl | rw [HA.out], hbw⟩
        · have hp : placeB l.length x.saw = true := by
            unfold sawB at hs
            rw [decide_eq_false hw1] at hs
            cases hq : placeB l.length x.saw with
            | true => rfl
            | false => rw [hq] at hs; simp at hs
          obtain ⟨k2, hk2, hk2l⟩ := placeB_true hp
          obtain ⟨b2, o2, y, hA2, -, hy, -, hyc⟩ := hr.at_ hk2l
          injection hA2 with hA2
          injection hA2 with hA21 hA22
          subst hA21 hA22
          have hfa := (found_at hk2 hk2l hy).symm.trans h1
          have hy2 := (hyc X2 (hB.trans (HXB.out.mono hB.size))).1
          have y_mark := hy2.mark
          have hk3 : (k2 : Int) < (l.length : Int) := by omega
          rw [hk2] at x_saw
          clear hxc hx hbl hr hB hlt hs h1 hd ho hp hw1 hyc hy hy2 hk2
          by_cases hg : x.frm < y.mark
          · have HA := Lib.hid (show y.mark = a by rw [if_pos hg] at hfa; exact hfa)
            clear hfa
            have HTS2 := Lib.hid (show X2.there w.heap.size 0 (#[.int .i64 y.mark, .bool true, .bool true] : Array Value).size from HTS.out)
            have hss2 : (Try.prog.info? 53).map (·.size) = some (#[.int .i64 y.mark, .bool true, .bool true] : Array Value).size := hss
            clear HTS
            go_enter Try.func13, Try.ntmps13
            go_wp2_with (first | (rw [← HW.out]) | (rw [← HX1.out]) | (with_reducible refine wpList_store_mid (by kernel_rfl) _ _ _ rfl W.heap.size 0 (cCells x).toArray (by kernel_rfl) (by kernel_rfl) HTH.out (cCells_infoA x) (cCells_one x) ?_) | (rw [← HX2.out]) | (with_reducible refine wpList_loadC (by with_unfolding_all rfl) _ rfl _ _ _ (by with_unfolding_all rfl) HXR.out ?_) | (with_reducible refine wpList_store_mid (by kernel_rfl) _ _ _ rfl w.heap.size 0 #[.int .i64 y.mark, .bool true, .bool true] (by kernel_rfl) (by kernel_rfl) HTS2.out hss2 (by kernel_rfl) ?_))
            generalize hwf : X2.setCells w.heap.size 0 _ = wf
            have hwb : wf.heap[w.heap.size]? = some (.cells #[.int .i64 y.mark, .bool true, .bool true] 53 (0, 0)) := by rw [← hwf]; simp [World.setCells, World.setCell, Array.getElem?_modify, HBS.out]
            have hbw : Below w.heap.size w wf := by rw [← hwf]; exact below_setCells _ _ _ (HB.out.trans (HXB.out.mono HB.out.size)) (Nat.le_refl _)
            (try simp only [Exit.inBlock, Exit.then])
            refine bodyPost_ret (results_cell_row rfl _ _ w.heap.size 53 #[.int .i64 y.mark, .bool true, .bool true] (0, 0) _ rfl hwb Try.underlying53 rfl hss) rfl ?_
            exact ⟨by first | rfl | rw [HA.out], hbw⟩
          · have HA := Lib.hid (show x.frm = a by rw [if_neg hg] at hfa; exact hfa)
            have hgd : decide (x.frm < y.mark) = false := decide_eq_false hg
            clear hfa
            have HTS2 := Lib.hid (show X2.there w.heap.size 0 (#[.int .i64 x.frm, .bool true, .bool true] : Array Value).size from HTS.out)
            have hss2 : (Try.prog.info? 53).map (·.size) = some (#[.int .i64 x.frm, .bool true, .bool true] : Array Value).size := hss
            clear HTS
            go_enter Try.func13, Try.ntmps13
            go_wp2_with (first | (rw [← HW.out]) | (rw [← HX1.out]) | (with_reducible refine wpList_store_mid (by kernel_rfl) _ _ _ rfl W.heap.size 0 (cCells x).toArray (by kernel_rfl) (by kernel_rfl) HTH.out (cCells_infoA x) (cCells_one x) ?_) | (rw [← HX2.out]) | (with_reducible refine wpList_loadC (by with_unfolding_all rfl) _ rfl _ _ _ (by with_unfolding_all rfl) HXR.out ?_) | (with_reducible refine wpList_store_mid (by kernel_rfl) _ _ _ rfl w.heap.size 0 #[.int .i64 x.frm, .bool true, .bool true] (by kernel_rfl) (by kernel_rfl) HTS2.out hss2 (by kernel_rfl) ?_))
            generalize hwf : X2.setCells w.heap.size 0 _ = wf
            have hwb : wf.heap[w.heap.size]? = some (.cells #[.int .i64 x.frm, .bool true, .bool true] 53 (0, 0)) := by rw [← hwf]; simp [World.setCells, World.setCell, Array.getElem?_modify, HBS.out]
            have hbw : Below w.heap.size w wf := by rw [← hwf]; exact below_setCells _ _ _ (HB.out.trans (HXB.out.mono HB.out.size)) (Nat.le_refl _)
            (try simp only [Exit.inBlock, Exit.then])
            refine bodyPost_ret (results_cell_row rfl _ _ w.heap.size 53 #[.int .i64 x.frm, .bool true, .bool true] (0, 0) _ rfl hwb Try.underlying53 rfl hss) rfl ?_
            exact ⟨by first | rfl | rw [HA.out], hbw⟩
      · have hoa : (x.op != 4) = true := by simp [ho]
        rw [if_neg (by simp [ho])] at ha
        injection ha with h1 h2
        injection h2 with h2 h3
        subst h1 h2 h3
        clear hxc hx hbl hr hB hlt hs hd
        have HTS2 := Lib.hid (show X2.there w.heap.size 0 (#[.int .i64 0, .bool false, .bool false] : Array Value).size from HTS.out)
        have hss2 : (Try.prog.info? 53).map (·.size) = some (#[.int .i64 0, .bool false, .bool false] : Array Value).size := hss
        clear HTS
        go_enter Try.func13, Try.ntmps13
        go_wp2_with (first | (rw [← HW.out]) | (rw [← HX1.out]) | (with_reducible refine wpList_store_mid (by kernel_rfl) _ _ _ rfl W.heap.size 0 (cCells x).toArray (by kernel_rfl) (by kernel_rfl) HTH.out (cCells_infoA x) (cCells_one x) ?_) | (rw [← HX2.out]) | (with_reducible refine wpList_loadC (by with_unfolding_all rfl) _ rfl _ _ _ (by with_unfolding_all rfl) HXR.out ?_) | (with_reducible refine wpList_store_mid (by kernel_rfl) _ _ _ rfl w.heap.size 0 #[.int .i64 0, .bool false, .bool false] (by kernel_rfl) (by kernel_rfl) HTS2.out hss2 (by kernel_rfl) ?_))
        generalize hwf : X2.setCells w.heap.size 0 _ = wf
        have hwb : wf.heap[w.heap.size]? = some (.cells #[.int .i64 0, .bool false, .bool false] 53 (0, 0)) := by rw [← hwf]; simp [World.setCells, World.setCell, Array.getElem?_modify, HBS.out]
        have hbw : Below w.heap.size w wf := by rw [← hwf]; exact below_setCells _ _ _ (HB.out.trans (HXB.out.mono HB.out.size)) (Nat.le_refl _)
        (try simp only [Exit.inBlock, Exit.then])
        refine bodyPost_ret (results_cell_row rfl _ _ w.heap.size 53 #[.int .i64 0, .bool false, .bool false] (0, 0) _ rfl hwb Try.underlying53 rfl hss) rfl ?_
        exact ⟨by first | rfl | rw [HA.out], hbw⟩
end Go.Proofs.Ytmonneeikkgllaa
