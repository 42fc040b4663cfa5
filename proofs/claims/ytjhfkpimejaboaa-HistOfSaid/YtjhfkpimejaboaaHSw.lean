/- hist's saw, the document's one and before, as contracts. No condition but those in the statements. -/
import Derived.Test.YtjhfkpimejaboaaHFm
import Derived.BigQuiet
import Derived.IntWalk
import Derived.BigRegion
import Derived.OpenShut
import Derived.Deep.MidRow

namespace Go.Proofs.Ytjhfkpimejaboaa
open Go.RowKit Go.Sort Go.ChangeShapes Go.WideShapes
set_option linter.unusedVariables false
set_option linter.unusedSimpArgs false


/-- May its Saw be? -/
def sawB (l : List CV) (v : CV) : Bool := decide (v.saw = -1) || (placeB l.length v.saw && (match l[v.saw.toNat]? with | some y => decide (y.op = 3 ∧ 0 ≤ y.mark) && reachesB v y.mark | none => false))
theorem placeB_true {n : Nat} {i : Int} (h : placeB n i = true) : ∃ k : Nat, i = (k : Int) ∧ k < n := by
  have := of_decide_eq_true h
  obtain ⟨k, hk⟩ := Int.eq_ofNat_of_zero_le this.1
  exact ⟨k, hk, by omega⟩
theorem sawB_at {l : List CV} {v y : CV} {k : Nat} (hk : v.saw = (k : Int)) (hl : k < l.length) (hy : l[k]? = some y) : sawB l v = (decide (y.op = 3 ∧ 0 ≤ y.mark) && reachesB v y.mark) := by
  have e1 : ¬ v.saw = -1 := by omega
  have e2 : placeB l.length v.saw = true := decide_eq_true (by omega)
  rw [hk] at e2
  simp [sawB, e1, e2, hk, hy]
set_option maxRecDepth 100000 in
set_option maxHeartbeats 8000000 in
theorem saw_b (A : Option Addr) (l : List CV) (c : Nat) (v : CV) (w : World) (hr : CRow w w.heap.size A l) : Calls Try.prog 20 #[.slice A l.length c, .agg (cCells v).toArray] w fun e w' => e = .returned (.bool (sawB l v)) ∧ Below w.heap.size w w' := by
  obtain ⟨W, HW, hB, hs, hv⟩ := box17 w v
  have hrW := hr.later hB
  have HB := Lib.hid hB
  have HV : Hid (∀ w', Below W.heap.size W w' → CAt w' w.heap.size 0 v) := Lib.hid (fun w' h => hv.later h (by omega))
  by_cases h1 : v.saw = -1
  · have c_saw := hv.b_saw
    have h1a : ((v.saw : Int) == -1) = true := by simp [h1]
    clear hB hs hv hr hrW
    go_enter Try.func20, Try.ntmps20
    go_wp2_with (rw [← HW.out])
    go_ret
    exact ⟨by simp [sawB, h1], HB.out⟩
  · have h1a : ((v.saw : Int) == -1) = false := by simp [h1]
    cases hp : placeB l.length v.saw with
    | false =>
      have c_saw := hv.b_saw
      have HP := Lib.hid hp
      have HN := Lib.hid h1
      clear hB hs hv hr hrW hp h1
      go_enter Try.func20, Try.ntmps20
      go_wp2_with (rw [← HW.out])
      refine (isPlace_b A l.length c v.saw _).mono ?_
      rintro e w1 ⟨rfl, rfl⟩
      rw [HP.out]
      go_wp2
      go_ret
      exact ⟨by simp [sawB, HN.out, HP.out], HB.out⟩
    | true =>
      obtain ⟨k, hk, hkl⟩ := placeB_true hp
      obtain ⟨b, o, y, rfl, hbl, hy, -, hyc⟩ := hrW.at_ hkl
      have HY := Lib.hid (sawB_at hk hkl hy)
      have hya := hyc _ (Below.refl _ _)
      have HYA := Lib.hid hya.1
      obtain ⟨X1, X2, HX1, HX2, hth, hxb1, hxb2, hxs, hxv⟩ := var17 W y #[.int .i64 0, .int .i64 0, .int .i64 0, .int .u64 0, .slice none 0 0, .int .i64 0, .slice none 0 0, .bool false, .int .i64 0, .bool false, .int .i64 0, .int .i64 0, .int .i64 0, .int .i64 0, .int .i64 0, .int .i64 0, .int .i64 0, .int .i64 0, .int .i64 0, .int .i64 0] rfl
      have HXB := Lib.hid hxb2; have HXV := Lib.hid hxv; have HTH := Lib.hid hth
      clear hxb1 hxb2 hxs hxv hth
      have hv2 := HV.out _ HXB.out
      have c_saw := hv.b_saw
      rw [hk] at c_saw h1a
      have y_op := HXV.out.b_op
      have y_mark := HXV.out.b_mark
      have y_at := Lib.hid HXV.out
      have c_at := Lib.hid hv2
      have HP := Lib.hid (show placeB l.length (k : Int) = true by rw [← hk]; exact hp)
      have hk1 : (k : Int) < (l.length : Int) := by omega
      clear hB hs hv hr hrW hp h1 hyc hy hbl hya hv2 hk
      by_cases h1 : y.op = 3
      · have h1a : ((y.op : Int) == 3) = true := by simp [h1]
        have h1b : ((y.op : Int) != 3) = false := by simp [h1]
        by_cases h2 : 0 ≤ y.mark
        · cases hq : reachesB v y.mark with
          | true =>
            have HQ := Lib.hid hq
            clear hq
            go_enter Try.func20, Try.ntmps20
            go_wp2_with (rw [← HW.out])
            refine (isPlace_b _ l.length c (k : Int) _).mono ?_
            rintro e w1 ⟨rfl, rfl⟩
            rw [HP.out]
            go_wp2_with (first | (rw [← HX1.out]) | (with_reducible refine wpList_store_mid (by kernel_rfl) _ _ _ rfl W.heap.size 0 (cCells y).toArray (by kernel_rfl) (by kernel_rfl) HTH.out (cCells_infoA y) (cCells_one y) ?_) | (rw [← HX2.out]) | (with_reducible refine wpList_loadC (by with_unfolding_all rfl) _ rfl _ _ _ (by with_unfolding_all rfl) HYA.out ?_) | (with_reducible refine wpList_loadC (by with_unfolding_all rfl) _ rfl _ _ _ (by with_unfolding_all rfl) c_at.out ?_))
            refine (reaches_q v y.mark true _ HQ.out).mono ?_
            rintro e w2 ⟨rfl, hb2⟩
            have HB2 := Lib.hid hb2
            clear hb2
            go_wp2_with fail
            go_ret
            exact ⟨by rw [HY.out, HQ.out]; simp [h1, h2], HB.out.trans ((HXB.out.trans (HB2.out.mono HXB.out.size)).mono HB.out.size)⟩
          | false =>
            have HQ := Lib.hid hq
            clear hq
            go_enter Try.func20, Try.ntmps20
            go_wp2_with (rw [← HW.out])
            refine (isPlace_b _ l.length c (k : Int) _).mono ?_
            rintro e w1 ⟨rfl, rfl⟩
            rw [HP.out]
            go_wp2_with (first | (rw [← HX1.out]) | (with_reducible refine wpList_store_mid (by kernel_rfl) _ _ _ rfl W.heap.size 0 (cCells y).toArray (by kernel_rfl) (by kernel_rfl) HTH.out (cCells_infoA y) (cCells_one y) ?_) | (rw [← HX2.out]) | (with_reducible refine wpList_loadC (by with_unfolding_all rfl) _ rfl _ _ _ (by with_unfolding_all rfl) HYA.out ?_) | (with_reducible refine wpList_loadC (by with_unfolding_all rfl) _ rfl _ _ _ (by with_unfolding_all rfl) c_at.out ?_))
            refine (reaches_q v y.mark false _ HQ.out).mono ?_
            rintro e w2 ⟨rfl, hb2⟩
            have HB2 := Lib.hid hb2
            clear hb2
            go_wp2_with fail
            go_ret
            exact ⟨by rw [HY.out, HQ.out]; simp [h1, h2], HB.out.trans ((HXB.out.trans (HB2.out.mono HXB.out.size)).mono HB.out.size)⟩
        · have h2d : decide (0 ≤ y.mark) = false := decide_eq_false h2
          go_enter Try.func20, Try.ntmps20
          go_wp2_with (rw [← HW.out])
          refine (isPlace_b _ l.length c (k : Int) _).mono ?_
          rintro e w1 ⟨rfl, rfl⟩
          rw [HP.out]
          go_wp2_with (first | (rw [← HX1.out]) | (with_reducible refine wpList_store_mid (by kernel_rfl) _ _ _ rfl W.heap.size 0 (cCells y).toArray (by kernel_rfl) (by kernel_rfl) HTH.out (cCells_infoA y) (cCells_one y) ?_) | (rw [← HX2.out]) | (with_reducible refine wpList_loadC (by with_unfolding_all rfl) _ rfl _ _ _ (by with_unfolding_all rfl) HYA.out ?_) | (with_reducible refine wpList_loadC (by with_unfolding_all rfl) _ rfl _ _ _ (by with_unfolding_all rfl) c_at.out ?_))
          go_ret
          exact ⟨by rw [HY.out, show decide (y.op = 3 ∧ 0 ≤ y.mark) = false from decide_eq_false (by omega)]; rfl, HB.out.trans (HXB.out.mono HB.out.size)⟩
      · have h1a : ((y.op : Int) == 3) = false := by simp [h1]
        have h1b : ((y.op : Int) != 3) = true := by simp [h1]
        go_enter Try.func20, Try.ntmps20
        go_wp2_with (rw [← HW.out])
        refine (isPlace_b _ l.length c (k : Int) _).mono ?_
        rintro e w1 ⟨rfl, rfl⟩
        rw [HP.out]
        go_wp2_with (first | (rw [← HX1.out]) | (with_reducible refine wpList_store_mid (by kernel_rfl) _ _ _ rfl W.heap.size 0 (cCells y).toArray (by kernel_rfl) (by kernel_rfl) HTH.out (cCells_infoA y) (cCells_one y) ?_) | (rw [← HX2.out]) | (with_reducible refine wpList_loadC (by with_unfolding_all rfl) _ rfl _ _ _ (by with_unfolding_all rfl) HYA.out ?_) | (with_reducible refine wpList_loadC (by with_unfolding_all rfl) _ rfl _ _ _ (by with_unfolding_all rfl) c_at.out ?_))
        go_ret
        exact ⟨by rw [HY.out, show decide (y.op = 3 ∧ 0 ≤ y.mark) = false from decide_eq_false (by omega)]; rfl, HB.out.trans (HXB.out.mono HB.out.size)⟩
end Go.Proofs.Ytjhfkpimejaboaa
