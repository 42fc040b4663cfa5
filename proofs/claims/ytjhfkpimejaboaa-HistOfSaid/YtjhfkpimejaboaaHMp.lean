/- hist's map of who was last; follows, as a contract. No condition but those in the statements. -/
import Derived.Test.YtjhfkpimejaboaaHOn
import Derived.BigQuiet
import Derived.IntWalk
import Derived.BigRegion
import Derived.OpenShut
import Derived.Deep.MidRow
import Derived.Maps.OwnSet
import Derived.Maps.OwnOps
namespace Go.Proofs.Ytjhfkpimejaboaa
open Go.RowKit Go.Sort Go.ChangeShapes Go.WideShapes
set_option linter.unusedVariables false
set_option linter.unusedSimpArgs false


open Go.Maps (int_keyed keyOf_int_mk)
/-- An element of the map, read as itself. -/
def rdC (v : Value) : Option (DataW Value × List MemPlace) := some (.held v, [])
def MapIs (w : World) (mb : Nat) (l : List CV) (i : Nat) : Prop := ∃ (D : DataW Value) (n : Nat), w.ownsMap Try.prog 3 rdC mb n D ∧ n ≤ i ∧
  ∀ p, (Lit.int .i64 p).wf = true → Maps.has D (.int .i64 p) = (lastIx l p i).isSome ∧ ∀ k x, lastIx l p i = some k → l[k]? = some x → ∀ zd, D.atKey (.int .i64 p) zd = .held (.agg (cCells x).toArray)
theorem MapIs.made (w : World) (l : List CV) : MapIs (w.alloc (.map #[] 0)) w.heap.size l 0 :=
  ⟨.map [], 0, World.ownsMap_made w Try.prog 3 rdC, Nat.le_refl _, fun p hp => ⟨rfl, fun k x h => by cases h⟩⟩
theorem MapIs.lt {w : World} {mb : Nat} {l : List CV} {i : Nat} (h : MapIs w mb l i) : mb < w.heap.size := by
  obtain ⟨D, n, h, _⟩ := h
  exact h.lt
theorem MapIs.later {w w' : World} {mb B : Nat} {l : List CV} {i : Nat} (h : MapIs w mb l i) (hb : Below B w w') (hlt : mb < B) : MapIs w' mb l i := by
  obtain ⟨D, n, ⟨es, clock, h1, h2⟩, h3⟩ := h
  exact ⟨D, n, ⟨es, clock, (hb.block mb hlt).trans h1, h2⟩, h3⟩
theorem keyI {p : Int} (hp : (Lit.int .i64 p).wf = true) : keyOf Try.prog 3 (.int .i64 p) = some (.int .i64 p) := keyOf_int_mk Try.underlying3 hp
theorem zero17 (w : World) : (zeroValue 34).run Try.prog w = .ok (.agg (cCells zcv).toArray) w := by rw [zcv_cells]; kernel_rfl
theorem MapIs.look {w : World} {mb : Nat} {l : List CV} {i : Nat} (h : MapIs w mb l i) {p : Int} (hp : (Lit.int .i64 p).wf = true) :
    (lastIx l p i = none ∧ (Instr.lookup 50 (.map (some mb)) (.int .i64 p) true).run Try.prog w = .ok (.tuple #[.agg (cCells zcv).toArray, .bool false]) w) ∨
    ∃ k, lastIx l p i = some k ∧ ∀ x, l[k]? = some x → (Instr.lookup 50 (.map (some mb)) (.int .i64 p) true).run Try.prog w = .ok (.tuple #[.agg (cCells x).toArray, .bool true]) w := by
  obtain ⟨D, n, ho, _, hD⟩ := h
  obtain ⟨h1, h2⟩ := hD p hp
  obtain ⟨v, ps, hrun, hv⟩ := ho.look_ok (int_keyed Try.underlying3) Try.underlying50 (zero17 w) (zd := .held (.agg (cCells zcv).toArray)) (zp := []) rfl (keyI hp)
  simp only [rdC, Option.some.injEq, Prod.mk.injEq] at hv
  cases hl : lastIx l p i with
  | none =>
    left
    rw [hl] at h1
    have h1 : Maps.has D (.int .i64 p) = false := h1
    refine ⟨rfl, ?_⟩
    rw [h1] at hrun
    rw [Maps.atKey_of_not_has h1] at hv
    injection hv.1 with hv1
    rw [hv1] at hrun
    exact hrun
  | some k =>
    right
    rw [hl] at h1
    have h1 : Maps.has D (.int .i64 p) = true := h1
    refine ⟨k, rfl, fun x hx => ?_⟩
    rw [h1] at hrun
    rw [h2 k x hl hx] at hv
    injection hv.1 with hv1
    rw [hv1] at hrun
    exact hrun
theorem MapIs.put {w : World} {mb : Nat} {l : List CV} {i : Nat} {x : CV} (h : MapIs w mb l i) (hx : l[i]? = some x) (hw : CWf x) (hi : i ≤ 60) : ∃ w', (Instr.mapUpdate 50 (.map (some mb)) (.int .i64 x.part) (.agg (cCells x).toArray)).run Try.prog w = .ok () w' ∧ MapIs w' mb l (i + 1) ∧ Only (fun k => k = mb) w w' := by
  obtain ⟨D, n, ho, hn, hD⟩ := h
  have hlt := ho.lt
  obtain ⟨w', hrun, ho', hg⟩ := ho.update (int_keyed Try.underlying3) Try.underlying50 (val := .agg (cCells x).toArray) (d := .held (.agg (cCells x).toArray)) (ps := []) (by unfold maxLen; omega) (keyI hw.part) rfl
  have hkl : WideAt.IsKeyLit (.int .i64 x.part) := (int_keyed Try.underlying3).key (keyI hw.part)
  have hof : isOf l x.part i = true := by unfold isOf; rw [hx]; simp
  refine ⟨w', hrun, ⟨_, n + 1, ho', by omega, fun p hp => ?_⟩, ⟨hg.os, hg.tape, hg.output, hg.size, fun k hk hne => hg.block k hk (fun e => by injection e with e; exact hne e)⟩⟩
  by_cases hpx : p = x.part
  · subst hpx
    rw [lastIx_hit hof, Maps.has_put_same ho.isMap hkl]
    refine ⟨rfl, fun k y hk hy zd => ?_⟩
    injection hk with hk
    subst hk
    rw [hx] at hy
    injection hy with hy
    subst hy
    rw [Maps.atKey_put_same ho.isMap hkl]
  · have hne : (Lit.int .i64 p : Lit) ≠ .int .i64 x.part := fun e => by injection e with _ e; exact hpx e
    have hof2 : isOf l p i = false := by unfold isOf; rw [hx]; simp; exact fun e => hpx e.symm
    rw [lastIx_miss hof2, Maps.has_put_other hne]
    refine ⟨(hD p hp).1, fun k y hk hy zd => ?_⟩
    rw [Maps.atKey_put_other hne]
    exact (hD p hp).2 k y hk hy zd
/-- May a call come next of its partition? -/
def afterB (y v : CV) : Bool := aheadB y v && decide (y.t1 ≤ v.t0 ∧ y.own1 = v.own0 - 1)
def followsB (l : List CV) (i : Nat) (v : CV) : Bool := match lastIx l v.part i with | none => decide (v.own0 = 1) | some k => (match l[k]? with | some y => afterB y v | none => false)
theorem ahead_q (u v : CV) (q : Bool) (w : World) (h : aheadB u v = q) : Calls Try.prog 10 #[.agg (cCells u).toArray, .agg (cCells v).toArray] w fun e w' => e = .returned (.bool q) ∧ Below w.heap.size w w' := by subst h; exact ahead_b u v w
theorem rahead_q (u v : CV) (q : Bool) (w : World) (h : aheadB u v = q) : Calls Try.prog 11 #[.agg (cCells u).toArray, .agg (cCells v).toArray] w fun e w' => e = .returned (.bool q) ∧ Below w.heap.size w w' := by subst h; exact rahead_b u v w

set_option maxRecDepth 100000 in
set_option maxHeartbeats 8000000 in
theorem follows_b (l : List CV) (i mb : Nat) (v : CV) (w : World) (hm : MapIs w mb l i) (hw : CWf v) (h1 : 1 ≤ v.own0) (hil : i ≤ l.length) : Calls Try.prog 21 #[.map (some mb), .agg (cCells v).toArray] w fun e w' => e = .returned (.bool (followsB l i v)) ∧ Below w.heap.size w w' := by
  obtain ⟨W, HW, hB, hs, hv⟩ := box17 w v
  have hmW := hm.later hB hm.lt
  have HB := Lib.hid hB
  have HV : Hid (∀ w', Below W.heap.size W w' → CAt w' w.heap.size 0 v) := Lib.hid (fun w' h => hv.later h (by omega))
  rcases hmW.look hw.part with ⟨hno, hrun⟩ | ⟨k, hk, hrun⟩
  · have HFB := Lib.hid (show followsB l i v = decide (v.own0 = 1) by unfold followsB; rw [hno])
    obtain ⟨X1, X2, HX1, HX2, hth, hxb1, hxb2, hxs, hxv⟩ := var17 W zcv #[.int .i64 0, .int .i64 0, .int .i64 0, .int .u64 0, .slice none 0 0, .int .i64 0, .slice none 0 0, .bool false, .int .i64 0, .bool false, .int .i64 0, .int .i64 0, .int .i64 0, .int .i64 0, .int .i64 0, .int .i64 0, .int .i64 0, .int .i64 0, .int .i64 0, .int .i64 0] rfl
    have HXB := Lib.hid hxb2; have HXV := Lib.hid hxv; have HTH := Lib.hid hth
    clear hxb1 hxb2 hxs hxv hth
    have c_part := hv.b_part
    have c_own0 := (HV.out _ HXB.out).b_own0
    have y_at := Lib.hid hv; have c_at := Lib.hid hv
    clear hB hs hv hm hmW hw hno h1
    go_enter Try.func21, Try.ntmps21
    go_wp2_with (first | (rw [← HW.out]) | (rw [← HX1.out]) | (with_reducible refine wpList_store_mid (by kernel_rfl) _ _ _ rfl W.heap.size 0 (cCells zcv).toArray (by kernel_rfl) (by kernel_rfl) HTH.out (cCells_infoA zcv) (cCells_one zcv) ?_) | (rw [← HX2.out]) | (with_reducible refine wpList_loadC (by with_unfolding_all rfl) _ rfl _ _ _ (by with_unfolding_all rfl) y_at.out ?_) | (with_reducible refine wpList_loadC (by with_unfolding_all rfl) _ rfl _ _ _ (by with_unfolding_all rfl) c_at.out ?_))
    go_ret
    exact ⟨by rw [HFB.out]; first | rfl | simp, HB.out.trans (HXB.out.mono HB.out.size)⟩
  · have hkl := lastIx_lt hk
    obtain ⟨y, hy⟩ : ∃ y, l[k]? = some y := ⟨_, List.getElem?_eq_getElem (by omega)⟩
    have hrun := hrun y hy
    have HFB := Lib.hid (show followsB l i v = afterB y v by unfold followsB; rw [hk]; simp only [hy])
    obtain ⟨X1, X2, HX1, HX2, hth, hxb1, hxb2, hxs, hxv⟩ := var17 W y #[.int .i64 0, .int .i64 0, .int .i64 0, .int .u64 0, .slice none 0 0, .int .i64 0, .slice none 0 0, .bool false, .int .i64 0, .bool false, .int .i64 0, .int .i64 0, .int .i64 0, .int .i64 0, .int .i64 0, .int .i64 0, .int .i64 0, .int .i64 0, .int .i64 0, .int .i64 0] rfl
    have HXB := Lib.hid hxb2; have HXV := Lib.hid hxv; have HTH := Lib.hid hth
    have HXS := Lib.hid (show W.heap.size < X2.heap.size by omega)
    clear hxb1 hxb2 hxs hxv hth
    have c_part := hv.b_part
    have hv2 := HV.out _ HXB.out
    have c_t0 := hv2.b_t0
    have c_own0 := hv2.b_own0
    have c_at := Lib.hid hv2
    have y_t1 := HXV.out.b_t1
    have y_own1 := HXV.out.b_own1
    have y_at := Lib.hid HXV.out
    have hsub := IntWalk.i64_in (v.own0 - 1) (by have := bounds_i64 hw.own0; omega)
    clear hB hs hv hm hmW hw hk hy hkl hv2
    cases hq : aheadB y v with
    | false =>
      have HQ := Lib.hid hq
      clear hq
      go_enter Try.func21, Try.ntmps21
      go_wp2_with (first | (rw [← HW.out]) | (rw [← HX1.out]) | (with_reducible refine wpList_store_mid (by kernel_rfl) _ _ _ rfl W.heap.size 0 (cCells y).toArray (by kernel_rfl) (by kernel_rfl) HTH.out (cCells_infoA y) (cCells_one y) ?_) | (rw [← HX2.out]) | (with_reducible refine wpList_loadC (by with_unfolding_all rfl) _ rfl _ _ _ (by with_unfolding_all rfl) y_at.out ?_) | (with_reducible refine wpList_loadC (by with_unfolding_all rfl) _ rfl _ _ _ (by with_unfolding_all rfl) c_at.out ?_))
      refine (ahead_q y v false _ HQ.out).mono ?_
      rintro e w2 ⟨rfl, hb2⟩
      have HB2 := Lib.hid hb2
      clear c_part c_t0 c_own0 y_t1 y_own1 hb2 hrun
      go_wp2_with fail
      go_ret
      exact ⟨by rw [HFB.out]; unfold afterB; rw [HQ.out]; rfl, HB.out.trans ((HXB.out.trans (HB2.out.mono HXB.out.size)).mono HB.out.size)⟩
    | true =>
      have HQ := Lib.hid hq
      clear hq
      by_cases a1 : y.t1 ≤ v.t0
      · by_cases a2 : y.own1 = v.own0 - 1
        · have a2a : ((y.own1 : Int) == v.own0 - 1) = true := by simp [a2]
          have a2b : ((y.own1 : Int) != v.own0 - 1) = false := by simp [a2]
          go_enter Try.func21, Try.ntmps21
          go_wp2_with (first | (rw [← HW.out]) | (rw [← HX1.out]) | (with_reducible refine wpList_store_mid (by kernel_rfl) _ _ _ rfl W.heap.size 0 (cCells y).toArray (by kernel_rfl) (by kernel_rfl) HTH.out (cCells_infoA y) (cCells_one y) ?_) | (rw [← HX2.out]) | (with_reducible refine wpList_loadC (by with_unfolding_all rfl) _ rfl _ _ _ (by with_unfolding_all rfl) y_at.out ?_) | (with_reducible refine wpList_loadC (by with_unfolding_all rfl) _ rfl _ _ _ (by with_unfolding_all rfl) c_at.out ?_))
          refine (ahead_q y v true _ HQ.out).mono ?_
          rintro e w2 ⟨rfl, hb2⟩
          have HB2 := Lib.hid hb2
          have hv2 := HV.out _ (HXB.out.trans (hb2.mono HXB.out.size))
          have hy2 := HXV.out.later hb2 HXS.out
          clear c_part c_t0 c_own0 y_t1 y_own1 hb2 hrun
          have c_t0 := hv2.b_t0
          have c_own0 := hv2.b_own0
          have y_t1 := hy2.b_t1
          have y_own1 := hy2.b_own1
          clear hv2 hy2
          go_wp2_with fail
          go_ret
          exact ⟨by rw [HFB.out]; unfold afterB; rw [HQ.out]; simp [a1, a2] <;> omega, HB.out.trans ((HXB.out.trans (HB2.out.mono HXB.out.size)).mono HB.out.size)⟩
        · have a2a : ((y.own1 : Int) == v.own0 - 1) = false := by simp [a2]
          have a2b : ((y.own1 : Int) != v.own0 - 1) = true := by simp [a2]
          go_enter Try.func21, Try.ntmps21
          go_wp2_with (first | (rw [← HW.out]) | (rw [← HX1.out]) | (with_reducible refine wpList_store_mid (by kernel_rfl) _ _ _ rfl W.heap.size 0 (cCells y).toArray (by kernel_rfl) (by kernel_rfl) HTH.out (cCells_infoA y) (cCells_one y) ?_) | (rw [← HX2.out]) | (with_reducible refine wpList_loadC (by with_unfolding_all rfl) _ rfl _ _ _ (by with_unfolding_all rfl) y_at.out ?_) | (with_reducible refine wpList_loadC (by with_unfolding_all rfl) _ rfl _ _ _ (by with_unfolding_all rfl) c_at.out ?_))
          refine (ahead_q y v true _ HQ.out).mono ?_
          rintro e w2 ⟨rfl, hb2⟩
          have HB2 := Lib.hid hb2
          have hv2 := HV.out _ (HXB.out.trans (hb2.mono HXB.out.size))
          have hy2 := HXV.out.later hb2 HXS.out
          clear c_part c_t0 c_own0 y_t1 y_own1 hb2 hrun
          have c_t0 := hv2.b_t0
          have c_own0 := hv2.b_own0
          have y_t1 := hy2.b_t1
          have y_own1 := hy2.b_own1
          clear hv2 hy2
          go_wp2_with fail
          go_ret
          exact ⟨by rw [HFB.out]; unfold afterB; rw [HQ.out]; simp [a1, a2] <;> omega, HB.out.trans ((HXB.out.trans (HB2.out.mono HXB.out.size)).mono HB.out.size)⟩
      · have a1d : decide (y.t1 ≤ v.t0) = false := decide_eq_false a1
        go_enter Try.func21, Try.ntmps21
        go_wp2_with (first | (rw [← HW.out]) | (rw [← HX1.out]) | (with_reducible refine wpList_store_mid (by kernel_rfl) _ _ _ rfl W.heap.size 0 (cCells y).toArray (by kernel_rfl) (by kernel_rfl) HTH.out (cCells_infoA y) (cCells_one y) ?_) | (rw [← HX2.out]) | (with_reducible refine wpList_loadC (by with_unfolding_all rfl) _ rfl _ _ _ (by with_unfolding_all rfl) y_at.out ?_) | (with_reducible refine wpList_loadC (by with_unfolding_all rfl) _ rfl _ _ _ (by with_unfolding_all rfl) c_at.out ?_))
        refine (ahead_q y v true _ HQ.out).mono ?_
        rintro e w2 ⟨rfl, hb2⟩
        have HB2 := Lib.hid hb2
        have hv2 := HV.out _ (HXB.out.trans (hb2.mono HXB.out.size))
        have hy2 := HXV.out.later hb2 HXS.out
        clear c_part c_t0 c_own0 y_t1 y_own1 hb2 hrun
        have c_t0 := hv2.b_t0
        have c_own0 := hv2.b_own0
        have y_t1 := hy2.b_t1
        have y_own1 := hy2.b_own1
        clear hv2 hy2
        go_wp2_with fail
        go_ret
        exact ⟨by rw [HFB.out]; unfold afterB; rw [HQ.out]; simp [a1] <;> omega, HB.out.trans ((HXB.out.trans (HB2.out.mono HXB.out.size)).mono HB.out.size)⟩
end Go.Proofs.Ytjhfkpimejaboaa
