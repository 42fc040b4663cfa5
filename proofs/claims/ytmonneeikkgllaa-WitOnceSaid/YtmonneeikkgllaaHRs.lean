/- The document's Sound, as a contract. No condition but those in the statements. -/
import Derived.Test.YtmonneeikkgllaaHSd
import Derived.BigQuiet
import Derived.IntWalk
import Derived.BigRegion
import Derived.OpenShut
import Derived.Deep.MidRow
import Derived.Deep.RegionHeld3
namespace Go.Proofs.Ytmonneeikkgllaa
open Go.RowKit Go.Sort Go.ChangeShapes Go.WideShapes
set_option linter.unusedVariables false
set_option linter.unusedSimpArgs false


theorem one_q (v : CV) (q : Bool) (w : World) (h : oneB v = q) : Calls Try.prog 14 #[.agg (cCells v).toArray] w fun e w' => e = .returned (.bool q) ∧ Below w.heap.size w w' := by subst h; exact one_b v w
theorem before_q (A : Option Addr) (l : List CV) (c : Nat) (i : Nat) (x : CV) (z : Int) (w : World) (hr : CRow w w.heap.size A l) (hx : l[i]? = some x) (hl : l.length ≤ 60) (h : numO (lastIx l x.part i) = z) : Calls Try.prog 15 #[.slice A l.length c, .int .i64 i] w fun e w' => e = .returned (.int .i64 z) ∧ Below w.heap.size w w' := by subst h; exact before_b A l c i x w hr hx hl
theorem ok_parts {l : List CV} {i : Nat} {x : CV} (hx : l[i]? = some x) (h : okB l i = true) : riseB l i x = true ∧ TimedP x ∧ MarkedP x ∧ sawB l x = true ∧ followsB l i x = true := by
  rw [okB_at hx] at h
  simp [oneB] at h
  exact ⟨h.1.1.1, h.1.1.2.1, h.1.1.2.2, h.1.2, h.2⟩

set_option maxRecDepth 100000 in
set_option maxHeartbeats 64000000 in
theorem rsound_b (A : Option Addr) (l : List CV) (c : Nat) (w : World) (hr : CRow w w.heap.size A l) (hl : l.length ≤ 60) : Calls Try.prog 7 #[.slice A l.length c] w fun e w' => e = .returned (.bool (soundB l)) ∧ Below w.heap.size w w' := by
  have HR := Lib.hid hr
  clear hr
  go_enter Try.func7, Try.ntmps7
  go_wp2
  go_loopw [3] (fun ix wr => ∃ i : Nat, i ≤ l.length ∧ ix = .int .i64 i ∧ OkUp l i ∧ Below w.heap.size w wr) (fun ix _ => l.length - (intOf ix).toNat)
  case atStart => exact ⟨0, Nat.zero_le _, rfl, (fun j hj => by omega), Below.refl _ _⟩
  case round =>
    obtain ⟨i, hi, rfl, hup, hbr⟩ := hrel
    have HUP := Lib.hid hup
    clear hup
    by_cases hlt : i < l.length
    · obtain ⟨b, o, x, rfl, hbl, hx, hxw, hxc⟩ := HR.out.at_ hlt
      have HXI := Lib.hid hx
      have HXW := Lib.hid hxw
      have HXR := Lib.hid (hxc _ hbr).1
      have HBAD := Lib.hid (sound_bad (l := l) hlt)
      have HOK := Lib.hid (okB_at hx)
      obtain ⟨q1, hq1⟩ : ∃ q, oneB x = q := ⟨_, rfl⟩
      have HQ1 := Lib.hid hq1
      obtain ⟨X1, X2, HX1, HX2, hth, hxb1, hxb2, hxs, hxv⟩ := var17 wr x #[.int .i64 0, .int .i64 0, .int .i64 0, .int .u64 0, .slice none 0 0, .int .i64 0, .slice none 0 0, .bool false, .int .i64 0, .bool false, .int .i64 0, .int .i64 0, .int .i64 0, .int .i64 0, .int .i64 0, .int .i64 0, .int .i64 0, .int .i64 0, .int .i64 0, .int .i64 0] rfl
      have HXB := Lib.hid hxb2; have HXV := Lib.hid hxv; have HTH := Lib.hid hth
      clear hxb1 hxb2 hxs hxv hth
      have HXS := Lib.hid (show wr.heap.size < X2.heap.size from HXV.out.lt)
      have HXD : Hid (∀ W', Below X2.heap.size X2 W' → CAt W' wr.heap.size 0 x) := Lib.hid (fun W' h => HXV.out.later h HXS.out)
      have HBX := Lib.hid (hbr.trans (HXB.out.mono hbr.size))
      have hi2 : (i : Int) < (l.length : Int) := by omega
      clear hq1 hx hxw hxc
      by_cases hz : i = 0
      · have hi0 : decide (0 < i) = false := decide_eq_false (by omega)
        have HRISE := Lib.hid (show riseB l i x = true by rw [hz]; rfl)
        have hi1 : ¬ (0 < i) := by omega
        have hln : lastIx l x.part i = none := by rw [hz]; rfl
        clear hbr hbl hz
        go_wp2_with (first | (rw [← HX1.out]) | (with_reducible refine wpList_store_mid (by kernel_rfl) _ _ _ rfl wr.heap.size 0 (cCells x).toArray (by kernel_rfl) (by kernel_rfl) HTH.out (cCells_infoA x) (cCells_one x) ?_) | (rw [← HX2.out]) | (with_reducible refine wpList_loadC (by with_unfolding_all rfl) _ rfl _ _ _ (by with_unfolding_all rfl) HXR.out ?_))
        refine wp_region_held_drew (S := fun W' => Below X2.heap.size X2 W') (by kernel_rfl) ((Below.refl _ _).drew) (fun hHeld => ?_)
        refine wpAnyH_take (i := 0) rfl (by kernel_rfl) (by kernel_rfl) (by kernel_rfl) (fun _ _ _ h => h) (yieldsIf_load_mid (by with_unfolding_all rfl) 51 _ rfl (wr.heap.size) (0) (by with_unfolding_all rfl) (cCells x) _ (fun W' hW' => HXD.out W' hW') Try.underlying51 rfl (cCells_info x)) (by assumption) ?_
        (try simp only [Act.put, List.setIfInBounds_toArray, List.set_cons_zero, List.set_cons_succ, List.getElem_toArray, List.getElem_cons_zero, List.getElem_cons_succ])
        refine wpAnyH_ready (rs := [1]) (by kernel_rfl) (by simp) (AllReadyH.cons rfl (fun K hK => ?_) AllReadyH.nil)
        go_simp
        refine (one_q x q1 _ HQ1.out).mono ?_
        rintro e w1 ⟨rfl, hb1⟩
        (try go_wp2_with fail)
        have HZ1 := Lib.hid ((Below.refl X2.heap.size X2).drew.trans hb1)
        clear hb1
        refine hK.out _ _ (HZ1.out) (fun hHeld => ?_)
        clear hK K
        (try simp only [Act.put, List.setIfInBounds_toArray, List.set_cons_zero, List.set_cons_succ, List.getElem_toArray, List.getElem_cons_zero, List.getElem_cons_succ])
        cases q1 with
        | false =>
          first
            | (refine wpAnyH_take (i := 2) rfl (by kernel_rfl) (by kernel_rfl) (by kernel_rfl) (fun _ _ _ h => h) (Or.inl ⟨by rfl, by intro w hSw; have x_frm := (HXD.out _ hSw).b_frm; (go_simp <;> with_reducible rfl)⟩) (by assumption) ?_)
            | (refine wpAnyH_take (i := 2) rfl (by kernel_rfl) (by kernel_rfl) (by kernel_rfl) (fun _ _ _ h => h) (Or.inr ⟨by rfl, rfl⟩) (by assumption) ?_)
          (try simp only [Act.put, List.setIfInBounds_toArray, List.set_cons_zero, List.set_cons_succ, List.getElem_toArray, List.getElem_cons_zero, List.getElem_cons_succ])
          first
            | (refine wpAnyH_take (i := 3) rfl (by kernel_rfl) (by kernel_rfl) (by kernel_rfl) (fun _ _ _ h => h) (Or.inl ⟨by rfl, by intro w hSw; have x_frm := (HXD.out _ hSw).b_frm; (go_simp <;> with_reducible rfl)⟩) (by assumption) ?_)
            | (refine wpAnyH_take (i := 3) rfl (by kernel_rfl) (by kernel_rfl) (by kernel_rfl) (fun _ _ _ h => h) (Or.inr ⟨by rfl, rfl⟩) (by assumption) ?_)
          (try simp only [Act.put, List.setIfInBounds_toArray, List.set_cons_zero, List.set_cons_succ, List.getElem_toArray, List.getElem_cons_zero, List.getElem_cons_succ])
          first
            | (refine wpAnyH_take (i := 4) rfl (by kernel_rfl) (by kernel_rfl) (by kernel_rfl) (fun _ _ _ h => h) (Or.inl ⟨by rfl, by intro w hSw; have x_frm := (HXD.out _ hSw).b_frm; (go_simp <;> with_reducible rfl)⟩) (by assumption) ?_)
            | (refine wpAnyH_take (i := 4) rfl (by kernel_rfl) (by kernel_rfl) (by kernel_rfl) (fun _ _ _ h => h) (Or.inr ⟨by rfl, rfl⟩) (by assumption) ?_)
          (try simp only [Act.put, List.setIfInBounds_toArray, List.set_cons_zero, List.set_cons_succ, List.getElem_toArray, List.getElem_cons_zero, List.getElem_cons_succ])
          first
            | (refine wpAnyH_take (i := 5) rfl (by kernel_rfl) (by kernel_rfl) (by kernel_rfl) (fun _ _ _ h => h) (Or.inl ⟨by rfl, by intro w hSw; have x_frm := (HXD.out _ hSw).b_frm; (go_simp <;> with_reducible rfl)⟩) (by assumption) ?_)
            | (refine wpAnyH_take (i := 5) rfl (by kernel_rfl) (by kernel_rfl) (by kernel_rfl) (fun _ _ _ h => h) (Or.inr ⟨by rfl, rfl⟩) (by assumption) ?_)
          (try simp only [Act.put, List.setIfInBounds_toArray, List.set_cons_zero, List.set_cons_succ, List.getElem_toArray, List.getElem_cons_zero, List.getElem_cons_succ])
          first
            | (refine wpAnyH_take (i := 6) rfl (by kernel_rfl) (by kernel_rfl) (by kernel_rfl) (fun _ _ _ h => h) (Or.inl ⟨by rfl, by intro w hSw; have x_frm := (HXD.out _ hSw).b_frm; (go_simp <;> with_reducible rfl)⟩) (by assumption) ?_)
            | (refine wpAnyH_take (i := 6) rfl (by kernel_rfl) (by kernel_rfl) (by kernel_rfl) (fun _ _ _ h => h) (Or.inr ⟨by rfl, rfl⟩) (by assumption) ?_)
          (try simp only [Act.put, List.setIfInBounds_toArray, List.set_cons_zero, List.set_cons_succ, List.getElem_toArray, List.getElem_cons_zero, List.getElem_cons_succ])
          first
            | (refine wpAnyH_take (i := 7) rfl (by kernel_rfl) (by kernel_rfl) (by kernel_rfl) (fun _ _ _ h => h) (Or.inl ⟨by rfl, by intro w hSw; have x_frm := (HXD.out _ hSw).b_frm; (go_simp <;> with_reducible rfl)⟩) (by assumption) ?_)
            | (refine wpAnyH_take (i := 7) rfl (by kernel_rfl) (by kernel_rfl) (by kernel_rfl) (fun _ _ _ h => h) (Or.inr ⟨by rfl, rfl⟩) (by assumption) ?_)
          (try simp only [Act.put, List.setIfInBounds_toArray, List.set_cons_zero, List.set_cons_succ, List.getElem_toArray, List.getElem_cons_zero, List.getElem_cons_succ])
          first
            | (refine wpAnyH_take (i := 8) rfl (by kernel_rfl) (by kernel_rfl) (by kernel_rfl) (fun _ _ _ h => h) (Or.inl ⟨by rfl, by intro w hSw; have x_frm := (HXD.out _ hSw).b_frm; (go_simp <;> with_reducible rfl)⟩) (by assumption) ?_)
            | (refine wpAnyH_take (i := 8) rfl (by kernel_rfl) (by kernel_rfl) (by kernel_rfl) (fun _ _ _ h => h) (Or.inr ⟨by rfl, rfl⟩) (by assumption) ?_)
          (try simp only [Act.put, List.setIfInBounds_toArray, List.set_cons_zero, List.set_cons_succ, List.getElem_toArray, List.getElem_cons_zero, List.getElem_cons_succ])
          first
            | (refine wpAnyH_take (i := 9) rfl (by kernel_rfl) (by kernel_rfl) (by kernel_rfl) (fun _ _ _ h => h) (Or.inl ⟨by rfl, by intro w hSw; have x_frm := (HXD.out _ hSw).b_frm; (go_simp <;> with_reducible rfl)⟩) (by assumption) ?_)
            | (refine wpAnyH_take (i := 9) rfl (by kernel_rfl) (by kernel_rfl) (by kernel_rfl) (fun _ _ _ h => h) (Or.inr ⟨by rfl, rfl⟩) (by assumption) ?_)
          (try simp only [Act.put, List.setIfInBounds_toArray, List.set_cons_zero, List.set_cons_succ, List.getElem_toArray, List.getElem_cons_zero, List.getElem_cons_succ])
          first
            | (refine wpAnyH_take (i := 10) rfl (by kernel_rfl) (by kernel_rfl) (by kernel_rfl) (fun _ _ _ h => h) (Or.inl ⟨by rfl, by intro w hSw; have x_frm := (HXD.out _ hSw).b_frm; (go_simp <;> with_reducible rfl)⟩) (by assumption) ?_)
            | (refine wpAnyH_take (i := 10) rfl (by kernel_rfl) (by kernel_rfl) (by kernel_rfl) (fun _ _ _ h => h) (Or.inr ⟨by rfl, rfl⟩) (by assumption) ?_)
          (try simp only [Act.put, List.setIfInBounds_toArray, List.set_cons_zero, List.set_cons_succ, List.getElem_toArray, List.getElem_cons_zero, List.getElem_cons_succ])
          first
            | (refine wpAnyH_take (i := 11) rfl (by kernel_rfl) (by kernel_rfl) (by kernel_rfl) (fun _ _ _ h => h) (Or.inl ⟨by rfl, by intro w hSw; have x_frm := (HXD.out _ hSw).b_frm; (go_simp <;> with_reducible rfl)⟩) (by assumption) ?_)
            | (refine wpAnyH_take (i := 11) rfl (by kernel_rfl) (by kernel_rfl) (by kernel_rfl) (fun _ _ _ h => h) (Or.inr ⟨by rfl, rfl⟩) (by assumption) ?_)
          (try simp only [Act.put, List.setIfInBounds_toArray, List.set_cons_zero, List.set_cons_succ, List.getElem_toArray, List.getElem_cons_zero, List.getElem_cons_succ])
          first
            | (refine wpAnyH_take (i := 12) rfl (by kernel_rfl) (by kernel_rfl) (by kernel_rfl) (fun _ _ _ h => h) (Or.inl ⟨by rfl, by intro w hSw; have x_frm := (HXD.out _ hSw).b_frm; (go_simp <;> with_reducible rfl)⟩) (by assumption) ?_)
            | (refine wpAnyH_take (i := 12) rfl (by kernel_rfl) (by kernel_rfl) (by kernel_rfl) (fun _ _ _ h => h) (Or.inr ⟨by rfl, rfl⟩) (by assumption) ?_)
          (try simp only [Act.put, List.setIfInBounds_toArray, List.set_cons_zero, List.set_cons_succ, List.getElem_toArray, List.getElem_cons_zero, List.getElem_cons_succ])
          first
            | (refine wpAnyH_take (i := 13) rfl (by kernel_rfl) (by kernel_rfl) (by kernel_rfl) (fun _ _ _ h => h) (Or.inl ⟨by rfl, by intro w hSw; have x_frm := (HXD.out _ hSw).b_frm; (go_simp <;> with_reducible rfl)⟩) (by assumption) ?_)
            | (refine wpAnyH_take (i := 13) rfl (by kernel_rfl) (by kernel_rfl) (by kernel_rfl) (fun _ _ _ h => h) (Or.inr ⟨by rfl, rfl⟩) (by assumption) ?_)
          (try simp only [Act.put, List.setIfInBounds_toArray, List.set_cons_zero, List.set_cons_succ, List.getElem_toArray, List.getElem_cons_zero, List.getElem_cons_succ])
          first
            | (refine wpAnyH_take (i := 14) rfl (by kernel_rfl) (by kernel_rfl) (by kernel_rfl) (fun _ _ _ h => h) (Or.inl ⟨by rfl, by intro w hSw; have x_frm := (HXD.out _ hSw).b_frm; (go_simp <;> with_reducible rfl)⟩) (by assumption) ?_)
            | (refine wpAnyH_take (i := 14) rfl (by kernel_rfl) (by kernel_rfl) (by kernel_rfl) (fun _ _ _ h => h) (Or.inr ⟨by rfl, rfl⟩) (by assumption) ?_)
          (try simp only [Act.put, List.setIfInBounds_toArray, List.set_cons_zero, List.set_cons_succ, List.getElem_toArray, List.getElem_cons_zero, List.getElem_cons_succ])
          first
            | (refine wpAnyH_take (i := 15) rfl (by kernel_rfl) (by kernel_rfl) (by kernel_rfl) (fun _ _ _ h => h) (Or.inl ⟨by rfl, by intro w hSw; have x_frm := (HXD.out _ hSw).b_frm; (go_simp <;> with_reducible rfl)⟩) (by assumption) ?_)
            | (refine wpAnyH_take (i := 15) rfl (by kernel_rfl) (by kernel_rfl) (by kernel_rfl) (fun _ _ _ h => h) (Or.inr ⟨by rfl, rfl⟩) (by assumption) ?_)
          (try simp only [Act.put, List.setIfInBounds_toArray, List.set_cons_zero, List.set_cons_succ, List.getElem_toArray, List.getElem_cons_zero, List.getElem_cons_succ])
          first
            | (refine wpAnyH_take (i := 16) rfl (by kernel_rfl) (by kernel_rfl) (by kernel_rfl) (fun _ _ _ h => h) (Or.inl ⟨by rfl, by intro w hSw; have x_frm := (HXD.out _ hSw).b_frm; (go_simp <;> with_reducible rfl)⟩) (by assumption) ?_)
            | (refine wpAnyH_take (i := 16) rfl (by kernel_rfl) (by kernel_rfl) (by kernel_rfl) (fun _ _ _ h => h) (Or.inr ⟨by rfl, rfl⟩) (by assumption) ?_)
          (try simp only [Act.put, List.setIfInBounds_toArray, List.set_cons_zero, List.set_cons_succ, List.getElem_toArray, List.getElem_cons_zero, List.getElem_cons_succ])
          first
            | (refine wpAnyH_take (i := 17) rfl (by kernel_rfl) (by kernel_rfl) (by kernel_rfl) (fun _ _ _ h => h) (Or.inl ⟨by rfl, by intro w hSw; have x_frm := (HXD.out _ hSw).b_frm; (go_simp <;> with_reducible rfl)⟩) (by assumption) ?_)
            | (refine wpAnyH_take (i := 17) rfl (by kernel_rfl) (by kernel_rfl) (by kernel_rfl) (fun _ _ _ h => h) (Or.inr ⟨by rfl, rfl⟩) (by assumption) ?_)
          (try simp only [Act.put, List.setIfInBounds_toArray, List.set_cons_zero, List.set_cons_succ, List.getElem_toArray, List.getElem_cons_zero, List.getElem_cons_succ])
          refine wpAnyH_done (by kernel_rfl) ?_ _
          clear hHeld
          go_wp2
          go_ret
          exact ⟨by rw [HBAD.out (by rw [HOK.out]; rw [HQ1.out]; simp)]; rfl, HBX.out.trans (HZ1.out.mono HBX.out.size)⟩
        | true =>
          have HT1 := Lib.hid (show 1 ≤ x.own0 by have h := HQ1.out; unfold oneB at h; simp at h; exact h.1.2.2.1)
          first
            | (refine wpAnyH_take (i := 2) rfl (by kernel_rfl) (by kernel_rfl) (by kernel_rfl) (fun _ _ _ h => h) (Or.inl ⟨by rfl, by intro w hSw; have x_frm := (HXD.out _ hSw).b_frm; (go_simp <;> with_reducible rfl)⟩) (by assumption) ?_)
            | (refine wpAnyH_take (i := 2) rfl (by kernel_rfl) (by kernel_rfl) (by kernel_rfl) (fun _ _ _ h => h) (Or.inr ⟨by rfl, rfl⟩) (by assumption) ?_)
          (try simp only [Act.put, List.setIfInBounds_toArray, List.set_cons_zero, List.set_cons_succ, List.getElem_toArray, List.getElem_cons_zero, List.getElem_cons_succ])
          first
            | (refine wpAnyH_take (i := 3) rfl (by kernel_rfl) (by kernel_rfl) (by kernel_rfl) (fun _ _ _ h => h) (Or.inl ⟨by rfl, by intro w hSw; have x_frm := (HXD.out _ hSw).b_frm; (go_simp <;> with_reducible rfl)⟩) (by assumption) ?_)
            | (refine wpAnyH_take (i := 3) rfl (by kernel_rfl) (by kernel_rfl) (by kernel_rfl) (fun _ _ _ h => h) (Or.inr ⟨by rfl, rfl⟩) (by assumption) ?_)
          (try simp only [Act.put, List.setIfInBounds_toArray, List.set_cons_zero, List.set_cons_succ, List.getElem_toArray, List.getElem_cons_zero, List.getElem_cons_succ])
          first
            | (refine wpAnyH_take (i := 4) rfl (by kernel_rfl) (by kernel_rfl) (by kernel_rfl) (fun _ _ _ h => h) (Or.inl ⟨by rfl, by intro w hSw; have x_frm := (HXD.out _ hSw).b_frm; (go_simp <;> with_reducible rfl)⟩) (by assumption) ?_)
            | (refine wpAnyH_take (i := 4) rfl (by kernel_rfl) (by kernel_rfl) (by kernel_rfl) (fun _ _ _ h => h) (Or.inr ⟨by rfl, rfl⟩) (by assumption) ?_)
          (try simp only [Act.put, List.setIfInBounds_toArray, List.set_cons_zero, List.set_cons_succ, List.getElem_toArray, List.getElem_cons_zero, List.getElem_cons_succ])
          first
            | (refine wpAnyH_take (i := 5) rfl (by kernel_rfl) (by kernel_rfl) (by kernel_rfl) (fun _ _ _ h => h) (Or.inl ⟨by rfl, by intro w hSw; have x_frm := (HXD.out _ hSw).b_frm; (go_simp <;> with_reducible rfl)⟩) (by assumption) ?_)
            | (refine wpAnyH_take (i := 5) rfl (by kernel_rfl) (by kernel_rfl) (by kernel_rfl) (fun _ _ _ h => h) (Or.inr ⟨by rfl, rfl⟩) (by assumption) ?_)
          (try simp only [Act.put, List.setIfInBounds_toArray, List.set_cons_zero, List.set_cons_succ, List.getElem_toArray, List.getElem_cons_zero, List.getElem_cons_succ])
          first
            | (refine wpAnyH_take (i := 6) rfl (by kernel_rfl) (by kernel_rfl) (by kernel_rfl) (fun _ _ _ h => h) (Or.inl ⟨by rfl, by intro w hSw; have x_frm := (HXD.out _ hSw).b_frm; (go_simp <;> with_reducible rfl)⟩) (by assumption) ?_)
            | (refine wpAnyH_take (i := 6) rfl (by kernel_rfl) (by kernel_rfl) (by kernel_rfl) (fun _ _ _ h => h) (Or.inr ⟨by rfl, rfl⟩) (by assumption) ?_)
          (try simp only [Act.put, List.setIfInBounds_toArray, List.set_cons_zero, List.set_cons_succ, List.getElem_toArray, List.getElem_cons_zero, List.getElem_cons_succ])
          first
            | (refine wpAnyH_take (i := 7) rfl (by kernel_rfl) (by kernel_rfl) (by kernel_rfl) (fun _ _ _ h => h) (Or.inl ⟨by rfl, by intro w hSw; have x_frm := (HXD.out _ hSw).b_frm; (go_simp <;> with_reducible rfl)⟩) (by assumption) ?_)
            | (refine wpAnyH_take (i := 7) rfl (by kernel_rfl) (by kernel_rfl) (by kernel_rfl) (fun _ _ _ h => h) (Or.inr ⟨by rfl, rfl⟩) (by assumption) ?_)
          (try simp only [Act.put, List.setIfInBounds_toArray, List.set_cons_zero, List.set_cons_succ, List.getElem_toArray, List.getElem_cons_zero, List.getElem_cons_succ])
          first
            | (refine wpAnyH_take (i := 8) rfl (by kernel_rfl) (by kernel_rfl) (by kernel_rfl) (fun _ _ _ h => h) (Or.inl ⟨by rfl, by intro w hSw; have x_frm := (HXD.out _ hSw).b_frm; (go_simp <;> with_reducible rfl)⟩) (by assumption) ?_)
            | (refine wpAnyH_take (i := 8) rfl (by kernel_rfl) (by kernel_rfl) (by kernel_rfl) (fun _ _ _ h => h) (Or.inr ⟨by rfl, rfl⟩) (by assumption) ?_)
          (try simp only [Act.put, List.setIfInBounds_toArray, List.set_cons_zero, List.set_cons_succ, List.getElem_toArray, List.getElem_cons_zero, List.getElem_cons_succ])
          first
            | (refine wpAnyH_take (i := 9) rfl (by kernel_rfl) (by kernel_rfl) (by kernel_rfl) (fun _ _ _ h => h) (Or.inl ⟨by rfl, by intro w hSw; have x_frm := (HXD.out _ hSw).b_frm; (go_simp <;> with_reducible rfl)⟩) (by assumption) ?_)
            | (refine wpAnyH_take (i := 9) rfl (by kernel_rfl) (by kernel_rfl) (by kernel_rfl) (fun _ _ _ h => h) (Or.inr ⟨by rfl, rfl⟩) (by assumption) ?_)
          (try simp only [Act.put, List.setIfInBounds_toArray, List.set_cons_zero, List.set_cons_succ, List.getElem_toArray, List.getElem_cons_zero, List.getElem_cons_succ])
          first
            | (refine wpAnyH_take (i := 10) rfl (by kernel_rfl) (by kernel_rfl) (by kernel_rfl) (fun _ _ _ h => h) (Or.inl ⟨by rfl, by intro w hSw; have x_frm := (HXD.out _ hSw).b_frm; (go_simp <;> with_reducible rfl)⟩) (by assumption) ?_)
            | (refine wpAnyH_take (i := 10) rfl (by kernel_rfl) (by kernel_rfl) (by kernel_rfl) (fun _ _ _ h => h) (Or.inr ⟨by rfl, rfl⟩) (by assumption) ?_)
          (try simp only [Act.put, List.setIfInBounds_toArray, List.set_cons_zero, List.set_cons_succ, List.getElem_toArray, List.getElem_cons_zero, List.getElem_cons_succ])
          first
            | (refine wpAnyH_take (i := 11) rfl (by kernel_rfl) (by kernel_rfl) (by kernel_rfl) (fun _ _ _ h => h) (Or.inl ⟨by rfl, by intro w hSw; have x_frm := (HXD.out _ hSw).b_frm; (go_simp <;> with_reducible rfl)⟩) (by assumption) ?_)
            | (refine wpAnyH_take (i := 11) rfl (by kernel_rfl) (by kernel_rfl) (by kernel_rfl) (fun _ _ _ h => h) (Or.inr ⟨by rfl, rfl⟩) (by assumption) ?_)
          (try simp only [Act.put, List.setIfInBounds_toArray, List.set_cons_zero, List.set_cons_succ, List.getElem_toArray, List.getElem_cons_zero, List.getElem_cons_succ])
          first
            | (refine wpAnyH_take (i := 12) rfl (by kernel_rfl) (by kernel_rfl) (by kernel_rfl) (fun _ _ _ h => h) (Or.inl ⟨by rfl, by intro w hSw; have x_frm := (HXD.out _ hSw).b_frm; (go_simp <;> with_reducible rfl)⟩) (by assumption) ?_)
            | (refine wpAnyH_take (i := 12) rfl (by kernel_rfl) (by kernel_rfl) (by kernel_rfl) (fun _ _ _ h => h) (Or.inr ⟨by rfl, rfl⟩) (by assumption) ?_)
          (try simp only [Act.put, List.setIfInBounds_toArray, List.set_cons_zero, List.set_cons_succ, List.getElem_toArray, List.getElem_cons_zero, List.getElem_cons_succ])
          first
            | (refine wpAnyH_take (i := 13) rfl (by kernel_rfl) (by kernel_rfl) (by kernel_rfl) (fun _ _ _ h => h) (Or.inl ⟨by rfl, by intro w hSw; have x_frm := (HXD.out _ hSw).b_frm; (go_simp <;> with_reducible rfl)⟩) (by assumption) ?_)
            | (refine wpAnyH_take (i := 13) rfl (by kernel_rfl) (by kernel_rfl) (by kernel_rfl) (fun _ _ _ h => h) (Or.inr ⟨by rfl, rfl⟩) (by assumption) ?_)
          (try simp only [Act.put, List.setIfInBounds_toArray, List.set_cons_zero, List.set_cons_succ, List.getElem_toArray, List.getElem_cons_zero, List.getElem_cons_succ])
          first
            | (refine wpAnyH_take (i := 14) rfl (by kernel_rfl) (by kernel_rfl) (by kernel_rfl) (fun _ _ _ h => h) (Or.inl ⟨by rfl, by intro w hSw; have x_frm := (HXD.out _ hSw).b_frm; (go_simp <;> with_reducible rfl)⟩) (by assumption) ?_)
            | (refine wpAnyH_take (i := 14) rfl (by kernel_rfl) (by kernel_rfl) (by kernel_rfl) (fun _ _ _ h => h) (Or.inr ⟨by rfl, rfl⟩) (by assumption) ?_)
          (try simp only [Act.put, List.setIfInBounds_toArray, List.set_cons_zero, List.set_cons_succ, List.getElem_toArray, List.getElem_cons_zero, List.getElem_cons_succ])
          first
            | (refine wpAnyH_take (i := 15) rfl (by kernel_rfl) (by kernel_rfl) (by kernel_rfl) (fun _ _ _ h => h) (Or.inl ⟨by rfl, by intro w hSw; have x_frm := (HXD.out _ hSw).b_frm; (go_simp <;> with_reducible rfl)⟩) (by assumption) ?_)
            | (refine wpAnyH_take (i := 15) rfl (by kernel_rfl) (by kernel_rfl) (by kernel_rfl) (fun _ _ _ h => h) (Or.inr ⟨by rfl, rfl⟩) (by assumption) ?_)
          (try simp only [Act.put, List.setIfInBounds_toArray, List.set_cons_zero, List.set_cons_succ, List.getElem_toArray, List.getElem_cons_zero, List.getElem_cons_succ])
          first
            | (refine wpAnyH_take (i := 16) rfl (by kernel_rfl) (by kernel_rfl) (by kernel_rfl) (fun _ _ _ h => h) (Or.inl ⟨by rfl, by intro w hSw; have x_frm := (HXD.out _ hSw).b_frm; (go_simp <;> with_reducible rfl)⟩) (by assumption) ?_)
            | (refine wpAnyH_take (i := 16) rfl (by kernel_rfl) (by kernel_rfl) (by kernel_rfl) (fun _ _ _ h => h) (Or.inr ⟨by rfl, rfl⟩) (by assumption) ?_)
          (try simp only [Act.put, List.setIfInBounds_toArray, List.set_cons_zero, List.set_cons_succ, List.getElem_toArray, List.getElem_cons_zero, List.getElem_cons_succ])
          first
            | (refine wpAnyH_take (i := 17) rfl (by kernel_rfl) (by kernel_rfl) (by kernel_rfl) (fun _ _ _ h => h) (Or.inl ⟨by rfl, by intro w hSw; have x_frm := (HXD.out _ hSw).b_frm; (go_simp <;> with_reducible rfl)⟩) (by assumption) ?_)
            | (refine wpAnyH_take (i := 17) rfl (by kernel_rfl) (by kernel_rfl) (by kernel_rfl) (fun _ _ _ h => h) (Or.inr ⟨by rfl, rfl⟩) (by assumption) ?_)
          (try simp only [Act.put, List.setIfInBounds_toArray, List.set_cons_zero, List.set_cons_succ, List.getElem_toArray, List.getElem_cons_zero, List.getElem_cons_succ])
          refine wpAnyH_done (by kernel_rfl) ?_ _
          clear hHeld
          have HLN := Lib.hid hln
          have HFO := Lib.hid (show followsB l (i) x = decide (x.own0 = 1) by unfold followsB; rw [hln])
          clear hln
          go_wp2_with fail
          refine (before_q _ l c (i) x (-1) _ ((HR.out.below (HBX.out.trans (HZ1.out.mono HBX.out.size))).more (HBX.out.trans (HZ1.out.mono HBX.out.size)).size) HXI.out hl (by rw [HLN.out]; rfl)).mono ?_
          rintro e w2 ⟨rfl, hb2⟩
          have HZ2 := Lib.hid (HZ1.out.trans (hb2.mono HZ1.out.size))
          clear hb2
          have x_own0 := (HXD.out _ HZ2.out).b_own0
          by_cases n1 : x.own0 = 1
          · have n1a : ((x.own0 : Int) == 1) = true := by simp [n1]
            have n1b : ((x.own0 : Int) != 1) = false := by simp [n1]
            have HFT := Lib.hid (show followsB l (i) x = true by rw [HFO.out]; exact decide_eq_true n1)
            go_wp2
            go_region
            have hzz := HZ2.out.drew
            generalize w2.drew = wz at hzz ⊢
            have HZ := Lib.hid hzz
            clear hzz x_own0 n1 n1a n1b
            have x_saw := (HXD.out _ HZ.out).b_saw
            by_cases s01 : x.saw = -1
            · have s01a : ((x.saw : Int) == -1) = true := by simp [s01]
              have s01b : ((x.saw : Int) != -1) = false := by simp [s01]
              have HOKU := Lib.hid (HUP.out.next (by rw [HOK.out, HRISE.out, HQ1.out, HFT.out, show sawB l x = true by unfold sawB; rw [decide_eq_true s01]; rfl]; rfl))
              have HBE := Lib.hid (HBX.out.trans (HZ.out.mono HBX.out.size))
              go_wp2
              go_roundw
              case rel => exact ⟨i + 1, by omega, by go_num, HOKU.out, HBE.out⟩
              case measure => simp [intOf]; omega
            · have s01a : ((x.saw : Int) == -1) = false := by simp [s01]
              have s01b : ((x.saw : Int) != -1) = true := by simp [s01]
              by_cases s1 : x.saw < 0
              · have HSN := Lib.hid (show sawB l x = false by unfold sawB placeB; rw [decide_eq_false s01, decide_eq_false (p := 0 ≤ x.saw ∧ x.saw < (l.length : Int)) (by omega)]; rfl)
                go_wp2
                go_ret
                exact ⟨by rw [HBAD.out (by rw [HOK.out]; rw [HSN.out]; simp)]; rfl, HBX.out.trans (HZ.out.mono HBX.out.size)⟩
              · have s1d : decide (x.saw < 0) = false := decide_eq_false s1
                by_cases s2 : (l.length : Int) ≤ x.saw
                · have HSN := Lib.hid (show sawB l x = false by unfold sawB placeB; rw [decide_eq_false s01, decide_eq_false (p := 0 ≤ x.saw ∧ x.saw < (l.length : Int)) (by omega)]; rfl)
                  go_wp2
                  go_ret
                  exact ⟨by rw [HBAD.out (by rw [HOK.out]; rw [HSN.out]; simp)]; rfl, HBX.out.trans (HZ.out.mono HBX.out.size)⟩
                · have s2d : decide ((l.length : Int) ≤ x.saw) = false := decide_eq_false s2
                  obtain ⟨k3, hk3⟩ := Int.eq_ofNat_of_zero_le (show 0 ≤ x.saw by omega)
                  have hk4 : k3 < l.length := by omega
                  obtain ⟨b3, o3, y3, hA3, -, hy3, -, hyc3⟩ := HR.out.at_ hk4
                  injection hA3 with hA3
                  injection hA3 with hA31 hA32
                  subst hA31 hA32
                  have HSAW := Lib.hid (sawB_at (v := x) hk3 hk4 hy3)
                  have HY3 := Lib.hid (hyc3 _ (HBX.out.trans (HZ.out.mono HBX.out.size))).1
                  obtain ⟨Xb1, Xb2, HXb1, HXb2, hthb, hxbb1, hxbb2, hxsb, hxvb⟩ := var17 wz y3 #[.int .i64 0, .int .i64 0, .int .i64 0, .int .u64 0, .slice none 0 0, .int .i64 0, .slice none 0 0, .bool false, .int .i64 0, .bool false, .int .i64 0, .int .i64 0, .int .i64 0, .int .i64 0, .int .i64 0, .int .i64 0, .int .i64 0, .int .i64 0, .int .i64 0, .int .i64 0] rfl
                  have HXBb := Lib.hid hxbb2; have HXVb := Lib.hid hxvb; have HTHb := Lib.hid hthb
                  clear hxbb1 hxbb2 hxsb hxvb hthb
                  have HBE := Lib.hid ((HBX.out.trans (HZ.out.mono HBX.out.size)).trans (HXBb.out.mono (HBX.out.trans (HZ.out.mono HBX.out.size)).size))
                  have hxz := HXD.out _ (HZ.out.trans (HXBb.out.mono HZ.out.size))
                  have x_done := hxz.b_done
                  have x_to := hxz.b_to
                  rw [hk3] at x_saw
                  have y_op := HXVb.out.b_op
                  have y_mark := HXVb.out.b_mark
                  have hk5 : (k3 : Int) < (l.length : Int) := by omega
                  have hk6 : ((k3 : Int) == -1) = false := by simp <;> omega
                  have hk7 : ((k3 : Int) != -1) = true := by simp <;> omega
                  clear hxz hyc3 hy3 s01 s01a s01b s1 s1d s2 s2d hk3
                  by_cases p1 : y3.op = 3
                  · have p1a : ((y3.op : Int) == 3) = true := by simp [p1]
                    have p1b : ((y3.op : Int) != 3) = false := by simp [p1]
                    by_cases p2 : y3.mark < 0
                    · go_wp2_with (first | (rw [← HXb1.out]) | (with_reducible refine wpList_store_mid (by kernel_rfl) _ _ _ rfl wz.heap.size 0 (cCells y3).toArray (by kernel_rfl) (by kernel_rfl) HTHb.out (cCells_infoA y3) (cCells_one y3) ?_) | (rw [← HXb2.out]) | (with_reducible refine wpList_loadC (by with_unfolding_all rfl) _ rfl _ _ _ (by with_unfolding_all rfl) HY3.out ?_))
                      go_ret
                      exact ⟨by rw [HBAD.out (by rw [HOK.out, HSAW.out]; rw [show decide (y3.op = 3 ∧ 0 ≤ y3.mark) = false from decide_eq_false (by omega)]; simp)]; rfl, HBE.out⟩
                    · have p2d : decide (y3.mark < 0) = false := decide_eq_false p2
                      cases hd : x.done with
                      | true =>
                        have HD := Lib.hid hd
                        rw [hd] at x_done
                        clear hd
                        by_cases h1 : x.to < y3.mark
                        · go_wp2_with (first | (rw [← HXb1.out]) | (with_reducible refine wpList_store_mid (by kernel_rfl) _ _ _ rfl wz.heap.size 0 (cCells y3).toArray (by kernel_rfl) (by kernel_rfl) HTHb.out (cCells_infoA y3) (cCells_one y3) ?_) | (rw [← HXb2.out]) | (with_reducible refine wpList_loadC (by with_unfolding_all rfl) _ rfl _ _ _ (by with_unfolding_all rfl) HY3.out ?_))
                          go_ret
                          exact ⟨by rw [HBAD.out (by rw [HOK.out, HSAW.out]; unfold reachesB; rw [HD.out]; simp; omega)]; rfl, HBE.out⟩
                        · have h1d : decide (x.to < y3.mark) = false := decide_eq_false h1
                          have HS3 := Lib.hid (show sawB l x = true by rw [HSAW.out]; unfold reachesB; rw [HD.out]; simp; omega)
                          have HOKU := Lib.hid (HUP.out.next (by rw [HOK.out, HRISE.out, HQ1.out, HFT.out, HS3.out]; rfl))
                          go_wp2_with (first | (rw [← HXb1.out]) | (with_reducible refine wpList_store_mid (by kernel_rfl) _ _ _ rfl wz.heap.size 0 (cCells y3).toArray (by kernel_rfl) (by kernel_rfl) HTHb.out (cCells_infoA y3) (cCells_one y3) ?_) | (rw [← HXb2.out]) | (with_reducible refine wpList_loadC (by with_unfolding_all rfl) _ rfl _ _ _ (by with_unfolding_all rfl) HY3.out ?_))
                          go_roundw
                          case rel => exact ⟨i + 1, by omega, by go_num, HOKU.out, HBE.out⟩
                          case measure => simp [intOf]; omega
                      | false =>
                        have HD := Lib.hid hd
                        rw [hd] at x_done
                        clear hd
                        have HS3 := Lib.hid (show sawB l x = true by rw [HSAW.out]; unfold reachesB; rw [HD.out]; simp; omega)
                        have HOKU := Lib.hid (HUP.out.next (by rw [HOK.out, HRISE.out, HQ1.out, HFT.out, HS3.out]; rfl))
                        go_wp2_with (first | (rw [← HXb1.out]) | (with_reducible refine wpList_store_mid (by kernel_rfl) _ _ _ rfl wz.heap.size 0 (cCells y3).toArray (by kernel_rfl) (by kernel_rfl) HTHb.out (cCells_infoA y3) (cCells_one y3) ?_) | (rw [← HXb2.out]) | (with_reducible refine wpList_loadC (by with_unfolding_all rfl) _ rfl _ _ _ (by with_unfolding_all rfl) HY3.out ?_))
                        go_roundw
                        case rel => exact ⟨i + 1, by omega, by go_num, HOKU.out, HBE.out⟩
                        case measure => simp [intOf]; omega
                  · have p1a : ((y3.op : Int) == 3) = false := by simp [p1]
                    have p1b : ((y3.op : Int) != 3) = true := by simp [p1]
                    go_wp2_with (first | (rw [← HXb1.out]) | (with_reducible refine wpList_store_mid (by kernel_rfl) _ _ _ rfl wz.heap.size 0 (cCells y3).toArray (by kernel_rfl) (by kernel_rfl) HTHb.out (cCells_infoA y3) (cCells_one y3) ?_) | (rw [← HXb2.out]) | (with_reducible refine wpList_loadC (by with_unfolding_all rfl) _ rfl _ _ _ (by with_unfolding_all rfl) HY3.out ?_))
                    go_ret
                    exact ⟨by rw [HBAD.out (by rw [HOK.out, HSAW.out]; rw [show decide (y3.op = 3 ∧ 0 ≤ y3.mark) = false from decide_eq_false (by omega)]; simp)]; rfl, HBE.out⟩
          · have n1a : ((x.own0 : Int) == 1) = false := by simp [n1]
            have n1b : ((x.own0 : Int) != 1) = true := by simp [n1]
            have HNE := Lib.hid n1
            go_wp2
            go_ret
            exact ⟨by rw [HBAD.out (by rw [HOK.out]; rw [HFO.out, decide_eq_false HNE.out]; simp)]; rfl, HBX.out.trans (HZ2.out.mono HBX.out.size)⟩
      · obtain ⟨j, rfl⟩ : ∃ j, i = j + 1 := ⟨i - 1, by omega⟩
        obtain ⟨b', o', y, hA, -, hy, -, hyc⟩ := HR.out.at_ (i := j) (by omega)
        injection hA with hA
        injection hA with hA1 hA2
        subst hA1 hA2
        have HYD : Hid (∀ W', Below X2.heap.size X2 W' → CAt W' b (o + j * 20) y) := Lib.hid (fun W' h => (hyc _ (HBX.out.trans (h.mono HBX.out.size))).1)
        have hj2 : (j : Int) < (l.length : Int) := by omega
        have hj3 : IntKind.i64.wrap (((j + 1 : Nat) : Int) - 1) = (j : Int) := by rw [show ((j + 1 : Nat) : Int) - 1 = (j : Int) by omega]; exact IntWalk.i64_in (j : Int) (by omega)
        have hj5 := IntWalk.i64_in (j : Int) (by omega)
        have hj4 : decide (0 < j + 1) = true := decide_eq_true (by omega)
        by_cases hrise : x.frm ≤ y.frm
        · have HRI := Lib.hid (show riseB l (j + 1) x = false by unfold riseB; simp only [hy]; exact decide_eq_false (by omega))
          clear hyc hbr hbl hy hz
          go_wp2_with (first | (rw [← HX1.out]) | (with_reducible refine wpList_store_mid (by kernel_rfl) _ _ _ rfl wr.heap.size 0 (cCells x).toArray (by kernel_rfl) (by kernel_rfl) HTH.out (cCells_infoA x) (cCells_one x) ?_) | (rw [← HX2.out]) | (with_reducible refine wpList_loadC (by with_unfolding_all rfl) _ rfl _ _ _ (by with_unfolding_all rfl) HXR.out ?_))
          refine wp_region_held_drew (S := fun W' => Below X2.heap.size X2 W') (by kernel_rfl) ((Below.refl _ _).drew) (fun hHeld => ?_)
          refine wpAnyH_take (i := 0) rfl (by kernel_rfl) (by kernel_rfl) (by kernel_rfl) (fun _ _ _ h => h) (yieldsIf_load_mid (by with_unfolding_all rfl) 51 _ rfl (wr.heap.size) (0) (by with_unfolding_all rfl) (cCells x) _ (fun W' hW' => HXD.out W' hW') Try.underlying51 rfl (cCells_info x)) (by assumption) ?_
          (try simp only [Act.put, List.setIfInBounds_toArray, List.set_cons_zero, List.set_cons_succ, List.getElem_toArray, List.getElem_cons_zero, List.getElem_cons_succ])
          refine wpAnyH_ready (rs := [1]) (by kernel_rfl) (by simp) (AllReadyH.cons rfl (fun K hK => ?_) AllReadyH.nil)
          go_simp
          refine (one_q x q1 _ HQ1.out).mono ?_
          rintro e w1 ⟨rfl, hb1⟩
          (try go_wp2_with fail)
          have HZ1 := Lib.hid ((Below.refl X2.heap.size X2).drew.trans hb1)
          clear hb1
          refine hK.out _ _ (HZ1.out) (fun hHeld => ?_)
          clear hK K
          (try simp only [Act.put, List.setIfInBounds_toArray, List.set_cons_zero, List.set_cons_succ, List.getElem_toArray, List.getElem_cons_zero, List.getElem_cons_succ])
          cases q1 with
          | false =>
            first
              | (refine wpAnyH_take (i := 2) rfl (by kernel_rfl) (by kernel_rfl) (by kernel_rfl) (fun _ _ _ h => h) (Or.inl ⟨by rfl, by intro w hSw; have x_frm := (HXD.out _ hSw).b_frm; have y_frm := (HYD.out _ hSw).frm; (go_simp <;> with_reducible rfl)⟩) (by assumption) ?_)
              | (refine wpAnyH_take (i := 2) rfl (by kernel_rfl) (by kernel_rfl) (by kernel_rfl) (fun _ _ _ h => h) (Or.inr ⟨by rfl, rfl⟩) (by assumption) ?_)
            (try simp only [Act.put, List.setIfInBounds_toArray, List.set_cons_zero, List.set_cons_succ, List.getElem_toArray, List.getElem_cons_zero, List.getElem_cons_succ])
            first
              | (refine wpAnyH_take (i := 3) rfl (by kernel_rfl) (by kernel_rfl) (by kernel_rfl) (fun _ _ _ h => h) (Or.inl ⟨by rfl, by intro w hSw; have x_frm := (HXD.out _ hSw).b_frm; have y_frm := (HYD.out _ hSw).frm; (go_simp <;> with_reducible rfl)⟩) (by assumption) ?_)
              | (refine wpAnyH_take (i := 3) rfl (by kernel_rfl) (by kernel_rfl) (by kernel_rfl) (fun _ _ _ h => h) (Or.inr ⟨by rfl, rfl⟩) (by assumption) ?_)
            (try simp only [Act.put, List.setIfInBounds_toArray, List.set_cons_zero, List.set_cons_succ, List.getElem_toArray, List.getElem_cons_zero, List.getElem_cons_succ])
            first
              | (refine wpAnyH_take (i := 4) rfl (by kernel_rfl) (by kernel_rfl) (by kernel_rfl) (fun _ _ _ h => h) (Or.inl ⟨by rfl, by intro w hSw; have x_frm := (HXD.out _ hSw).b_frm; have y_frm := (HYD.out _ hSw).frm; (go_simp <;> with_reducible rfl)⟩) (by assumption) ?_)
              | (refine wpAnyH_take (i := 4) rfl (by kernel_rfl) (by kernel_rfl) (by kernel_rfl) (fun _ _ _ h => h) (Or.inr ⟨by rfl, rfl⟩) (by assumption) ?_)
            (try simp only [Act.put, List.setIfInBounds_toArray, List.set_cons_zero, List.set_cons_succ, List.getElem_toArray, List.getElem_cons_zero, List.getElem_cons_succ])
            first
              | (refine wpAnyH_take (i := 5) rfl (by kernel_rfl) (by kernel_rfl) (by kernel_rfl) (fun _ _ _ h => h) (Or.inl ⟨by rfl, by intro w hSw; have x_frm := (HXD.out _ hSw).b_frm; have y_frm := (HYD.out _ hSw).frm; (go_simp <;> with_reducible rfl)⟩) (by assumption) ?_)
              | (refine wpAnyH_take (i := 5) rfl (by kernel_rfl) (by kernel_rfl) (by kernel_rfl) (fun _ _ _ h => h) (Or.inr ⟨by rfl, rfl⟩) (by assumption) ?_)
            (try simp only [Act.put, List.setIfInBounds_toArray, List.set_cons_zero, List.set_cons_succ, List.getElem_toArray, List.getElem_cons_zero, List.getElem_cons_succ])
            first
              | (refine wpAnyH_take (i := 6) rfl (by kernel_rfl) (by kernel_rfl) (by kernel_rfl) (fun _ _ _ h => h) (Or.inl ⟨by rfl, by intro w hSw; have x_frm := (HXD.out _ hSw).b_frm; have y_frm := (HYD.out _ hSw).frm; (go_simp <;> with_reducible rfl)⟩) (by assumption) ?_)
              | (refine wpAnyH_take (i := 6) rfl (by kernel_rfl) (by kernel_rfl) (by kernel_rfl) (fun _ _ _ h => h) (Or.inr ⟨by rfl, rfl⟩) (by assumption) ?_)
            (try simp only [Act.put, List.setIfInBounds_toArray, List.set_cons_zero, List.set_cons_succ, List.getElem_toArray, List.getElem_cons_zero, List.getElem_cons_succ])
            first
              | (refine wpAnyH_take (i := 7) rfl (by kernel_rfl) (by kernel_rfl) (by kernel_rfl) (fun _ _ _ h => h) (Or.inl ⟨by rfl, by intro w hSw; have x_frm := (HXD.out _ hSw).b_frm; have y_frm := (HYD.out _ hSw).frm; (go_simp <;> with_reducible rfl)⟩) (by assumption) ?_)
              | (refine wpAnyH_take (i := 7) rfl (by kernel_rfl) (by kernel_rfl) (by kernel_rfl) (fun _ _ _ h => h) (Or.inr ⟨by rfl, rfl⟩) (by assumption) ?_)
            (try simp only [Act.put, List.setIfInBounds_toArray, List.set_cons_zero, List.set_cons_succ, List.getElem_toArray, List.getElem_cons_zero, List.getElem_cons_succ])
            first
              | (refine wpAnyH_take (i := 8) rfl (by kernel_rfl) (by kernel_rfl) (by kernel_rfl) (fun _ _ _ h => h) (Or.inl ⟨by rfl, by intro w hSw; have x_frm := (HXD.out _ hSw).b_frm; have y_frm := (HYD.out _ hSw).frm; (go_simp <;> with_reducible rfl)⟩) (by assumption) ?_)
              | (refine wpAnyH_take (i := 8) rfl (by kernel_rfl) (by kernel_rfl) (by kernel_rfl) (fun _ _ _ h => h) (Or.inr ⟨by rfl, rfl⟩) (by assumption) ?_)
            (try simp only [Act.put, List.setIfInBounds_toArray, List.set_cons_zero, List.set_cons_succ, List.getElem_toArray, List.getElem_cons_zero, List.getElem_cons_succ])
            first
              | (refine wpAnyH_take (i := 9) rfl (by kernel_rfl) (by kernel_rfl) (by kernel_rfl) (fun _ _ _ h => h) (Or.inl ⟨by rfl, by intro w hSw; have x_frm := (HXD.out _ hSw).b_frm; have y_frm := (HYD.out _ hSw).frm; (go_simp <;> with_reducible rfl)⟩) (by assumption) ?_)
              | (refine wpAnyH_take (i := 9) rfl (by kernel_rfl) (by kernel_rfl) (by kernel_rfl) (fun _ _ _ h => h) (Or.inr ⟨by rfl, rfl⟩) (by assumption) ?_)
            (try simp only [Act.put, List.setIfInBounds_toArray, List.set_cons_zero, List.set_cons_succ, List.getElem_toArray, List.getElem_cons_zero, List.getElem_cons_succ])
            first
              | (refine wpAnyH_take (i := 10) rfl (by kernel_rfl) (by kernel_rfl) (by kernel_rfl) (fun _ _ _ h => h) (Or.inl ⟨by rfl, by intro w hSw; have x_frm := (HXD.out _ hSw).b_frm; have y_frm := (HYD.out _ hSw).frm; (go_simp <;> with_reducible rfl)⟩) (by assumption) ?_)
              | (refine wpAnyH_take (i := 10) rfl (by kernel_rfl) (by kernel_rfl) (by kernel_rfl) (fun _ _ _ h => h) (Or.inr ⟨by rfl, rfl⟩) (by assumption) ?_)
            (try simp only [Act.put, List.setIfInBounds_toArray, List.set_cons_zero, List.set_cons_succ, List.getElem_toArray, List.getElem_cons_zero, List.getElem_cons_succ])
            first
              | (refine wpAnyH_take (i := 11) rfl (by kernel_rfl) (by kernel_rfl) (by kernel_rfl) (fun _ _ _ h => h) (Or.inl ⟨by rfl, by intro w hSw; have x_frm := (HXD.out _ hSw).b_frm; have y_frm := (HYD.out _ hSw).frm; (go_simp <;> with_reducible rfl)⟩) (by assumption) ?_)
              | (refine wpAnyH_take (i := 11) rfl (by kernel_rfl) (by kernel_rfl) (by kernel_rfl) (fun _ _ _ h => h) (Or.inr ⟨by rfl, rfl⟩) (by assumption) ?_)
            (try simp only [Act.put, List.setIfInBounds_toArray, List.set_cons_zero, List.set_cons_succ, List.getElem_toArray, List.getElem_cons_zero, List.getElem_cons_succ])
            first
              | (refine wpAnyH_take (i := 12) rfl (by kernel_rfl) (by kernel_rfl) (by kernel_rfl) (fun _ _ _ h => h) (Or.inl ⟨by rfl, by intro w hSw; have x_frm := (HXD.out _ hSw).b_frm; have y_frm := (HYD.out _ hSw).frm; (go_simp <;> with_reducible rfl)⟩) (by assumption) ?_)
              | (refine wpAnyH_take (i := 12) rfl (by kernel_rfl) (by kernel_rfl) (by kernel_rfl) (fun _ _ _ h => h) (Or.inr ⟨by rfl, rfl⟩) (by assumption) ?_)
            (try simp only [Act.put, List.setIfInBounds_toArray, List.set_cons_zero, List.set_cons_succ, List.getElem_toArray, List.getElem_cons_zero, List.getElem_cons_succ])
            first
              | (refine wpAnyH_take (i := 13) rfl (by kernel_rfl) (by kernel_rfl) (by kernel_rfl) (fun _ _ _ h => h) (Or.inl ⟨by rfl, by intro w hSw; have x_frm := (HXD.out _ hSw).b_frm; have y_frm := (HYD.out _ hSw).frm; (go_simp <;> with_reducible rfl)⟩) (by assumption) ?_)
              | (refine wpAnyH_take (i := 13) rfl (by kernel_rfl) (by kernel_rfl) (by kernel_rfl) (fun _ _ _ h => h) (Or.inr ⟨by rfl, rfl⟩) (by assumption) ?_)
            (try simp only [Act.put, List.setIfInBounds_toArray, List.set_cons_zero, List.set_cons_succ, List.getElem_toArray, List.getElem_cons_zero, List.getElem_cons_succ])
            first
              | (refine wpAnyH_take (i := 14) rfl (by kernel_rfl) (by kernel_rfl) (by kernel_rfl) (fun _ _ _ h => h) (Or.inl ⟨by rfl, by intro w hSw; have x_frm := (HXD.out _ hSw).b_frm; have y_frm := (HYD.out _ hSw).frm; (go_simp <;> with_reducible rfl)⟩) (by assumption) ?_)
              | (refine wpAnyH_take (i := 14) rfl (by kernel_rfl) (by kernel_rfl) (by kernel_rfl) (fun _ _ _ h => h) (Or.inr ⟨by rfl, rfl⟩) (by assumption) ?_)
            (try simp only [Act.put, List.setIfInBounds_toArray, List.set_cons_zero, List.set_cons_succ, List.getElem_toArray, List.getElem_cons_zero, List.getElem_cons_succ])
            first
              | (refine wpAnyH_take (i := 15) rfl (by kernel_rfl) (by kernel_rfl) (by kernel_rfl) (fun _ _ _ h => h) (Or.inl ⟨by rfl, by intro w hSw; have x_frm := (HXD.out _ hSw).b_frm; have y_frm := (HYD.out _ hSw).frm; (go_simp <;> with_reducible rfl)⟩) (by assumption) ?_)
              | (refine wpAnyH_take (i := 15) rfl (by kernel_rfl) (by kernel_rfl) (by kernel_rfl) (fun _ _ _ h => h) (Or.inr ⟨by rfl, rfl⟩) (by assumption) ?_)
            (try simp only [Act.put, List.setIfInBounds_toArray, List.set_cons_zero, List.set_cons_succ, List.getElem_toArray, List.getElem_cons_zero, List.getElem_cons_succ])
            first
              | (refine wpAnyH_take (i := 16) rfl (by kernel_rfl) (by kernel_rfl) (by kernel_rfl) (fun _ _ _ h => h) (Or.inl ⟨by rfl, by intro w hSw; have x_frm := (HXD.out _ hSw).b_frm; have y_frm := (HYD.out _ hSw).frm; (go_simp <;> with_reducible rfl)⟩) (by assumption) ?_)
              | (refine wpAnyH_take (i := 16) rfl (by kernel_rfl) (by kernel_rfl) (by kernel_rfl) (fun _ _ _ h => h) (Or.inr ⟨by rfl, rfl⟩) (by assumption) ?_)
            (try simp only [Act.put, List.setIfInBounds_toArray, List.set_cons_zero, List.set_cons_succ, List.getElem_toArray, List.getElem_cons_zero, List.getElem_cons_succ])
            first
              | (refine wpAnyH_take (i := 17) rfl (by kernel_rfl) (by kernel_rfl) (by kernel_rfl) (fun _ _ _ h => h) (Or.inl ⟨by rfl, by intro w hSw; have x_frm := (HXD.out _ hSw).b_frm; have y_frm := (HYD.out _ hSw).frm; (go_simp <;> with_reducible rfl)⟩) (by assumption) ?_)
              | (refine wpAnyH_take (i := 17) rfl (by kernel_rfl) (by kernel_rfl) (by kernel_rfl) (fun _ _ _ h => h) (Or.inr ⟨by rfl, rfl⟩) (by assumption) ?_)
            (try simp only [Act.put, List.setIfInBounds_toArray, List.set_cons_zero, List.set_cons_succ, List.getElem_toArray, List.getElem_cons_zero, List.getElem_cons_succ])
            refine wpAnyH_done (by kernel_rfl) ?_ _
            clear hHeld
            go_wp2
            go_ret
            exact ⟨by rw [HBAD.out (by rw [HOK.out]; rw [HQ1.out]; simp)]; rfl, HBX.out.trans (HZ1.out.mono HBX.out.size)⟩
          | true =>
            have HT1 := Lib.hid (show 1 ≤ x.own0 by have h := HQ1.out; unfold oneB at h; simp at h; exact h.1.2.2.1)
            first
              | (refine wpAnyH_take (i := 2) rfl (by kernel_rfl) (by kernel_rfl) (by kernel_rfl) (fun _ _ _ h => h) (Or.inl ⟨by rfl, by intro w hSw; have x_frm := (HXD.out _ hSw).b_frm; have y_frm := (HYD.out _ hSw).frm; (go_simp <;> with_reducible rfl)⟩) (by assumption) ?_)
              | (refine wpAnyH_take (i := 2) rfl (by kernel_rfl) (by kernel_rfl) (by kernel_rfl) (fun _ _ _ h => h) (Or.inr ⟨by rfl, rfl⟩) (by assumption) ?_)
            (try simp only [Act.put, List.setIfInBounds_toArray, List.set_cons_zero, List.set_cons_succ, List.getElem_toArray, List.getElem_cons_zero, List.getElem_cons_succ])
            first
              | (refine wpAnyH_take (i := 3) rfl (by kernel_rfl) (by kernel_rfl) (by kernel_rfl) (fun _ _ _ h => h) (Or.inl ⟨by rfl, by intro w hSw; have x_frm := (HXD.out _ hSw).b_frm; have y_frm := (HYD.out _ hSw).frm; (go_simp <;> with_reducible rfl)⟩) (by assumption) ?_)
              | (refine wpAnyH_take (i := 3) rfl (by kernel_rfl) (by kernel_rfl) (by kernel_rfl) (fun _ _ _ h => h) (Or.inr ⟨by rfl, rfl⟩) (by assumption) ?_)
            (try simp only [Act.put, List.setIfInBounds_toArray, List.set_cons_zero, List.set_cons_succ, List.getElem_toArray, List.getElem_cons_zero, List.getElem_cons_succ])
            first
              | (refine wpAnyH_take (i := 4) rfl (by kernel_rfl) (by kernel_rfl) (by kernel_rfl) (fun _ _ _ h => h) (Or.inl ⟨by rfl, by intro w hSw; have x_frm := (HXD.out _ hSw).b_frm; have y_frm := (HYD.out _ hSw).frm; (go_simp <;> with_reducible rfl)⟩) (by assumption) ?_)
              | (refine wpAnyH_take (i := 4) rfl (by kernel_rfl) (by kernel_rfl) (by kernel_rfl) (fun _ _ _ h => h) (Or.inr ⟨by rfl, rfl⟩) (by assumption) ?_)
            (try simp only [Act.put, List.setIfInBounds_toArray, List.set_cons_zero, List.set_cons_succ, List.getElem_toArray, List.getElem_cons_zero, List.getElem_cons_succ])
            first
              | (refine wpAnyH_take (i := 5) rfl (by kernel_rfl) (by kernel_rfl) (by kernel_rfl) (fun _ _ _ h => h) (Or.inl ⟨by rfl, by intro w hSw; have x_frm := (HXD.out _ hSw).b_frm; have y_frm := (HYD.out _ hSw).frm; (go_simp <;> with_reducible rfl)⟩) (by assumption) ?_)
              | (refine wpAnyH_take (i := 5) rfl (by kernel_rfl) (by kernel_rfl) (by kernel_rfl) (fun _ _ _ h => h) (Or.inr ⟨by rfl, rfl⟩) (by assumption) ?_)
            (try simp only [Act.put, List.setIfInBounds_toArray, List.set_cons_zero, List.set_cons_succ, List.getElem_toArray, List.getElem_cons_zero, List.getElem_cons_succ])
            first
              | (refine wpAnyH_take (i := 6) rfl (by kernel_rfl) (by kernel_rfl) (by kernel_rfl) (fun _ _ _ h => h) (Or.inl ⟨by rfl, by intro w hSw; have x_frm := (HXD.out _ hSw).b_frm; have y_frm := (HYD.out _ hSw).frm; (go_simp <;> with_reducible rfl)⟩) (by assumption) ?_)
              | (refine wpAnyH_take (i := 6) rfl (by kernel_rfl) (by kernel_rfl) (by kernel_rfl) (fun _ _ _ h => h) (Or.inr ⟨by rfl, rfl⟩) (by assumption) ?_)
            (try simp only [Act.put, List.setIfInBounds_toArray, List.set_cons_zero, List.set_cons_succ, List.getElem_toArray, List.getElem_cons_zero, List.getElem_cons_succ])
            first
              | (refine wpAnyH_take (i := 7) rfl (by kernel_rfl) (by kernel_rfl) (by kernel_rfl) (fun _ _ _ h => h) (Or.inl ⟨by rfl, by intro w hSw; have x_frm := (HXD.out _ hSw).b_frm; have y_frm := (HYD.out _ hSw).frm; (go_simp <;> with_reducible rfl)⟩) (by assumption) ?_)
              | (refine wpAnyH_take (i := 7) rfl (by kernel_rfl) (by kernel_rfl) (by kernel_rfl) (fun _ _ _ h => h) (Or.inr ⟨by rfl, rfl⟩) (by assumption) ?_)
            (try simp only [Act.put, List.setIfInBounds_toArray, List.set_cons_zero, List.set_cons_succ, List.getElem_toArray, List.getElem_cons_zero, List.getElem_cons_succ])
            first
              | (refine wpAnyH_take (i := 8) rfl (by kernel_rfl) (by kernel_rfl) (by kernel_rfl) (fun _ _ _ h => h) (Or.inl ⟨by rfl, by intro w hSw; have x_frm := (HXD.out _ hSw).b_frm; have y_frm := (HYD.out _ hSw).frm; (go_simp <;> with_reducible rfl)⟩) (by assumption) ?_)
              | (refine wpAnyH_take (i := 8) rfl (by kernel_rfl) (by kernel_rfl) (by kernel_rfl) (fun _ _ _ h => h) (Or.inr ⟨by rfl, rfl⟩) (by assumption) ?_)
            (try simp only [Act.put, List.setIfInBounds_toArray, List.set_cons_zero, List.set_cons_succ, List.getElem_toArray, List.getElem_cons_zero, List.getElem_cons_succ])
            first
              | (refine wpAnyH_take (i := 9) rfl (by kernel_rfl) (by kernel_rfl) (by kernel_rfl) (fun _ _ _ h => h) (Or.inl ⟨by rfl, by intro w hSw; have x_frm := (HXD.out _ hSw).b_frm; have y_frm := (HYD.out _ hSw).frm; (go_simp <;> with_reducible rfl)⟩) (by assumption) ?_)
              | (refine wpAnyH_take (i := 9) rfl (by kernel_rfl) (by kernel_rfl) (by kernel_rfl) (fun _ _ _ h => h) (Or.inr ⟨by rfl, rfl⟩) (by assumption) ?_)
            (try simp only [Act.put, List.setIfInBounds_toArray, List.set_cons_zero, List.set_cons_succ, List.getElem_toArray, List.getElem_cons_zero, List.getElem_cons_succ])
            first
              | (refine wpAnyH_take (i := 10) rfl (by kernel_rfl) (by kernel_rfl) (by kernel_rfl) (fun _ _ _ h => h) (Or.inl ⟨by rfl, by intro w hSw; have x_frm := (HXD.out _ hSw).b_frm; have y_frm := (HYD.out _ hSw).frm; (go_simp <;> with_reducible rfl)⟩) (by assumption) ?_)
              | (refine wpAnyH_take (i := 10) rfl (by kernel_rfl) (by kernel_rfl) (by kernel_rfl) (fun _ _ _ h => h) (Or.inr ⟨by rfl, rfl⟩) (by assumption) ?_)
            (try simp only [Act.put, List.setIfInBounds_toArray, List.set_cons_zero, List.set_cons_succ, List.getElem_toArray, List.getElem_cons_zero, List.getElem_cons_succ])
            first
              | (refine wpAnyH_take (i := 11) rfl (by kernel_rfl) (by kernel_rfl) (by kernel_rfl) (fun _ _ _ h => h) (Or.inl ⟨by rfl, by intro w hSw; have x_frm := (HXD.out _ hSw).b_frm; have y_frm := (HYD.out _ hSw).frm; (go_simp <;> with_reducible rfl)⟩) (by assumption) ?_)
              | (refine wpAnyH_take (i := 11) rfl (by kernel_rfl) (by kernel_rfl) (by kernel_rfl) (fun _ _ _ h => h) (Or.inr ⟨by rfl, rfl⟩) (by assumption) ?_)
            (try simp only [Act.put, List.setIfInBounds_toArray, List.set_cons_zero, List.set_cons_succ, List.getElem_toArray, List.getElem_cons_zero, List.getElem_cons_succ])
            first
              | (refine wpAnyH_take (i := 12) rfl (by kernel_rfl) (by kernel_rfl) (by kernel_rfl) (fun _ _ _ h => h) (Or.inl ⟨by rfl, by intro w hSw; have x_frm := (HXD.out _ hSw).b_frm; have y_frm := (HYD.out _ hSw).frm; (go_simp <;> with_reducible rfl)⟩) (by assumption) ?_)
              | (refine wpAnyH_take (i := 12) rfl (by kernel_rfl) (by kernel_rfl) (by kernel_rfl) (fun _ _ _ h => h) (Or.inr ⟨by rfl, rfl⟩) (by assumption) ?_)
            (try simp only [Act.put, List.setIfInBounds_toArray, List.set_cons_zero, List.set_cons_succ, List.getElem_toArray, List.getElem_cons_zero, List.getElem_cons_succ])
            first
              | (refine wpAnyH_take (i := 13) rfl (by kernel_rfl) (by kernel_rfl) (by kernel_rfl) (fun _ _ _ h => h) (Or.inl ⟨by rfl, by intro w hSw; have x_frm := (HXD.out _ hSw).b_frm; have y_frm := (HYD.out _ hSw).frm; (go_simp <;> with_reducible rfl)⟩) (by assumption) ?_)
              | (refine wpAnyH_take (i := 13) rfl (by kernel_rfl) (by kernel_rfl) (by kernel_rfl) (fun _ _ _ h => h) (Or.inr ⟨by rfl, rfl⟩) (by assumption) ?_)
            (try simp only [Act.put, List.setIfInBounds_toArray, List.set_cons_zero, List.set_cons_succ, List.getElem_toArray, List.getElem_cons_zero, List.getElem_cons_succ])
            first
              | (refine wpAnyH_take (i := 14) rfl (by kernel_rfl) (by kernel_rfl) (by kernel_rfl) (fun _ _ _ h => h) (Or.inl ⟨by rfl, by intro w hSw; have x_frm := (HXD.out _ hSw).b_frm; have y_frm := (HYD.out _ hSw).frm; (go_simp <;> with_reducible rfl)⟩) (by assumption) ?_)
              | (refine wpAnyH_take (i := 14) rfl (by kernel_rfl) (by kernel_rfl) (by kernel_rfl) (fun _ _ _ h => h) (Or.inr ⟨by rfl, rfl⟩) (by assumption) ?_)
            (try simp only [Act.put, List.setIfInBounds_toArray, List.set_cons_zero, List.set_cons_succ, List.getElem_toArray, List.getElem_cons_zero, List.getElem_cons_succ])
            first
              | (refine wpAnyH_take (i := 15) rfl (by kernel_rfl) (by kernel_rfl) (by kernel_rfl) (fun _ _ _ h => h) (Or.inl ⟨by rfl, by intro w hSw; have x_frm := (HXD.out _ hSw).b_frm; have y_frm := (HYD.out _ hSw).frm; (go_simp <;> with_reducible rfl)⟩) (by assumption) ?_)
              | (refine wpAnyH_take (i := 15) rfl (by kernel_rfl) (by kernel_rfl) (by kernel_rfl) (fun _ _ _ h => h) (Or.inr ⟨by rfl, rfl⟩) (by assumption) ?_)
            (try simp only [Act.put, List.setIfInBounds_toArray, List.set_cons_zero, List.set_cons_succ, List.getElem_toArray, List.getElem_cons_zero, List.getElem_cons_succ])
            first
              | (refine wpAnyH_take (i := 16) rfl (by kernel_rfl) (by kernel_rfl) (by kernel_rfl) (fun _ _ _ h => h) (Or.inl ⟨by rfl, by intro w hSw; have x_frm := (HXD.out _ hSw).b_frm; have y_frm := (HYD.out _ hSw).frm; (go_simp <;> with_reducible rfl)⟩) (by assumption) ?_)
              | (refine wpAnyH_take (i := 16) rfl (by kernel_rfl) (by kernel_rfl) (by kernel_rfl) (fun _ _ _ h => h) (Or.inr ⟨by rfl, rfl⟩) (by assumption) ?_)
            (try simp only [Act.put, List.setIfInBounds_toArray, List.set_cons_zero, List.set_cons_succ, List.getElem_toArray, List.getElem_cons_zero, List.getElem_cons_succ])
            first
              | (refine wpAnyH_take (i := 17) rfl (by kernel_rfl) (by kernel_rfl) (by kernel_rfl) (fun _ _ _ h => h) (Or.inl ⟨by rfl, by intro w hSw; have x_frm := (HXD.out _ hSw).b_frm; have y_frm := (HYD.out _ hSw).frm; (go_simp <;> with_reducible rfl)⟩) (by assumption) ?_)
              | (refine wpAnyH_take (i := 17) rfl (by kernel_rfl) (by kernel_rfl) (by kernel_rfl) (fun _ _ _ h => h) (Or.inr ⟨by rfl, rfl⟩) (by assumption) ?_)
            (try simp only [Act.put, List.setIfInBounds_toArray, List.set_cons_zero, List.set_cons_succ, List.getElem_toArray, List.getElem_cons_zero, List.getElem_cons_succ])
            refine wpAnyH_done (by kernel_rfl) ?_ _
            clear hHeld
            go_wp2
            go_ret
            exact ⟨by rw [HBAD.out (by rw [HOK.out]; rw [HRI.out]; rfl)]; rfl, HBX.out.trans (HZ1.out.mono HBX.out.size)⟩
        · have HRISE := Lib.hid (show riseB l (j + 1) x = true by unfold riseB; simp only [hy]; exact decide_eq_true (by omega))
          have hrd : decide (x.frm ≤ y.frm) = false := decide_eq_false hrise
          clear hyc hbr hbl hy hz
          cases hln : lastIx l x.part (j + 1) with
          | none =>
            go_wp2_with (first | (rw [← HX1.out]) | (with_reducible refine wpList_store_mid (by kernel_rfl) _ _ _ rfl wr.heap.size 0 (cCells x).toArray (by kernel_rfl) (by kernel_rfl) HTH.out (cCells_infoA x) (cCells_one x) ?_) | (rw [← HX2.out]) | (with_reducible refine wpList_loadC (by with_unfolding_all rfl) _ rfl _ _ _ (by with_unfolding_all rfl) HXR.out ?_))
            refine wp_region_held_drew (S := fun W' => Below X2.heap.size X2 W') (by kernel_rfl) ((Below.refl _ _).drew) (fun hHeld => ?_)
            refine wpAnyH_take (i := 0) rfl (by kernel_rfl) (by kernel_rfl) (by kernel_rfl) (fun _ _ _ h => h) (yieldsIf_load_mid (by with_unfolding_all rfl) 51 _ rfl (wr.heap.size) (0) (by with_unfolding_all rfl) (cCells x) _ (fun W' hW' => HXD.out W' hW') Try.underlying51 rfl (cCells_info x)) (by assumption) ?_
            (try simp only [Act.put, List.setIfInBounds_toArray, List.set_cons_zero, List.set_cons_succ, List.getElem_toArray, List.getElem_cons_zero, List.getElem_cons_succ])
            refine wpAnyH_ready (rs := [1]) (by kernel_rfl) (by simp) (AllReadyH.cons rfl (fun K hK => ?_) AllReadyH.nil)
            go_simp
            refine (one_q x q1 _ HQ1.out).mono ?_
            rintro e w1 ⟨rfl, hb1⟩
            (try go_wp2_with fail)
            have HZ1 := Lib.hid ((Below.refl X2.heap.size X2).drew.trans hb1)
            clear hb1
            refine hK.out _ _ (HZ1.out) (fun hHeld => ?_)
            clear hK K
            (try simp only [Act.put, List.setIfInBounds_toArray, List.set_cons_zero, List.set_cons_succ, List.getElem_toArray, List.getElem_cons_zero, List.getElem_cons_succ])
            cases q1 with
            | false =>
              first
                | (refine wpAnyH_take (i := 2) rfl (by kernel_rfl) (by kernel_rfl) (by kernel_rfl) (fun _ _ _ h => h) (Or.inl ⟨by rfl, by intro w hSw; have x_frm := (HXD.out _ hSw).b_frm; have y_frm := (HYD.out _ hSw).frm; (go_simp <;> with_reducible rfl)⟩) (by assumption) ?_)
                | (refine wpAnyH_take (i := 2) rfl (by kernel_rfl) (by kernel_rfl) (by kernel_rfl) (fun _ _ _ h => h) (Or.inr ⟨by rfl, rfl⟩) (by assumption) ?_)
              (try simp only [Act.put, List.setIfInBounds_toArray, List.set_cons_zero, List.set_cons_succ, List.getElem_toArray, List.getElem_cons_zero, List.getElem_cons_succ])
              first
                | (refine wpAnyH_take (i := 3) rfl (by kernel_rfl) (by kernel_rfl) (by kernel_rfl) (fun _ _ _ h => h) (Or.inl ⟨by rfl, by intro w hSw; have x_frm := (HXD.out _ hSw).b_frm; have y_frm := (HYD.out _ hSw).frm; (go_simp <;> with_reducible rfl)⟩) (by assumption) ?_)
                | (refine wpAnyH_take (i := 3) rfl (by kernel_rfl) (by kernel_rfl) (by kernel_rfl) (fun _ _ _ h => h) (Or.inr ⟨by rfl, rfl⟩) (by assumption) ?_)
              (try simp only [Act.put, List.setIfInBounds_toArray, List.set_cons_zero, List.set_cons_succ, List.getElem_toArray, List.getElem_cons_zero, List.getElem_cons_succ])
              first
                | (refine wpAnyH_take (i := 4) rfl (by kernel_rfl) (by kernel_rfl) (by kernel_rfl) (fun _ _ _ h => h) (Or.inl ⟨by rfl, by intro w hSw; have x_frm := (HXD.out _ hSw).b_frm; have y_frm := (HYD.out _ hSw).frm; (go_simp <;> with_reducible rfl)⟩) (by assumption) ?_)
                | (refine wpAnyH_take (i := 4) rfl (by kernel_rfl) (by kernel_rfl) (by kernel_rfl) (fun _ _ _ h => h) (Or.inr ⟨by rfl, rfl⟩) (by assumption) ?_)
              (try simp only [Act.put, List.setIfInBounds_toArray, List.set_cons_zero, List.set_cons_succ, List.getElem_toArray, List.getElem_cons_zero, List.getElem_cons_succ])
              first
                | (refine wpAnyH_take (i := 5) rfl (by kernel_rfl) (by kernel_rfl) (by kernel_rfl) (fun _ _ _ h => h) (Or.inl ⟨by rfl, by intro w hSw; have x_frm := (HXD.out _ hSw).b_frm; have y_frm := (HYD.out _ hSw).frm; (go_simp <;> with_reducible rfl)⟩) (by assumption) ?_)
                | (refine wpAnyH_take (i := 5) rfl (by kernel_rfl) (by kernel_rfl) (by kernel_rfl) (fun _ _ _ h => h) (Or.inr ⟨by rfl, rfl⟩) (by assumption) ?_)
              (try simp only [Act.put, List.setIfInBounds_toArray, List.set_cons_zero, List.set_cons_succ, List.getElem_toArray, List.getElem_cons_zero, List.getElem_cons_succ])
              first
                | (refine wpAnyH_take (i := 6) rfl (by kernel_rfl) (by kernel_rfl) (by kernel_rfl) (fun _ _ _ h => h) (Or.inl ⟨by rfl, by intro w hSw; have x_frm := (HXD.out _ hSw).b_frm; have y_frm := (HYD.out _ hSw).frm; (go_simp <;> with_reducible rfl)⟩) (by assumption) ?_)
                | (refine wpAnyH_take (i := 6) rfl (by kernel_rfl) (by kernel_rfl) (by kernel_rfl) (fun _ _ _ h => h) (Or.inr ⟨by rfl, rfl⟩) (by assumption) ?_)
              (try simp only [Act.put, List.setIfInBounds_toArray, List.set_cons_zero, List.set_cons_succ, List.getElem_toArray, List.getElem_cons_zero, List.getElem_cons_succ])
              first
                | (refine wpAnyH_take (i := 7) rfl (by kernel_rfl) (by kernel_rfl) (by kernel_rfl) (fun _ _ _ h => h) (Or.inl ⟨by rfl, by intro w hSw; have x_frm := (HXD.out _ hSw).b_frm; have y_frm := (HYD.out _ hSw).frm; (go_simp <;> with_reducible rfl)⟩) (by assumption) ?_)
                | (refine wpAnyH_take (i := 7) rfl (by kernel_rfl) (by kernel_rfl) (by kernel_rfl) (fun _ _ _ h => h) (Or.inr ⟨by rfl, rfl⟩) (by assumption) ?_)
              (try simp only [Act.put, List.setIfInBounds_toArray, List.set_cons_zero, List.set_cons_succ, List.getElem_toArray, List.getElem_cons_zero, List.getElem_cons_succ])
              first
                | (refine wpAnyH_take (i := 8) rfl (by kernel_rfl) (by kernel_rfl) (by kernel_rfl) (fun _ _ _ h => h) (Or.inl ⟨by rfl, by intro w hSw; have x_frm := (HXD.out _ hSw).b_frm; have y_frm := (HYD.out _ hSw).frm; (go_simp <;> with_reducible rfl)⟩) (by assumption) ?_)
                | (refine wpAnyH_take (i := 8) rfl (by kernel_rfl) (by kernel_rfl) (by kernel_rfl) (fun _ _ _ h => h) (Or.inr ⟨by rfl, rfl⟩) (by assumption) ?_)
              (try simp only [Act.put, List.setIfInBounds_toArray, List.set_cons_zero, List.set_cons_succ, List.getElem_toArray, List.getElem_cons_zero, List.getElem_cons_succ])
              first
                | (refine wpAnyH_take (i := 9) rfl (by kernel_rfl) (by kernel_rfl) (by kernel_rfl) (fun _ _ _ h => h) (Or.inl ⟨by rfl, by intro w hSw; have x_frm := (HXD.out _ hSw).b_frm; have y_frm := (HYD.out _ hSw).frm; (go_simp <;> with_reducible rfl)⟩) (by assumption) ?_)
                | (refine wpAnyH_take (i := 9) rfl (by kernel_rfl) (by kernel_rfl) (by kernel_rfl) (fun _ _ _ h => h) (Or.inr ⟨by rfl, rfl⟩) (by assumption) ?_)
              (try simp only [Act.put, List.setIfInBounds_toArray, List.set_cons_zero, List.set_cons_succ, List.getElem_toArray, List.getElem_cons_zero, List.getElem_cons_succ])
              first
                | (refine wpAnyH_take (i := 10) rfl (by kernel_rfl) (by kernel_rfl) (by kernel_rfl) (fun _ _ _ h => h) (Or.inl ⟨by rfl, by intro w hSw; have x_frm := (HXD.out _ hSw).b_frm; have y_frm := (HYD.out _ hSw).frm; (go_simp <;> with_reducible rfl)⟩) (by assumption) ?_)
                | (refine wpAnyH_take (i := 10) rfl (by kernel_rfl) (by kernel_rfl) (by kernel_rfl) (fun _ _ _ h => h) (Or.inr ⟨by rfl, rfl⟩) (by assumption) ?_)
              (try simp only [Act.put, List.setIfInBounds_toArray, List.set_cons_zero, List.set_cons_succ, List.getElem_toArray, List.getElem_cons_zero, List.getElem_cons_succ])
              first
                | (refine wpAnyH_take (i := 11) rfl (by kernel_rfl) (by kernel_rfl) (by kernel_rfl) (fun _ _ _ h => h) (Or.inl ⟨by rfl, by intro w hSw; have x_frm := (HXD.out _ hSw).b_frm; have y_frm := (HYD.out _ hSw).frm; (go_simp <;> with_reducible rfl)⟩) (by assumption) ?_)
                | (refine wpAnyH_take (i := 11) rfl (by kernel_rfl) (by kernel_rfl) (by kernel_rfl) (fun _ _ _ h => h) (Or.inr ⟨by rfl, rfl⟩) (by assumption) ?_)
              (try simp only [Act.put, List.setIfInBounds_toArray, List.set_cons_zero, List.set_cons_succ, List.getElem_toArray, List.getElem_cons_zero, List.getElem_cons_succ])
              first
                | (refine wpAnyH_take (i := 12) rfl (by kernel_rfl) (by kernel_rfl) (by kernel_rfl) (fun _ _ _ h => h) (Or.inl ⟨by rfl, by intro w hSw; have x_frm := (HXD.out _ hSw).b_frm; have y_frm := (HYD.out _ hSw).frm; (go_simp <;> with_reducible rfl)⟩) (by assumption) ?_)
                | (refine wpAnyH_take (i := 12) rfl (by kernel_rfl) (by kernel_rfl) (by kernel_rfl) (fun _ _ _ h => h) (Or.inr ⟨by rfl, rfl⟩) (by assumption) ?_)
              (try simp only [Act.put, List.setIfInBounds_toArray, List.set_cons_zero, List.set_cons_succ, List.getElem_toArray, List.getElem_cons_zero, List.getElem_cons_succ])
              first
                | (refine wpAnyH_take (i := 13) rfl (by kernel_rfl) (by kernel_rfl) (by kernel_rfl) (fun _ _ _ h => h) (Or.inl ⟨by rfl, by intro w hSw; have x_frm := (HXD.out _ hSw).b_frm; have y_frm := (HYD.out _ hSw).frm; (go_simp <;> with_reducible rfl)⟩) (by assumption) ?_)
                | (refine wpAnyH_take (i := 13) rfl (by kernel_rfl) (by kernel_rfl) (by kernel_rfl) (fun _ _ _ h => h) (Or.inr ⟨by rfl, rfl⟩) (by assumption) ?_)
              (try simp only [Act.put, List.setIfInBounds_toArray, List.set_cons_zero, List.set_cons_succ, List.getElem_toArray, List.getElem_cons_zero, List.getElem_cons_succ])
              first
                | (refine wpAnyH_take (i := 14) rfl (by kernel_rfl) (by kernel_rfl) (by kernel_rfl) (fun _ _ _ h => h) (Or.inl ⟨by rfl, by intro w hSw; have x_frm := (HXD.out _ hSw).b_frm; have y_frm := (HYD.out _ hSw).frm; (go_simp <;> with_reducible rfl)⟩) (by assumption) ?_)
                | (refine wpAnyH_take (i := 14) rfl (by kernel_rfl) (by kernel_rfl) (by kernel_rfl) (fun _ _ _ h => h) (Or.inr ⟨by rfl, rfl⟩) (by assumption) ?_)
              (try simp only [Act.put, List.setIfInBounds_toArray, List.set_cons_zero, List.set_cons_succ, List.getElem_toArray, List.getElem_cons_zero, List.getElem_cons_succ])
              first
                | (refine wpAnyH_take (i := 15) rfl (by kernel_rfl) (by kernel_rfl) (by kernel_rfl) (fun _ _ _ h => h) (Or.inl ⟨by rfl, by intro w hSw; have x_frm := (HXD.out _ hSw).b_frm; have y_frm := (HYD.out _ hSw).frm; (go_simp <;> with_reducible rfl)⟩) (by assumption) ?_)
                | (refine wpAnyH_take (i := 15) rfl (by kernel_rfl) (by kernel_rfl) (by kernel_rfl) (fun _ _ _ h => h) (Or.inr ⟨by rfl, rfl⟩) (by assumption) ?_)
              (try simp only [Act.put, List.setIfInBounds_toArray, List.set_cons_zero, List.set_cons_succ, List.getElem_toArray, List.getElem_cons_zero, List.getElem_cons_succ])
              first
                | (refine wpAnyH_take (i := 16) rfl (by kernel_rfl) (by kernel_rfl) (by kernel_rfl) (fun _ _ _ h => h) (Or.inl ⟨by rfl, by intro w hSw; have x_frm := (HXD.out _ hSw).b_frm; have y_frm := (HYD.out _ hSw).frm; (go_simp <;> with_reducible rfl)⟩) (by assumption) ?_)
                | (refine wpAnyH_take (i := 16) rfl (by kernel_rfl) (by kernel_rfl) (by kernel_rfl) (fun _ _ _ h => h) (Or.inr ⟨by rfl, rfl⟩) (by assumption) ?_)
              (try simp only [Act.put, List.setIfInBounds_toArray, List.set_cons_zero, List.set_cons_succ, List.getElem_toArray, List.getElem_cons_zero, List.getElem_cons_succ])
              first
                | (refine wpAnyH_take (i := 17) rfl (by kernel_rfl) (by kernel_rfl) (by kernel_rfl) (fun _ _ _ h => h) (Or.inl ⟨by rfl, by intro w hSw; have x_frm := (HXD.out _ hSw).b_frm; have y_frm := (HYD.out _ hSw).frm; (go_simp <;> with_reducible rfl)⟩) (by assumption) ?_)
                | (refine wpAnyH_take (i := 17) rfl (by kernel_rfl) (by kernel_rfl) (by kernel_rfl) (fun _ _ _ h => h) (Or.inr ⟨by rfl, rfl⟩) (by assumption) ?_)
              (try simp only [Act.put, List.setIfInBounds_toArray, List.set_cons_zero, List.set_cons_succ, List.getElem_toArray, List.getElem_cons_zero, List.getElem_cons_succ])
              refine wpAnyH_done (by kernel_rfl) ?_ _
              clear hHeld
              go_wp2
              go_ret
              exact ⟨by rw [HBAD.out (by rw [HOK.out]; rw [HQ1.out]; simp)]; rfl, HBX.out.trans (HZ1.out.mono HBX.out.size)⟩
            | true =>
              have HT1 := Lib.hid (show 1 ≤ x.own0 by have h := HQ1.out; unfold oneB at h; simp at h; exact h.1.2.2.1)
              first
                | (refine wpAnyH_take (i := 2) rfl (by kernel_rfl) (by kernel_rfl) (by kernel_rfl) (fun _ _ _ h => h) (Or.inl ⟨by rfl, by intro w hSw; have x_frm := (HXD.out _ hSw).b_frm; have y_frm := (HYD.out _ hSw).frm; (go_simp <;> with_reducible rfl)⟩) (by assumption) ?_)
                | (refine wpAnyH_take (i := 2) rfl (by kernel_rfl) (by kernel_rfl) (by kernel_rfl) (fun _ _ _ h => h) (Or.inr ⟨by rfl, rfl⟩) (by assumption) ?_)
              (try simp only [Act.put, List.setIfInBounds_toArray, List.set_cons_zero, List.set_cons_succ, List.getElem_toArray, List.getElem_cons_zero, List.getElem_cons_succ])
              first
                | (refine wpAnyH_take (i := 3) rfl (by kernel_rfl) (by kernel_rfl) (by kernel_rfl) (fun _ _ _ h => h) (Or.inl ⟨by rfl, by intro w hSw; have x_frm := (HXD.out _ hSw).b_frm; have y_frm := (HYD.out _ hSw).frm; (go_simp <;> with_reducible rfl)⟩) (by assumption) ?_)
                | (refine wpAnyH_take (i := 3) rfl (by kernel_rfl) (by kernel_rfl) (by kernel_rfl) (fun _ _ _ h => h) (Or.inr ⟨by rfl, rfl⟩) (by assumption) ?_)
              (try simp only [Act.put, List.setIfInBounds_toArray, List.set_cons_zero, List.set_cons_succ, List.getElem_toArray, List.getElem_cons_zero, List.getElem_cons_succ])
              first
                | (refine wpAnyH_take (i := 4) rfl (by kernel_rfl) (by kernel_rfl) (by kernel_rfl) (fun _ _ _ h => h) (Or.inl ⟨by rfl, by intro w hSw; have x_frm := (HXD.out _ hSw).b_frm; have y_frm := (HYD.out _ hSw).frm; (go_simp <;> with_reducible rfl)⟩) (by assumption) ?_)
                | (refine wpAnyH_take (i := 4) rfl (by kernel_rfl) (by kernel_rfl) (by kernel_rfl) (fun _ _ _ h => h) (Or.inr ⟨by rfl, rfl⟩) (by assumption) ?_)
              (try simp only [Act.put, List.setIfInBounds_toArray, List.set_cons_zero, List.set_cons_succ, List.getElem_toArray, List.getElem_cons_zero, List.getElem_cons_succ])
              first
                | (refine wpAnyH_take (i := 5) rfl (by kernel_rfl) (by kernel_rfl) (by kernel_rfl) (fun _ _ _ h => h) (Or.inl ⟨by rfl, by intro w hSw; have x_frm := (HXD.out _ hSw).b_frm; have y_frm := (HYD.out _ hSw).frm; (go_simp <;> with_reducible rfl)⟩) (by assumption) ?_)
                | (refine wpAnyH_take (i := 5) rfl (by kernel_rfl) (by kernel_rfl) (by kernel_rfl) (fun _ _ _ h => h) (Or.inr ⟨by rfl, rfl⟩) (by assumption) ?_)
              (try simp only [Act.put, List.setIfInBounds_toArray, List.set_cons_zero, List.set_cons_succ, List.getElem_toArray, List.getElem_cons_zero, List.getElem_cons_succ])
              first
                | (refine wpAnyH_take (i := 6) rfl (by kernel_rfl) (by kernel_rfl) (by kernel_rfl) (fun _ _ _ h => h) (Or.inl ⟨by rfl, by intro w hSw; have x_frm := (HXD.out _ hSw).b_frm; have y_frm := (HYD.out _ hSw).frm; (go_simp <;> with_reducible rfl)⟩) (by assumption) ?_)
                | (refine wpAnyH_take (i := 6) rfl (by kernel_rfl) (by kernel_rfl) (by kernel_rfl) (fun _ _ _ h => h) (Or.inr ⟨by rfl, rfl⟩) (by assumption) ?_)
              (try simp only [Act.put, List.setIfInBounds_toArray, List.set_cons_zero, List.set_cons_succ, List.getElem_toArray, List.getElem_cons_zero, List.getElem_cons_succ])
              first
                | (refine wpAnyH_take (i := 7) rfl (by kernel_rfl) (by kernel_rfl) (by kernel_rfl) (fun _ _ _ h => h) (Or.inl ⟨by rfl, by intro w hSw; have x_frm := (HXD.out _ hSw).b_frm; have y_frm := (HYD.out _ hSw).frm; (go_simp <;> with_reducible rfl)⟩) (by assumption) ?_)
                | (refine wpAnyH_take (i := 7) rfl (by kernel_rfl) (by kernel_rfl) (by kernel_rfl) (fun _ _ _ h => h) (Or.inr ⟨by rfl, rfl⟩) (by assumption) ?_)
              (try simp only [Act.put, List.setIfInBounds_toArray, List.set_cons_zero, List.set_cons_succ, List.getElem_toArray, List.getElem_cons_zero, List.getElem_cons_succ])
              first
                | (refine wpAnyH_take (i := 8) rfl (by kernel_rfl) (by kernel_rfl) (by kernel_rfl) (fun _ _ _ h => h) (Or.inl ⟨by rfl, by intro w hSw; have x_frm := (HXD.out _ hSw).b_frm; have y_frm := (HYD.out _ hSw).frm; (go_simp <;> with_reducible rfl)⟩) (by assumption) ?_)
                | (refine wpAnyH_take (i := 8) rfl (by kernel_rfl) (by kernel_rfl) (by kernel_rfl) (fun _ _ _ h => h) (Or.inr ⟨by rfl, rfl⟩) (by assumption) ?_)
              (try simp only [Act.put, List.setIfInBounds_toArray, List.set_cons_zero, List.set_cons_succ, List.getElem_toArray, List.getElem_cons_zero, List.getElem_cons_succ])
              first
                | (refine wpAnyH_take (i := 9) rfl (by kernel_rfl) (by kernel_rfl) (by kernel_rfl) (fun _ _ _ h => h) (Or.inl ⟨by rfl, by intro w hSw; have x_frm := (HXD.out _ hSw).b_frm; have y_frm := (HYD.out _ hSw).frm; (go_simp <;> with_reducible rfl)⟩) (by assumption) ?_)
                | (refine wpAnyH_take (i := 9) rfl (by kernel_rfl) (by kernel_rfl) (by kernel_rfl) (fun _ _ _ h => h) (Or.inr ⟨by rfl, rfl⟩) (by assumption) ?_)
              (try simp only [Act.put, List.setIfInBounds_toArray, List.set_cons_zero, List.set_cons_succ, List.getElem_toArray, List.getElem_cons_zero, List.getElem_cons_succ])
              first
                | (refine wpAnyH_take (i := 10) rfl (by kernel_rfl) (by kernel_rfl) (by kernel_rfl) (fun _ _ _ h => h) (Or.inl ⟨by rfl, by intro w hSw; have x_frm := (HXD.out _ hSw).b_frm; have y_frm := (HYD.out _ hSw).frm; (go_simp <;> with_reducible rfl)⟩) (by assumption) ?_)
                | (refine wpAnyH_take (i := 10) rfl (by kernel_rfl) (by kernel_rfl) (by kernel_rfl) (fun _ _ _ h => h) (Or.inr ⟨by rfl, rfl⟩) (by assumption) ?_)
              (try simp only [Act.put, List.setIfInBounds_toArray, List.set_cons_zero, List.set_cons_succ, List.getElem_toArray, List.getElem_cons_zero, List.getElem_cons_succ])
              first
                | (refine wpAnyH_take (i := 11) rfl (by kernel_rfl) (by kernel_rfl) (by kernel_rfl) (fun _ _ _ h => h) (Or.inl ⟨by rfl, by intro w hSw; have x_frm := (HXD.out _ hSw).b_frm; have y_frm := (HYD.out _ hSw).frm; (go_simp <;> with_reducible rfl)⟩) (by assumption) ?_)
                | (refine wpAnyH_take (i := 11) rfl (by kernel_rfl) (by kernel_rfl) (by kernel_rfl) (fun _ _ _ h => h) (Or.inr ⟨by rfl, rfl⟩) (by assumption) ?_)
              (try simp only [Act.put, List.setIfInBounds_toArray, List.set_cons_zero, List.set_cons_succ, List.getElem_toArray, List.getElem_cons_zero, List.getElem_cons_succ])
              first
                | (refine wpAnyH_take (i := 12) rfl (by kernel_rfl) (by kernel_rfl) (by kernel_rfl) (fun _ _ _ h => h) (Or.inl ⟨by rfl, by intro w hSw; have x_frm := (HXD.out _ hSw).b_frm; have y_frm := (HYD.out _ hSw).frm; (go_simp <;> with_reducible rfl)⟩) (by assumption) ?_)
                | (refine wpAnyH_take (i := 12) rfl (by kernel_rfl) (by kernel_rfl) (by kernel_rfl) (fun _ _ _ h => h) (Or.inr ⟨by rfl, rfl⟩) (by assumption) ?_)
              (try simp only [Act.put, List.setIfInBounds_toArray, List.set_cons_zero, List.set_cons_succ, List.getElem_toArray, List.getElem_cons_zero, List.getElem_cons_succ])
              first
                | (refine wpAnyH_take (i := 13) rfl (by kernel_rfl) (by kernel_rfl) (by kernel_rfl) (fun _ _ _ h => h) (Or.inl ⟨by rfl, by intro w hSw; have x_frm := (HXD.out _ hSw).b_frm; have y_frm := (HYD.out _ hSw).frm; (go_simp <;> with_reducible rfl)⟩) (by assumption) ?_)
                | (refine wpAnyH_take (i := 13) rfl (by kernel_rfl) (by kernel_rfl) (by kernel_rfl) (fun _ _ _ h => h) (Or.inr ⟨by rfl, rfl⟩) (by assumption) ?_)
              (try simp only [Act.put, List.setIfInBounds_toArray, List.set_cons_zero, List.set_cons_succ, List.getElem_toArray, List.getElem_cons_zero, List.getElem_cons_succ])
              first
                | (refine wpAnyH_take (i := 14) rfl (by kernel_rfl) (by kernel_rfl) (by kernel_rfl) (fun _ _ _ h => h) (Or.inl ⟨by rfl, by intro w hSw; have x_frm := (HXD.out _ hSw).b_frm; have y_frm := (HYD.out _ hSw).frm; (go_simp <;> with_reducible rfl)⟩) (by assumption) ?_)
                | (refine wpAnyH_take (i := 14) rfl (by kernel_rfl) (by kernel_rfl) (by kernel_rfl) (fun _ _ _ h => h) (Or.inr ⟨by rfl, rfl⟩) (by assumption) ?_)
              (try simp only [Act.put, List.setIfInBounds_toArray, List.set_cons_zero, List.set_cons_succ, List.getElem_toArray, List.getElem_cons_zero, List.getElem_cons_succ])
              first
                | (refine wpAnyH_take (i := 15) rfl (by kernel_rfl) (by kernel_rfl) (by kernel_rfl) (fun _ _ _ h => h) (Or.inl ⟨by rfl, by intro w hSw; have x_frm := (HXD.out _ hSw).b_frm; have y_frm := (HYD.out _ hSw).frm; (go_simp <;> with_reducible rfl)⟩) (by assumption) ?_)
                | (refine wpAnyH_take (i := 15) rfl (by kernel_rfl) (by kernel_rfl) (by kernel_rfl) (fun _ _ _ h => h) (Or.inr ⟨by rfl, rfl⟩) (by assumption) ?_)
              (try simp only [Act.put, List.setIfInBounds_toArray, List.set_cons_zero, List.set_cons_succ, List.getElem_toArray, List.getElem_cons_zero, List.getElem_cons_succ])
              first
                | (refine wpAnyH_take (i := 16) rfl (by kernel_rfl) (by kernel_rfl) (by kernel_rfl) (fun _ _ _ h => h) (Or.inl ⟨by rfl, by intro w hSw; have x_frm := (HXD.out _ hSw).b_frm; have y_frm := (HYD.out _ hSw).frm; (go_simp <;> with_reducible rfl)⟩) (by assumption) ?_)
                | (refine wpAnyH_take (i := 16) rfl (by kernel_rfl) (by kernel_rfl) (by kernel_rfl) (fun _ _ _ h => h) (Or.inr ⟨by rfl, rfl⟩) (by assumption) ?_)
              (try simp only [Act.put, List.setIfInBounds_toArray, List.set_cons_zero, List.set_cons_succ, List.getElem_toArray, List.getElem_cons_zero, List.getElem_cons_succ])
              first
                | (refine wpAnyH_take (i := 17) rfl (by kernel_rfl) (by kernel_rfl) (by kernel_rfl) (fun _ _ _ h => h) (Or.inl ⟨by rfl, by intro w hSw; have x_frm := (HXD.out _ hSw).b_frm; have y_frm := (HYD.out _ hSw).frm; (go_simp <;> with_reducible rfl)⟩) (by assumption) ?_)
                | (refine wpAnyH_take (i := 17) rfl (by kernel_rfl) (by kernel_rfl) (by kernel_rfl) (fun _ _ _ h => h) (Or.inr ⟨by rfl, rfl⟩) (by assumption) ?_)
              (try simp only [Act.put, List.setIfInBounds_toArray, List.set_cons_zero, List.set_cons_succ, List.getElem_toArray, List.getElem_cons_zero, List.getElem_cons_succ])
              refine wpAnyH_done (by kernel_rfl) ?_ _
              clear hHeld
              have HLN := Lib.hid hln
              have HFO := Lib.hid (show followsB l (j + 1) x = decide (x.own0 = 1) by unfold followsB; rw [hln])
              clear hln
              go_wp2_with fail
              refine (before_q _ l c (j + 1) x (-1) _ ((HR.out.below (HBX.out.trans (HZ1.out.mono HBX.out.size))).more (HBX.out.trans (HZ1.out.mono HBX.out.size)).size) HXI.out hl (by rw [HLN.out]; rfl)).mono ?_
              rintro e w2 ⟨rfl, hb2⟩
              have HZ2 := Lib.hid (HZ1.out.trans (hb2.mono HZ1.out.size))
              clear hb2
              have x_own0 := (HXD.out _ HZ2.out).b_own0
              by_cases n1 : x.own0 = 1
              · have n1a : ((x.own0 : Int) == 1) = true := by simp [n1]
                have n1b : ((x.own0 : Int) != 1) = false := by simp [n1]
                have HFT := Lib.hid (show followsB l (j + 1) x = true by rw [HFO.out]; exact decide_eq_true n1)
                go_wp2
                go_region
                have hzz := HZ2.out.drew
                generalize w2.drew = wz at hzz ⊢
                have HZ := Lib.hid hzz
                clear hzz x_own0 n1 n1a n1b
                have x_saw := (HXD.out _ HZ.out).b_saw
                by_cases s01 : x.saw = -1
                · have s01a : ((x.saw : Int) == -1) = true := by simp [s01]
                  have s01b : ((x.saw : Int) != -1) = false := by simp [s01]
                  have HOKU := Lib.hid (HUP.out.next (by rw [HOK.out, HRISE.out, HQ1.out, HFT.out, show sawB l x = true by unfold sawB; rw [decide_eq_true s01]; rfl]; rfl))
                  have HBE := Lib.hid (HBX.out.trans (HZ.out.mono HBX.out.size))
                  go_wp2
                  go_roundw
                  case rel => exact ⟨j + 1 + 1, by omega, by go_num, HOKU.out, HBE.out⟩
                  case measure => simp [intOf]; omega
                · have s01a : ((x.saw : Int) == -1) = false := by simp [s01]
                  have s01b : ((x.saw : Int) != -1) = true := by simp [s01]
                  by_cases s1 : x.saw < 0
                  · have HSN := Lib.hid (show sawB l x = false by unfold sawB placeB; rw [decide_eq_false s01, decide_eq_false (p := 0 ≤ x.saw ∧ x.saw < (l.length : Int)) (by omega)]; rfl)
                    go_wp2
                    go_ret
                    exact ⟨by rw [HBAD.out (by rw [HOK.out]; rw [HSN.out]; simp)]; rfl, HBX.out.trans (HZ.out.mono HBX.out.size)⟩
                  · have s1d : decide (x.saw < 0) = false := decide_eq_false s1
                    by_cases s2 : (l.length : Int) ≤ x.saw
                    · have HSN := Lib.hid (show sawB l x = false by unfold sawB placeB; rw [decide_eq_false s01, decide_eq_false (p := 0 ≤ x.saw ∧ x.saw < (l.length : Int)) (by omega)]; rfl)
                      go_wp2
                      go_ret
                      exact ⟨by rw [HBAD.out (by rw [HOK.out]; rw [HSN.out]; simp)]; rfl, HBX.out.trans (HZ.out.mono HBX.out.size)⟩
                    · have s2d : decide ((l.length : Int) ≤ x.saw) = false := decide_eq_false s2
                      obtain ⟨k3, hk3⟩ := Int.eq_ofNat_of_zero_le (show 0 ≤ x.saw by omega)
                      have hk4 : k3 < l.length := by omega
                      obtain ⟨b3, o3, y3, hA3, -, hy3, -, hyc3⟩ := HR.out.at_ hk4
                      injection hA3 with hA3
                      injection hA3 with hA31 hA32
                      subst hA31 hA32
                      have HSAW := Lib.hid (sawB_at (v := x) hk3 hk4 hy3)
                      have HY3 := Lib.hid (hyc3 _ (HBX.out.trans (HZ.out.mono HBX.out.size))).1
                      obtain ⟨Xb1, Xb2, HXb1, HXb2, hthb, hxbb1, hxbb2, hxsb, hxvb⟩ := var17 wz y3 #[.int .i64 0, .int .i64 0, .int .i64 0, .int .u64 0, .slice none 0 0, .int .i64 0, .slice none 0 0, .bool false, .int .i64 0, .bool false, .int .i64 0, .int .i64 0, .int .i64 0, .int .i64 0, .int .i64 0, .int .i64 0, .int .i64 0, .int .i64 0, .int .i64 0, .int .i64 0] rfl
                      have HXBb := Lib.hid hxbb2; have HXVb := Lib.hid hxvb; have HTHb := Lib.hid hthb
                      clear hxbb1 hxbb2 hxsb hxvb hthb
                      have HBE := Lib.hid ((HBX.out.trans (HZ.out.mono HBX.out.size)).trans (HXBb.out.mono (HBX.out.trans (HZ.out.mono HBX.out.size)).size))
                      have hxz := HXD.out _ (HZ.out.trans (HXBb.out.mono HZ.out.size))
                      have x_done := hxz.b_done
                      have x_to := hxz.b_to
                      rw [hk3] at x_saw
                      have y_op := HXVb.out.b_op
                      have y_mark := HXVb.out.b_mark
                      have hk5 : (k3 : Int) < (l.length : Int) := by omega
                      have hk6 : ((k3 : Int) == -1) = false := by simp <;> omega
                      have hk7 : ((k3 : Int) != -1) = true := by simp <;> omega
                      clear hxz hyc3 hy3 s01 s01a s01b s1 s1d s2 s2d hk3
                      by_cases p1 : y3.op = 3
                      · have p1a : ((y3.op : Int) == 3) = true := by simp [p1]
                        have p1b : ((y3.op : Int) != 3) = false := by simp [p1]
                        by_cases p2 : y3.mark < 0
                        · go_wp2_with (first | (rw [← HXb1.out]) | (with_reducible refine wpList_store_mid (by kernel_rfl) _ _ _ rfl wz.heap.size 0 (cCells y3).toArray (by kernel_rfl) (by kernel_rfl) HTHb.out (cCells_infoA y3) (cCells_one y3) ?_) | (rw [← HXb2.out]) | (with_reducible refine wpList_loadC (by with_unfolding_all rfl) _ rfl _ _ _ (by with_unfolding_all rfl) HY3.out ?_))
                          go_ret
                          exact ⟨by rw [HBAD.out (by rw [HOK.out, HSAW.out]; rw [show decide (y3.op = 3 ∧ 0 ≤ y3.mark) = false from decide_eq_false (by omega)]; simp)]; rfl, HBE.out⟩
                        · have p2d : decide (y3.mark < 0) = false := decide_eq_false p2
                          cases hd : x.done with
                          | true =>
                            have HD := Lib.hid hd
                            rw [hd] at x_done
                            clear hd
                            by_cases h1 : x.to < y3.mark
                            · go_wp2_with (first | (rw [← HXb1.out]) | (with_reducible refine wpList_store_mid (by kernel_rfl) _ _ _ rfl wz.heap.size 0 (cCells y3).toArray (by kernel_rfl) (by kernel_rfl) HTHb.out (cCells_infoA y3) (cCells_one y3) ?_) | (rw [← HXb2.out]) | (with_reducible refine wpList_loadC (by with_unfolding_all rfl) _ rfl _ _ _ (by with_unfolding_all rfl) HY3.out ?_))
                              go_ret
                              exact ⟨by rw [HBAD.out (by rw [HOK.out, HSAW.out]; unfold reachesB; rw [HD.out]; simp; omega)]; rfl, HBE.out⟩
                            · have h1d : decide (x.to < y3.mark) = false := decide_eq_false h1
                              have HS3 := Lib.hid (show sawB l x = true by rw [HSAW.out]; unfold reachesB; rw [HD.out]; simp; omega)
                              have HOKU := Lib.hid (HUP.out.next (by rw [HOK.out, HRISE.out, HQ1.out, HFT.out, HS3.out]; rfl))
                              go_wp2_with (first | (rw [← HXb1.out]) | (with_reducible refine wpList_store_mid (by kernel_rfl) _ _ _ rfl wz.heap.size 0 (cCells y3).toArray (by kernel_rfl) (by kernel_rfl) HTHb.out (cCells_infoA y3) (cCells_one y3) ?_) | (rw [← HXb2.out]) | (with_reducible refine wpList_loadC (by with_unfolding_all rfl) _ rfl _ _ _ (by with_unfolding_all rfl) HY3.out ?_))
                              go_roundw
                              case rel => exact ⟨j + 1 + 1, by omega, by go_num, HOKU.out, HBE.out⟩
                              case measure => simp [intOf]; omega
                          | false =>
                            have HD := Lib.hid hd
                            rw [hd] at x_done
                            clear hd
                            have HS3 := Lib.hid (show sawB l x = true by rw [HSAW.out]; unfold reachesB; rw [HD.out]; simp; omega)
                            have HOKU := Lib.hid (HUP.out.next (by rw [HOK.out, HRISE.out, HQ1.out, HFT.out, HS3.out]; rfl))
                            go_wp2_with (first | (rw [← HXb1.out]) | (with_reducible refine wpList_store_mid (by kernel_rfl) _ _ _ rfl wz.heap.size 0 (cCells y3).toArray (by kernel_rfl) (by kernel_rfl) HTHb.out (cCells_infoA y3) (cCells_one y3) ?_) | (rw [← HXb2.out]) | (with_reducible refine wpList_loadC (by with_unfolding_all rfl) _ rfl _ _ _ (by with_unfolding_all rfl) HY3.out ?_))
                            go_roundw
                            case rel => exact ⟨j + 1 + 1, by omega, by go_num, HOKU.out, HBE.out⟩
                            case measure => simp [intOf]; omega
                      · have p1a : ((y3.op : Int) == 3) = false := by simp [p1]
                        have p1b : ((y3.op : Int) != 3) = true := by simp [p1]
                        go_wp2_with (first | (rw [← HXb1.out]) | (with_reducible refine wpList_store_mid (by kernel_rfl) _ _ _ rfl wz.heap.size 0 (cCells y3).toArray (by kernel_rfl) (by kernel_rfl) HTHb.out (cCells_infoA y3) (cCells_one y3) ?_) | (rw [← HXb2.out]) | (with_reducible refine wpList_loadC (by with_unfolding_all rfl) _ rfl _ _ _ (by with_unfolding_all rfl) HY3.out ?_))
                        go_ret
                        exact ⟨by rw [HBAD.out (by rw [HOK.out, HSAW.out]; rw [show decide (y3.op = 3 ∧ 0 ≤ y3.mark) = false from decide_eq_false (by omega)]; simp)]; rfl, HBE.out⟩
              · have n1a : ((x.own0 : Int) == 1) = false := by simp [n1]
                have n1b : ((x.own0 : Int) != 1) = true := by simp [n1]
                have HNE := Lib.hid n1
                go_wp2
                go_ret
                exact ⟨by rw [HBAD.out (by rw [HOK.out]; rw [HFO.out, decide_eq_false HNE.out]; simp)]; rfl, HBX.out.trans (HZ2.out.mono HBX.out.size)⟩
          | some k =>
            go_wp2_with (first | (rw [← HX1.out]) | (with_reducible refine wpList_store_mid (by kernel_rfl) _ _ _ rfl wr.heap.size 0 (cCells x).toArray (by kernel_rfl) (by kernel_rfl) HTH.out (cCells_infoA x) (cCells_one x) ?_) | (rw [← HX2.out]) | (with_reducible refine wpList_loadC (by with_unfolding_all rfl) _ rfl _ _ _ (by with_unfolding_all rfl) HXR.out ?_))
            refine wp_region_held_drew (S := fun W' => Below X2.heap.size X2 W') (by kernel_rfl) ((Below.refl _ _).drew) (fun hHeld => ?_)
            refine wpAnyH_take (i := 0) rfl (by kernel_rfl) (by kernel_rfl) (by kernel_rfl) (fun _ _ _ h => h) (yieldsIf_load_mid (by with_unfolding_all rfl) 51 _ rfl (wr.heap.size) (0) (by with_unfolding_all rfl) (cCells x) _ (fun W' hW' => HXD.out W' hW') Try.underlying51 rfl (cCells_info x)) (by assumption) ?_
            (try simp only [Act.put, List.setIfInBounds_toArray, List.set_cons_zero, List.set_cons_succ, List.getElem_toArray, List.getElem_cons_zero, List.getElem_cons_succ])
            refine wpAnyH_ready (rs := [1]) (by kernel_rfl) (by simp) (AllReadyH.cons rfl (fun K hK => ?_) AllReadyH.nil)
            go_simp
            refine (one_q x q1 _ HQ1.out).mono ?_
            rintro e w1 ⟨rfl, hb1⟩
            (try go_wp2_with fail)
            have HZ1 := Lib.hid ((Below.refl X2.heap.size X2).drew.trans hb1)
            clear hb1
            refine hK.out _ _ (HZ1.out) (fun hHeld => ?_)
            clear hK K
            (try simp only [Act.put, List.setIfInBounds_toArray, List.set_cons_zero, List.set_cons_succ, List.getElem_toArray, List.getElem_cons_zero, List.getElem_cons_succ])
            cases q1 with
            | false =>
              first
                | (refine wpAnyH_take (i := 2) rfl (by kernel_rfl) (by kernel_rfl) (by kernel_rfl) (fun _ _ _ h => h) (Or.inl ⟨by rfl, by intro w hSw; have x_frm := (HXD.out _ hSw).b_frm; have y_frm := (HYD.out _ hSw).frm; (go_simp <;> with_reducible rfl)⟩) (by assumption) ?_)
                | (refine wpAnyH_take (i := 2) rfl (by kernel_rfl) (by kernel_rfl) (by kernel_rfl) (fun _ _ _ h => h) (Or.inr ⟨by rfl, rfl⟩) (by assumption) ?_)
              (try simp only [Act.put, List.setIfInBounds_toArray, List.set_cons_zero, List.set_cons_succ, List.getElem_toArray, List.getElem_cons_zero, List.getElem_cons_succ])
              first
                | (refine wpAnyH_take (i := 3) rfl (by kernel_rfl) (by kernel_rfl) (by kernel_rfl) (fun _ _ _ h => h) (Or.inl ⟨by rfl, by intro w hSw; have x_frm := (HXD.out _ hSw).b_frm; have y_frm := (HYD.out _ hSw).frm; (go_simp <;> with_reducible rfl)⟩) (by assumption) ?_)
                | (refine wpAnyH_take (i := 3) rfl (by kernel_rfl) (by kernel_rfl) (by kernel_rfl) (fun _ _ _ h => h) (Or.inr ⟨by rfl, rfl⟩) (by assumption) ?_)
              (try simp only [Act.put, List.setIfInBounds_toArray, List.set_cons_zero, List.set_cons_succ, List.getElem_toArray, List.getElem_cons_zero, List.getElem_cons_succ])
              first
                | (refine wpAnyH_take (i := 4) rfl (by kernel_rfl) (by kernel_rfl) (by kernel_rfl) (fun _ _ _ h => h) (Or.inl ⟨by rfl, by intro w hSw; have x_frm := (HXD.out _ hSw).b_frm; have y_frm := (HYD.out _ hSw).frm; (go_simp <;> with_reducible rfl)⟩) (by assumption) ?_)
                | (refine wpAnyH_take (i := 4) rfl (by kernel_rfl) (by kernel_rfl) (by kernel_rfl) (fun _ _ _ h => h) (Or.inr ⟨by rfl, rfl⟩) (by assumption) ?_)
              (try simp only [Act.put, List.setIfInBounds_toArray, List.set_cons_zero, List.set_cons_succ, List.getElem_toArray, List.getElem_cons_zero, List.getElem_cons_succ])
              first
                | (refine wpAnyH_take (i := 5) rfl (by kernel_rfl) (by kernel_rfl) (by kernel_rfl) (fun _ _ _ h => h) (Or.inl ⟨by rfl, by intro w hSw; have x_frm := (HXD.out _ hSw).b_frm; have y_frm := (HYD.out _ hSw).frm; (go_simp <;> with_reducible rfl)⟩) (by assumption) ?_)
                | (refine wpAnyH_take (i := 5) rfl (by kernel_rfl) (by kernel_rfl) (by kernel_rfl) (fun _ _ _ h => h) (Or.inr ⟨by rfl, rfl⟩) (by assumption) ?_)
              (try simp only [Act.put, List.setIfInBounds_toArray, List.set_cons_zero, List.set_cons_succ, List.getElem_toArray, List.getElem_cons_zero, List.getElem_cons_succ])
              first
                | (refine wpAnyH_take (i := 6) rfl (by kernel_rfl) (by kernel_rfl) (by kernel_rfl) (fun _ _ _ h => h) (Or.inl ⟨by rfl, by intro w hSw; have x_frm := (HXD.out _ hSw).b_frm; have y_frm := (HYD.out _ hSw).frm; (go_simp <;> with_reducible rfl)⟩) (by assumption) ?_)
                | (refine wpAnyH_take (i := 6) rfl (by kernel_rfl) (by kernel_rfl) (by kernel_rfl) (fun _ _ _ h => h) (Or.inr ⟨by rfl, rfl⟩) (by assumption) ?_)
              (try simp only [Act.put, List.setIfInBounds_toArray, List.set_cons_zero, List.set_cons_succ, List.getElem_toArray, List.getElem_cons_zero, List.getElem_cons_succ])
              first
                | (refine wpAnyH_take (i := 7) rfl (by kernel_rfl) (by kernel_rfl) (by kernel_rfl) (fun _ _ _ h => h) (Or.inl ⟨by rfl, by intro w hSw; have x_frm := (HXD.out _ hSw).b_frm; have y_frm := (HYD.out _ hSw).frm; (go_simp <;> with_reducible rfl)⟩) (by assumption) ?_)
                | (refine wpAnyH_take (i := 7) rfl (by kernel_rfl) (by kernel_rfl) (by kernel_rfl) (fun _ _ _ h => h) (Or.inr ⟨by rfl, rfl⟩) (by assumption) ?_)
              (try simp only [Act.put, List.setIfInBounds_toArray, List.set_cons_zero, List.set_cons_succ, List.getElem_toArray, List.getElem_cons_zero, List.getElem_cons_succ])
              first
                | (refine wpAnyH_take (i := 8) rfl (by kernel_rfl) (by kernel_rfl) (by kernel_rfl) (fun _ _ _ h => h) (Or.inl ⟨by rfl, by intro w hSw; have x_frm := (HXD.out _ hSw).b_frm; have y_frm := (HYD.out _ hSw).frm; (go_simp <;> with_reducible rfl)⟩) (by assumption) ?_)
                | (refine wpAnyH_take (i := 8) rfl (by kernel_rfl) (by kernel_rfl) (by kernel_rfl) (fun _ _ _ h => h) (Or.inr ⟨by rfl, rfl⟩) (by assumption) ?_)
              (try simp only [Act.put, List.setIfInBounds_toArray, List.set_cons_zero, List.set_cons_succ, List.getElem_toArray, List.getElem_cons_zero, List.getElem_cons_succ])
              first
                | (refine wpAnyH_take (i := 9) rfl (by kernel_rfl) (by kernel_rfl) (by kernel_rfl) (fun _ _ _ h => h) (Or.inl ⟨by rfl, by intro w hSw; have x_frm := (HXD.out _ hSw).b_frm; have y_frm := (HYD.out _ hSw).frm; (go_simp <;> with_reducible rfl)⟩) (by assumption) ?_)
                | (refine wpAnyH_take (i := 9) rfl (by kernel_rfl) (by kernel_rfl) (by kernel_rfl) (fun _ _ _ h => h) (Or.inr ⟨by rfl, rfl⟩) (by assumption) ?_)
              (try simp only [Act.put, List.setIfInBounds_toArray, List.set_cons_zero, List.set_cons_succ, List.getElem_toArray, List.getElem_cons_zero, List.getElem_cons_succ])
              first
                | (refine wpAnyH_take (i := 10) rfl (by kernel_rfl) (by kernel_rfl) (by kernel_rfl) (fun _ _ _ h => h) (Or.inl ⟨by rfl, by intro w hSw; have x_frm := (HXD.out _ hSw).b_frm; have y_frm := (HYD.out _ hSw).frm; (go_simp <;> with_reducible rfl)⟩) (by assumption) ?_)
                | (refine wpAnyH_take (i := 10) rfl (by kernel_rfl) (by kernel_rfl) (by kernel_rfl) (fun _ _ _ h => h) (Or.inr ⟨by rfl, rfl⟩) (by assumption) ?_)
              (try simp only [Act.put, List.setIfInBounds_toArray, List.set_cons_zero, List.set_cons_succ, List.getElem_toArray, List.getElem_cons_zero, List.getElem_cons_succ])
              first
                | (refine wpAnyH_take (i := 11) rfl (by kernel_rfl) (by kernel_rfl) (by kernel_rfl) (fun _ _ _ h => h) (Or.inl ⟨by rfl, by intro w hSw; have x_frm := (HXD.out _ hSw).b_frm; have y_frm := (HYD.out _ hSw).frm; (go_simp <;> with_reducible rfl)⟩) (by assumption) ?_)
                | (refine wpAnyH_take (i := 11) rfl (by kernel_rfl) (by kernel_rfl) (by kernel_rfl) (fun _ _ _ h => h) (Or.inr ⟨by rfl, rfl⟩) (by assumption) ?_)
              (try simp only [Act.put, List.setIfInBounds_toArray, List.set_cons_zero, List.set_cons_succ, List.getElem_toArray, List.getElem_cons_zero, List.getElem_cons_succ])
              first
                | (refine wpAnyH_take (i := 12) rfl (by kernel_rfl) (by kernel_rfl) (by kernel_rfl) (fun _ _ _ h => h) (Or.inl ⟨by rfl, by intro w hSw; have x_frm := (HXD.out _ hSw).b_frm; have y_frm := (HYD.out _ hSw).frm; (go_simp <;> with_reducible rfl)⟩) (by assumption) ?_)
                | (refine wpAnyH_take (i := 12) rfl (by kernel_rfl) (by kernel_rfl) (by kernel_rfl) (fun _ _ _ h => h) (Or.inr ⟨by rfl, rfl⟩) (by assumption) ?_)
              (try simp only [Act.put, List.setIfInBounds_toArray, List.set_cons_zero, List.set_cons_succ, List.getElem_toArray, List.getElem_cons_zero, List.getElem_cons_succ])
              first
                | (refine wpAnyH_take (i := 13) rfl (by kernel_rfl) (by kernel_rfl) (by kernel_rfl) (fun _ _ _ h => h) (Or.inl ⟨by rfl, by intro w hSw; have x_frm := (HXD.out _ hSw).b_frm; have y_frm := (HYD.out _ hSw).frm; (go_simp <;> with_reducible rfl)⟩) (by assumption) ?_)
                | (refine wpAnyH_take (i := 13) rfl (by kernel_rfl) (by kernel_rfl) (by kernel_rfl) (fun _ _ _ h => h) (Or.inr ⟨by rfl, rfl⟩) (by assumption) ?_)
              (try simp only [Act.put, List.setIfInBounds_toArray, List.set_cons_zero, List.set_cons_succ, List.getElem_toArray, List.getElem_cons_zero, List.getElem_cons_succ])
              first
                | (refine wpAnyH_take (i := 14) rfl (by kernel_rfl) (by kernel_rfl) (by kernel_rfl) (fun _ _ _ h => h) (Or.inl ⟨by rfl, by intro w hSw; have x_frm := (HXD.out _ hSw).b_frm; have y_frm := (HYD.out _ hSw).frm; (go_simp <;> with_reducible rfl)⟩) (by assumption) ?_)
                | (refine wpAnyH_take (i := 14) rfl (by kernel_rfl) (by kernel_rfl) (by kernel_rfl) (fun _ _ _ h => h) (Or.inr ⟨by rfl, rfl⟩) (by assumption) ?_)
              (try simp only [Act.put, List.setIfInBounds_toArray, List.set_cons_zero, List.set_cons_succ, List.getElem_toArray, List.getElem_cons_zero, List.getElem_cons_succ])
              first
                | (refine wpAnyH_take (i := 15) rfl (by kernel_rfl) (by kernel_rfl) (by kernel_rfl) (fun _ _ _ h => h) (Or.inl ⟨by rfl, by intro w hSw; have x_frm := (HXD.out _ hSw).b_frm; have y_frm := (HYD.out _ hSw).frm; (go_simp <;> with_reducible rfl)⟩) (by assumption) ?_)
                | (refine wpAnyH_take (i := 15) rfl (by kernel_rfl) (by kernel_rfl) (by kernel_rfl) (fun _ _ _ h => h) (Or.inr ⟨by rfl, rfl⟩) (by assumption) ?_)
              (try simp only [Act.put, List.setIfInBounds_toArray, List.set_cons_zero, List.set_cons_succ, List.getElem_toArray, List.getElem_cons_zero, List.getElem_cons_succ])
              first
                | (refine wpAnyH_take (i := 16) rfl (by kernel_rfl) (by kernel_rfl) (by kernel_rfl) (fun _ _ _ h => h) (Or.inl ⟨by rfl, by intro w hSw; have x_frm := (HXD.out _ hSw).b_frm; have y_frm := (HYD.out _ hSw).frm; (go_simp <;> with_reducible rfl)⟩) (by assumption) ?_)
                | (refine wpAnyH_take (i := 16) rfl (by kernel_rfl) (by kernel_rfl) (by kernel_rfl) (fun _ _ _ h => h) (Or.inr ⟨by rfl, rfl⟩) (by assumption) ?_)
              (try simp only [Act.put, List.setIfInBounds_toArray, List.set_cons_zero, List.set_cons_succ, List.getElem_toArray, List.getElem_cons_zero, List.getElem_cons_succ])
              first
                | (refine wpAnyH_take (i := 17) rfl (by kernel_rfl) (by kernel_rfl) (by kernel_rfl) (fun _ _ _ h => h) (Or.inl ⟨by rfl, by intro w hSw; have x_frm := (HXD.out _ hSw).b_frm; have y_frm := (HYD.out _ hSw).frm; (go_simp <;> with_reducible rfl)⟩) (by assumption) ?_)
                | (refine wpAnyH_take (i := 17) rfl (by kernel_rfl) (by kernel_rfl) (by kernel_rfl) (fun _ _ _ h => h) (Or.inr ⟨by rfl, rfl⟩) (by assumption) ?_)
              (try simp only [Act.put, List.setIfInBounds_toArray, List.set_cons_zero, List.set_cons_succ, List.getElem_toArray, List.getElem_cons_zero, List.getElem_cons_succ])
              refine wpAnyH_done (by kernel_rfl) ?_ _
              clear hHeld
              go_wp2
              go_ret
              exact ⟨by rw [HBAD.out (by rw [HOK.out]; rw [HQ1.out]; simp)]; rfl, HBX.out.trans (HZ1.out.mono HBX.out.size)⟩
            | true =>
              have HT1 := Lib.hid (show 1 ≤ x.own0 by have h := HQ1.out; unfold oneB at h; simp at h; exact h.1.2.2.1)
              first
                | (refine wpAnyH_take (i := 2) rfl (by kernel_rfl) (by kernel_rfl) (by kernel_rfl) (fun _ _ _ h => h) (Or.inl ⟨by rfl, by intro w hSw; have x_frm := (HXD.out _ hSw).b_frm; have y_frm := (HYD.out _ hSw).frm; (go_simp <;> with_reducible rfl)⟩) (by assumption) ?_)
                | (refine wpAnyH_take (i := 2) rfl (by kernel_rfl) (by kernel_rfl) (by kernel_rfl) (fun _ _ _ h => h) (Or.inr ⟨by rfl, rfl⟩) (by assumption) ?_)
              (try simp only [Act.put, List.setIfInBounds_toArray, List.set_cons_zero, List.set_cons_succ, List.getElem_toArray, List.getElem_cons_zero, List.getElem_cons_succ])
              first
                | (refine wpAnyH_take (i := 3) rfl (by kernel_rfl) (by kernel_rfl) (by kernel_rfl) (fun _ _ _ h => h) (Or.inl ⟨by rfl, by intro w hSw; have x_frm := (HXD.out _ hSw).b_frm; have y_frm := (HYD.out _ hSw).frm; (go_simp <;> with_reducible rfl)⟩) (by assumption) ?_)
                | (refine wpAnyH_take (i := 3) rfl (by kernel_rfl) (by kernel_rfl) (by kernel_rfl) (fun _ _ _ h => h) (Or.inr ⟨by rfl, rfl⟩) (by assumption) ?_)
              (try simp only [Act.put, List.setIfInBounds_toArray, List.set_cons_zero, List.set_cons_succ, List.getElem_toArray, List.getElem_cons_zero, List.getElem_cons_succ])
              first
                | (refine wpAnyH_take (i := 4) rfl (by kernel_rfl) (by kernel_rfl) (by kernel_rfl) (fun _ _ _ h => h) (Or.inl ⟨by rfl, by intro w hSw; have x_frm := (HXD.out _ hSw).b_frm; have y_frm := (HYD.out _ hSw).frm; (go_simp <;> with_reducible rfl)⟩) (by assumption) ?_)
                | (refine wpAnyH_take (i := 4) rfl (by kernel_rfl) (by kernel_rfl) (by kernel_rfl) (fun _ _ _ h => h) (Or.inr ⟨by rfl, rfl⟩) (by assumption) ?_)
              (try simp only [Act.put, List.setIfInBounds_toArray, List.set_cons_zero, List.set_cons_succ, List.getElem_toArray, List.getElem_cons_zero, List.getElem_cons_succ])
              first
                | (refine wpAnyH_take (i := 5) rfl (by kernel_rfl) (by kernel_rfl) (by kernel_rfl) (fun _ _ _ h => h) (Or.inl ⟨by rfl, by intro w hSw; have x_frm := (HXD.out _ hSw).b_frm; have y_frm := (HYD.out _ hSw).frm; (go_simp <;> with_reducible rfl)⟩) (by assumption) ?_)
                | (refine wpAnyH_take (i := 5) rfl (by kernel_rfl) (by kernel_rfl) (by kernel_rfl) (fun _ _ _ h => h) (Or.inr ⟨by rfl, rfl⟩) (by assumption) ?_)
              (try simp only [Act.put, List.setIfInBounds_toArray, List.set_cons_zero, List.set_cons_succ, List.getElem_toArray, List.getElem_cons_zero, List.getElem_cons_succ])
              first
                | (refine wpAnyH_take (i := 6) rfl (by kernel_rfl) (by kernel_rfl) (by kernel_rfl) (fun _ _ _ h => h) (Or.inl ⟨by rfl, by intro w hSw; have x_frm := (HXD.out _ hSw).b_frm; have y_frm := (HYD.out _ hSw).frm; (go_simp <;> with_reducible rfl)⟩) (by assumption) ?_)
                | (refine wpAnyH_take (i := 6) rfl (by kernel_rfl) (by kernel_rfl) (by kernel_rfl) (fun _ _ _ h => h) (Or.inr ⟨by rfl, rfl⟩) (by assumption) ?_)
              (try simp only [Act.put, List.setIfInBounds_toArray, List.set_cons_zero, List.set_cons_succ, List.getElem_toArray, List.getElem_cons_zero, List.getElem_cons_succ])
              first
                | (refine wpAnyH_take (i := 7) rfl (by kernel_rfl) (by kernel_rfl) (by kernel_rfl) (fun _ _ _ h => h) (Or.inl ⟨by rfl, by intro w hSw; have x_frm := (HXD.out _ hSw).b_frm; have y_frm := (HYD.out _ hSw).frm; (go_simp <;> with_reducible rfl)⟩) (by assumption) ?_)
                | (refine wpAnyH_take (i := 7) rfl (by kernel_rfl) (by kernel_rfl) (by kernel_rfl) (fun _ _ _ h => h) (Or.inr ⟨by rfl, rfl⟩) (by assumption) ?_)
              (try simp only [Act.put, List.setIfInBounds_toArray, List.set_cons_zero, List.set_cons_succ, List.getElem_toArray, List.getElem_cons_zero, List.getElem_cons_succ])
              first
                | (refine wpAnyH_take (i := 8) rfl (by kernel_rfl) (by kernel_rfl) (by kernel_rfl) (fun _ _ _ h => h) (Or.inl ⟨by rfl, by intro w hSw; have x_frm := (HXD.out _ hSw).b_frm; have y_frm := (HYD.out _ hSw).frm; (go_simp <;> with_reducible rfl)⟩) (by assumption) ?_)
                | (refine wpAnyH_take (i := 8) rfl (by kernel_rfl) (by kernel_rfl) (by kernel_rfl) (fun _ _ _ h => h) (Or.inr ⟨by rfl, rfl⟩) (by assumption) ?_)
              (try simp only [Act.put, List.setIfInBounds_toArray, List.set_cons_zero, List.set_cons_succ, List.getElem_toArray, List.getElem_cons_zero, List.getElem_cons_succ])
              first
                | (refine wpAnyH_take (i := 9) rfl (by kernel_rfl) (by kernel_rfl) (by kernel_rfl) (fun _ _ _ h => h) (Or.inl ⟨by rfl, by intro w hSw; have x_frm := (HXD.out _ hSw).b_frm; have y_frm := (HYD.out _ hSw).frm; (go_simp <;> with_reducible rfl)⟩) (by assumption) ?_)
                | (refine wpAnyH_take (i := 9) rfl (by kernel_rfl) (by kernel_rfl) (by kernel_rfl) (fun _ _ _ h => h) (Or.inr ⟨by rfl, rfl⟩) (by assumption) ?_)
              (try simp only [Act.put, List.setIfInBounds_toArray, List.set_cons_zero, List.set_cons_succ, List.getElem_toArray, List.getElem_cons_zero, List.getElem_cons_succ])
              first
                | (refine wpAnyH_take (i := 10) rfl (by kernel_rfl) (by kernel_rfl) (by kernel_rfl) (fun _ _ _ h => h) (Or.inl ⟨by rfl, by intro w hSw; have x_frm := (HXD.out _ hSw).b_frm; have y_frm := (HYD.out _ hSw).frm; (go_simp <;> with_reducible rfl)⟩) (by assumption) ?_)
                | (refine wpAnyH_take (i := 10) rfl (by kernel_rfl) (by kernel_rfl) (by kernel_rfl) (fun _ _ _ h => h) (Or.inr ⟨by rfl, rfl⟩) (by assumption) ?_)
              (try simp only [Act.put, List.setIfInBounds_toArray, List.set_cons_zero, List.set_cons_succ, List.getElem_toArray, List.getElem_cons_zero, List.getElem_cons_succ])
              first
                | (refine wpAnyH_take (i := 11) rfl (by kernel_rfl) (by kernel_rfl) (by kernel_rfl) (fun _ _ _ h => h) (Or.inl ⟨by rfl, by intro w hSw; have x_frm := (HXD.out _ hSw).b_frm; have y_frm := (HYD.out _ hSw).frm; (go_simp <;> with_reducible rfl)⟩) (by assumption) ?_)
                | (refine wpAnyH_take (i := 11) rfl (by kernel_rfl) (by kernel_rfl) (by kernel_rfl) (fun _ _ _ h => h) (Or.inr ⟨by rfl, rfl⟩) (by assumption) ?_)
              (try simp only [Act.put, List.setIfInBounds_toArray, List.set_cons_zero, List.set_cons_succ, List.getElem_toArray, List.getElem_cons_zero, List.getElem_cons_succ])
              first
                | (refine wpAnyH_take (i := 12) rfl (by kernel_rfl) (by kernel_rfl) (by kernel_rfl) (fun _ _ _ h => h) (Or.inl ⟨by rfl, by intro w hSw; have x_frm := (HXD.out _ hSw).b_frm; have y_frm := (HYD.out _ hSw).frm; (go_simp <;> with_reducible rfl)⟩) (by assumption) ?_)
                | (refine wpAnyH_take (i := 12) rfl (by kernel_rfl) (by kernel_rfl) (by kernel_rfl) (fun _ _ _ h => h) (Or.inr ⟨by rfl, rfl⟩) (by assumption) ?_)
              (try simp only [Act.put, List.setIfInBounds_toArray, List.set_cons_zero, List.set_cons_succ, List.getElem_toArray, List.getElem_cons_zero, List.getElem_cons_succ])
              first
                | (refine wpAnyH_take (i := 13) rfl (by kernel_rfl) (by kernel_rfl) (by kernel_rfl) (fun _ _ _ h => h) (Or.inl ⟨by rfl, by intro w hSw; have x_frm := (HXD.out _ hSw).b_frm; have y_frm := (HYD.out _ hSw).frm; (go_simp <;> with_reducible rfl)⟩) (by assumption) ?_)
                | (refine wpAnyH_take (i := 13) rfl (by kernel_rfl) (by kernel_rfl) (by kernel_rfl) (fun _ _ _ h => h) (Or.inr ⟨by rfl, rfl⟩) (by assumption) ?_)
              (try simp only [Act.put, List.setIfInBounds_toArray, List.set_cons_zero, List.set_cons_succ, List.getElem_toArray, List.getElem_cons_zero, List.getElem_cons_succ])
              first
                | (refine wpAnyH_take (i := 14) rfl (by kernel_rfl) (by kernel_rfl) (by kernel_rfl) (fun _ _ _ h => h) (Or.inl ⟨by rfl, by intro w hSw; have x_frm := (HXD.out _ hSw).b_frm; have y_frm := (HYD.out _ hSw).frm; (go_simp <;> with_reducible rfl)⟩) (by assumption) ?_)
                | (refine wpAnyH_take (i := 14) rfl (by kernel_rfl) (by kernel_rfl) (by kernel_rfl) (fun _ _ _ h => h) (Or.inr ⟨by rfl, rfl⟩) (by assumption) ?_)
              (try simp only [Act.put, List.setIfInBounds_toArray, List.set_cons_zero, List.set_cons_succ, List.getElem_toArray, List.getElem_cons_zero, List.getElem_cons_succ])
              first
                | (refine wpAnyH_take (i := 15) rfl (by kernel_rfl) (by kernel_rfl) (by kernel_rfl) (fun _ _ _ h => h) (Or.inl ⟨by rfl, by intro w hSw; have x_frm := (HXD.out _ hSw).b_frm; have y_frm := (HYD.out _ hSw).frm; (go_simp <;> with_reducible rfl)⟩) (by assumption) ?_)
                | (refine wpAnyH_take (i := 15) rfl (by kernel_rfl) (by kernel_rfl) (by kernel_rfl) (fun _ _ _ h => h) (Or.inr ⟨by rfl, rfl⟩) (by assumption) ?_)
              (try simp only [Act.put, List.setIfInBounds_toArray, List.set_cons_zero, List.set_cons_succ, List.getElem_toArray, List.getElem_cons_zero, List.getElem_cons_succ])
              first
                | (refine wpAnyH_take (i := 16) rfl (by kernel_rfl) (by kernel_rfl) (by kernel_rfl) (fun _ _ _ h => h) (Or.inl ⟨by rfl, by intro w hSw; have x_frm := (HXD.out _ hSw).b_frm; have y_frm := (HYD.out _ hSw).frm; (go_simp <;> with_reducible rfl)⟩) (by assumption) ?_)
                | (refine wpAnyH_take (i := 16) rfl (by kernel_rfl) (by kernel_rfl) (by kernel_rfl) (fun _ _ _ h => h) (Or.inr ⟨by rfl, rfl⟩) (by assumption) ?_)
              (try simp only [Act.put, List.setIfInBounds_toArray, List.set_cons_zero, List.set_cons_succ, List.getElem_toArray, List.getElem_cons_zero, List.getElem_cons_succ])
              first
                | (refine wpAnyH_take (i := 17) rfl (by kernel_rfl) (by kernel_rfl) (by kernel_rfl) (fun _ _ _ h => h) (Or.inl ⟨by rfl, by intro w hSw; have x_frm := (HXD.out _ hSw).b_frm; have y_frm := (HYD.out _ hSw).frm; (go_simp <;> with_reducible rfl)⟩) (by assumption) ?_)
                | (refine wpAnyH_take (i := 17) rfl (by kernel_rfl) (by kernel_rfl) (by kernel_rfl) (fun _ _ _ h => h) (Or.inr ⟨by rfl, rfl⟩) (by assumption) ?_)
              (try simp only [Act.put, List.setIfInBounds_toArray, List.set_cons_zero, List.set_cons_succ, List.getElem_toArray, List.getElem_cons_zero, List.getElem_cons_succ])
              refine wpAnyH_done (by kernel_rfl) ?_ _
              clear hHeld
              have HLK := Lib.hid hln
              have hkl := (lastIx_lt hln).1
              obtain ⟨b2, o2, y2, hA2, -, hy2, hyw2, hyc2⟩ := HR.out.at_ (i := k) (by omega)
              injection hA2 with hA2
              injection hA2 with hA21 hA22
              subst hA21 hA22
              have HY2 : Hid (∀ W', Below X2.heap.size X2 W' → CAt W' b (o + k * 20) y2) := Lib.hid (fun W' h => (hyc2 _ (HBX.out.trans (h.mono HBX.out.size))).1)
              have HFO := Lib.hid (show followsB l (j + 1) x = afterB y2 x by unfold followsB; rw [hln]; simp only [hy2])
              have hok2 := ok_parts hy2 (HUP.out k hkl)
              have hk2 : (k : Int) < (l.length : Int) := by omega
              obtain ⟨q2, hq2⟩ : ∃ q, aheadB y2 x = q := ⟨_, rfl⟩
              have HQ2 := Lib.hid hq2
              have HT2 := Lib.hid hok2.2.1
              have hob := bounds_i64 HXW.out.own0
              have hoc := bounds_i64 hyw2.own1
              clear hln hy2 hyw2 hyc2 hok2 hq2
              go_wp2_with fail
              refine (before_q _ l c (j + 1) x (k : Int) _ ((HR.out.below (HBX.out.trans (HZ1.out.mono HBX.out.size))).more (HBX.out.trans (HZ1.out.mono HBX.out.size)).size) HXI.out hl (by rw [HLK.out]; rfl)).mono ?_
              rintro e w2 ⟨rfl, hb2⟩
              have HZ2 := Lib.hid (HZ1.out.trans (hb2.mono HZ1.out.size))
              clear hb2
              go_wp2
              refine wp_region_held_drew (S := fun W' => Below X2.heap.size X2 W') (by kernel_rfl) (HZ2.out.drew) (fun hHeld => ?_)
              first
                | (refine wpAnyH_take (i := 0) rfl (by kernel_rfl) (by kernel_rfl) (by kernel_rfl) (fun _ _ _ h => h) (Or.inl ⟨by rfl, by intro w hSw; (go_simp <;> with_reducible rfl)⟩) (by assumption) ?_)
                | (refine wpAnyH_take (i := 0) rfl (by kernel_rfl) (by kernel_rfl) (by kernel_rfl) (fun _ _ _ h => h) (Or.inr ⟨by rfl, rfl⟩) (by assumption) ?_)
              (try simp only [Act.put, List.setIfInBounds_toArray, List.set_cons_zero, List.set_cons_succ, List.getElem_toArray, List.getElem_cons_zero, List.getElem_cons_succ])
              first
                | (refine wpAnyH_take (i := 1) rfl (by kernel_rfl) (by kernel_rfl) (by kernel_rfl) (fun _ _ _ h => h) (Or.inl ⟨by rfl, by intro w hSw; (go_simp <;> with_reducible rfl)⟩) (by assumption) ?_)
                | (refine wpAnyH_take (i := 1) rfl (by kernel_rfl) (by kernel_rfl) (by kernel_rfl) (fun _ _ _ h => h) (Or.inr ⟨by rfl, rfl⟩) (by assumption) ?_)
              (try simp only [Act.put, List.setIfInBounds_toArray, List.set_cons_zero, List.set_cons_succ, List.getElem_toArray, List.getElem_cons_zero, List.getElem_cons_succ])
              first
                | (refine wpAnyH_take (i := 2) rfl (by kernel_rfl) (by kernel_rfl) (by kernel_rfl) (fun _ _ _ h => h) (Or.inl ⟨by rfl, by intro w hSw; (go_simp <;> with_reducible rfl)⟩) (by assumption) ?_)
                | (refine wpAnyH_take (i := 2) rfl (by kernel_rfl) (by kernel_rfl) (by kernel_rfl) (fun _ _ _ h => h) (Or.inr ⟨by rfl, rfl⟩) (by assumption) ?_)
              (try simp only [Act.put, List.setIfInBounds_toArray, List.set_cons_zero, List.set_cons_succ, List.getElem_toArray, List.getElem_cons_zero, List.getElem_cons_succ])
              first
                | (refine wpAnyH_take (i := 3) rfl (by kernel_rfl) (by kernel_rfl) (by kernel_rfl) (fun _ _ _ h => h) (Or.inl ⟨by rfl, by intro w hSw; (go_simp <;> with_reducible rfl)⟩) (by assumption) ?_)
                | (refine wpAnyH_take (i := 3) rfl (by kernel_rfl) (by kernel_rfl) (by kernel_rfl) (fun _ _ _ h => h) (Or.inr ⟨by rfl, rfl⟩) (by assumption) ?_)
              (try simp only [Act.put, List.setIfInBounds_toArray, List.set_cons_zero, List.set_cons_succ, List.getElem_toArray, List.getElem_cons_zero, List.getElem_cons_succ])
              first
                | (refine wpAnyH_take (i := 4) rfl (by kernel_rfl) (by kernel_rfl) (by kernel_rfl) (fun _ _ _ h => h) (Or.inl ⟨by rfl, by intro w hSw; (go_simp <;> with_reducible rfl)⟩) (by assumption) ?_)
                | (refine wpAnyH_take (i := 4) rfl (by kernel_rfl) (by kernel_rfl) (by kernel_rfl) (fun _ _ _ h => h) (Or.inr ⟨by rfl, rfl⟩) (by assumption) ?_)
              (try simp only [Act.put, List.setIfInBounds_toArray, List.set_cons_zero, List.set_cons_succ, List.getElem_toArray, List.getElem_cons_zero, List.getElem_cons_succ])
              first
                | (refine wpAnyH_take (i := 5) rfl (by kernel_rfl) (by kernel_rfl) (by kernel_rfl) (fun _ _ _ h => h) (Or.inl ⟨by rfl, by intro w hSw; (go_simp <;> with_reducible rfl)⟩) (by assumption) ?_)
                | (refine wpAnyH_take (i := 5) rfl (by kernel_rfl) (by kernel_rfl) (by kernel_rfl) (fun _ _ _ h => h) (Or.inr ⟨by rfl, rfl⟩) (by assumption) ?_)
              (try simp only [Act.put, List.setIfInBounds_toArray, List.set_cons_zero, List.set_cons_succ, List.getElem_toArray, List.getElem_cons_zero, List.getElem_cons_succ])
              refine wpAnyH_take (i := 6) rfl (by kernel_rfl) (by kernel_rfl) (by kernel_rfl) (fun _ _ _ h => h) (yieldsIf_load_mid (by with_unfolding_all rfl) 51 _ rfl (b) (o + k * 20) (by with_unfolding_all rfl) (cCells y2) _ (fun W' hW' => HY2.out W' hW') Try.underlying51 rfl (cCells_info y2)) (by assumption) ?_
              (try simp only [Act.put, List.setIfInBounds_toArray, List.set_cons_zero, List.set_cons_succ, List.getElem_toArray, List.getElem_cons_zero, List.getElem_cons_succ])
              refine wpAnyH_take (i := 7) rfl (by kernel_rfl) (by kernel_rfl) (by kernel_rfl) (fun _ _ _ h => h) (yieldsIf_load_mid (by with_unfolding_all rfl) 51 _ rfl (wr.heap.size) (0) (by with_unfolding_all rfl) (cCells x) _ (fun W' hW' => HXD.out W' hW') Try.underlying51 rfl (cCells_info x)) (by assumption) ?_
              (try simp only [Act.put, List.setIfInBounds_toArray, List.set_cons_zero, List.set_cons_succ, List.getElem_toArray, List.getElem_cons_zero, List.getElem_cons_succ])
              refine wpAnyH_ready (rs := [8]) (by kernel_rfl) (by simp) (AllReadyH.cons rfl (fun K hK => ?_) AllReadyH.nil)
              go_simp
              refine (rahead_q y2 x q2 _ HQ2.out).mono ?_
              rintro e w3 ⟨rfl, hb3⟩
              (try go_wp2_with fail)
              have HZ := Lib.hid (HZ2.out.drew.trans (hb3.mono HZ2.out.size))
              clear hb3
              refine hK.out _ _ (HZ.out) (fun hHeld => ?_)
              clear hK K
              (try simp only [Act.put, List.setIfInBounds_toArray, List.set_cons_zero, List.set_cons_succ, List.getElem_toArray, List.getElem_cons_zero, List.getElem_cons_succ])
              cases q2 with
              | false =>
                first
                  | (refine wpAnyH_take (i := 9) rfl (by kernel_rfl) (by kernel_rfl) (by kernel_rfl) (fun _ _ _ h => h) (Or.inl ⟨by rfl, by intro w hSw; have x_t0 := (HXD.out _ hSw).b_t0; have x_own0 := (HXD.out _ hSw).b_own0; have y_t1 := (HY2.out _ hSw).t1; have y_own1 := (HY2.out _ hSw).own1; (go_simp <;> with_reducible rfl)⟩) (by assumption) ?_)
                  | (refine wpAnyH_take (i := 9) rfl (by kernel_rfl) (by kernel_rfl) (by kernel_rfl) (fun _ _ _ h => h) (Or.inr ⟨by rfl, rfl⟩) (by assumption) ?_)
                (try simp only [Act.put, List.setIfInBounds_toArray, List.set_cons_zero, List.set_cons_succ, List.getElem_toArray, List.getElem_cons_zero, List.getElem_cons_succ])
                first
                  | (refine wpAnyH_take (i := 10) rfl (by kernel_rfl) (by kernel_rfl) (by kernel_rfl) (fun _ _ _ h => h) (Or.inl ⟨by rfl, by intro w hSw; have x_t0 := (HXD.out _ hSw).b_t0; have x_own0 := (HXD.out _ hSw).b_own0; have y_t1 := (HY2.out _ hSw).t1; have y_own1 := (HY2.out _ hSw).own1; (go_simp <;> with_reducible rfl)⟩) (by assumption) ?_)
                  | (refine wpAnyH_take (i := 10) rfl (by kernel_rfl) (by kernel_rfl) (by kernel_rfl) (fun _ _ _ h => h) (Or.inr ⟨by rfl, rfl⟩) (by assumption) ?_)
                (try simp only [Act.put, List.setIfInBounds_toArray, List.set_cons_zero, List.set_cons_succ, List.getElem_toArray, List.getElem_cons_zero, List.getElem_cons_succ])
                first
                  | (refine wpAnyH_take (i := 11) rfl (by kernel_rfl) (by kernel_rfl) (by kernel_rfl) (fun _ _ _ h => h) (Or.inl ⟨by rfl, by intro w hSw; have x_t0 := (HXD.out _ hSw).b_t0; have x_own0 := (HXD.out _ hSw).b_own0; have y_t1 := (HY2.out _ hSw).t1; have y_own1 := (HY2.out _ hSw).own1; (go_simp <;> with_reducible rfl)⟩) (by assumption) ?_)
                  | (refine wpAnyH_take (i := 11) rfl (by kernel_rfl) (by kernel_rfl) (by kernel_rfl) (fun _ _ _ h => h) (Or.inr ⟨by rfl, rfl⟩) (by assumption) ?_)
                (try simp only [Act.put, List.setIfInBounds_toArray, List.set_cons_zero, List.set_cons_succ, List.getElem_toArray, List.getElem_cons_zero, List.getElem_cons_succ])
                first
                  | (refine wpAnyH_take (i := 12) rfl (by kernel_rfl) (by kernel_rfl) (by kernel_rfl) (fun _ _ _ h => h) (Or.inl ⟨by rfl, by intro w hSw; have x_t0 := (HXD.out _ hSw).b_t0; have x_own0 := (HXD.out _ hSw).b_own0; have y_t1 := (HY2.out _ hSw).t1; have y_own1 := (HY2.out _ hSw).own1; (go_simp <;> with_reducible rfl)⟩) (by assumption) ?_)
                  | (refine wpAnyH_take (i := 12) rfl (by kernel_rfl) (by kernel_rfl) (by kernel_rfl) (fun _ _ _ h => h) (Or.inr ⟨by rfl, rfl⟩) (by assumption) ?_)
                (try simp only [Act.put, List.setIfInBounds_toArray, List.set_cons_zero, List.set_cons_succ, List.getElem_toArray, List.getElem_cons_zero, List.getElem_cons_succ])
                first
                  | (refine wpAnyH_take (i := 13) rfl (by kernel_rfl) (by kernel_rfl) (by kernel_rfl) (fun _ _ _ h => h) (Or.inl ⟨by rfl, by intro w hSw; have x_t0 := (HXD.out _ hSw).b_t0; have x_own0 := (HXD.out _ hSw).b_own0; have y_t1 := (HY2.out _ hSw).t1; have y_own1 := (HY2.out _ hSw).own1; (go_simp <;> with_reducible rfl)⟩) (by assumption) ?_)
                  | (refine wpAnyH_take (i := 13) rfl (by kernel_rfl) (by kernel_rfl) (by kernel_rfl) (fun _ _ _ h => h) (Or.inr ⟨by rfl, rfl⟩) (by assumption) ?_)
                (try simp only [Act.put, List.setIfInBounds_toArray, List.set_cons_zero, List.set_cons_succ, List.getElem_toArray, List.getElem_cons_zero, List.getElem_cons_succ])
                first
                  | (refine wpAnyH_take (i := 14) rfl (by kernel_rfl) (by kernel_rfl) (by kernel_rfl) (fun _ _ _ h => h) (Or.inl ⟨by rfl, by intro w hSw; have x_t0 := (HXD.out _ hSw).b_t0; have x_own0 := (HXD.out _ hSw).b_own0; have y_t1 := (HY2.out _ hSw).t1; have y_own1 := (HY2.out _ hSw).own1; (go_simp <;> with_reducible rfl)⟩) (by assumption) ?_)
                  | (refine wpAnyH_take (i := 14) rfl (by kernel_rfl) (by kernel_rfl) (by kernel_rfl) (fun _ _ _ h => h) (Or.inr ⟨by rfl, rfl⟩) (by assumption) ?_)
                (try simp only [Act.put, List.setIfInBounds_toArray, List.set_cons_zero, List.set_cons_succ, List.getElem_toArray, List.getElem_cons_zero, List.getElem_cons_succ])
                first
                  | (refine wpAnyH_take (i := 15) rfl (by kernel_rfl) (by kernel_rfl) (by kernel_rfl) (fun _ _ _ h => h) (Or.inl ⟨by rfl, by intro w hSw; have x_t0 := (HXD.out _ hSw).b_t0; have x_own0 := (HXD.out _ hSw).b_own0; have y_t1 := (HY2.out _ hSw).t1; have y_own1 := (HY2.out _ hSw).own1; (go_simp <;> with_reducible rfl)⟩) (by assumption) ?_)
                  | (refine wpAnyH_take (i := 15) rfl (by kernel_rfl) (by kernel_rfl) (by kernel_rfl) (fun _ _ _ h => h) (Or.inr ⟨by rfl, rfl⟩) (by assumption) ?_)
                (try simp only [Act.put, List.setIfInBounds_toArray, List.set_cons_zero, List.set_cons_succ, List.getElem_toArray, List.getElem_cons_zero, List.getElem_cons_succ])
                first
                  | (refine wpAnyH_take (i := 16) rfl (by kernel_rfl) (by kernel_rfl) (by kernel_rfl) (fun _ _ _ h => h) (Or.inl ⟨by rfl, by intro w hSw; have x_t0 := (HXD.out _ hSw).b_t0; have x_own0 := (HXD.out _ hSw).b_own0; have y_t1 := (HY2.out _ hSw).t1; have y_own1 := (HY2.out _ hSw).own1; (go_simp <;> with_reducible rfl)⟩) (by assumption) ?_)
                  | (refine wpAnyH_take (i := 16) rfl (by kernel_rfl) (by kernel_rfl) (by kernel_rfl) (fun _ _ _ h => h) (Or.inr ⟨by rfl, rfl⟩) (by assumption) ?_)
                (try simp only [Act.put, List.setIfInBounds_toArray, List.set_cons_zero, List.set_cons_succ, List.getElem_toArray, List.getElem_cons_zero, List.getElem_cons_succ])
                first
                  | (refine wpAnyH_take (i := 17) rfl (by kernel_rfl) (by kernel_rfl) (by kernel_rfl) (fun _ _ _ h => h) (Or.inl ⟨by rfl, by intro w hSw; have x_t0 := (HXD.out _ hSw).b_t0; have x_own0 := (HXD.out _ hSw).b_own0; have y_t1 := (HY2.out _ hSw).t1; have y_own1 := (HY2.out _ hSw).own1; (go_simp <;> with_reducible rfl)⟩) (by assumption) ?_)
                  | (refine wpAnyH_take (i := 17) rfl (by kernel_rfl) (by kernel_rfl) (by kernel_rfl) (fun _ _ _ h => h) (Or.inr ⟨by rfl, rfl⟩) (by assumption) ?_)
                (try simp only [Act.put, List.setIfInBounds_toArray, List.set_cons_zero, List.set_cons_succ, List.getElem_toArray, List.getElem_cons_zero, List.getElem_cons_succ])
                first
                  | (refine wpAnyH_take (i := 18) rfl (by kernel_rfl) (by kernel_rfl) (by kernel_rfl) (fun _ _ _ h => h) (Or.inl ⟨by rfl, by intro w hSw; have x_t0 := (HXD.out _ hSw).b_t0; have x_own0 := (HXD.out _ hSw).b_own0; have y_t1 := (HY2.out _ hSw).t1; have y_own1 := (HY2.out _ hSw).own1; (go_simp <;> with_reducible rfl)⟩) (by assumption) ?_)
                  | (refine wpAnyH_take (i := 18) rfl (by kernel_rfl) (by kernel_rfl) (by kernel_rfl) (fun _ _ _ h => h) (Or.inr ⟨by rfl, rfl⟩) (by assumption) ?_)
                (try simp only [Act.put, List.setIfInBounds_toArray, List.set_cons_zero, List.set_cons_succ, List.getElem_toArray, List.getElem_cons_zero, List.getElem_cons_succ])
                first
                  | (refine wpAnyH_take (i := 19) rfl (by kernel_rfl) (by kernel_rfl) (by kernel_rfl) (fun _ _ _ h => h) (Or.inl ⟨by rfl, by intro w hSw; have x_t0 := (HXD.out _ hSw).b_t0; have x_own0 := (HXD.out _ hSw).b_own0; have y_t1 := (HY2.out _ hSw).t1; have y_own1 := (HY2.out _ hSw).own1; (go_simp <;> with_reducible rfl)⟩) (by assumption) ?_)
                  | (refine wpAnyH_take (i := 19) rfl (by kernel_rfl) (by kernel_rfl) (by kernel_rfl) (fun _ _ _ h => h) (Or.inr ⟨by rfl, rfl⟩) (by assumption) ?_)
                (try simp only [Act.put, List.setIfInBounds_toArray, List.set_cons_zero, List.set_cons_succ, List.getElem_toArray, List.getElem_cons_zero, List.getElem_cons_succ])
                first
                  | (refine wpAnyH_take (i := 20) rfl (by kernel_rfl) (by kernel_rfl) (by kernel_rfl) (fun _ _ _ h => h) (Or.inl ⟨by rfl, by intro w hSw; have x_t0 := (HXD.out _ hSw).b_t0; have x_own0 := (HXD.out _ hSw).b_own0; have y_t1 := (HY2.out _ hSw).t1; have y_own1 := (HY2.out _ hSw).own1; (go_simp <;> with_reducible rfl)⟩) (by assumption) ?_)
                  | (refine wpAnyH_take (i := 20) rfl (by kernel_rfl) (by kernel_rfl) (by kernel_rfl) (fun _ _ _ h => h) (Or.inr ⟨by rfl, rfl⟩) (by assumption) ?_)
                (try simp only [Act.put, List.setIfInBounds_toArray, List.set_cons_zero, List.set_cons_succ, List.getElem_toArray, List.getElem_cons_zero, List.getElem_cons_succ])
                first
                  | (refine wpAnyH_take (i := 21) rfl (by kernel_rfl) (by kernel_rfl) (by kernel_rfl) (fun _ _ _ h => h) (Or.inl ⟨by rfl, by intro w hSw; have x_t0 := (HXD.out _ hSw).b_t0; have x_own0 := (HXD.out _ hSw).b_own0; have y_t1 := (HY2.out _ hSw).t1; have y_own1 := (HY2.out _ hSw).own1; (go_simp <;> with_reducible rfl)⟩) (by assumption) ?_)
                  | (refine wpAnyH_take (i := 21) rfl (by kernel_rfl) (by kernel_rfl) (by kernel_rfl) (fun _ _ _ h => h) (Or.inr ⟨by rfl, rfl⟩) (by assumption) ?_)
                (try simp only [Act.put, List.setIfInBounds_toArray, List.set_cons_zero, List.set_cons_succ, List.getElem_toArray, List.getElem_cons_zero, List.getElem_cons_succ])
                first
                  | (refine wpAnyH_take (i := 22) rfl (by kernel_rfl) (by kernel_rfl) (by kernel_rfl) (fun _ _ _ h => h) (Or.inl ⟨by rfl, by intro w hSw; have x_t0 := (HXD.out _ hSw).b_t0; have x_own0 := (HXD.out _ hSw).b_own0; have y_t1 := (HY2.out _ hSw).t1; have y_own1 := (HY2.out _ hSw).own1; (go_simp <;> with_reducible rfl)⟩) (by assumption) ?_)
                  | (refine wpAnyH_take (i := 22) rfl (by kernel_rfl) (by kernel_rfl) (by kernel_rfl) (fun _ _ _ h => h) (Or.inr ⟨by rfl, rfl⟩) (by assumption) ?_)
                (try simp only [Act.put, List.setIfInBounds_toArray, List.set_cons_zero, List.set_cons_succ, List.getElem_toArray, List.getElem_cons_zero, List.getElem_cons_succ])
                first
                  | (refine wpAnyH_take (i := 23) rfl (by kernel_rfl) (by kernel_rfl) (by kernel_rfl) (fun _ _ _ h => h) (Or.inl ⟨by rfl, by intro w hSw; have x_t0 := (HXD.out _ hSw).b_t0; have x_own0 := (HXD.out _ hSw).b_own0; have y_t1 := (HY2.out _ hSw).t1; have y_own1 := (HY2.out _ hSw).own1; (go_simp <;> with_reducible rfl)⟩) (by assumption) ?_)
                  | (refine wpAnyH_take (i := 23) rfl (by kernel_rfl) (by kernel_rfl) (by kernel_rfl) (fun _ _ _ h => h) (Or.inr ⟨by rfl, rfl⟩) (by assumption) ?_)
                (try simp only [Act.put, List.setIfInBounds_toArray, List.set_cons_zero, List.set_cons_succ, List.getElem_toArray, List.getElem_cons_zero, List.getElem_cons_succ])
                first
                  | (refine wpAnyH_take (i := 24) rfl (by kernel_rfl) (by kernel_rfl) (by kernel_rfl) (fun _ _ _ h => h) (Or.inl ⟨by rfl, by intro w hSw; have x_t0 := (HXD.out _ hSw).b_t0; have x_own0 := (HXD.out _ hSw).b_own0; have y_t1 := (HY2.out _ hSw).t1; have y_own1 := (HY2.out _ hSw).own1; (go_simp <;> with_reducible rfl)⟩) (by assumption) ?_)
                  | (refine wpAnyH_take (i := 24) rfl (by kernel_rfl) (by kernel_rfl) (by kernel_rfl) (fun _ _ _ h => h) (Or.inr ⟨by rfl, rfl⟩) (by assumption) ?_)
                (try simp only [Act.put, List.setIfInBounds_toArray, List.set_cons_zero, List.set_cons_succ, List.getElem_toArray, List.getElem_cons_zero, List.getElem_cons_succ])
                first
                  | (refine wpAnyH_take (i := 25) rfl (by kernel_rfl) (by kernel_rfl) (by kernel_rfl) (fun _ _ _ h => h) (Or.inl ⟨by rfl, by intro w hSw; have x_t0 := (HXD.out _ hSw).b_t0; have x_own0 := (HXD.out _ hSw).b_own0; have y_t1 := (HY2.out _ hSw).t1; have y_own1 := (HY2.out _ hSw).own1; (go_simp <;> with_reducible rfl)⟩) (by assumption) ?_)
                  | (refine wpAnyH_take (i := 25) rfl (by kernel_rfl) (by kernel_rfl) (by kernel_rfl) (fun _ _ _ h => h) (Or.inr ⟨by rfl, rfl⟩) (by assumption) ?_)
                (try simp only [Act.put, List.setIfInBounds_toArray, List.set_cons_zero, List.set_cons_succ, List.getElem_toArray, List.getElem_cons_zero, List.getElem_cons_succ])
                first
                  | (refine wpAnyH_take (i := 26) rfl (by kernel_rfl) (by kernel_rfl) (by kernel_rfl) (fun _ _ _ h => h) (Or.inl ⟨by rfl, by intro w hSw; have x_t0 := (HXD.out _ hSw).b_t0; have x_own0 := (HXD.out _ hSw).b_own0; have y_t1 := (HY2.out _ hSw).t1; have y_own1 := (HY2.out _ hSw).own1; (go_simp <;> with_reducible rfl)⟩) (by assumption) ?_)
                  | (refine wpAnyH_take (i := 26) rfl (by kernel_rfl) (by kernel_rfl) (by kernel_rfl) (fun _ _ _ h => h) (Or.inr ⟨by rfl, rfl⟩) (by assumption) ?_)
                (try simp only [Act.put, List.setIfInBounds_toArray, List.set_cons_zero, List.set_cons_succ, List.getElem_toArray, List.getElem_cons_zero, List.getElem_cons_succ])
                first
                  | (refine wpAnyH_take (i := 27) rfl (by kernel_rfl) (by kernel_rfl) (by kernel_rfl) (fun _ _ _ h => h) (Or.inl ⟨by rfl, by intro w hSw; have x_t0 := (HXD.out _ hSw).b_t0; have x_own0 := (HXD.out _ hSw).b_own0; have y_t1 := (HY2.out _ hSw).t1; have y_own1 := (HY2.out _ hSw).own1; (go_simp <;> with_reducible rfl)⟩) (by assumption) ?_)
                  | (refine wpAnyH_take (i := 27) rfl (by kernel_rfl) (by kernel_rfl) (by kernel_rfl) (fun _ _ _ h => h) (Or.inr ⟨by rfl, rfl⟩) (by assumption) ?_)
                (try simp only [Act.put, List.setIfInBounds_toArray, List.set_cons_zero, List.set_cons_succ, List.getElem_toArray, List.getElem_cons_zero, List.getElem_cons_succ])
                first
                  | (refine wpAnyH_take (i := 28) rfl (by kernel_rfl) (by kernel_rfl) (by kernel_rfl) (fun _ _ _ h => h) (Or.inl ⟨by rfl, by intro w hSw; have x_t0 := (HXD.out _ hSw).b_t0; have x_own0 := (HXD.out _ hSw).b_own0; have y_t1 := (HY2.out _ hSw).t1; have y_own1 := (HY2.out _ hSw).own1; (go_simp <;> with_reducible rfl)⟩) (by assumption) ?_)
                  | (refine wpAnyH_take (i := 28) rfl (by kernel_rfl) (by kernel_rfl) (by kernel_rfl) (fun _ _ _ h => h) (Or.inr ⟨by rfl, rfl⟩) (by assumption) ?_)
                (try simp only [Act.put, List.setIfInBounds_toArray, List.set_cons_zero, List.set_cons_succ, List.getElem_toArray, List.getElem_cons_zero, List.getElem_cons_succ])
                first
                  | (refine wpAnyH_take (i := 29) rfl (by kernel_rfl) (by kernel_rfl) (by kernel_rfl) (fun _ _ _ h => h) (Or.inl ⟨by rfl, by intro w hSw; have x_t0 := (HXD.out _ hSw).b_t0; have x_own0 := (HXD.out _ hSw).b_own0; have y_t1 := (HY2.out _ hSw).t1; have y_own1 := (HY2.out _ hSw).own1; (go_simp <;> with_reducible rfl)⟩) (by assumption) ?_)
                  | (refine wpAnyH_take (i := 29) rfl (by kernel_rfl) (by kernel_rfl) (by kernel_rfl) (fun _ _ _ h => h) (Or.inr ⟨by rfl, rfl⟩) (by assumption) ?_)
                (try simp only [Act.put, List.setIfInBounds_toArray, List.set_cons_zero, List.set_cons_succ, List.getElem_toArray, List.getElem_cons_zero, List.getElem_cons_succ])
                first
                  | (refine wpAnyH_take (i := 30) rfl (by kernel_rfl) (by kernel_rfl) (by kernel_rfl) (fun _ _ _ h => h) (Or.inl ⟨by rfl, by intro w hSw; have x_t0 := (HXD.out _ hSw).b_t0; have x_own0 := (HXD.out _ hSw).b_own0; have y_t1 := (HY2.out _ hSw).t1; have y_own1 := (HY2.out _ hSw).own1; (go_simp <;> with_reducible rfl)⟩) (by assumption) ?_)
                  | (refine wpAnyH_take (i := 30) rfl (by kernel_rfl) (by kernel_rfl) (by kernel_rfl) (fun _ _ _ h => h) (Or.inr ⟨by rfl, rfl⟩) (by assumption) ?_)
                (try simp only [Act.put, List.setIfInBounds_toArray, List.set_cons_zero, List.set_cons_succ, List.getElem_toArray, List.getElem_cons_zero, List.getElem_cons_succ])
                first
                  | (refine wpAnyH_take (i := 31) rfl (by kernel_rfl) (by kernel_rfl) (by kernel_rfl) (fun _ _ _ h => h) (Or.inl ⟨by rfl, by intro w hSw; have x_t0 := (HXD.out _ hSw).b_t0; have x_own0 := (HXD.out _ hSw).b_own0; have y_t1 := (HY2.out _ hSw).t1; have y_own1 := (HY2.out _ hSw).own1; (go_simp <;> with_reducible rfl)⟩) (by assumption) ?_)
                  | (refine wpAnyH_take (i := 31) rfl (by kernel_rfl) (by kernel_rfl) (by kernel_rfl) (fun _ _ _ h => h) (Or.inr ⟨by rfl, rfl⟩) (by assumption) ?_)
                (try simp only [Act.put, List.setIfInBounds_toArray, List.set_cons_zero, List.set_cons_succ, List.getElem_toArray, List.getElem_cons_zero, List.getElem_cons_succ])
                refine wpAnyH_done (by kernel_rfl) ?_ _
                clear hHeld
                go_wp2
                go_ret
                exact ⟨by rw [HBAD.out (by rw [HOK.out]; rw [HFO.out]; unfold afterB; rw [HQ2.out]; simp)]; rfl, HBX.out.trans (HZ.out.mono HBX.out.size)⟩
              | true =>
                have hdn : y2.done = true := by have h := HQ2.out; unfold aheadB at h; simp at h; exact h.1
                have hsub := IntWalk.i64_in (x.own0 - y2.own1) (by have h1 := HT2.out.2.2.2.1 hdn; have h2 := HT2.out.2.2.1; have h3 := HT1.out; omega)
                clear hdn
                by_cases m1 : x.t0 < y2.t1
                · first
                    | (refine wpAnyH_take (i := 9) rfl (by kernel_rfl) (by kernel_rfl) (by kernel_rfl) (fun _ _ _ h => h) (Or.inl ⟨by rfl, by intro w hSw; have x_t0 := (HXD.out _ hSw).b_t0; have x_own0 := (HXD.out _ hSw).b_own0; have y_t1 := (HY2.out _ hSw).t1; have y_own1 := (HY2.out _ hSw).own1; (go_simp <;> with_reducible rfl)⟩) (by assumption) ?_)
                    | (refine wpAnyH_take (i := 9) rfl (by kernel_rfl) (by kernel_rfl) (by kernel_rfl) (fun _ _ _ h => h) (Or.inr ⟨by rfl, rfl⟩) (by assumption) ?_)
                  (try simp only [Act.put, List.setIfInBounds_toArray, List.set_cons_zero, List.set_cons_succ, List.getElem_toArray, List.getElem_cons_zero, List.getElem_cons_succ])
                  first
                    | (refine wpAnyH_take (i := 10) rfl (by kernel_rfl) (by kernel_rfl) (by kernel_rfl) (fun _ _ _ h => h) (Or.inl ⟨by rfl, by intro w hSw; have x_t0 := (HXD.out _ hSw).b_t0; have x_own0 := (HXD.out _ hSw).b_own0; have y_t1 := (HY2.out _ hSw).t1; have y_own1 := (HY2.out _ hSw).own1; (go_simp <;> with_reducible rfl)⟩) (by assumption) ?_)
                    | (refine wpAnyH_take (i := 10) rfl (by kernel_rfl) (by kernel_rfl) (by kernel_rfl) (fun _ _ _ h => h) (Or.inr ⟨by rfl, rfl⟩) (by assumption) ?_)
                  (try simp only [Act.put, List.setIfInBounds_toArray, List.set_cons_zero, List.set_cons_succ, List.getElem_toArray, List.getElem_cons_zero, List.getElem_cons_succ])
                  first
                    | (refine wpAnyH_take (i := 11) rfl (by kernel_rfl) (by kernel_rfl) (by kernel_rfl) (fun _ _ _ h => h) (Or.inl ⟨by rfl, by intro w hSw; have x_t0 := (HXD.out _ hSw).b_t0; have x_own0 := (HXD.out _ hSw).b_own0; have y_t1 := (HY2.out _ hSw).t1; have y_own1 := (HY2.out _ hSw).own1; (go_simp <;> with_reducible rfl)⟩) (by assumption) ?_)
                    | (refine wpAnyH_take (i := 11) rfl (by kernel_rfl) (by kernel_rfl) (by kernel_rfl) (fun _ _ _ h => h) (Or.inr ⟨by rfl, rfl⟩) (by assumption) ?_)
                  (try simp only [Act.put, List.setIfInBounds_toArray, List.set_cons_zero, List.set_cons_succ, List.getElem_toArray, List.getElem_cons_zero, List.getElem_cons_succ])
                  first
                    | (refine wpAnyH_take (i := 12) rfl (by kernel_rfl) (by kernel_rfl) (by kernel_rfl) (fun _ _ _ h => h) (Or.inl ⟨by rfl, by intro w hSw; have x_t0 := (HXD.out _ hSw).b_t0; have x_own0 := (HXD.out _ hSw).b_own0; have y_t1 := (HY2.out _ hSw).t1; have y_own1 := (HY2.out _ hSw).own1; (go_simp <;> with_reducible rfl)⟩) (by assumption) ?_)
                    | (refine wpAnyH_take (i := 12) rfl (by kernel_rfl) (by kernel_rfl) (by kernel_rfl) (fun _ _ _ h => h) (Or.inr ⟨by rfl, rfl⟩) (by assumption) ?_)
                  (try simp only [Act.put, List.setIfInBounds_toArray, List.set_cons_zero, List.set_cons_succ, List.getElem_toArray, List.getElem_cons_zero, List.getElem_cons_succ])
                  first
                    | (refine wpAnyH_take (i := 13) rfl (by kernel_rfl) (by kernel_rfl) (by kernel_rfl) (fun _ _ _ h => h) (Or.inl ⟨by rfl, by intro w hSw; have x_t0 := (HXD.out _ hSw).b_t0; have x_own0 := (HXD.out _ hSw).b_own0; have y_t1 := (HY2.out _ hSw).t1; have y_own1 := (HY2.out _ hSw).own1; (go_simp <;> with_reducible rfl)⟩) (by assumption) ?_)
                    | (refine wpAnyH_take (i := 13) rfl (by kernel_rfl) (by kernel_rfl) (by kernel_rfl) (fun _ _ _ h => h) (Or.inr ⟨by rfl, rfl⟩) (by assumption) ?_)
                  (try simp only [Act.put, List.setIfInBounds_toArray, List.set_cons_zero, List.set_cons_succ, List.getElem_toArray, List.getElem_cons_zero, List.getElem_cons_succ])
                  first
                    | (refine wpAnyH_take (i := 14) rfl (by kernel_rfl) (by kernel_rfl) (by kernel_rfl) (fun _ _ _ h => h) (Or.inl ⟨by rfl, by intro w hSw; have x_t0 := (HXD.out _ hSw).b_t0; have x_own0 := (HXD.out _ hSw).b_own0; have y_t1 := (HY2.out _ hSw).t1; have y_own1 := (HY2.out _ hSw).own1; (go_simp <;> with_reducible rfl)⟩) (by assumption) ?_)
                    | (refine wpAnyH_take (i := 14) rfl (by kernel_rfl) (by kernel_rfl) (by kernel_rfl) (fun _ _ _ h => h) (Or.inr ⟨by rfl, rfl⟩) (by assumption) ?_)
                  (try simp only [Act.put, List.setIfInBounds_toArray, List.set_cons_zero, List.set_cons_succ, List.getElem_toArray, List.getElem_cons_zero, List.getElem_cons_succ])
                  first
                    | (refine wpAnyH_take (i := 15) rfl (by kernel_rfl) (by kernel_rfl) (by kernel_rfl) (fun _ _ _ h => h) (Or.inl ⟨by rfl, by intro w hSw; have x_t0 := (HXD.out _ hSw).b_t0; have x_own0 := (HXD.out _ hSw).b_own0; have y_t1 := (HY2.out _ hSw).t1; have y_own1 := (HY2.out _ hSw).own1; (go_simp <;> with_reducible rfl)⟩) (by assumption) ?_)
                    | (refine wpAnyH_take (i := 15) rfl (by kernel_rfl) (by kernel_rfl) (by kernel_rfl) (fun _ _ _ h => h) (Or.inr ⟨by rfl, rfl⟩) (by assumption) ?_)
                  (try simp only [Act.put, List.setIfInBounds_toArray, List.set_cons_zero, List.set_cons_succ, List.getElem_toArray, List.getElem_cons_zero, List.getElem_cons_succ])
                  first
                    | (refine wpAnyH_take (i := 16) rfl (by kernel_rfl) (by kernel_rfl) (by kernel_rfl) (fun _ _ _ h => h) (Or.inl ⟨by rfl, by intro w hSw; have x_t0 := (HXD.out _ hSw).b_t0; have x_own0 := (HXD.out _ hSw).b_own0; have y_t1 := (HY2.out _ hSw).t1; have y_own1 := (HY2.out _ hSw).own1; (go_simp <;> with_reducible rfl)⟩) (by assumption) ?_)
                    | (refine wpAnyH_take (i := 16) rfl (by kernel_rfl) (by kernel_rfl) (by kernel_rfl) (fun _ _ _ h => h) (Or.inr ⟨by rfl, rfl⟩) (by assumption) ?_)
                  (try simp only [Act.put, List.setIfInBounds_toArray, List.set_cons_zero, List.set_cons_succ, List.getElem_toArray, List.getElem_cons_zero, List.getElem_cons_succ])
                  first
                    | (refine wpAnyH_take (i := 17) rfl (by kernel_rfl) (by kernel_rfl) (by kernel_rfl) (fun _ _ _ h => h) (Or.inl ⟨by rfl, by intro w hSw; have x_t0 := (HXD.out _ hSw).b_t0; have x_own0 := (HXD.out _ hSw).b_own0; have y_t1 := (HY2.out _ hSw).t1; have y_own1 := (HY2.out _ hSw).own1; (go_simp <;> with_reducible rfl)⟩) (by assumption) ?_)
                    | (refine wpAnyH_take (i := 17) rfl (by kernel_rfl) (by kernel_rfl) (by kernel_rfl) (fun _ _ _ h => h) (Or.inr ⟨by rfl, rfl⟩) (by assumption) ?_)
                  (try simp only [Act.put, List.setIfInBounds_toArray, List.set_cons_zero, List.set_cons_succ, List.getElem_toArray, List.getElem_cons_zero, List.getElem_cons_succ])
                  first
                    | (refine wpAnyH_take (i := 18) rfl (by kernel_rfl) (by kernel_rfl) (by kernel_rfl) (fun _ _ _ h => h) (Or.inl ⟨by rfl, by intro w hSw; have x_t0 := (HXD.out _ hSw).b_t0; have x_own0 := (HXD.out _ hSw).b_own0; have y_t1 := (HY2.out _ hSw).t1; have y_own1 := (HY2.out _ hSw).own1; (go_simp <;> with_reducible rfl)⟩) (by assumption) ?_)
                    | (refine wpAnyH_take (i := 18) rfl (by kernel_rfl) (by kernel_rfl) (by kernel_rfl) (fun _ _ _ h => h) (Or.inr ⟨by rfl, rfl⟩) (by assumption) ?_)
                  (try simp only [Act.put, List.setIfInBounds_toArray, List.set_cons_zero, List.set_cons_succ, List.getElem_toArray, List.getElem_cons_zero, List.getElem_cons_succ])
                  first
                    | (refine wpAnyH_take (i := 19) rfl (by kernel_rfl) (by kernel_rfl) (by kernel_rfl) (fun _ _ _ h => h) (Or.inl ⟨by rfl, by intro w hSw; have x_t0 := (HXD.out _ hSw).b_t0; have x_own0 := (HXD.out _ hSw).b_own0; have y_t1 := (HY2.out _ hSw).t1; have y_own1 := (HY2.out _ hSw).own1; (go_simp <;> with_reducible rfl)⟩) (by assumption) ?_)
                    | (refine wpAnyH_take (i := 19) rfl (by kernel_rfl) (by kernel_rfl) (by kernel_rfl) (fun _ _ _ h => h) (Or.inr ⟨by rfl, rfl⟩) (by assumption) ?_)
                  (try simp only [Act.put, List.setIfInBounds_toArray, List.set_cons_zero, List.set_cons_succ, List.getElem_toArray, List.getElem_cons_zero, List.getElem_cons_succ])
                  first
                    | (refine wpAnyH_take (i := 20) rfl (by kernel_rfl) (by kernel_rfl) (by kernel_rfl) (fun _ _ _ h => h) (Or.inl ⟨by rfl, by intro w hSw; have x_t0 := (HXD.out _ hSw).b_t0; have x_own0 := (HXD.out _ hSw).b_own0; have y_t1 := (HY2.out _ hSw).t1; have y_own1 := (HY2.out _ hSw).own1; (go_simp <;> with_reducible rfl)⟩) (by assumption) ?_)
                    | (refine wpAnyH_take (i := 20) rfl (by kernel_rfl) (by kernel_rfl) (by kernel_rfl) (fun _ _ _ h => h) (Or.inr ⟨by rfl, rfl⟩) (by assumption) ?_)
                  (try simp only [Act.put, List.setIfInBounds_toArray, List.set_cons_zero, List.set_cons_succ, List.getElem_toArray, List.getElem_cons_zero, List.getElem_cons_succ])
                  first
                    | (refine wpAnyH_take (i := 21) rfl (by kernel_rfl) (by kernel_rfl) (by kernel_rfl) (fun _ _ _ h => h) (Or.inl ⟨by rfl, by intro w hSw; have x_t0 := (HXD.out _ hSw).b_t0; have x_own0 := (HXD.out _ hSw).b_own0; have y_t1 := (HY2.out _ hSw).t1; have y_own1 := (HY2.out _ hSw).own1; (go_simp <;> with_reducible rfl)⟩) (by assumption) ?_)
                    | (refine wpAnyH_take (i := 21) rfl (by kernel_rfl) (by kernel_rfl) (by kernel_rfl) (fun _ _ _ h => h) (Or.inr ⟨by rfl, rfl⟩) (by assumption) ?_)
                  (try simp only [Act.put, List.setIfInBounds_toArray, List.set_cons_zero, List.set_cons_succ, List.getElem_toArray, List.getElem_cons_zero, List.getElem_cons_succ])
                  first
                    | (refine wpAnyH_take (i := 22) rfl (by kernel_rfl) (by kernel_rfl) (by kernel_rfl) (fun _ _ _ h => h) (Or.inl ⟨by rfl, by intro w hSw; have x_t0 := (HXD.out _ hSw).b_t0; have x_own0 := (HXD.out _ hSw).b_own0; have y_t1 := (HY2.out _ hSw).t1; have y_own1 := (HY2.out _ hSw).own1; (go_simp <;> with_reducible rfl)⟩) (by assumption) ?_)
                    | (refine wpAnyH_take (i := 22) rfl (by kernel_rfl) (by kernel_rfl) (by kernel_rfl) (fun _ _ _ h => h) (Or.inr ⟨by rfl, rfl⟩) (by assumption) ?_)
                  (try simp only [Act.put, List.setIfInBounds_toArray, List.set_cons_zero, List.set_cons_succ, List.getElem_toArray, List.getElem_cons_zero, List.getElem_cons_succ])
                  first
                    | (refine wpAnyH_take (i := 23) rfl (by kernel_rfl) (by kernel_rfl) (by kernel_rfl) (fun _ _ _ h => h) (Or.inl ⟨by rfl, by intro w hSw; have x_t0 := (HXD.out _ hSw).b_t0; have x_own0 := (HXD.out _ hSw).b_own0; have y_t1 := (HY2.out _ hSw).t1; have y_own1 := (HY2.out _ hSw).own1; (go_simp <;> with_reducible rfl)⟩) (by assumption) ?_)
                    | (refine wpAnyH_take (i := 23) rfl (by kernel_rfl) (by kernel_rfl) (by kernel_rfl) (fun _ _ _ h => h) (Or.inr ⟨by rfl, rfl⟩) (by assumption) ?_)
                  (try simp only [Act.put, List.setIfInBounds_toArray, List.set_cons_zero, List.set_cons_succ, List.getElem_toArray, List.getElem_cons_zero, List.getElem_cons_succ])
                  first
                    | (refine wpAnyH_take (i := 24) rfl (by kernel_rfl) (by kernel_rfl) (by kernel_rfl) (fun _ _ _ h => h) (Or.inl ⟨by rfl, by intro w hSw; have x_t0 := (HXD.out _ hSw).b_t0; have x_own0 := (HXD.out _ hSw).b_own0; have y_t1 := (HY2.out _ hSw).t1; have y_own1 := (HY2.out _ hSw).own1; (go_simp <;> with_reducible rfl)⟩) (by assumption) ?_)
                    | (refine wpAnyH_take (i := 24) rfl (by kernel_rfl) (by kernel_rfl) (by kernel_rfl) (fun _ _ _ h => h) (Or.inr ⟨by rfl, rfl⟩) (by assumption) ?_)
                  (try simp only [Act.put, List.setIfInBounds_toArray, List.set_cons_zero, List.set_cons_succ, List.getElem_toArray, List.getElem_cons_zero, List.getElem_cons_succ])
                  first
                    | (refine wpAnyH_take (i := 25) rfl (by kernel_rfl) (by kernel_rfl) (by kernel_rfl) (fun _ _ _ h => h) (Or.inl ⟨by rfl, by intro w hSw; have x_t0 := (HXD.out _ hSw).b_t0; have x_own0 := (HXD.out _ hSw).b_own0; have y_t1 := (HY2.out _ hSw).t1; have y_own1 := (HY2.out _ hSw).own1; (go_simp <;> with_reducible rfl)⟩) (by assumption) ?_)
                    | (refine wpAnyH_take (i := 25) rfl (by kernel_rfl) (by kernel_rfl) (by kernel_rfl) (fun _ _ _ h => h) (Or.inr ⟨by rfl, rfl⟩) (by assumption) ?_)
                  (try simp only [Act.put, List.setIfInBounds_toArray, List.set_cons_zero, List.set_cons_succ, List.getElem_toArray, List.getElem_cons_zero, List.getElem_cons_succ])
                  first
                    | (refine wpAnyH_take (i := 26) rfl (by kernel_rfl) (by kernel_rfl) (by kernel_rfl) (fun _ _ _ h => h) (Or.inl ⟨by rfl, by intro w hSw; have x_t0 := (HXD.out _ hSw).b_t0; have x_own0 := (HXD.out _ hSw).b_own0; have y_t1 := (HY2.out _ hSw).t1; have y_own1 := (HY2.out _ hSw).own1; (go_simp <;> with_reducible rfl)⟩) (by assumption) ?_)
                    | (refine wpAnyH_take (i := 26) rfl (by kernel_rfl) (by kernel_rfl) (by kernel_rfl) (fun _ _ _ h => h) (Or.inr ⟨by rfl, rfl⟩) (by assumption) ?_)
                  (try simp only [Act.put, List.setIfInBounds_toArray, List.set_cons_zero, List.set_cons_succ, List.getElem_toArray, List.getElem_cons_zero, List.getElem_cons_succ])
                  first
                    | (refine wpAnyH_take (i := 27) rfl (by kernel_rfl) (by kernel_rfl) (by kernel_rfl) (fun _ _ _ h => h) (Or.inl ⟨by rfl, by intro w hSw; have x_t0 := (HXD.out _ hSw).b_t0; have x_own0 := (HXD.out _ hSw).b_own0; have y_t1 := (HY2.out _ hSw).t1; have y_own1 := (HY2.out _ hSw).own1; (go_simp <;> with_reducible rfl)⟩) (by assumption) ?_)
                    | (refine wpAnyH_take (i := 27) rfl (by kernel_rfl) (by kernel_rfl) (by kernel_rfl) (fun _ _ _ h => h) (Or.inr ⟨by rfl, rfl⟩) (by assumption) ?_)
                  (try simp only [Act.put, List.setIfInBounds_toArray, List.set_cons_zero, List.set_cons_succ, List.getElem_toArray, List.getElem_cons_zero, List.getElem_cons_succ])
                  first
                    | (refine wpAnyH_take (i := 28) rfl (by kernel_rfl) (by kernel_rfl) (by kernel_rfl) (fun _ _ _ h => h) (Or.inl ⟨by rfl, by intro w hSw; have x_t0 := (HXD.out _ hSw).b_t0; have x_own0 := (HXD.out _ hSw).b_own0; have y_t1 := (HY2.out _ hSw).t1; have y_own1 := (HY2.out _ hSw).own1; (go_simp <;> with_reducible rfl)⟩) (by assumption) ?_)
                    | (refine wpAnyH_take (i := 28) rfl (by kernel_rfl) (by kernel_rfl) (by kernel_rfl) (fun _ _ _ h => h) (Or.inr ⟨by rfl, rfl⟩) (by assumption) ?_)
                  (try simp only [Act.put, List.setIfInBounds_toArray, List.set_cons_zero, List.set_cons_succ, List.getElem_toArray, List.getElem_cons_zero, List.getElem_cons_succ])
                  first
                    | (refine wpAnyH_take (i := 29) rfl (by kernel_rfl) (by kernel_rfl) (by kernel_rfl) (fun _ _ _ h => h) (Or.inl ⟨by rfl, by intro w hSw; have x_t0 := (HXD.out _ hSw).b_t0; have x_own0 := (HXD.out _ hSw).b_own0; have y_t1 := (HY2.out _ hSw).t1; have y_own1 := (HY2.out _ hSw).own1; (go_simp <;> with_reducible rfl)⟩) (by assumption) ?_)
                    | (refine wpAnyH_take (i := 29) rfl (by kernel_rfl) (by kernel_rfl) (by kernel_rfl) (fun _ _ _ h => h) (Or.inr ⟨by rfl, rfl⟩) (by assumption) ?_)
                  (try simp only [Act.put, List.setIfInBounds_toArray, List.set_cons_zero, List.set_cons_succ, List.getElem_toArray, List.getElem_cons_zero, List.getElem_cons_succ])
                  first
                    | (refine wpAnyH_take (i := 30) rfl (by kernel_rfl) (by kernel_rfl) (by kernel_rfl) (fun _ _ _ h => h) (Or.inl ⟨by rfl, by intro w hSw; have x_t0 := (HXD.out _ hSw).b_t0; have x_own0 := (HXD.out _ hSw).b_own0; have y_t1 := (HY2.out _ hSw).t1; have y_own1 := (HY2.out _ hSw).own1; (go_simp <;> with_reducible rfl)⟩) (by assumption) ?_)
                    | (refine wpAnyH_take (i := 30) rfl (by kernel_rfl) (by kernel_rfl) (by kernel_rfl) (fun _ _ _ h => h) (Or.inr ⟨by rfl, rfl⟩) (by assumption) ?_)
                  (try simp only [Act.put, List.setIfInBounds_toArray, List.set_cons_zero, List.set_cons_succ, List.getElem_toArray, List.getElem_cons_zero, List.getElem_cons_succ])
                  first
                    | (refine wpAnyH_take (i := 31) rfl (by kernel_rfl) (by kernel_rfl) (by kernel_rfl) (fun _ _ _ h => h) (Or.inl ⟨by rfl, by intro w hSw; have x_t0 := (HXD.out _ hSw).b_t0; have x_own0 := (HXD.out _ hSw).b_own0; have y_t1 := (HY2.out _ hSw).t1; have y_own1 := (HY2.out _ hSw).own1; (go_simp <;> with_reducible rfl)⟩) (by assumption) ?_)
                    | (refine wpAnyH_take (i := 31) rfl (by kernel_rfl) (by kernel_rfl) (by kernel_rfl) (fun _ _ _ h => h) (Or.inr ⟨by rfl, rfl⟩) (by assumption) ?_)
                  (try simp only [Act.put, List.setIfInBounds_toArray, List.set_cons_zero, List.set_cons_succ, List.getElem_toArray, List.getElem_cons_zero, List.getElem_cons_succ])
                  refine wpAnyH_done (by kernel_rfl) ?_ _
                  clear hHeld
                  go_wp2
                  go_ret
                  exact ⟨by rw [HBAD.out (by rw [HOK.out]; rw [HFO.out]; unfold afterB; rw [decide_eq_false (p := y2.t1 ≤ x.t0 ∧ y2.own1 = x.own0 - 1) (by omega)]; simp)]; rfl, HBX.out.trans (HZ.out.mono HBX.out.size)⟩
                · have m1d : decide (x.t0 < y2.t1) = false := decide_eq_false m1
                  by_cases m2 : x.own0 - y2.own1 = 1
                  · have m2a : ((x.own0 - y2.own1 : Int) == 1) = true := by simp [m2]
                    have m2b : ((x.own0 - y2.own1 : Int) != 1) = false := by simp [m2]
                    first
                      | (refine wpAnyH_take (i := 9) rfl (by kernel_rfl) (by kernel_rfl) (by kernel_rfl) (fun _ _ _ h => h) (Or.inl ⟨by rfl, by intro w hSw; have x_t0 := (HXD.out _ hSw).b_t0; have x_own0 := (HXD.out _ hSw).b_own0; have y_t1 := (HY2.out _ hSw).t1; have y_own1 := (HY2.out _ hSw).own1; (go_simp <;> with_reducible rfl)⟩) (by assumption) ?_)
                      | (refine wpAnyH_take (i := 9) rfl (by kernel_rfl) (by kernel_rfl) (by kernel_rfl) (fun _ _ _ h => h) (Or.inr ⟨by rfl, rfl⟩) (by assumption) ?_)
                    (try simp only [Act.put, List.setIfInBounds_toArray, List.set_cons_zero, List.set_cons_succ, List.getElem_toArray, List.getElem_cons_zero, List.getElem_cons_succ])
                    first
                      | (refine wpAnyH_take (i := 10) rfl (by kernel_rfl) (by kernel_rfl) (by kernel_rfl) (fun _ _ _ h => h) (Or.inl ⟨by rfl, by intro w hSw; have x_t0 := (HXD.out _ hSw).b_t0; have x_own0 := (HXD.out _ hSw).b_own0; have y_t1 := (HY2.out _ hSw).t1; have y_own1 := (HY2.out _ hSw).own1; (go_simp <;> with_reducible rfl)⟩) (by assumption) ?_)
                      | (refine wpAnyH_take (i := 10) rfl (by kernel_rfl) (by kernel_rfl) (by kernel_rfl) (fun _ _ _ h => h) (Or.inr ⟨by rfl, rfl⟩) (by assumption) ?_)
                    (try simp only [Act.put, List.setIfInBounds_toArray, List.set_cons_zero, List.set_cons_succ, List.getElem_toArray, List.getElem_cons_zero, List.getElem_cons_succ])
                    first
                      | (refine wpAnyH_take (i := 11) rfl (by kernel_rfl) (by kernel_rfl) (by kernel_rfl) (fun _ _ _ h => h) (Or.inl ⟨by rfl, by intro w hSw; have x_t0 := (HXD.out _ hSw).b_t0; have x_own0 := (HXD.out _ hSw).b_own0; have y_t1 := (HY2.out _ hSw).t1; have y_own1 := (HY2.out _ hSw).own1; (go_simp <;> with_reducible rfl)⟩) (by assumption) ?_)
                      | (refine wpAnyH_take (i := 11) rfl (by kernel_rfl) (by kernel_rfl) (by kernel_rfl) (fun _ _ _ h => h) (Or.inr ⟨by rfl, rfl⟩) (by assumption) ?_)
                    (try simp only [Act.put, List.setIfInBounds_toArray, List.set_cons_zero, List.set_cons_succ, List.getElem_toArray, List.getElem_cons_zero, List.getElem_cons_succ])
                    first
                      | (refine wpAnyH_take (i := 12) rfl (by kernel_rfl) (by kernel_rfl) (by kernel_rfl) (fun _ _ _ h => h) (Or.inl ⟨by rfl, by intro w hSw; have x_t0 := (HXD.out _ hSw).b_t0; have x_own0 := (HXD.out _ hSw).b_own0; have y_t1 := (HY2.out _ hSw).t1; have y_own1 := (HY2.out _ hSw).own1; (go_simp <;> with_reducible rfl)⟩) (by assumption) ?_)
                      | (refine wpAnyH_take (i := 12) rfl (by kernel_rfl) (by kernel_rfl) (by kernel_rfl) (fun _ _ _ h => h) (Or.inr ⟨by rfl, rfl⟩) (by assumption) ?_)
                    (try simp only [Act.put, List.setIfInBounds_toArray, List.set_cons_zero, List.set_cons_succ, List.getElem_toArray, List.getElem_cons_zero, List.getElem_cons_succ])
                    first
                      | (refine wpAnyH_take (i := 13) rfl (by kernel_rfl) (by kernel_rfl) (by kernel_rfl) (fun _ _ _ h => h) (Or.inl ⟨by rfl, by intro w hSw; have x_t0 := (HXD.out _ hSw).b_t0; have x_own0 := (HXD.out _ hSw).b_own0; have y_t1 := (HY2.out _ hSw).t1; have y_own1 := (HY2.out _ hSw).own1; (go_simp <;> with_reducible rfl)⟩) (by assumption) ?_)
                      | (refine wpAnyH_take (i := 13) rfl (by kernel_rfl) (by kernel_rfl) (by kernel_rfl) (fun _ _ _ h => h) (Or.inr ⟨by rfl, rfl⟩) (by assumption) ?_)
                    (try simp only [Act.put, List.setIfInBounds_toArray, List.set_cons_zero, List.set_cons_succ, List.getElem_toArray, List.getElem_cons_zero, List.getElem_cons_succ])
                    first
                      | (refine wpAnyH_take (i := 14) rfl (by kernel_rfl) (by kernel_rfl) (by kernel_rfl) (fun _ _ _ h => h) (Or.inl ⟨by rfl, by intro w hSw; have x_t0 := (HXD.out _ hSw).b_t0; have x_own0 := (HXD.out _ hSw).b_own0; have y_t1 := (HY2.out _ hSw).t1; have y_own1 := (HY2.out _ hSw).own1; (go_simp <;> with_reducible rfl)⟩) (by assumption) ?_)
                      | (refine wpAnyH_take (i := 14) rfl (by kernel_rfl) (by kernel_rfl) (by kernel_rfl) (fun _ _ _ h => h) (Or.inr ⟨by rfl, rfl⟩) (by assumption) ?_)
                    (try simp only [Act.put, List.setIfInBounds_toArray, List.set_cons_zero, List.set_cons_succ, List.getElem_toArray, List.getElem_cons_zero, List.getElem_cons_succ])
                    first
                      | (refine wpAnyH_take (i := 15) rfl (by kernel_rfl) (by kernel_rfl) (by kernel_rfl) (fun _ _ _ h => h) (Or.inl ⟨by rfl, by intro w hSw; have x_t0 := (HXD.out _ hSw).b_t0; have x_own0 := (HXD.out _ hSw).b_own0; have y_t1 := (HY2.out _ hSw).t1; have y_own1 := (HY2.out _ hSw).own1; (go_simp <;> with_reducible rfl)⟩) (by assumption) ?_)
                      | (refine wpAnyH_take (i := 15) rfl (by kernel_rfl) (by kernel_rfl) (by kernel_rfl) (fun _ _ _ h => h) (Or.inr ⟨by rfl, rfl⟩) (by assumption) ?_)
                    (try simp only [Act.put, List.setIfInBounds_toArray, List.set_cons_zero, List.set_cons_succ, List.getElem_toArray, List.getElem_cons_zero, List.getElem_cons_succ])
                    first
                      | (refine wpAnyH_take (i := 16) rfl (by kernel_rfl) (by kernel_rfl) (by kernel_rfl) (fun _ _ _ h => h) (Or.inl ⟨by rfl, by intro w hSw; have x_t0 := (HXD.out _ hSw).b_t0; have x_own0 := (HXD.out _ hSw).b_own0; have y_t1 := (HY2.out _ hSw).t1; have y_own1 := (HY2.out _ hSw).own1; (go_simp <;> with_reducible rfl)⟩) (by assumption) ?_)
                      | (refine wpAnyH_take (i := 16) rfl (by kernel_rfl) (by kernel_rfl) (by kernel_rfl) (fun _ _ _ h => h) (Or.inr ⟨by rfl, rfl⟩) (by assumption) ?_)
                    (try simp only [Act.put, List.setIfInBounds_toArray, List.set_cons_zero, List.set_cons_succ, List.getElem_toArray, List.getElem_cons_zero, List.getElem_cons_succ])
                    first
                      | (refine wpAnyH_take (i := 17) rfl (by kernel_rfl) (by kernel_rfl) (by kernel_rfl) (fun _ _ _ h => h) (Or.inl ⟨by rfl, by intro w hSw; have x_t0 := (HXD.out _ hSw).b_t0; have x_own0 := (HXD.out _ hSw).b_own0; have y_t1 := (HY2.out _ hSw).t1; have y_own1 := (HY2.out _ hSw).own1; (go_simp <;> with_reducible rfl)⟩) (by assumption) ?_)
                      | (refine wpAnyH_take (i := 17) rfl (by kernel_rfl) (by kernel_rfl) (by kernel_rfl) (fun _ _ _ h => h) (Or.inr ⟨by rfl, rfl⟩) (by assumption) ?_)
                    (try simp only [Act.put, List.setIfInBounds_toArray, List.set_cons_zero, List.set_cons_succ, List.getElem_toArray, List.getElem_cons_zero, List.getElem_cons_succ])
                    first
                      | (refine wpAnyH_take (i := 18) rfl (by kernel_rfl) (by kernel_rfl) (by kernel_rfl) (fun _ _ _ h => h) (Or.inl ⟨by rfl, by intro w hSw; have x_t0 := (HXD.out _ hSw).b_t0; have x_own0 := (HXD.out _ hSw).b_own0; have y_t1 := (HY2.out _ hSw).t1; have y_own1 := (HY2.out _ hSw).own1; (go_simp <;> with_reducible rfl)⟩) (by assumption) ?_)
                      | (refine wpAnyH_take (i := 18) rfl (by kernel_rfl) (by kernel_rfl) (by kernel_rfl) (fun _ _ _ h => h) (Or.inr ⟨by rfl, rfl⟩) (by assumption) ?_)
                    (try simp only [Act.put, List.setIfInBounds_toArray, List.set_cons_zero, List.set_cons_succ, List.getElem_toArray, List.getElem_cons_zero, List.getElem_cons_succ])
                    first
                      | (refine wpAnyH_take (i := 19) rfl (by kernel_rfl) (by kernel_rfl) (by kernel_rfl) (fun _ _ _ h => h) (Or.inl ⟨by rfl, by intro w hSw; have x_t0 := (HXD.out _ hSw).b_t0; have x_own0 := (HXD.out _ hSw).b_own0; have y_t1 := (HY2.out _ hSw).t1; have y_own1 := (HY2.out _ hSw).own1; (go_simp <;> with_reducible rfl)⟩) (by assumption) ?_)
                      | (refine wpAnyH_take (i := 19) rfl (by kernel_rfl) (by kernel_rfl) (by kernel_rfl) (fun _ _ _ h => h) (Or.inr ⟨by rfl, rfl⟩) (by assumption) ?_)
                    (try simp only [Act.put, List.setIfInBounds_toArray, List.set_cons_zero, List.set_cons_succ, List.getElem_toArray, List.getElem_cons_zero, List.getElem_cons_succ])
                    first
                      | (refine wpAnyH_take (i := 20) rfl (by kernel_rfl) (by kernel_rfl) (by kernel_rfl) (fun _ _ _ h => h) (Or.inl ⟨by rfl, by intro w hSw; have x_t0 := (HXD.out _ hSw).b_t0; have x_own0 := (HXD.out _ hSw).b_own0; have y_t1 := (HY2.out _ hSw).t1; have y_own1 := (HY2.out _ hSw).own1; (go_simp <;> with_reducible rfl)⟩) (by assumption) ?_)
                      | (refine wpAnyH_take (i := 20) rfl (by kernel_rfl) (by kernel_rfl) (by kernel_rfl) (fun _ _ _ h => h) (Or.inr ⟨by rfl, rfl⟩) (by assumption) ?_)
                    (try simp only [Act.put, List.setIfInBounds_toArray, List.set_cons_zero, List.set_cons_succ, List.getElem_toArray, List.getElem_cons_zero, List.getElem_cons_succ])
                    first
                      | (refine wpAnyH_take (i := 21) rfl (by kernel_rfl) (by kernel_rfl) (by kernel_rfl) (fun _ _ _ h => h) (Or.inl ⟨by rfl, by intro w hSw; have x_t0 := (HXD.out _ hSw).b_t0; have x_own0 := (HXD.out _ hSw).b_own0; have y_t1 := (HY2.out _ hSw).t1; have y_own1 := (HY2.out _ hSw).own1; (go_simp <;> with_reducible rfl)⟩) (by assumption) ?_)
                      | (refine wpAnyH_take (i := 21) rfl (by kernel_rfl) (by kernel_rfl) (by kernel_rfl) (fun _ _ _ h => h) (Or.inr ⟨by rfl, rfl⟩) (by assumption) ?_)
                    (try simp only [Act.put, List.setIfInBounds_toArray, List.set_cons_zero, List.set_cons_succ, List.getElem_toArray, List.getElem_cons_zero, List.getElem_cons_succ])
                    first
                      | (refine wpAnyH_take (i := 22) rfl (by kernel_rfl) (by kernel_rfl) (by kernel_rfl) (fun _ _ _ h => h) (Or.inl ⟨by rfl, by intro w hSw; have x_t0 := (HXD.out _ hSw).b_t0; have x_own0 := (HXD.out _ hSw).b_own0; have y_t1 := (HY2.out _ hSw).t1; have y_own1 := (HY2.out _ hSw).own1; (go_simp <;> with_reducible rfl)⟩) (by assumption) ?_)
                      | (refine wpAnyH_take (i := 22) rfl (by kernel_rfl) (by kernel_rfl) (by kernel_rfl) (fun _ _ _ h => h) (Or.inr ⟨by rfl, rfl⟩) (by assumption) ?_)
                    (try simp only [Act.put, List.setIfInBounds_toArray, List.set_cons_zero, List.set_cons_succ, List.getElem_toArray, List.getElem_cons_zero, List.getElem_cons_succ])
                    first
                      | (refine wpAnyH_take (i := 23) rfl (by kernel_rfl) (by kernel_rfl) (by kernel_rfl) (fun _ _ _ h => h) (Or.inl ⟨by rfl, by intro w hSw; have x_t0 := (HXD.out _ hSw).b_t0; have x_own0 := (HXD.out _ hSw).b_own0; have y_t1 := (HY2.out _ hSw).t1; have y_own1 := (HY2.out _ hSw).own1; (go_simp <;> with_reducible rfl)⟩) (by assumption) ?_)
                      | (refine wpAnyH_take (i := 23) rfl (by kernel_rfl) (by kernel_rfl) (by kernel_rfl) (fun _ _ _ h => h) (Or.inr ⟨by rfl, rfl⟩) (by assumption) ?_)
                    (try simp only [Act.put, List.setIfInBounds_toArray, List.set_cons_zero, List.set_cons_succ, List.getElem_toArray, List.getElem_cons_zero, List.getElem_cons_succ])
                    first
                      | (refine wpAnyH_take (i := 24) rfl (by kernel_rfl) (by kernel_rfl) (by kernel_rfl) (fun _ _ _ h => h) (Or.inl ⟨by rfl, by intro w hSw; have x_t0 := (HXD.out _ hSw).b_t0; have x_own0 := (HXD.out _ hSw).b_own0; have y_t1 := (HY2.out _ hSw).t1; have y_own1 := (HY2.out _ hSw).own1; (go_simp <;> with_reducible rfl)⟩) (by assumption) ?_)
                      | (refine wpAnyH_take (i := 24) rfl (by kernel_rfl) (by kernel_rfl) (by kernel_rfl) (fun _ _ _ h => h) (Or.inr ⟨by rfl, rfl⟩) (by assumption) ?_)
                    (try simp only [Act.put, List.setIfInBounds_toArray, List.set_cons_zero, List.set_cons_succ, List.getElem_toArray, List.getElem_cons_zero, List.getElem_cons_succ])
                    first
                      | (refine wpAnyH_take (i := 25) rfl (by kernel_rfl) (by kernel_rfl) (by kernel_rfl) (fun _ _ _ h => h) (Or.inl ⟨by rfl, by intro w hSw; have x_t0 := (HXD.out _ hSw).b_t0; have x_own0 := (HXD.out _ hSw).b_own0; have y_t1 := (HY2.out _ hSw).t1; have y_own1 := (HY2.out _ hSw).own1; (go_simp <;> with_reducible rfl)⟩) (by assumption) ?_)
                      | (refine wpAnyH_take (i := 25) rfl (by kernel_rfl) (by kernel_rfl) (by kernel_rfl) (fun _ _ _ h => h) (Or.inr ⟨by rfl, rfl⟩) (by assumption) ?_)
                    (try simp only [Act.put, List.setIfInBounds_toArray, List.set_cons_zero, List.set_cons_succ, List.getElem_toArray, List.getElem_cons_zero, List.getElem_cons_succ])
                    first
                      | (refine wpAnyH_take (i := 26) rfl (by kernel_rfl) (by kernel_rfl) (by kernel_rfl) (fun _ _ _ h => h) (Or.inl ⟨by rfl, by intro w hSw; have x_t0 := (HXD.out _ hSw).b_t0; have x_own0 := (HXD.out _ hSw).b_own0; have y_t1 := (HY2.out _ hSw).t1; have y_own1 := (HY2.out _ hSw).own1; (go_simp <;> with_reducible rfl)⟩) (by assumption) ?_)
                      | (refine wpAnyH_take (i := 26) rfl (by kernel_rfl) (by kernel_rfl) (by kernel_rfl) (fun _ _ _ h => h) (Or.inr ⟨by rfl, rfl⟩) (by assumption) ?_)
                    (try simp only [Act.put, List.setIfInBounds_toArray, List.set_cons_zero, List.set_cons_succ, List.getElem_toArray, List.getElem_cons_zero, List.getElem_cons_succ])
                    first
                      | (refine wpAnyH_take (i := 27) rfl (by kernel_rfl) (by kernel_rfl) (by kernel_rfl) (fun _ _ _ h => h) (Or.inl ⟨by rfl, by intro w hSw; have x_t0 := (HXD.out _ hSw).b_t0; have x_own0 := (HXD.out _ hSw).b_own0; have y_t1 := (HY2.out _ hSw).t1; have y_own1 := (HY2.out _ hSw).own1; (go_simp <;> with_reducible rfl)⟩) (by assumption) ?_)
                      | (refine wpAnyH_take (i := 27) rfl (by kernel_rfl) (by kernel_rfl) (by kernel_rfl) (fun _ _ _ h => h) (Or.inr ⟨by rfl, rfl⟩) (by assumption) ?_)
                    (try simp only [Act.put, List.setIfInBounds_toArray, List.set_cons_zero, List.set_cons_succ, List.getElem_toArray, List.getElem_cons_zero, List.getElem_cons_succ])
                    first
                      | (refine wpAnyH_take (i := 28) rfl (by kernel_rfl) (by kernel_rfl) (by kernel_rfl) (fun _ _ _ h => h) (Or.inl ⟨by rfl, by intro w hSw; have x_t0 := (HXD.out _ hSw).b_t0; have x_own0 := (HXD.out _ hSw).b_own0; have y_t1 := (HY2.out _ hSw).t1; have y_own1 := (HY2.out _ hSw).own1; (go_simp <;> with_reducible rfl)⟩) (by assumption) ?_)
                      | (refine wpAnyH_take (i := 28) rfl (by kernel_rfl) (by kernel_rfl) (by kernel_rfl) (fun _ _ _ h => h) (Or.inr ⟨by rfl, rfl⟩) (by assumption) ?_)
                    (try simp only [Act.put, List.setIfInBounds_toArray, List.set_cons_zero, List.set_cons_succ, List.getElem_toArray, List.getElem_cons_zero, List.getElem_cons_succ])
                    first
                      | (refine wpAnyH_take (i := 29) rfl (by kernel_rfl) (by kernel_rfl) (by kernel_rfl) (fun _ _ _ h => h) (Or.inl ⟨by rfl, by intro w hSw; have x_t0 := (HXD.out _ hSw).b_t0; have x_own0 := (HXD.out _ hSw).b_own0; have y_t1 := (HY2.out _ hSw).t1; have y_own1 := (HY2.out _ hSw).own1; (go_simp <;> with_reducible rfl)⟩) (by assumption) ?_)
                      | (refine wpAnyH_take (i := 29) rfl (by kernel_rfl) (by kernel_rfl) (by kernel_rfl) (fun _ _ _ h => h) (Or.inr ⟨by rfl, rfl⟩) (by assumption) ?_)
                    (try simp only [Act.put, List.setIfInBounds_toArray, List.set_cons_zero, List.set_cons_succ, List.getElem_toArray, List.getElem_cons_zero, List.getElem_cons_succ])
                    first
                      | (refine wpAnyH_take (i := 30) rfl (by kernel_rfl) (by kernel_rfl) (by kernel_rfl) (fun _ _ _ h => h) (Or.inl ⟨by rfl, by intro w hSw; have x_t0 := (HXD.out _ hSw).b_t0; have x_own0 := (HXD.out _ hSw).b_own0; have y_t1 := (HY2.out _ hSw).t1; have y_own1 := (HY2.out _ hSw).own1; (go_simp <;> with_reducible rfl)⟩) (by assumption) ?_)
                      | (refine wpAnyH_take (i := 30) rfl (by kernel_rfl) (by kernel_rfl) (by kernel_rfl) (fun _ _ _ h => h) (Or.inr ⟨by rfl, rfl⟩) (by assumption) ?_)
                    (try simp only [Act.put, List.setIfInBounds_toArray, List.set_cons_zero, List.set_cons_succ, List.getElem_toArray, List.getElem_cons_zero, List.getElem_cons_succ])
                    first
                      | (refine wpAnyH_take (i := 31) rfl (by kernel_rfl) (by kernel_rfl) (by kernel_rfl) (fun _ _ _ h => h) (Or.inl ⟨by rfl, by intro w hSw; have x_t0 := (HXD.out _ hSw).b_t0; have x_own0 := (HXD.out _ hSw).b_own0; have y_t1 := (HY2.out _ hSw).t1; have y_own1 := (HY2.out _ hSw).own1; (go_simp <;> with_reducible rfl)⟩) (by assumption) ?_)
                      | (refine wpAnyH_take (i := 31) rfl (by kernel_rfl) (by kernel_rfl) (by kernel_rfl) (fun _ _ _ h => h) (Or.inr ⟨by rfl, rfl⟩) (by assumption) ?_)
                    (try simp only [Act.put, List.setIfInBounds_toArray, List.set_cons_zero, List.set_cons_succ, List.getElem_toArray, List.getElem_cons_zero, List.getElem_cons_succ])
                    refine wpAnyH_done (by kernel_rfl) ?_ _
                    clear hHeld
                    have HFT := Lib.hid (show followsB l (j + 1) x = true by rw [HFO.out]; unfold afterB; rw [HQ2.out, decide_eq_true (p := y2.t1 ≤ x.t0 ∧ y2.own1 = x.own0 - 1) (by omega)]; rfl)
                    clear hsub m2 m2a m2b
                    have x_saw := (HXD.out _ HZ.out).b_saw
                    by_cases s01 : x.saw = -1
                    · have s01a : ((x.saw : Int) == -1) = true := by simp [s01]
                      have s01b : ((x.saw : Int) != -1) = false := by simp [s01]
                      have HOKU := Lib.hid (HUP.out.next (by rw [HOK.out, HRISE.out, HQ1.out, HFT.out, show sawB l x = true by unfold sawB; rw [decide_eq_true s01]; rfl]; rfl))
                      have HBE := Lib.hid (HBX.out.trans (HZ.out.mono HBX.out.size))
                      go_wp2
                      go_roundw
                      case rel => exact ⟨j + 1 + 1, by omega, by go_num, HOKU.out, HBE.out⟩
                      case measure => simp [intOf]; omega
                    · have s01a : ((x.saw : Int) == -1) = false := by simp [s01]
                      have s01b : ((x.saw : Int) != -1) = true := by simp [s01]
                      by_cases s1 : x.saw < 0
                      · have HSN := Lib.hid (show sawB l x = false by unfold sawB placeB; rw [decide_eq_false s01, decide_eq_false (p := 0 ≤ x.saw ∧ x.saw < (l.length : Int)) (by omega)]; rfl)
                        go_wp2
                        go_ret
                        exact ⟨by rw [HBAD.out (by rw [HOK.out]; rw [HSN.out]; simp)]; rfl, HBX.out.trans (HZ.out.mono HBX.out.size)⟩
                      · have s1d : decide (x.saw < 0) = false := decide_eq_false s1
                        by_cases s2 : (l.length : Int) ≤ x.saw
                        · have HSN := Lib.hid (show sawB l x = false by unfold sawB placeB; rw [decide_eq_false s01, decide_eq_false (p := 0 ≤ x.saw ∧ x.saw < (l.length : Int)) (by omega)]; rfl)
                          go_wp2
                          go_ret
                          exact ⟨by rw [HBAD.out (by rw [HOK.out]; rw [HSN.out]; simp)]; rfl, HBX.out.trans (HZ.out.mono HBX.out.size)⟩
                        · have s2d : decide ((l.length : Int) ≤ x.saw) = false := decide_eq_false s2
                          obtain ⟨k3, hk3⟩ := Int.eq_ofNat_of_zero_le (show 0 ≤ x.saw by omega)
                          have hk4 : k3 < l.length := by omega
                          obtain ⟨b3, o3, y3, hA3, -, hy3, -, hyc3⟩ := HR.out.at_ hk4
                          injection hA3 with hA3
                          injection hA3 with hA31 hA32
                          subst hA31 hA32
                          have HSAW := Lib.hid (sawB_at (v := x) hk3 hk4 hy3)
                          have HY3 := Lib.hid (hyc3 _ (HBX.out.trans (HZ.out.mono HBX.out.size))).1
                          obtain ⟨Xb1, Xb2, HXb1, HXb2, hthb, hxbb1, hxbb2, hxsb, hxvb⟩ := var17 w3 y3 #[.int .i64 0, .int .i64 0, .int .i64 0, .int .u64 0, .slice none 0 0, .int .i64 0, .slice none 0 0, .bool false, .int .i64 0, .bool false, .int .i64 0, .int .i64 0, .int .i64 0, .int .i64 0, .int .i64 0, .int .i64 0, .int .i64 0, .int .i64 0, .int .i64 0, .int .i64 0] rfl
                          have HXBb := Lib.hid hxbb2; have HXVb := Lib.hid hxvb; have HTHb := Lib.hid hthb
                          clear hxbb1 hxbb2 hxsb hxvb hthb
                          have HBE := Lib.hid ((HBX.out.trans (HZ.out.mono HBX.out.size)).trans (HXBb.out.mono (HBX.out.trans (HZ.out.mono HBX.out.size)).size))
                          have hxz := HXD.out _ (HZ.out.trans (HXBb.out.mono HZ.out.size))
                          have x_done := hxz.b_done
                          have x_to := hxz.b_to
                          rw [hk3] at x_saw
                          have y_op := HXVb.out.b_op
                          have y_mark := HXVb.out.b_mark
                          have hk5 : (k3 : Int) < (l.length : Int) := by omega
                          have hk6 : ((k3 : Int) == -1) = false := by simp <;> omega
                          have hk7 : ((k3 : Int) != -1) = true := by simp <;> omega
                          clear hxz hyc3 hy3 s01 s01a s01b s1 s1d s2 s2d hk3
                          by_cases p1 : y3.op = 3
                          · have p1a : ((y3.op : Int) == 3) = true := by simp [p1]
                            have p1b : ((y3.op : Int) != 3) = false := by simp [p1]
                            by_cases p2 : y3.mark < 0
                            · go_wp2_with (first | (rw [← HXb1.out]) | (with_reducible refine wpList_store_mid (by kernel_rfl) _ _ _ rfl w3.heap.size 0 (cCells y3).toArray (by kernel_rfl) (by kernel_rfl) HTHb.out (cCells_infoA y3) (cCells_one y3) ?_) | (rw [← HXb2.out]) | (with_reducible refine wpList_loadC (by with_unfolding_all rfl) _ rfl _ _ _ (by with_unfolding_all rfl) HY3.out ?_))
                              go_ret
                              exact ⟨by rw [HBAD.out (by rw [HOK.out, HSAW.out]; rw [show decide (y3.op = 3 ∧ 0 ≤ y3.mark) = false from decide_eq_false (by omega)]; simp)]; rfl, HBE.out⟩
                            · have p2d : decide (y3.mark < 0) = false := decide_eq_false p2
                              cases hd : x.done with
                              | true =>
                                have HD := Lib.hid hd
                                rw [hd] at x_done
                                clear hd
                                by_cases h1 : x.to < y3.mark
                                · go_wp2_with (first | (rw [← HXb1.out]) | (with_reducible refine wpList_store_mid (by kernel_rfl) _ _ _ rfl w3.heap.size 0 (cCells y3).toArray (by kernel_rfl) (by kernel_rfl) HTHb.out (cCells_infoA y3) (cCells_one y3) ?_) | (rw [← HXb2.out]) | (with_reducible refine wpList_loadC (by with_unfolding_all rfl) _ rfl _ _ _ (by with_unfolding_all rfl) HY3.out ?_))
                                  go_ret
                                  exact ⟨by rw [HBAD.out (by rw [HOK.out, HSAW.out]; unfold reachesB; rw [HD.out]; simp; omega)]; rfl, HBE.out⟩
                                · have h1d : decide (x.to < y3.mark) = false := decide_eq_false h1
                                  have HS3 := Lib.hid (show sawB l x = true by rw [HSAW.out]; unfold reachesB; rw [HD.out]; simp; omega)
                                  have HOKU := Lib.hid (HUP.out.next (by rw [HOK.out, HRISE.out, HQ1.out, HFT.out, HS3.out]; rfl))
                                  go_wp2_with (first | (rw [← HXb1.out]) | (with_reducible refine wpList_store_mid (by kernel_rfl) _ _ _ rfl w3.heap.size 0 (cCells y3).toArray (by kernel_rfl) (by kernel_rfl) HTHb.out (cCells_infoA y3) (cCells_one y3) ?_) | (rw [← HXb2.out]) | (with_reducible refine wpList_loadC (by with_unfolding_all rfl) _ rfl _ _ _ (by with_unfolding_all rfl) HY3.out ?_))
                                  go_roundw
                                  case rel => exact ⟨j + 1 + 1, by omega, by go_num, HOKU.out, HBE.out⟩
                                  case measure => simp [intOf]; omega
                              | false =>
                                have HD := Lib.hid hd
                                rw [hd] at x_done
                                clear hd
                                have HS3 := Lib.hid (show sawB l x = true by rw [HSAW.out]; unfold reachesB; rw [HD.out]; simp; omega)
                                have HOKU := Lib.hid (HUP.out.next (by rw [HOK.out, HRISE.out, HQ1.out, HFT.out, HS3.out]; rfl))
                                go_wp2_with (first | (rw [← HXb1.out]) | (with_reducible refine wpList_store_mid (by kernel_rfl) _ _ _ rfl w3.heap.size 0 (cCells y3).toArray (by kernel_rfl) (by kernel_rfl) HTHb.out (cCells_infoA y3) (cCells_one y3) ?_) | (rw [← HXb2.out]) | (with_reducible refine wpList_loadC (by with_unfolding_all rfl) _ rfl _ _ _ (by with_unfolding_all rfl) HY3.out ?_))
                                go_roundw
                                case rel => exact ⟨j + 1 + 1, by omega, by go_num, HOKU.out, HBE.out⟩
                                case measure => simp [intOf]; omega
                          · have p1a : ((y3.op : Int) == 3) = false := by simp [p1]
                            have p1b : ((y3.op : Int) != 3) = true := by simp [p1]
                            go_wp2_with (first | (rw [← HXb1.out]) | (with_reducible refine wpList_store_mid (by kernel_rfl) _ _ _ rfl w3.heap.size 0 (cCells y3).toArray (by kernel_rfl) (by kernel_rfl) HTHb.out (cCells_infoA y3) (cCells_one y3) ?_) | (rw [← HXb2.out]) | (with_reducible refine wpList_loadC (by with_unfolding_all rfl) _ rfl _ _ _ (by with_unfolding_all rfl) HY3.out ?_))
                            go_ret
                            exact ⟨by rw [HBAD.out (by rw [HOK.out, HSAW.out]; rw [show decide (y3.op = 3 ∧ 0 ≤ y3.mark) = false from decide_eq_false (by omega)]; simp)]; rfl, HBE.out⟩
                  · have m2a : ((x.own0 - y2.own1 : Int) == 1) = false := by simp [m2]
                    have m2b : ((x.own0 - y2.own1 : Int) != 1) = true := by simp [m2]
                    first
                      | (refine wpAnyH_take (i := 9) rfl (by kernel_rfl) (by kernel_rfl) (by kernel_rfl) (fun _ _ _ h => h) (Or.inl ⟨by rfl, by intro w hSw; have x_t0 := (HXD.out _ hSw).b_t0; have x_own0 := (HXD.out _ hSw).b_own0; have y_t1 := (HY2.out _ hSw).t1; have y_own1 := (HY2.out _ hSw).own1; (go_simp <;> with_reducible rfl)⟩) (by assumption) ?_)
                      | (refine wpAnyH_take (i := 9) rfl (by kernel_rfl) (by kernel_rfl) (by kernel_rfl) (fun _ _ _ h => h) (Or.inr ⟨by rfl, rfl⟩) (by assumption) ?_)
                    (try simp only [Act.put, List.setIfInBounds_toArray, List.set_cons_zero, List.set_cons_succ, List.getElem_toArray, List.getElem_cons_zero, List.getElem_cons_succ])
                    first
                      | (refine wpAnyH_take (i := 10) rfl (by kernel_rfl) (by kernel_rfl) (by kernel_rfl) (fun _ _ _ h => h) (Or.inl ⟨by rfl, by intro w hSw; have x_t0 := (HXD.out _ hSw).b_t0; have x_own0 := (HXD.out _ hSw).b_own0; have y_t1 := (HY2.out _ hSw).t1; have y_own1 := (HY2.out _ hSw).own1; (go_simp <;> with_reducible rfl)⟩) (by assumption) ?_)
                      | (refine wpAnyH_take (i := 10) rfl (by kernel_rfl) (by kernel_rfl) (by kernel_rfl) (fun _ _ _ h => h) (Or.inr ⟨by rfl, rfl⟩) (by assumption) ?_)
                    (try simp only [Act.put, List.setIfInBounds_toArray, List.set_cons_zero, List.set_cons_succ, List.getElem_toArray, List.getElem_cons_zero, List.getElem_cons_succ])
                    first
                      | (refine wpAnyH_take (i := 11) rfl (by kernel_rfl) (by kernel_rfl) (by kernel_rfl) (fun _ _ _ h => h) (Or.inl ⟨by rfl, by intro w hSw; have x_t0 := (HXD.out _ hSw).b_t0; have x_own0 := (HXD.out _ hSw).b_own0; have y_t1 := (HY2.out _ hSw).t1; have y_own1 := (HY2.out _ hSw).own1; (go_simp <;> with_reducible rfl)⟩) (by assumption) ?_)
                      | (refine wpAnyH_take (i := 11) rfl (by kernel_rfl) (by kernel_rfl) (by kernel_rfl) (fun _ _ _ h => h) (Or.inr ⟨by rfl, rfl⟩) (by assumption) ?_)
                    (try simp only [Act.put, List.setIfInBounds_toArray, List.set_cons_zero, List.set_cons_succ, List.getElem_toArray, List.getElem_cons_zero, List.getElem_cons_succ])
                    first
                      | (refine wpAnyH_take (i := 12) rfl (by kernel_rfl) (by kernel_rfl) (by kernel_rfl) (fun _ _ _ h => h) (Or.inl ⟨by rfl, by intro w hSw; have x_t0 := (HXD.out _ hSw).b_t0; have x_own0 := (HXD.out _ hSw).b_own0; have y_t1 := (HY2.out _ hSw).t1; have y_own1 := (HY2.out _ hSw).own1; (go_simp <;> with_reducible rfl)⟩) (by assumption) ?_)
                      | (refine wpAnyH_take (i := 12) rfl (by kernel_rfl) (by kernel_rfl) (by kernel_rfl) (fun _ _ _ h => h) (Or.inr ⟨by rfl, rfl⟩) (by assumption) ?_)
                    (try simp only [Act.put, List.setIfInBounds_toArray, List.set_cons_zero, List.set_cons_succ, List.getElem_toArray, List.getElem_cons_zero, List.getElem_cons_succ])
                    first
                      | (refine wpAnyH_take (i := 13) rfl (by kernel_rfl) (by kernel_rfl) (by kernel_rfl) (fun _ _ _ h => h) (Or.inl ⟨by rfl, by intro w hSw; have x_t0 := (HXD.out _ hSw).b_t0; have x_own0 := (HXD.out _ hSw).b_own0; have y_t1 := (HY2.out _ hSw).t1; have y_own1 := (HY2.out _ hSw).own1; (go_simp <;> with_reducible rfl)⟩) (by assumption) ?_)
                      | (refine wpAnyH_take (i := 13) rfl (by kernel_rfl) (by kernel_rfl) (by kernel_rfl) (fun _ _ _ h => h) (Or.inr ⟨by rfl, rfl⟩) (by assumption) ?_)
                    (try simp only [Act.put, List.setIfInBounds_toArray, List.set_cons_zero, List.set_cons_succ, List.getElem_toArray, List.getElem_cons_zero, List.getElem_cons_succ])
                    first
                      | (refine wpAnyH_take (i := 14) rfl (by kernel_rfl) (by kernel_rfl) (by kernel_rfl) (fun _ _ _ h => h) (Or.inl ⟨by rfl, by intro w hSw; have x_t0 := (HXD.out _ hSw).b_t0; have x_own0 := (HXD.out _ hSw).b_own0; have y_t1 := (HY2.out _ hSw).t1; have y_own1 := (HY2.out _ hSw).own1; (go_simp <;> with_reducible rfl)⟩) (by assumption) ?_)
                      | (refine wpAnyH_take (i := 14) rfl (by kernel_rfl) (by kernel_rfl) (by kernel_rfl) (fun _ _ _ h => h) (Or.inr ⟨by rfl, rfl⟩) (by assumption) ?_)
                    (try simp only [Act.put, List.setIfInBounds_toArray, List.set_cons_zero, List.set_cons_succ, List.getElem_toArray, List.getElem_cons_zero, List.getElem_cons_succ])
                    first
                      | (refine wpAnyH_take (i := 15) rfl (by kernel_rfl) (by kernel_rfl) (by kernel_rfl) (fun _ _ _ h => h) (Or.inl ⟨by rfl, by intro w hSw; have x_t0 := (HXD.out _ hSw).b_t0; have x_own0 := (HXD.out _ hSw).b_own0; have y_t1 := (HY2.out _ hSw).t1; have y_own1 := (HY2.out _ hSw).own1; (go_simp <;> with_reducible rfl)⟩) (by assumption) ?_)
                      | (refine wpAnyH_take (i := 15) rfl (by kernel_rfl) (by kernel_rfl) (by kernel_rfl) (fun _ _ _ h => h) (Or.inr ⟨by rfl, rfl⟩) (by assumption) ?_)
                    (try simp only [Act.put, List.setIfInBounds_toArray, List.set_cons_zero, List.set_cons_succ, List.getElem_toArray, List.getElem_cons_zero, List.getElem_cons_succ])
                    first
                      | (refine wpAnyH_take (i := 16) rfl (by kernel_rfl) (by kernel_rfl) (by kernel_rfl) (fun _ _ _ h => h) (Or.inl ⟨by rfl, by intro w hSw; have x_t0 := (HXD.out _ hSw).b_t0; have x_own0 := (HXD.out _ hSw).b_own0; have y_t1 := (HY2.out _ hSw).t1; have y_own1 := (HY2.out _ hSw).own1; (go_simp <;> with_reducible rfl)⟩) (by assumption) ?_)
                      | (refine wpAnyH_take (i := 16) rfl (by kernel_rfl) (by kernel_rfl) (by kernel_rfl) (fun _ _ _ h => h) (Or.inr ⟨by rfl, rfl⟩) (by assumption) ?_)
                    (try simp only [Act.put, List.setIfInBounds_toArray, List.set_cons_zero, List.set_cons_succ, List.getElem_toArray, List.getElem_cons_zero, List.getElem_cons_succ])
                    first
                      | (refine wpAnyH_take (i := 17) rfl (by kernel_rfl) (by kernel_rfl) (by kernel_rfl) (fun _ _ _ h => h) (Or.inl ⟨by rfl, by intro w hSw; have x_t0 := (HXD.out _ hSw).b_t0; have x_own0 := (HXD.out _ hSw).b_own0; have y_t1 := (HY2.out _ hSw).t1; have y_own1 := (HY2.out _ hSw).own1; (go_simp <;> with_reducible rfl)⟩) (by assumption) ?_)
                      | (refine wpAnyH_take (i := 17) rfl (by kernel_rfl) (by kernel_rfl) (by kernel_rfl) (fun _ _ _ h => h) (Or.inr ⟨by rfl, rfl⟩) (by assumption) ?_)
                    (try simp only [Act.put, List.setIfInBounds_toArray, List.set_cons_zero, List.set_cons_succ, List.getElem_toArray, List.getElem_cons_zero, List.getElem_cons_succ])
                    first
                      | (refine wpAnyH_take (i := 18) rfl (by kernel_rfl) (by kernel_rfl) (by kernel_rfl) (fun _ _ _ h => h) (Or.inl ⟨by rfl, by intro w hSw; have x_t0 := (HXD.out _ hSw).b_t0; have x_own0 := (HXD.out _ hSw).b_own0; have y_t1 := (HY2.out _ hSw).t1; have y_own1 := (HY2.out _ hSw).own1; (go_simp <;> with_reducible rfl)⟩) (by assumption) ?_)
                      | (refine wpAnyH_take (i := 18) rfl (by kernel_rfl) (by kernel_rfl) (by kernel_rfl) (fun _ _ _ h => h) (Or.inr ⟨by rfl, rfl⟩) (by assumption) ?_)
                    (try simp only [Act.put, List.setIfInBounds_toArray, List.set_cons_zero, List.set_cons_succ, List.getElem_toArray, List.getElem_cons_zero, List.getElem_cons_succ])
                    first
                      | (refine wpAnyH_take (i := 19) rfl (by kernel_rfl) (by kernel_rfl) (by kernel_rfl) (fun _ _ _ h => h) (Or.inl ⟨by rfl, by intro w hSw; have x_t0 := (HXD.out _ hSw).b_t0; have x_own0 := (HXD.out _ hSw).b_own0; have y_t1 := (HY2.out _ hSw).t1; have y_own1 := (HY2.out _ hSw).own1; (go_simp <;> with_reducible rfl)⟩) (by assumption) ?_)
                      | (refine wpAnyH_take (i := 19) rfl (by kernel_rfl) (by kernel_rfl) (by kernel_rfl) (fun _ _ _ h => h) (Or.inr ⟨by rfl, rfl⟩) (by assumption) ?_)
                    (try simp only [Act.put, List.setIfInBounds_toArray, List.set_cons_zero, List.set_cons_succ, List.getElem_toArray, List.getElem_cons_zero, List.getElem_cons_succ])
                    first
                      | (refine wpAnyH_take (i := 20) rfl (by kernel_rfl) (by kernel_rfl) (by kernel_rfl) (fun _ _ _ h => h) (Or.inl ⟨by rfl, by intro w hSw; have x_t0 := (HXD.out _ hSw).b_t0; have x_own0 := (HXD.out _ hSw).b_own0; have y_t1 := (HY2.out _ hSw).t1; have y_own1 := (HY2.out _ hSw).own1; (go_simp <;> with_reducible rfl)⟩) (by assumption) ?_)
                      | (refine wpAnyH_take (i := 20) rfl (by kernel_rfl) (by kernel_rfl) (by kernel_rfl) (fun _ _ _ h => h) (Or.inr ⟨by rfl, rfl⟩) (by assumption) ?_)
                    (try simp only [Act.put, List.setIfInBounds_toArray, List.set_cons_zero, List.set_cons_succ, List.getElem_toArray, List.getElem_cons_zero, List.getElem_cons_succ])
                    first
                      | (refine wpAnyH_take (i := 21) rfl (by kernel_rfl) (by kernel_rfl) (by kernel_rfl) (fun _ _ _ h => h) (Or.inl ⟨by rfl, by intro w hSw; have x_t0 := (HXD.out _ hSw).b_t0; have x_own0 := (HXD.out _ hSw).b_own0; have y_t1 := (HY2.out _ hSw).t1; have y_own1 := (HY2.out _ hSw).own1; (go_simp <;> with_reducible rfl)⟩) (by assumption) ?_)
                      | (refine wpAnyH_take (i := 21) rfl (by kernel_rfl) (by kernel_rfl) (by kernel_rfl) (fun _ _ _ h => h) (Or.inr ⟨by rfl, rfl⟩) (by assumption) ?_)
                    (try simp only [Act.put, List.setIfInBounds_toArray, List.set_cons_zero, List.set_cons_succ, List.getElem_toArray, List.getElem_cons_zero, List.getElem_cons_succ])
                    first
                      | (refine wpAnyH_take (i := 22) rfl (by kernel_rfl) (by kernel_rfl) (by kernel_rfl) (fun _ _ _ h => h) (Or.inl ⟨by rfl, by intro w hSw; have x_t0 := (HXD.out _ hSw).b_t0; have x_own0 := (HXD.out _ hSw).b_own0; have y_t1 := (HY2.out _ hSw).t1; have y_own1 := (HY2.out _ hSw).own1; (go_simp <;> with_reducible rfl)⟩) (by assumption) ?_)
                      | (refine wpAnyH_take (i := 22) rfl (by kernel_rfl) (by kernel_rfl) (by kernel_rfl) (fun _ _ _ h => h) (Or.inr ⟨by rfl, rfl⟩) (by assumption) ?_)
                    (try simp only [Act.put, List.setIfInBounds_toArray, List.set_cons_zero, List.set_cons_succ, List.getElem_toArray, List.getElem_cons_zero, List.getElem_cons_succ])
                    first
                      | (refine wpAnyH_take (i := 23) rfl (by kernel_rfl) (by kernel_rfl) (by kernel_rfl) (fun _ _ _ h => h) (Or.inl ⟨by rfl, by intro w hSw; have x_t0 := (HXD.out _ hSw).b_t0; have x_own0 := (HXD.out _ hSw).b_own0; have y_t1 := (HY2.out _ hSw).t1; have y_own1 := (HY2.out _ hSw).own1; (go_simp <;> with_reducible rfl)⟩) (by assumption) ?_)
                      | (refine wpAnyH_take (i := 23) rfl (by kernel_rfl) (by kernel_rfl) (by kernel_rfl) (fun _ _ _ h => h) (Or.inr ⟨by rfl, rfl⟩) (by assumption) ?_)
                    (try simp only [Act.put, List.setIfInBounds_toArray, List.set_cons_zero, List.set_cons_succ, List.getElem_toArray, List.getElem_cons_zero, List.getElem_cons_succ])
                    first
                      | (refine wpAnyH_take (i := 24) rfl (by kernel_rfl) (by kernel_rfl) (by kernel_rfl) (fun _ _ _ h => h) (Or.inl ⟨by rfl, by intro w hSw; have x_t0 := (HXD.out _ hSw).b_t0; have x_own0 := (HXD.out _ hSw).b_own0; have y_t1 := (HY2.out _ hSw).t1; have y_own1 := (HY2.out _ hSw).own1; (go_simp <;> with_reducible rfl)⟩) (by assumption) ?_)
                      | (refine wpAnyH_take (i := 24) rfl (by kernel_rfl) (by kernel_rfl) (by kernel_rfl) (fun _ _ _ h => h) (Or.inr ⟨by rfl, rfl⟩) (by assumption) ?_)
                    (try simp only [Act.put, List.setIfInBounds_toArray, List.set_cons_zero, List.set_cons_succ, List.getElem_toArray, List.getElem_cons_zero, List.getElem_cons_succ])
                    first
                      | (refine wpAnyH_take (i := 25) rfl (by kernel_rfl) (by kernel_rfl) (by kernel_rfl) (fun _ _ _ h => h) (Or.inl ⟨by rfl, by intro w hSw; have x_t0 := (HXD.out _ hSw).b_t0; have x_own0 := (HXD.out _ hSw).b_own0; have y_t1 := (HY2.out _ hSw).t1; have y_own1 := (HY2.out _ hSw).own1; (go_simp <;> with_reducible rfl)⟩) (by assumption) ?_)
                      | (refine wpAnyH_take (i := 25) rfl (by kernel_rfl) (by kernel_rfl) (by kernel_rfl) (fun _ _ _ h => h) (Or.inr ⟨by rfl, rfl⟩) (by assumption) ?_)
                    (try simp only [Act.put, List.setIfInBounds_toArray, List.set_cons_zero, List.set_cons_succ, List.getElem_toArray, List.getElem_cons_zero, List.getElem_cons_succ])
                    first
                      | (refine wpAnyH_take (i := 26) rfl (by kernel_rfl) (by kernel_rfl) (by kernel_rfl) (fun _ _ _ h => h) (Or.inl ⟨by rfl, by intro w hSw; have x_t0 := (HXD.out _ hSw).b_t0; have x_own0 := (HXD.out _ hSw).b_own0; have y_t1 := (HY2.out _ hSw).t1; have y_own1 := (HY2.out _ hSw).own1; (go_simp <;> with_reducible rfl)⟩) (by assumption) ?_)
                      | (refine wpAnyH_take (i := 26) rfl (by kernel_rfl) (by kernel_rfl) (by kernel_rfl) (fun _ _ _ h => h) (Or.inr ⟨by rfl, rfl⟩) (by assumption) ?_)
                    (try simp only [Act.put, List.setIfInBounds_toArray, List.set_cons_zero, List.set_cons_succ, List.getElem_toArray, List.getElem_cons_zero, List.getElem_cons_succ])
                    first
                      | (refine wpAnyH_take (i := 27) rfl (by kernel_rfl) (by kernel_rfl) (by kernel_rfl) (fun _ _ _ h => h) (Or.inl ⟨by rfl, by intro w hSw; have x_t0 := (HXD.out _ hSw).b_t0; have x_own0 := (HXD.out _ hSw).b_own0; have y_t1 := (HY2.out _ hSw).t1; have y_own1 := (HY2.out _ hSw).own1; (go_simp <;> with_reducible rfl)⟩) (by assumption) ?_)
                      | (refine wpAnyH_take (i := 27) rfl (by kernel_rfl) (by kernel_rfl) (by kernel_rfl) (fun _ _ _ h => h) (Or.inr ⟨by rfl, rfl⟩) (by assumption) ?_)
                    (try simp only [Act.put, List.setIfInBounds_toArray, List.set_cons_zero, List.set_cons_succ, List.getElem_toArray, List.getElem_cons_zero, List.getElem_cons_succ])
                    first
                      | (refine wpAnyH_take (i := 28) rfl (by kernel_rfl) (by kernel_rfl) (by kernel_rfl) (fun _ _ _ h => h) (Or.inl ⟨by rfl, by intro w hSw; have x_t0 := (HXD.out _ hSw).b_t0; have x_own0 := (HXD.out _ hSw).b_own0; have y_t1 := (HY2.out _ hSw).t1; have y_own1 := (HY2.out _ hSw).own1; (go_simp <;> with_reducible rfl)⟩) (by assumption) ?_)
                      | (refine wpAnyH_take (i := 28) rfl (by kernel_rfl) (by kernel_rfl) (by kernel_rfl) (fun _ _ _ h => h) (Or.inr ⟨by rfl, rfl⟩) (by assumption) ?_)
                    (try simp only [Act.put, List.setIfInBounds_toArray, List.set_cons_zero, List.set_cons_succ, List.getElem_toArray, List.getElem_cons_zero, List.getElem_cons_succ])
                    first
                      | (refine wpAnyH_take (i := 29) rfl (by kernel_rfl) (by kernel_rfl) (by kernel_rfl) (fun _ _ _ h => h) (Or.inl ⟨by rfl, by intro w hSw; have x_t0 := (HXD.out _ hSw).b_t0; have x_own0 := (HXD.out _ hSw).b_own0; have y_t1 := (HY2.out _ hSw).t1; have y_own1 := (HY2.out _ hSw).own1; (go_simp <;> with_reducible rfl)⟩) (by assumption) ?_)
                      | (refine wpAnyH_take (i := 29) rfl (by kernel_rfl) (by kernel_rfl) (by kernel_rfl) (fun _ _ _ h => h) (Or.inr ⟨by rfl, rfl⟩) (by assumption) ?_)
                    (try simp only [Act.put, List.setIfInBounds_toArray, List.set_cons_zero, List.set_cons_succ, List.getElem_toArray, List.getElem_cons_zero, List.getElem_cons_succ])
                    first
                      | (refine wpAnyH_take (i := 30) rfl (by kernel_rfl) (by kernel_rfl) (by kernel_rfl) (fun _ _ _ h => h) (Or.inl ⟨by rfl, by intro w hSw; have x_t0 := (HXD.out _ hSw).b_t0; have x_own0 := (HXD.out _ hSw).b_own0; have y_t1 := (HY2.out _ hSw).t1; have y_own1 := (HY2.out _ hSw).own1; (go_simp <;> with_reducible rfl)⟩) (by assumption) ?_)
                      | (refine wpAnyH_take (i := 30) rfl (by kernel_rfl) (by kernel_rfl) (by kernel_rfl) (fun _ _ _ h => h) (Or.inr ⟨by rfl, rfl⟩) (by assumption) ?_)
                    (try simp only [Act.put, List.setIfInBounds_toArray, List.set_cons_zero, List.set_cons_succ, List.getElem_toArray, List.getElem_cons_zero, List.getElem_cons_succ])
                    first
                      | (refine wpAnyH_take (i := 31) rfl (by kernel_rfl) (by kernel_rfl) (by kernel_rfl) (fun _ _ _ h => h) (Or.inl ⟨by rfl, by intro w hSw; have x_t0 := (HXD.out _ hSw).b_t0; have x_own0 := (HXD.out _ hSw).b_own0; have y_t1 := (HY2.out _ hSw).t1; have y_own1 := (HY2.out _ hSw).own1; (go_simp <;> with_reducible rfl)⟩) (by assumption) ?_)
                      | (refine wpAnyH_take (i := 31) rfl (by kernel_rfl) (by kernel_rfl) (by kernel_rfl) (fun _ _ _ h => h) (Or.inr ⟨by rfl, rfl⟩) (by assumption) ?_)
                    (try simp only [Act.put, List.setIfInBounds_toArray, List.set_cons_zero, List.set_cons_succ, List.getElem_toArray, List.getElem_cons_zero, List.getElem_cons_succ])
                    refine wpAnyH_done (by kernel_rfl) ?_ _
                    clear hHeld
                    go_wp2
                    go_ret
                    exact ⟨by rw [HBAD.out (by rw [HOK.out]; rw [HFO.out]; unfold afterB; rw [decide_eq_false (p := y2.t1 ≤ x.t0 ∧ y2.own1 = x.own0 - 1) (by omega)]; simp)]; rfl, HBX.out.trans (HZ.out.mono HBX.out.size)⟩
    · have HS := Lib.hid (sound_all (l := l) (by have h := HUP.out; rw [show i = l.length by omega] at h; exact h))
      have HBR := Lib.hid hbr
      clear hbr
      go_wp2
      go_ret
      exact ⟨by rw [HS.out]; rfl, HBR.out⟩
end Go.Proofs.Ytmonneeikkgllaa
