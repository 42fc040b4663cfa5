/- Sound calls, in plain data; the program's Sound, as a contract. No condition but those in the statements. -/
import Derived.Test.YtjhfkpimejaboaaHMp
import Derived.BigQuiet
import Derived.IntWalk
import Derived.BigRegion
import Derived.OpenShut
import Derived.Deep.MidRow
import Derived.Maps.OwnSet
import Derived.Maps.OwnOps
namespace Go.Proofs.Ytjhfkpimejaboaa
open Go.RowKit Go.Sort Go.ChangeShapes Go.WideShapes
set_option linter.unusedVariables false
set_option linter.unusedSimpArgs false


/-- Does From rise at place i? -/
def riseB (l : List CV) (i : Nat) (x : CV) : Bool := match i with | 0 => true | j + 1 => (match l[j]? with | some y => decide (y.frm < x.frm) | none => true)
def okB (l : List CV) (i : Nat) : Bool := match l[i]? with | some x => riseB l i x && oneB x && sawB l x && followsB l i x | none => true
/-- Are calls sound? -/
def soundB (l : List CV) : Bool := (List.range l.length).all (okB l)
def OkUp (l : List CV) (i : Nat) : Prop := ∀ j, j < i → okB l j = true
theorem okB_at {l : List CV} {i : Nat} {x : CV} (h : l[i]? = some x) : okB l i = (riseB l i x && oneB x && sawB l x && followsB l i x) := by unfold okB; simp only [h]
theorem sound_bad {l : List CV} {i : Nat} (hi : i < l.length) (h : okB l i = false) : soundB l = false := by
  unfold soundB
  rw [List.all_eq_false]
  exact ⟨i, List.mem_range.2 hi, by rw [h]; decide⟩
theorem sound_all {l : List CV} (h : OkUp l l.length) : soundB l = true := by
  unfold soundB
  rw [List.all_eq_true]
  exact fun i hi => h i (List.mem_range.1 hi)
theorem sound_up {l : List CV} (h : soundB l = true) : OkUp l l.length := by
  unfold soundB at h
  rw [List.all_eq_true] at h
  exact fun i hi => h i (List.mem_range.2 hi)
theorem OkUp.next {l : List CV} {i : Nat} (h : OkUp l i) (hi : okB l i = true) : OkUp l (i + 1) := fun j hj => by
  by_cases e : j = i
  · subst e; exact hi
  · exact h j (by omega)
theorem timed_q (v : CV) (q : Bool) (w : World) (h : decide (TimedP v) = q) : Calls Try.prog 18 #[.agg (cCells v).toArray] w fun e w' => e = .returned (.bool q) ∧ Below w.heap.size w w' := by subst h; exact timed_b v w
theorem marked_q (v : CV) (q : Bool) (w : World) (h : decide (MarkedP v) = q) : Calls Try.prog 19 #[.agg (cCells v).toArray] w fun e w' => e = .returned (.bool q) ∧ Below w.heap.size w w' := by subst h; exact marked_b v w
theorem saw_q (A : Option Addr) (l : List CV) (c : Nat) (v : CV) (q : Bool) (w : World) (hr : CRow w w.heap.size A l) (h : sawB l v = q) : Calls Try.prog 20 #[.slice A l.length c, .agg (cCells v).toArray] w fun e w' => e = .returned (.bool q) ∧ Below w.heap.size w w' := by subst h; exact saw_b A l c v w hr
theorem follows_q (l : List CV) (i mb : Nat) (v : CV) (q : Bool) (w : World) (hm : MapIs w mb l i) (hw : CWf v) (h1 : 1 ≤ v.own0) (hil : i ≤ l.length) (h : followsB l i v = q) : Calls Try.prog 21 #[.map (some mb), .agg (cCells v).toArray] w fun e w' => e = .returned (.bool q) ∧ Below w.heap.size w w' := by subst h; exact follows_b l i mb v w hm hw h1 hil

set_option maxRecDepth 100000 in
set_option maxHeartbeats 16000000 in
theorem sound_b (A : Option Addr) (l : List CV) (c : Nat) (w : World) (hr : CRow w w.heap.size A l) (hl : l.length ≤ 60) : Calls Try.prog 8 #[.slice A l.length c] w fun e w' => e = .returned (.bool (soundB l)) ∧ Below w.heap.size w w' := by
  have HR := Lib.hid hr
  obtain ⟨W, HW⟩ : ∃ u, Hid (u = w.alloc (.map #[] 0)) := ⟨_, rfl⟩
  have hM : MapIs W w.heap.size l 0 := by rw [HW.out]; exact MapIs.made w l
  have hB : Below w.heap.size w W := by rw [HW.out]; exact (Below.refl _ _).alloc (Nat.le_refl _) _
  have HM := Lib.hid hM; have HB := Lib.hid hB
  clear hM hB hr
  have hmm := @run_makeMap Try.prog
  go_enter Try.func8, Try.ntmps8
  go_wp2_with (rw [← HW.out])
  clear hmm
  go_loopw [9] (fun ix wr => ∃ i : Nat, i ≤ l.length ∧ ix = .int .i64 i ∧ OkUp l i ∧ MapIs wr w.heap.size l i ∧ Below w.heap.size w wr) (fun ix _ => l.length - (intOf ix).toNat)
  case atStart => exact ⟨0, Nat.zero_le _, rfl, (fun j hj => by omega), HM.out, HB.out⟩
  case round =>
    obtain ⟨i, hi, rfl, hup, hm, hbr⟩ := hrel
    have HUP := Lib.hid hup
    clear hup
    by_cases hlt : i < l.length
    · obtain ⟨b, o, x, rfl, hbl, hx, hxw, hxc⟩ := HR.out.at_ hlt
      have HXI := Lib.hid hx
      have HXW := Lib.hid hxw
      have HXR := Lib.hid (hxc _ hbr).1
      have HBAD := Lib.hid (sound_bad (l := l) hlt)
      have HOK := Lib.hid (okB_at hx)
      obtain ⟨q1, hq1⟩ : ∃ q, decide (TimedP x) = q := ⟨_, rfl⟩
      obtain ⟨q2, hq2⟩ : ∃ q, decide (MarkedP x) = q := ⟨_, rfl⟩
      obtain ⟨q3, hq3⟩ : ∃ q, sawB l x = q := ⟨_, rfl⟩
      obtain ⟨q4, hq4⟩ : ∃ q, followsB l i x = q := ⟨_, rfl⟩
      have HQ1 := Lib.hid hq1; have HQ2 := Lib.hid hq2; have HQ3 := Lib.hid hq3; have HQ4 := Lib.hid hq4
      obtain ⟨X1, X2, HX1, HX2, hth, hxb1, hxb2, hxs, hxv⟩ := var17 wr x #[.int .i64 0, .int .i64 0, .int .i64 0, .int .u64 0, .slice none 0 0, .int .i64 0, .slice none 0 0, .bool false, .int .i64 0, .bool false, .int .i64 0, .int .i64 0, .int .i64 0, .int .i64 0, .int .i64 0, .int .i64 0, .int .i64 0, .int .i64 0, .int .i64 0, .int .i64 0] rfl
      have HXB := Lib.hid hxb2; have HXV := Lib.hid hxv; have HTH := Lib.hid hth
      clear hxb1 hxb2 hxs hxv hth
      have HMX := Lib.hid (hm.later HXB.out hm.lt)
      have hbX := hbr.trans (HXB.out.mono hbr.size)
      have hi2 : (i : Int) < (l.length : Int) := by omega
      clear hq1 hq2 hq3 hq4 hx hxw hm HM
      by_cases hz : i = 0
      · have HB0 := Lib.hid (hbX.trans (Below.refl _ _).drew)
        have HM0 := Lib.hid (HMX.out.later (Below.refl _ _).drew HMX.out.lt)
        have HC0 := Lib.hid (HXV.out.later (Below.refl X2.heap.size X2).drew HXV.out.lt)
        have hi0 : decide (0 < i) = false := decide_eq_false (by omega)
        have HRISE := Lib.hid (show riseB l i x = true by rw [show i = 0 by omega]; rfl)
        clear hbX
        have hi1 : ¬ (0 < i) := by omega
        clear hxc hbr hbl hz
        go_wp2_with (first | (rw [← HX1.out]) | (with_reducible refine wpList_store_mid (by kernel_rfl) _ _ _ rfl wr.heap.size 0 (cCells x).toArray (by kernel_rfl) (by kernel_rfl) HTH.out (cCells_infoA x) (cCells_one x) ?_) | (rw [← HX2.out]) | (with_reducible refine wpList_loadC (by with_unfolding_all rfl) _ rfl _ _ _ (by with_unfolding_all rfl) HXR.out ?_))
        go_region
        go_wp2_with (first | (with_reducible refine wpList_loadC (by with_unfolding_all rfl) _ rfl _ _ _ (by with_unfolding_all rfl) HC0.out ?_))
        refine (timed_q x q1 _ HQ1.out).mono ?_
        rintro e w1 ⟨rfl, hb1⟩
        have HB1 := Lib.hid (HB0.out.trans (hb1.mono HB0.out.size))
        have HM1 := Lib.hid (HM0.out.later hb1 HM0.out.lt)
        have HC1 := Lib.hid (HC0.out.later hb1 HC0.out.lt)
        clear hb1
        cases q1 with
        | false =>
          go_wp2
          go_ret
          exact ⟨by rw [HBAD.out (by rw [HOK.out]; simp [oneB, HQ1.out])]; rfl, HB1.out⟩
        | true =>
          have HT1 := Lib.hid (show 1 ≤ x.own0 from (of_decide_eq_true HQ1.out).2.2.1)
          go_wp2_with (first | (with_reducible refine wpList_loadC (by with_unfolding_all rfl) _ rfl _ _ _ (by with_unfolding_all rfl) HC1.out ?_))
          refine (marked_q x q2 _ HQ2.out).mono ?_
          rintro e w2 ⟨rfl, hb2⟩
          have HB2 := Lib.hid (HB1.out.trans (hb2.mono HB1.out.size))
          have HM2 := Lib.hid (HM1.out.later hb2 HM1.out.lt)
          have HC2 := Lib.hid (HC1.out.later hb2 HC1.out.lt)
          clear hb2
          cases q2 with
          | false =>
            go_wp2
            go_ret
            exact ⟨by rw [HBAD.out (by rw [HOK.out]; simp [oneB, HQ2.out])]; rfl, HB2.out⟩
          | true =>
            go_wp2_with (first | (with_reducible refine wpList_loadC (by with_unfolding_all rfl) _ rfl _ _ _ (by with_unfolding_all rfl) HC2.out ?_))
            refine (saw_q _ l c x q3 _ ((HR.out.below HB2.out).more HB2.out.size) HQ3.out).mono ?_
            rintro e w3 ⟨rfl, hb3⟩
            have HB3 := Lib.hid (HB2.out.trans (hb3.mono HB2.out.size))
            have HM3 := Lib.hid (HM2.out.later hb3 HM2.out.lt)
            have HC3 := Lib.hid (HC2.out.later hb3 HC2.out.lt)
            clear hb3
            cases q3 with
            | false =>
              go_wp2
              go_ret
              exact ⟨by rw [HBAD.out (by rw [HOK.out]; simp [HQ3.out])]; rfl, HB3.out⟩
            | true =>
              go_wp2_with (first | (with_reducible refine wpList_loadC (by with_unfolding_all rfl) _ rfl _ _ _ (by with_unfolding_all rfl) HC3.out ?_))
              refine (follows_q l i w.heap.size x q4 _ HM3.out HXW.out HT1.out (by omega) HQ4.out).mono ?_
              rintro e w4 ⟨rfl, hb4⟩
              have HB4 := Lib.hid (HB3.out.trans (hb4.mono HB3.out.size))
              have HM4 := Lib.hid (HM3.out.later hb4 HM3.out.lt)
              have HC4 := Lib.hid (HC3.out.later hb4 HC3.out.lt)
              clear hb4
              cases q4 with
              | false =>
                go_wp2
                go_ret
                exact ⟨by rw [HBAD.out (by rw [HOK.out]; simp [HQ4.out])]; rfl, HB4.out⟩
              | true =>
                have HOKU := Lib.hid (HUP.out.next (by rw [HOK.out, HRISE.out, HQ3.out, HQ4.out]; simp [oneB, HQ1.out, HQ2.out]))
                obtain ⟨w5, hrun, hm5, ho5⟩ := HM4.out.put HXI.out HXW.out (by omega)
                have HM5 := Lib.hid hm5
                have HB5 := Lib.hid (HB4.out.trans (ho5.below HB4.out.size (fun k hk => by omega)))
                have x_part := HC4.out.b_part
                clear hm5 ho5
                go_wp2_with (first | (with_reducible refine wpList_loadC (by with_unfolding_all rfl) _ rfl _ _ _ (by with_unfolding_all rfl) HC4.out ?_))
                go_roundw
                case rel => exact ⟨i + 1, by omega, by go_num, HOKU.out, HM5.out, HB5.out⟩
                case measure => simp [intOf]; omega
      · obtain ⟨j, rfl⟩ : ∃ j, i = j + 1 := ⟨i - 1, by omega⟩
        obtain ⟨b', o', y, hA, -, hy, -, hyc⟩ := HR.out.at_ (i := j) (by omega)
        injection hA with hA
        injection hA with hA1 hA2
        subst hA1 hA2
        have hya := (hyc _ (hbX.trans (Below.refl _ _).drew)).1
        have y_frm := hya.frm
        have x_frm := (HXV.out.later (Below.refl X2.heap.size X2).drew HXV.out.lt).b_frm
        have hj2 : (j : Int) < (l.length : Int) := by omega
        have hj3 : IntKind.i64.wrap (((j + 1 : Nat) : Int) - 1) = (j : Int) := by rw [show ((j + 1 : Nat) : Int) - 1 = (j : Int) by omega]; exact IntWalk.i64_in (j : Int) (by omega)
        have hj4 : decide (0 < j + 1) = true := decide_eq_true (by omega)
        have HB0 := Lib.hid (hbX.trans (Below.refl _ _).drew)
        have HM0 := Lib.hid (HMX.out.later (Below.refl _ _).drew HMX.out.lt)
        have HC0 := Lib.hid (HXV.out.later (Below.refl X2.heap.size X2).drew HXV.out.lt)
        by_cases hrise : x.frm ≤ y.frm
        · have HRI := Lib.hid (show riseB l (j + 1) x = false by unfold riseB; simp only [hy]; exact decide_eq_false (by omega))
          clear hxc hyc hbr hbl hya hy hbX hz
          go_wp2_with (first | (rw [← HX1.out]) | (with_reducible refine wpList_store_mid (by kernel_rfl) _ _ _ rfl wr.heap.size 0 (cCells x).toArray (by kernel_rfl) (by kernel_rfl) HTH.out (cCells_infoA x) (cCells_one x) ?_) | (rw [← HX2.out]) | (with_reducible refine wpList_loadC (by with_unfolding_all rfl) _ rfl _ _ _ (by with_unfolding_all rfl) HXR.out ?_))
          go_region
          go_wp2
          go_ret
          exact ⟨by rw [HBAD.out (by rw [HOK.out, HRI.out]; rfl)]; rfl, HB0.out⟩
        · have HRISE := Lib.hid (show riseB l (j + 1) x = true by unfold riseB; simp only [hy]; exact decide_eq_true (by omega))
          have hrd : decide (x.frm ≤ y.frm) = false := decide_eq_false hrise
          clear hxc hyc hbr hbl hya hy hbX hz
          go_wp2_with (first | (rw [← HX1.out]) | (with_reducible refine wpList_store_mid (by kernel_rfl) _ _ _ rfl wr.heap.size 0 (cCells x).toArray (by kernel_rfl) (by kernel_rfl) HTH.out (cCells_infoA x) (cCells_one x) ?_) | (rw [← HX2.out]) | (with_reducible refine wpList_loadC (by with_unfolding_all rfl) _ rfl _ _ _ (by with_unfolding_all rfl) HXR.out ?_))
          go_region
          go_wp2_with (first | (with_reducible refine wpList_loadC (by with_unfolding_all rfl) _ rfl _ _ _ (by with_unfolding_all rfl) HC0.out ?_))
          refine (timed_q x q1 _ HQ1.out).mono ?_
          rintro e w1 ⟨rfl, hb1⟩
          have HB1 := Lib.hid (HB0.out.trans (hb1.mono HB0.out.size))
          have HM1 := Lib.hid (HM0.out.later hb1 HM0.out.lt)
          have HC1 := Lib.hid (HC0.out.later hb1 HC0.out.lt)
          clear hb1
          cases q1 with
          | false =>
            go_wp2
            go_ret
            exact ⟨by rw [HBAD.out (by rw [HOK.out]; simp [oneB, HQ1.out])]; rfl, HB1.out⟩
          | true =>
            have HT1 := Lib.hid (show 1 ≤ x.own0 from (of_decide_eq_true HQ1.out).2.2.1)
            go_wp2_with (first | (with_reducible refine wpList_loadC (by with_unfolding_all rfl) _ rfl _ _ _ (by with_unfolding_all rfl) HC1.out ?_))
            refine (marked_q x q2 _ HQ2.out).mono ?_
            rintro e w2 ⟨rfl, hb2⟩
            have HB2 := Lib.hid (HB1.out.trans (hb2.mono HB1.out.size))
            have HM2 := Lib.hid (HM1.out.later hb2 HM1.out.lt)
            have HC2 := Lib.hid (HC1.out.later hb2 HC1.out.lt)
            clear hb2
            cases q2 with
            | false =>
              go_wp2
              go_ret
              exact ⟨by rw [HBAD.out (by rw [HOK.out]; simp [oneB, HQ2.out])]; rfl, HB2.out⟩
            | true =>
              go_wp2_with (first | (with_reducible refine wpList_loadC (by with_unfolding_all rfl) _ rfl _ _ _ (by with_unfolding_all rfl) HC2.out ?_))
              refine (saw_q _ l c x q3 _ ((HR.out.below HB2.out).more HB2.out.size) HQ3.out).mono ?_
              rintro e w3 ⟨rfl, hb3⟩
              have HB3 := Lib.hid (HB2.out.trans (hb3.mono HB2.out.size))
              have HM3 := Lib.hid (HM2.out.later hb3 HM2.out.lt)
              have HC3 := Lib.hid (HC2.out.later hb3 HC2.out.lt)
              clear hb3
              cases q3 with
              | false =>
                go_wp2
                go_ret
                exact ⟨by rw [HBAD.out (by rw [HOK.out]; simp [HQ3.out])]; rfl, HB3.out⟩
              | true =>
                go_wp2_with (first | (with_reducible refine wpList_loadC (by with_unfolding_all rfl) _ rfl _ _ _ (by with_unfolding_all rfl) HC3.out ?_))
                refine (follows_q l (j + 1) w.heap.size x q4 _ HM3.out HXW.out HT1.out (by omega) HQ4.out).mono ?_
                rintro e w4 ⟨rfl, hb4⟩
                have HB4 := Lib.hid (HB3.out.trans (hb4.mono HB3.out.size))
                have HM4 := Lib.hid (HM3.out.later hb4 HM3.out.lt)
                have HC4 := Lib.hid (HC3.out.later hb4 HC3.out.lt)
                clear hb4
                cases q4 with
                | false =>
                  go_wp2
                  go_ret
                  exact ⟨by rw [HBAD.out (by rw [HOK.out]; simp [HQ4.out])]; rfl, HB4.out⟩
                | true =>
                  have HOKU := Lib.hid (HUP.out.next (by rw [HOK.out, HRISE.out, HQ3.out, HQ4.out]; simp [oneB, HQ1.out, HQ2.out]))
                  obtain ⟨w5, hrun, hm5, ho5⟩ := HM4.out.put HXI.out HXW.out (by omega)
                  have HM5 := Lib.hid hm5
                  have HB5 := Lib.hid (HB4.out.trans (ho5.below HB4.out.size (fun k hk => by omega)))
                  have x_part := HC4.out.b_part
                  clear hm5 ho5
                  go_wp2_with (first | (with_reducible refine wpList_loadC (by with_unfolding_all rfl) _ rfl _ _ _ (by with_unfolding_all rfl) HC4.out ?_))
                  go_roundw
                  case rel => exact ⟨j + 1 + 1, by omega, by go_num, HOKU.out, HM5.out, HB5.out⟩
                  case measure => simp [intOf]; omega
    · have HS := Lib.hid (sound_all (l := l) (by have h := HUP.out; rw [show i = l.length by omega] at h; exact h))
      have HBR := Lib.hid hbr
      clear hm hbr
      go_wp2
      go_ret
      exact ⟨by rw [HS.out]; rfl, HBR.out⟩
end Go.Proofs.Ytjhfkpimejaboaa
