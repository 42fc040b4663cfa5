/- BellActs. No condition but those in the statements. -/
import Derived.Test.YtjnlcoldhcedpaaLApart
import Derived.Test.YtjnlcoldhcedpaaDocC
import Derived.Test.YtjnlcoldhcedpaaKitA
namespace Go.Proofs.Ytjnlcoldhcedpaa
open Go.RowKit Go.Sort

/-- In a round: the set, the document's bells, the act's variable. -/
structure ActsAt (w0 w : World) (mb rb b9 : Nat) (r : Int) (A : Option Addr) (k c : Nat) (v : Value) (sb xb : List Bool) : Prop where
  set : SetAt w mb rb sb
  own : OwnsOff w (rb + 1) 4 1 v xb.length (bcells xb)
  act : w.heap[b9]? = some (.cells #[.int .i64 r, .slice A k c] 31 (0, 0))
  bel : Below w0.heap.size w0 w
  base : w0.heap.size ≤ rb
section
variable {w0 w w' : World} {mb rb b9 : Nat} {r : Int} {A : Option Addr} {k c : Nat} {v : Value} {sb xb sb' xb' : List Bool}
theorem ActsAt.later (h : ActsAt w0 w mb rb b9 r A k c v sb xb) (hb : Below w.heap.size w w') : ActsAt w0 w' mb rb b9 r A k c v sb xb :=
  ⟨h.set.below hb, h.own.keptB hb, (hb.block b9 (Array.getElem?_eq_some_iff.1 h.act).1).trans h.act, h.bel.trans (hb.mono h.bel.size), h.base⟩
theorem ActsAt.ne (h : ActsAt w0 w mb rb b9 r A k c v sb xb) : b9 ≠ rb := by
  rintro rfl
  have h1 := h.set.row
  unfold BoolsAt at h1
  rw [h.act] at h1
  injection h1 with h1; injection h1 with _ h1
  exact absurd h1 (by decide)
theorem ActsAt.turn (h : ActsAt w0 w mb rb b9 r A k c v sb xb) (ho : Only (fun k => k = rb) w w') (hS : SetAt w' mb rb sb') : ActsAt w0 w' mb rb b9 r A k c v sb' xb :=
  ⟨hS, h.own.kept ho (fun g hg e => by have := (h.own.lt g hg).1; omega), (ho.block b9 (Array.getElem?_eq_some_iff.1 h.act).1 h.ne).trans h.act, only_below h.bel h.bel.size ho h.base, h.base⟩
theorem ActsAt.doc (h : ActsAt w0 w mb rb b9 r A k c v sb xb) {u : Value} (hO : OwnsOff w' w.heap.size 4 1 u xb'.length (bcells xb')) (hb : Below w.heap.size w w') : ActsAt w0 w' mb rb b9 r A k c u sb xb' :=
  ⟨h.set.below hb, hO.mono (base' := rb + 1) h.set.lt.2, (hb.block b9 (Array.getElem?_eq_some_iff.1 h.act).1).trans h.act, h.bel.trans (hb.mono h.bel.size), h.base⟩
theorem ActsAt.c0 (h : ActsAt w0 w mb rb b9 r A k c v sb xb) : w.cell? ⟨b9, 0, none⟩ = some (.int .i64 r) := cell_block h.act rfl
theorem ActsAt.c1 (h : ActsAt w0 w mb rb b9 r A k c v sb xb) : w.cell? ⟨b9, 1, none⟩ = some (.slice A k c) := cell_block h.act rfl
end
set_option maxRecDepth 100000 in
set_option maxHeartbeats 12800000 in
theorem acts_in (n : Nat) (l : List ActV) (A : Option Addr) (c : Nat) (w : World) (hn : n ≤ 64) (hl : l.length ≤ 100) (hrow : ActRow w w.heap.size A l) :
    Calls Try.prog 3 #[.int .i64 (n : Int), .slice A l.length c] w fun e w' => e = .returned (.bool true) ∧ Below w.heap.size w w' := by
  obtain ⟨i0, hi, hz0, hz1, hz2⟩ := info_parts Try.infoB
  go_enter Try.func3, Try.ntmps3
  go_wp2_with fail
  refine (wakes_b _).mono ?_
  rintro e w0 ⟨rfl, hb0⟩
  go_wp2_with fail
  refine (new_in n n rfl _ hn).mono ?_
  rintro e w1 ⟨mb, rb, rfl, h1, h2, hS, hB⟩
  have hb1 := hb0.trans (hB.mono hb0.size)
  have Hr := Lib.hid (Nat.le_trans hb0.size h2)
  have hbx : Below w1.heap.size w1 (w1.alloc (.cells (madeCells #[Value.bool false] n) 4)) := (Below.refl _ _).alloc (Nat.le_refl _) _
  have hX := own_made w1 n (rb + 1) (by omega) hS.lt.2
  have hS := hS.below hbx
  have hb1 := hb1.trans (hbx.mono hb1.size)
  obtain ⟨w2, hw2⟩ : ∃ w2, Hid (w2 = w1.alloc (.cells (madeCells #[Value.bool false] n) 4)) := ⟨_, rfl⟩
  rw [← hw2.out] at hX hS hb1
  clear h1 h2 hB hb0 hbx
  go_wp2_with (first | (rw [← hw2.out]) | (refine wpList_make_row _ rfl _ _ 28 rfl 4 i0 (.bool false) Try.underlying28 hi hz0 hz1 rfl .i64 .i64 n rfl rfl (by rw [hz2]; omega) (by omega) ?_))
  go_loopw [7, 52] (fun x ix wr => ∃ j : Nat, j ≤ l.length ∧ ix = .int .i64 j ∧ (∃ bs, SetAt wr mb rb bs ∧ OwnsOff wr (rb + 1) 4 1 x bs.length (bcells bs) ∧ Hid (bs.length = n)) ∧ Below w.heap.size w wr) (fun _ ix _ => l.length - (intOf ix).toNat)
  case atStart => exact ⟨0, Nat.zero_le _, rfl, ⟨_, hS, hX, Lib.hid (by simp)⟩, hb1⟩
  case round =>
    clear hS hb1 hX hw2
    obtain ⟨j, hj, rfl, ⟨bs, hS, hX, hbn⟩, hb⟩ := hrel
    by_cases hlt : j < l.length
    · obtain ⟨b, o, rfl, hbo, ⟨r, t, A9, k9⟩, hv, hc9, hm9, hcs⟩ := hrow.at_ hlt
      obtain ⟨c0, c1, hrt⟩ := hcs wr hb
      simp only at hc9 hm9 c0 c1 hrt
      have hne9 : ∀ a, A9 = some a → 0 < t.length → a.block ≠ rb := fun a ha hp => by
        obtain ⟨b', o', e, hb', _⟩ := hrt hp
        rw [e] at ha
        cases ha
        have := Hr.out
        simp only
        omega
      have HT := Lib.hid (fun w' (hb' : Below w.heap.size w w') => (hcs w' hb').2.2)
      have hkl : t.length ≤ 9223372036854775807 := by unfold maxLen at hm9; omega
      clear hcs hv hrt hc9 hm9
      have hbx : Below wr.heap.size wr (wr.alloc (.cells #[.int .i64 r, .slice A9 t.length k9] 31)) := (Below.refl _ _).alloc (Nat.le_refl _) _
      have hQ : ActsAt w (wr.alloc (.cells #[.int .i64 r, .slice A9 t.length k9] 31)) mb rb wr.heap.size r A9 t.length k9 u7 bs bs :=
        ⟨hS.below hbx, hX.keptB hbx, heap_alloc_new wr _, hb.trans (hbx.mono hb.size), Hr.out⟩
      obtain ⟨wx, hwx⟩ : ∃ wx, Hid (wx = wr.alloc (.cells #[.int .i64 r, .slice A9 t.length k9] 31)) := ⟨_, rfl⟩
      obtain ⟨b9, hb9⟩ : ∃ b9, b9 = wr.heap.size := ⟨_, rfl⟩
      rw [← hwx.out, ← hb9] at hQ
      have x0 := hQ.c0
      have x1 := hQ.c1
      clear hS hX hb hbx
      by_cases hbig : 100 < t.length
      · go_wp2_with fail
        rw [← hwx.out]
        simp only [← hb9]
        have HF := Lib.hid hQ.bel
        clear hQ hwx hb9
        go_wp2
        go_ret
        exact ⟨by simp, HF.out⟩
      · have htl : t.length ≤ 100 := by omega
        clear hbig hkl
        go_wp2_with fail
        rw [← hwx.out]
        simp only [← hb9]
        clear c0 c1 hwx hb9
        go_wp2_with fail
        refine (ring_any mb rb bs r _ hQ.set).mono ?_
        rintro e w2 ⟨cc, rfl, hcc, hS2, hO2⟩
        have hQ2 := hQ.turn hO2 hS2
        have HCC := Lib.hid hcc
        clear hQ hS2 hO2 x0 x1 hcc
        have x0 := hQ2.c0
        have x1 := hQ2.c1
        have hl2 : (ringB bs r).length = bs.length := ringB_len bs r
        obtain ⟨b2, hb2⟩ : ∃ b2, ringB bs r = b2 := ⟨_, rfl⟩
        rw [hb2] at hQ2 hl2
        have hlb : b2.length ≤ 64 := by have := hbn.out; omega
        have hb2n : Hid (b2.length = n) := Lib.hid (by have := hbn.out; omega)
        have HB2 := Lib.hid hb2
        clear hb2 hl2
        by_cases hr0 : 0 ≤ r
        · by_cases hr1 : r < (n : Int)
          · obtain rfl : cc = 0 := by have h := HCC.out; have := hbn.out; omega
            go_wp2_with fail
            obtain ⟨A3, c3, rfl, _, _, hrow3⟩ := OwnsOff.boolRow hQ2.own
            refine (dring_b bs r A3 c3 _ (by have := hbn.out; omega) hrow3).mono ?_
            rintro e w3 ⟨v3, rfl, hX3, hb3⟩
            rw [HB2.out] at hX3
            have hQ3 := hQ2.doc hX3 hb3
            obtain ⟨A4, c4, rfl, _, _, hrow4⟩ := OwnsOff.boolRow hX3
            clear hQ2 hX3 hb3 hrow3 x0 x1
            have x0 := hQ3.c0
            have x1 := hQ3.c1
            go_wp2_with fail
            refine (dtake_b b2 t A4 A9 c4 k9 _ (by omega) hrow4 ((HT.out _ hQ3.bel).more hQ3.bel.size)).mono ?_
            intro e w4 hG
            obtain ⟨A5, c5, rfl, _, _, hrow5, hb4⟩ := hG.row
            have hQ4 := hQ3.later hb4
            have hrow4b := (hrow4.below hb4).more hb4.size
            clear hG hQ3 hb4 hrow4 x0 x1
            have x0 := hQ4.c0
            have x1 := hQ4.c1
            go_wp2_with fail
            refine (take_c mb rb b2 t A9 k9 _ hQ4.set (by omega) ((HT.out _ hQ4.bel).more hQ4.bel.size) hne9).mono ?_
            intro e w5 hG
            obtain ⟨A6, c6, rfl, _, _, hrow6, _, hS5, hO5⟩ := hG.row
            have hQ5 := hQ4.turn hO5 hS5
            have hrow5b := (own_other hrow5 hO5 hQ4.set).more hO5.size
            have htl2 := takeB_len b2 t
            obtain ⟨ts, hts⟩ : ∃ ts, takeB b2 t = ts := ⟨_, rfl⟩
            simp only [hts] at hrow5b hrow6 hQ5 htl2 ⊢
            obtain ⟨A7, c7, e7, _, _, hrow7⟩ := OwnsOff.boolRow hQ5.own
            injection e7 with e7 _ e8
            subst e7 e8
            clear hG hQ4 hS5 hO5 hrow5 hrow4b hts x0 x1
            go_wp2_with fail
            refine (same_yes _ ts A6 A5 c6 c5 _ rfl hrow6 hrow5b (by omega)).mono ?_
            rintro e w6 ⟨rfl, hb6⟩
            have hQ6 := hQ5.later hb6
            have hrow5c := hrow5b.later hb6
            have hrow7c := (hrow7.below hb6).more hb6.size
            clear hQ5 hb6 hrow6 hrow5b hrow7
            go_wp2_with fail
            refine (dwithout_b b2 ts A4 A5 c4 c5 _ (by omega) (by omega) hrow7c hrow5c).mono ?_
            rintro e w7 ⟨v7, rfl, hX7, hb7⟩
            have hQ7 := hQ6.doc hX7 hb7
            have hll := leftB_len b2 ts
            obtain ⟨lb, hlb7⟩ : ∃ lb, leftB b2 ts = lb := ⟨_, rfl⟩
            simp only [hlb7] at hX7 hQ7 hll
            have HLL := Lib.hid hll
            have hlb64 : lb.length ≤ 64 := by omega
            clear hll
            obtain ⟨A8, c8, rfl, _, _, hrow8⟩ := OwnsOff.boolRow hX7
            clear hQ6 hX7 hb7 hrow5c hrow7c hlb7
            go_wp2_with fail
            refine (toldAll_b mb rb lb 99 _ (by omega) (by omega) hQ7.set).mono ?_
            intro e w8 hG
            obtain ⟨B8, d8, rfl, _, _, hrow9, hb8⟩ := hG.row
            have hQ8 := hQ7.later hb8
            have hrow8b := (hrow8.below hb8).more hb8.size
            clear hG hQ7 hb8 hrow8
            go_wp2_with fail
            refine (dall_b lb A8 c8 _ (by omega) hrow8b).mono ?_
            intro e w9 hG
            obtain ⟨B9, d9, rfl, _, _, hrow10, hb9'⟩ := hG.row
            have hQ9 := hQ8.later hb9'
            have hrow9b := hrow9.later hb9'
            have hal : (allB lb).length ≤ 64 := Nat.le_trans (allB_len lb) hlb64
            clear hG hQ8 hb9' hrow8b hrow9
            go_wp2_with fail
            refine (same_yes _ (allB lb) B8 B9 d8 d9 _ rfl hrow9b hrow10 (by omega)).mono ?_
            rintro e w10 ⟨rfl, hb10⟩
            have hQ10 := hQ9.later hb10
            have hln : Hid (lb.length = n) := Lib.hid (by have := hb2n.out; have := HLL.out; omega)
            have HQ := Lib.hid hQ10
            clear hQ9 hb10 hrow9b hrow10 hQ10
            go_wp2
            go_roundw
            case rel => exact ⟨j + 1, by omega, by go_num, ⟨lb, HQ.out.set, HQ.out.own, hln⟩, HQ.out.bel⟩
            case measure => simp [intOf]; omega
          · obtain rfl : cc = 7 := by have h := HCC.out; have := hbn.out; omega
            go_wp2_with fail
            obtain ⟨A3, c3, rfl, _, _, hrow3⟩ := OwnsOff.boolRow hQ2.own
            refine (dring_b bs r A3 c3 _ (by have := hbn.out; omega) hrow3).mono ?_
            rintro e w3 ⟨v3, rfl, hX3, hb3⟩
            rw [HB2.out] at hX3
            have hQ3 := hQ2.doc hX3 hb3
            obtain ⟨A4, c4, rfl, _, _, hrow4⟩ := OwnsOff.boolRow hX3
            clear hQ2 hX3 hb3 hrow3 x0 x1
            have x0 := hQ3.c0
            have x1 := hQ3.c1
            go_wp2_with fail
            refine (dtake_b b2 t A4 A9 c4 k9 _ (by omega) hrow4 ((HT.out _ hQ3.bel).more hQ3.bel.size)).mono ?_
            intro e w4 hG
            obtain ⟨A5, c5, rfl, _, _, hrow5, hb4⟩ := hG.row
            have hQ4 := hQ3.later hb4
            have hrow4b := (hrow4.below hb4).more hb4.size
            clear hG hQ3 hb4 hrow4 x0 x1
            have x0 := hQ4.c0
            have x1 := hQ4.c1
            go_wp2_with fail
            refine (take_c mb rb b2 t A9 k9 _ hQ4.set (by omega) ((HT.out _ hQ4.bel).more hQ4.bel.size) hne9).mono ?_
            intro e w5 hG
            obtain ⟨A6, c6, rfl, _, _, hrow6, _, hS5, hO5⟩ := hG.row
            have hQ5 := hQ4.turn hO5 hS5
            have hrow5b := (own_other hrow5 hO5 hQ4.set).more hO5.size
            have htl2 := takeB_len b2 t
            obtain ⟨ts, hts⟩ : ∃ ts, takeB b2 t = ts := ⟨_, rfl⟩
            simp only [hts] at hrow5b hrow6 hQ5 htl2 ⊢
            obtain ⟨A7, c7, e7, _, _, hrow7⟩ := OwnsOff.boolRow hQ5.own
            injection e7 with e7 _ e8
            subst e7 e8
            clear hG hQ4 hS5 hO5 hrow5 hrow4b hts x0 x1
            go_wp2_with fail
            refine (same_yes _ ts A6 A5 c6 c5 _ rfl hrow6 hrow5b (by omega)).mono ?_
            rintro e w6 ⟨rfl, hb6⟩
            have hQ6 := hQ5.later hb6
            have hrow5c := hrow5b.later hb6
            have hrow7c := (hrow7.below hb6).more hb6.size
            clear hQ5 hb6 hrow6 hrow5b hrow7
            go_wp2_with fail
            refine (dwithout_b b2 ts A4 A5 c4 c5 _ (by omega) (by omega) hrow7c hrow5c).mono ?_
            rintro e w7 ⟨v7, rfl, hX7, hb7⟩
            have hQ7 := hQ6.doc hX7 hb7
            have hll := leftB_len b2 ts
            obtain ⟨lb, hlb7⟩ : ∃ lb, leftB b2 ts = lb := ⟨_, rfl⟩
            simp only [hlb7] at hX7 hQ7 hll
            have HLL := Lib.hid hll
            have hlb64 : lb.length ≤ 64 := by omega
            clear hll
            obtain ⟨A8, c8, rfl, _, _, hrow8⟩ := OwnsOff.boolRow hX7
            clear hQ6 hX7 hb7 hrow5c hrow7c hlb7
            go_wp2_with fail
            refine (toldAll_b mb rb lb 99 _ (by omega) (by omega) hQ7.set).mono ?_
            intro e w8 hG
            obtain ⟨B8, d8, rfl, _, _, hrow9, hb8⟩ := hG.row
            have hQ8 := hQ7.later hb8
            have hrow8b := (hrow8.below hb8).more hb8.size
            clear hG hQ7 hb8 hrow8
            go_wp2_with fail
            refine (dall_b lb A8 c8 _ (by omega) hrow8b).mono ?_
            intro e w9 hG
            obtain ⟨B9, d9, rfl, _, _, hrow10, hb9'⟩ := hG.row
            have hQ9 := hQ8.later hb9'
            have hrow9b := hrow9.later hb9'
            have hal : (allB lb).length ≤ 64 := Nat.le_trans (allB_len lb) hlb64
            clear hG hQ8 hb9' hrow8b hrow9
            go_wp2_with fail
            refine (same_yes _ (allB lb) B8 B9 d8 d9 _ rfl hrow9b hrow10 (by omega)).mono ?_
            rintro e w10 ⟨rfl, hb10⟩
            have hQ10 := hQ9.later hb10
            have hln : Hid (lb.length = n) := Lib.hid (by have := hb2n.out; have := HLL.out; omega)
            have HQ := Lib.hid hQ10
            clear hQ9 hb10 hrow9b hrow10 hQ10
            go_wp2
            go_roundw
            case rel => exact ⟨j + 1, by omega, by go_num, ⟨lb, HQ.out.set, HQ.out.own, hln⟩, HQ.out.bel⟩
            case measure => simp [intOf]; omega
        · obtain rfl : cc = 7 := by have h := HCC.out; have := hbn.out; omega
          go_wp2_with fail
          obtain ⟨A3, c3, rfl, _, _, hrow3⟩ := OwnsOff.boolRow hQ2.own
          refine (dring_b bs r A3 c3 _ (by have := hbn.out; omega) hrow3).mono ?_
          rintro e w3 ⟨v3, rfl, hX3, hb3⟩
          rw [HB2.out] at hX3
          have hQ3 := hQ2.doc hX3 hb3
          obtain ⟨A4, c4, rfl, _, _, hrow4⟩ := OwnsOff.boolRow hX3
          clear hQ2 hX3 hb3 hrow3 x0 x1
          have x0 := hQ3.c0
          have x1 := hQ3.c1
          go_wp2_with fail
          refine (dtake_b b2 t A4 A9 c4 k9 _ (by omega) hrow4 ((HT.out _ hQ3.bel).more hQ3.bel.size)).mono ?_
          intro e w4 hG
          obtain ⟨A5, c5, rfl, _, _, hrow5, hb4⟩ := hG.row
          have hQ4 := hQ3.later hb4
          have hrow4b := (hrow4.below hb4).more hb4.size
          clear hG hQ3 hb4 hrow4 x0 x1
          have x0 := hQ4.c0
          have x1 := hQ4.c1
          go_wp2_with fail
          refine (take_c mb rb b2 t A9 k9 _ hQ4.set (by omega) ((HT.out _ hQ4.bel).more hQ4.bel.size) hne9).mono ?_
          intro e w5 hG
          obtain ⟨A6, c6, rfl, _, _, hrow6, _, hS5, hO5⟩ := hG.row
          have hQ5 := hQ4.turn hO5 hS5
          have hrow5b := (own_other hrow5 hO5 hQ4.set).more hO5.size
          have htl2 := takeB_len b2 t
          obtain ⟨ts, hts⟩ : ∃ ts, takeB b2 t = ts := ⟨_, rfl⟩
          simp only [hts] at hrow5b hrow6 hQ5 htl2 ⊢
          obtain ⟨A7, c7, e7, _, _, hrow7⟩ := OwnsOff.boolRow hQ5.own
          injection e7 with e7 _ e8
          subst e7 e8
          clear hG hQ4 hS5 hO5 hrow5 hrow4b hts x0 x1
          go_wp2_with fail
          refine (same_yes _ ts A6 A5 c6 c5 _ rfl hrow6 hrow5b (by omega)).mono ?_
          rintro e w6 ⟨rfl, hb6⟩
          have hQ6 := hQ5.later hb6
          have hrow5c := hrow5b.later hb6
          have hrow7c := (hrow7.below hb6).more hb6.size
          clear hQ5 hb6 hrow6 hrow5b hrow7
          go_wp2_with fail
          refine (dwithout_b b2 ts A4 A5 c4 c5 _ (by omega) (by omega) hrow7c hrow5c).mono ?_
          rintro e w7 ⟨v7, rfl, hX7, hb7⟩
          have hQ7 := hQ6.doc hX7 hb7
          have hll := leftB_len b2 ts
          obtain ⟨lb, hlb7⟩ : ∃ lb, leftB b2 ts = lb := ⟨_, rfl⟩
          simp only [hlb7] at hX7 hQ7 hll
          have HLL := Lib.hid hll
          have hlb64 : lb.length ≤ 64 := by omega
          clear hll
          obtain ⟨A8, c8, rfl, _, _, hrow8⟩ := OwnsOff.boolRow hX7
          clear hQ6 hX7 hb7 hrow5c hrow7c hlb7
          go_wp2_with fail
          refine (toldAll_b mb rb lb 99 _ (by omega) (by omega) hQ7.set).mono ?_
          intro e w8 hG
          obtain ⟨B8, d8, rfl, _, _, hrow9, hb8⟩ := hG.row
          have hQ8 := hQ7.later hb8
          have hrow8b := (hrow8.below hb8).more hb8.size
          clear hG hQ7 hb8 hrow8
          go_wp2_with fail
          refine (dall_b lb A8 c8 _ (by omega) hrow8b).mono ?_
          intro e w9 hG
          obtain ⟨B9, d9, rfl, _, _, hrow10, hb9'⟩ := hG.row
          have hQ9 := hQ8.later hb9'
          have hrow9b := hrow9.later hb9'
          have hal : (allB lb).length ≤ 64 := Nat.le_trans (allB_len lb) hlb64
          clear hG hQ8 hb9' hrow8b hrow9
          go_wp2_with fail
          refine (same_yes _ (allB lb) B8 B9 d8 d9 _ rfl hrow9b hrow10 (by omega)).mono ?_
          rintro e w10 ⟨rfl, hb10⟩
          have hQ10 := hQ9.later hb10
          have hln : Hid (lb.length = n) := Lib.hid (by have := hb2n.out; have := HLL.out; omega)
          have HQ := Lib.hid hQ10
          clear hQ9 hb10 hrow9b hrow10 hQ10
          go_wp2
          go_roundw
          case rel => exact ⟨j + 1, by omega, by go_num, ⟨lb, HQ.out.set, HQ.out.own, hln⟩, HQ.out.bel⟩
          case measure => simp [intOf]; omega
    · have HF := Lib.hid hb
      clear hS hX hb
      go_wp2
      go_ret
      exact ⟨rfl, HF.out⟩

set_option maxRecDepth 100000 in
set_option maxHeartbeats 1600000 in
theorem acts_all (n : Int) (l : List ActV) (A : Option Addr) (c : Nat) (w : World) (hc : l.length ≤ c) (hm : c ≤ maxLen) (hrow : ActRow w w.heap.size A l) :
    Calls Try.prog 3 #[.int .i64 n, .slice A l.length c] w fun e w' => e = .returned (.bool true) ∧ Below w.heap.size w w' := by
  have hl : l.length ≤ 9223372036854775807 := by unfold maxLen at hm; omega
  clear hc hm
  by_cases h1 : n < 0
  · have h2 : ¬ 64 < n := by omega
    clear hrow
    go_enter Try.func3, Try.ntmps3
    go_wp2_with fail
    refine (wakes_b _).mono ?_
    rintro e w0 ⟨rfl, hb0⟩
    go_wp2_with fail
    refine (new_out n _ (.inl h1)).mono ?_
    rintro e w1 ⟨rfl, rfl⟩
    go_wp2
    go_ret
    exact ⟨by simp, hb0⟩
  by_cases h2 : 64 < n
  · clear hrow
    go_enter Try.func3, Try.ntmps3
    go_wp2_with fail
    refine (wakes_b _).mono ?_
    rintro e w0 ⟨rfl, hb0⟩
    go_wp2_with fail
    refine (new_out n _ (.inr h2)).mono ?_
    rintro e w1 ⟨rfl, rfl⟩
    go_wp2
    go_ret
    exact ⟨by simp, hb0⟩
  obtain ⟨k, rfl⟩ := Int.eq_ofNat_of_zero_le (a := n) (by omega)
  by_cases hbig : 100 < l.length
  · clear hrow
    go_enter Try.func3, Try.ntmps3
    go_wp2_with fail
    refine (wakes_b _).mono ?_
    rintro e w0 ⟨rfl, hb0⟩
    go_wp2_with fail
    refine (new_in k k rfl _ (by omega)).mono ?_
    rintro e w1 ⟨mb, rb, rfl, h3, h4, hS, hB⟩
    have HB := Lib.hid (hb0.trans (hB.mono hb0.size))
    clear hS hB hb0
    go_wp2
    go_ret
    exact ⟨by simp, HB.out⟩
  · exact acts_in k l A c w (by omega) (by omega) hrow
end Go.Proofs.Ytjnlcoldhcedpaa
