/- FifoStops. No condition but those in the statements. -/
import Derived.Test.YtdoepdoeafpgkaaLRoom
import Derived.Deep.RegionHeld3
namespace Go.Proofs.Ytdoepdoeafpgkaa
open Go.RowKit Go.Sort

/-- What is in the row behind k rounds. -/
def stopsAt (l : List Int) (k : Nat) : List Int := (l.take k).drop (k / 3)
theorem stopsAt_len (l : List Int) (k : Nat) (h : k ≤ l.length) : (stopsAt l k).length = k - k / 3 := by unfold stopsAt; simp; omega
theorem stopsAt_put (l : List Int) (k : Nat) (h : k < l.length) (h3 : k % 3 ≠ 2) : stopsAt l k ++ [l.getD k 0] = stopsAt l (k + 1) := by
  unfold stopsAt
  rw [take_next l k h, List.drop_append_of_le_length (by simp; omega), show (k + 1) / 3 = k / 3 by omega]
theorem stopsAt_take (l : List Int) (k : Nat) (h : k < l.length) (h3 : k % 3 = 2) : ∃ y, stopsAt l k ++ [l.getD k 0] = y :: stopsAt l (k + 1) := by
  have hlt : k / 3 < (l.take (k + 1)).length := by simp; omega
  have e1 : stopsAt l k ++ [l.getD k 0] = (l.take (k + 1)).drop (k / 3) := by
    unfold stopsAt
    rw [take_next l k h, List.drop_append_of_le_length (by simp; omega)]
  refine ⟨(l.take (k + 1))[k / 3], ?_⟩
  rw [e1, List.drop_eq_getElem_cons hlt]
  unfold stopsAt
  rw [show (k + 1) / 3 = k / 3 + 1 by omega]

theorem GivesOff.row {T : TypeId} {w w' : World} {xs : List Int} {e : Ending} (h : GivesOff T w xs e w') :
    ∃ A c, e = .returned (.slice A xs.length c) ∧ xs.length ≤ c ∧ c ≤ maxLen ∧ IntRow w' w'.heap.size A xs ∧ Below w.heap.size w w' := by
  obtain ⟨v, rfl, h1, h2⟩ := h
  obtain ⟨A, c, rfl, a, b, d⟩ := OwnsOff.intRow h1
  exact ⟨A, c, rfl, a, b, d, h2⟩

theorem same_yes (n : Nat) (xs : List Int) (A A' : Option Addr) (c c' : Nat) (w : World) (hn : n = xs.length) (hx : IntRow w w.heap.size A xs) (hy : IntRow w w.heap.size A' xs) (hl : n ≤ 1000000) :
    Calls Try.prog 14 #[.slice A n c, .slice A' n c'] w fun e w' => e = .returned (.bool true) ∧ Below w.heap.size w w' := by
  subst hn
  exact (same_b xs xs A A' c c' w hx hy (by omega)).mono fun e w' ⟨h1, h2⟩ => ⟨by rw [h1]; simp, h2⟩

set_option maxRecDepth 100000 in
set_option maxHeartbeats 3200000 in
theorem stops_walk (l : List Int) (A : Option Addr) (c : Nat) (stop : Nat) (w : World) (hs : stop ≤ 255) (hl : l.length ≤ 9223372036854775807) (hc : l.length ≤ c) (hm : c ≤ maxLen) (hrow : IntRowK .i64 w w.heap.size A l) (hnil : A = none → l = []) :
    Calls Try.prog 4 #[.slice A l.length c, .int .u8 (stop : Int)] w fun e w' => e = .returned (.bool true) ∧ Below w.heap.size w w' := by
  by_cases hbig : 300 < l.length
  · go_enter Try.func4, Try.ntmps4
    go_wp2_with fail
    refine (wakes_b _).mono ?_
    rintro e w0 ⟨rfl, hb0⟩
    go_wp2
    go_ret
    exact ⟨rfl, hb0⟩
  have hl2 : l.length ≤ 300 := by omega
  obtain ⟨i0, hi, hz0, hz1, hz2⟩ := info_parts Try.infoI
  clear hbig hl
  have HFR := Lib.hid (fun w1 (h : IntRowK .i64 w1 w.heap.size A l) => from_row (P := Try.prog) (K := .i64) Try.underlying22 hi hz1 (l.length / 3) (by omega) hc hm h hnil)
  have HNIL := Lib.hid hnil
  clear hnil
  go_enter Try.func4, Try.ntmps4
  go_wp2_with fail
  refine (wakes_b _).mono ?_
  rintro e w0 ⟨rfl, hb0⟩
  go_wp2_with fail
  refine (new_in 300 _ (by omega) (by omega)).mono ?_
  rintro e w1 ⟨rb, rfl, hR, hB⟩
  have hb1 := hb0.trans (hB.mono hb0.size)
  have hbase : w.heap.size ≤ w0.heap.size := hb0.size
  clear hB hb0
  go_wp2_with fail
  go_loopw [28] (fun i wr => ∃ k : Nat, k ≤ l.length ∧ i = .int .i64 k ∧ (∃ v, IRow wr w0.heap.size rb 300 v (stopsAt l k)) ∧ Below w.heap.size w wr) (fun i _ => l.length - (intOf i).toNat)
  case atStart => exact ⟨0, Nat.zero_le _, rfl, ⟨_, hR⟩, hb1⟩
  case round =>
    clear hR hb1
    obtain ⟨k, hk, rfl, ⟨v, hR⟩, hb⟩ := hrel
    have hsl := stopsAt_len l k hk
    by_cases hlt : k < l.length
    · obtain ⟨b, o, rfl, hbo, hcs⟩ := hrow.at_ hlt
      have c0 := hcs wr hb
      have hput := stopsAt_put l k hlt
      have htake := stopsAt_take l k hlt
      obtain ⟨x, hx⟩ : ∃ x, l.getD k 0 = x := ⟨_, rfl⟩
      rw [hx] at c0
      simp only [hx] at hput htake
      obtain ⟨xs, hxs⟩ : ∃ xs, xs = stopsAt l k := ⟨_, rfl⟩
      rw [← hxs] at hR hsl
      simp only [← hxs] at hput htake
      have HP := Lib.hid hput; have HT := Lib.hid htake
      have hxl : xs.length < 300 := by omega
      clear hx hcs hput htake hxs hsl
      go_wp2_with fail
      refine (put_in _ rb _ v xs x _ hR (by omega) (by omega)).mono ?_
      rintro e w2 ⟨v2, rfl, hR2, hM2⟩
      have hb2 := grow_below hb hR hM2 hbase
      clear hR hM2 hb c0
      by_cases h3 : k % 3 = 2
      · obtain ⟨y, hy⟩ := HT.out h3
        rw [hy] at hR2
        have h3' : ((k : Int) % 3 == 2) = true := by simp; omega
        have H3 := Lib.hid h3
        clear hy h3
        go_wp2_with fail
        refine (take_in _ rb _ v2 y _ _ hR2 (by rw [stopsAt_len l (k + 1) (by omega)]; omega)).mono ?_
        rintro e w3 ⟨v3, rfl, hR3, hM3⟩
        have hb3 := grow_below hb2 hR2 hM3 hbase
        clear hR2 hM3 hb2
        go_wp2
        go_roundw
        case rel => exact ⟨k + 1, by omega, by go_num, ⟨_, hR3⟩, hb3⟩
        case measure => simp [intOf]; omega
      · rw [HP.out h3] at hR2
        have h3' : ((k : Int) % 3 == 2) = false := by simp; omega
        clear h3
        go_wp2
        go_roundw
        case rel => exact ⟨k + 1, by omega, by go_num, ⟨_, hR2⟩, hb2⟩
        case measure => simp [intOf]; omega
    · have hk2 : k = l.length := by omega
      have hend : stopsAt l k = l.drop (l.length / 3) := by unfold stopsAt; rw [hk2, List.take_length]
      rw [hend] at hR
      obtain ⟨A', c', hrun, hc1, hc2, hrow', hnil'⟩ := HFR.out wr (hrow.below hb)
      obtain ⟨xs, hxs⟩ : ∃ xs, xs = l.drop (l.length / 3) := ⟨_, rfl⟩
      have hxl : xs.length ≤ 300 := by rw [hxs]; simp; omega
      rw [← hxs] at hR hrow' hc1
      have e3 : ((l.length / 3 : Nat) : Int) = (l.length : Int) / 3 := by omega
      simp only [← hxs, e3] at hrun hnil'
      clear hend hxs hk2 hsl hnil' e3
      have h0 : (0 : Int) ≤ (stop : Int) := by omega
      by_cases hst : stop ≤ xs.length
      · have hst1 : (stop : Int) ≤ (xs.length : Int) := by omega
        have hst2 : ¬ (xs.length : Int) < (stop : Int) := by omega
        have hup := fun w' => upto_row (P := Try.prog) Try.underlying22 hi A' xs.length c' (stop) (by omega) w'
        have hir : IntRow wr wr.heap.size A' (xs.take (stop)) := (hrow'.take (stop)).more hb.size
        have htk : (stop) = (xs.take (stop)).length := by first | (simp; done) | (simp; omega)
        have q1 : ((xs.length : Int) == (xs.length : Int)) = true := by simp
        have hbr := Below.refl wr.heap.size wr
        have HUP := Lib.hid hup; have HTK := Lib.hid htk; have HB := Lib.hid hb
        clear hrow hrow' hup htk hi hz0 hz1 hz2 hb
        go_wp2
        clear hrun
        have hup2 := HUP.out
        go_region_held3 (fun W' => Below wr.heap.size wr W') ((first | exact (Below.refl _ _).drew | assumption | exact Below.trans (by assumption) (hbel.mono (Below.size (by assumption)))))
          (first | (go_at_call 15; refine (told_b _ rb _ v xs (stop) _ (by omega) (by omega) (hR.keptB (by assumption))).mono ?_; intro e w2 hg; obtain ⟨A2, c2, rfl, _, _, hrow2, hbel⟩ := hg.row) | (go_at_call 13; refine (len_b _ rb _ v xs _ (hR.keptB (by assumption))).mono ?_; rintro e w' ⟨rfl, rfl⟩) | (go_at_call 14; refine (same_yes _ (xs.take (stop)) A2 A' c2 c' _ HTK.out hrow2 ((hir.below (by assumption)).more (Below.size (by assumption))) (by have := HTK.out; omega)).mono ?_; rintro e w3 ⟨rfl, hbel⟩))
        have hS : Below wr.heap.size wr w3 := by assumption
        have HF := Lib.hid (HB.out.trans (hS.mono HB.out.size))
        go_wp2
        go_ret
        exact ⟨by simp, HF.out⟩
      · have hst1 : ¬ (stop : Int) ≤ (xs.length : Int) := by omega
        have hst2 : (xs.length : Int) < (stop : Int) := by omega
        have hup := fun w' => upto_row (P := Try.prog) Try.underlying22 hi A' xs.length c' (xs.length) (by omega) w'
        have hir : IntRow wr wr.heap.size A' (xs.take (xs.length)) := (hrow'.take (xs.length)).more hb.size
        have htk : (xs.length) = (xs.take (xs.length)).length := by first | (simp; done) | (simp; omega)
        have q1 : ((xs.length : Int) == (xs.length : Int)) = true := by simp
        have hbr := Below.refl wr.heap.size wr
        have HUP := Lib.hid hup; have HTK := Lib.hid htk; have HB := Lib.hid hb
        clear hrow hrow' hup htk hi hz0 hz1 hz2 hb
        go_wp2
        clear hrun
        have hup2 := HUP.out
        go_region_held3 (fun W' => Below wr.heap.size wr W') ((first | exact (Below.refl _ _).drew | assumption | exact Below.trans (by assumption) (hbel.mono (Below.size (by assumption)))))
          (first | (go_at_call 15; refine (told_b _ rb _ v xs (xs.length) _ (by omega) (by omega) (hR.keptB (by assumption))).mono ?_; intro e w2 hg; obtain ⟨A2, c2, rfl, _, _, hrow2, hbel⟩ := hg.row) | (go_at_call 13; refine (len_b _ rb _ v xs _ (hR.keptB (by assumption))).mono ?_; rintro e w' ⟨rfl, rfl⟩) | (go_at_call 14; refine (same_yes _ (xs.take (xs.length)) A2 A' c2 c' _ HTK.out hrow2 ((hir.below (by assumption)).more (Below.size (by assumption))) (by have := HTK.out; omega)).mono ?_; rintro e w3 ⟨rfl, hbel⟩))
        have hS : Below wr.heap.size wr w3 := by assumption
        have HF := Lib.hid (HB.out.trans (hS.mono HB.out.size))
        go_wp2
        go_ret
        exact ⟨by simp, HF.out⟩

theorem stops_all (l : List Int) (A : Option Addr) (c : Nat) (q : Int) (w : World) (hc : l.length ≤ c) (hm : c ≤ maxLen) (hn : A = none → l = []) (hrow : IntRowK .i64 w w.heap.size A l) (hq : (Lit.int .u8 q).wf = true) :
    Calls Try.prog 4 #[.slice A l.length c, .int .u8 q] w fun e w' => e = .returned (.bool true) ∧ Below w.heap.size w w' := by
  obtain ⟨h0, h1⟩ := bounds_u8 hq
  obtain ⟨n, rfl⟩ := Int.eq_ofNat_of_zero_le h0
  exact stops_walk l A c n w (by omega) (by unfold maxLen at hm; omega) hc hm hrow hn
end Go.Proofs.Ytdoepdoeafpgkaa
