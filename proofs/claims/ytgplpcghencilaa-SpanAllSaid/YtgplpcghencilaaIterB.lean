/- The iterator of span.All: what it hands to a loop's rounds. No condition but those in the statements. -/
import Derived.Test.YtgplpcghencilaaIter
import Derived.RangeFuncNested
import Derived.RangeFuncBound
import Derived.RangeFuncCalls
import Derived.RangeFuncLeaves
import Derived.Shelf.Abstract
import Derived.Shelf.RegionOpen
import Derived.OwnWalkIn
import Derived.TacticsInMore
import Derived.LoopNIn
import Derived.LoopIn
namespace Go.Proofs.Ytgplpcghencilaa
open Go.RowKit Go.Sort Go.Shelf
attribute [local go_sem] Oper.semAt_some

/-- The blocks of these element types stand as they stood. -/
def KeepsT (ts : List TypeId) (W W' : World) : Prop := W.heap.size ≤ W'.heap.size ∧ ∀ (k : Nat) (cs : Array Value) (t : TypeId) (m : Nat × Nat), t ∈ ts → W.heap[k]? = some (Obj.cells cs t m) → W'.heap[k]? = some (Obj.cells cs t m)
theorem KeepsT.refl (ts : List TypeId) (W : World) : KeepsT ts W W := ⟨Nat.le_refl _, fun _ _ _ _ _ h => h⟩
theorem KeepsT.trans {ts : List TypeId} {A B C : World} (h : KeepsT ts A B) (k : KeepsT ts B C) : KeepsT ts A C := ⟨Nat.le_trans h.1 k.1, fun i cs t m ht hi => k.2 i cs t m ht (h.2 i cs t m ht hi)⟩
theorem KeepsT.below {ts : List TypeId} {W W' : World} (hb : Below W.heap.size W W') : KeepsT ts W W' := ⟨hb.size, fun k _ _ _ _ hk => (hb.block k (Array.getElem?_eq_some_iff.1 hk).1).trans hk⟩
theorem grown_below {W W' : World} (hb : Below W.heap.size W W') : W.grownBy W' none := ⟨hb.os, hb.tape, hb.output, hb.size, fun k hk _ => hb.block k hk⟩
theorem abides_below {β : Type} {B : Nat} {J : β → World → Prop} (hJ : AbidesFrom B J) {s : β} {W W' : World} (h : J s W) (hb : Below W.heap.size W W') : J s W' :=
  hJ s W W' none h (grown_below hb) (fun r e => by cases e)
theorem cell_block {W : World} {b : Nat} {cs : Array Value} {t : TypeId} {m : Nat × Nat} {i : Nat} {v : Value} (h : W.heap[b]? = some (.cells cs t m)) (hv : cs[i]? = some v) : W.cell? ⟨b, i, none⟩ = some v := by
  simp [World.cell?, h, hv]

theorem segs_empty (f s : Int) (h : filledB f s = false) : segs (f, s) = [] := by
  cases hr : rightB f s
  · simp [segs, hr]
  · have : ¬ 0 < s := by intro h0; rw [filledB_yes.2 ⟨rightB_yes.1 hr, h0⟩] at h; cases h
    simp [segs, hr]; omega
theorem segs_count (f s : Int) (hr : rightB f s = true) : (segs (f, s)).length = s.toNat := by simp [segs, hr]
theorem segs_get (f s : Int) (hr : rightB f s = true) (m : Nat) (h : m < s.toNat) : (segs (f, s)).take (m + 1) = (segs (f, s)).take m ++ [f + (m : Int)] := by
  rw [List.take_succ_eq_append_getElem (by rw [segs_count f s hr]; exact h)]
  congr 2
  simp [segs, hr]
theorem allOf_pre (l : List (Int × Int)) (k m : Nat) (h : k < l.length) : allOf (l.take k) ++ (segs (l.getD k (0, 0))).take m <+: allOf l := by
  have h1 : allOf l = allOf (l.take (k + 1)) ++ allOf (l.drop (k + 1)) := by
    unfold allOf; rw [← List.flatMap_append, List.take_append_drop]
  rw [h1, allOf_take l k h, List.append_assoc, List.prefix_append_right_inj]
  exact (List.take_prefix _ _).trans (List.prefix_append _ _)

set_option maxHeartbeats 1600000 in
theorem iter_stops (n : Nat) (hn : 1 ≤ n) (l : List (Int × Int)) (hl : l.length ≤ 1000000) (sb : Nat) (A : Option Addr) (c : Nat) (w : World)
    (hsb : w.heap[sb]? = some (.cells #[.slice A l.length c] 28 (0, 0))) (hA : PairBlock w A l) :
    SeqStopsK Fence.wide n Try.prog 33 #[.pointer (some ⟨sb, 0, none⟩)] (fun x : Int => #[.int .i64 x]) (KeepsT [23, 28]) (fun xs => xs = allOf l) (fun pre => pre <+: allOf l) (allOf l).length w := by
  intro lp J Jx W hW hJ hJx hY h0
  have hsW : W.heap[sb]? = some (.cells #[.slice A l.length c] 28 (0, 0)) := (hW.block sb (Array.getElem?_eq_some_iff.1 hsb).1).trans hsb
  have hAW : PairBlock W A l := fun hp => by
    obtain ⟨b, cur, hA1, hb, hc⟩ := hA hp
    exact ⟨b, cur, hA1, (hW.block b (Array.getElem?_eq_some_iff.1 hb).1).trans hb, hc⟩
  have hs0 : W.cell? ⟨sb, 0, none⟩ = some (.slice A l.length c) := cell_block hsW rfl
  refine callsIn_of_wp Try.func33 rfl trivial ?_ rfl
  simp only [Try.ntmps33, List.size_toArray, List.length_cons, List.length_nil, Nat.reduceAdd, Nat.reduceSub, Array.replicate_succ, Array.replicate_zero, List.push_toArray, List.append_toArray, List.nil_append, List.cons_append]
  gi_wp2
  gi_loopw [8] (fun ix wr => ∃ k : Nat, k ≤ l.length ∧ ix = .int .i64 k ∧ J (allOf (l.take k)) wr ∧ KeepsT [23, 28] W wr) (fun ix _ => l.length - (intOf ix).toNat)
  case atStart => exact ⟨0, Nat.zero_le _, rfl, h0, KeepsT.refl _ _⟩
  case round =>
    obtain ⟨k, hk, rfl, hJk, hK⟩ := hrel
    by_cases hlt : k < l.length
    · obtain ⟨b, cur, rfl, hb, hcur⟩ := hAW (by omega)
      obtain ⟨hc0, hc1⟩ := hcur k hlt
      have hnext := allOf_take l k hlt
      obtain ⟨f, s, hp⟩ : ∃ f s, l.getD k (0, 0) = (f, s) := ⟨_, _, rfl⟩
      rw [hp] at hc0 hc1 hnext
      have d0 := cell_block (hK.2 b _ _ _ (by simp) hb) hc0
      have d1 := cell_block (hK.2 b _ _ _ (by simp) hb) hc1
      have HN := Lib.hid hnext
      have hpre := fun m => allOf_pre l k m hlt
      rw [hp] at hpre
      have HP := Lib.hid hpre
      clear hcur hc0 hc1 hp hnext hpre
      simp only at d0 d1
      gi_wp2_with fail
      refine ⟨trivial, (callsIn_wide.2 (filled_b f s _)).mono ?_⟩
      rintro e w1 ⟨rfl, hb1⟩
      have hBx : w1.heap[wr.heap.size]? = some (Obj.cells #[.int .i64 f, .int .i64 s] 23 (0, 0)) := (hb1.block wr.heap.size (by simp)).trans (World.alloc_heap_new wr _)
      have hbw : Below wr.heap.size wr w1 := ((Below.refl _ _).alloc (Nat.le_refl _) _).trans (hb1.mono (by simp))
      have hJ1 := abides_below hJ hJk hbw
      have hK1 := hK.trans (KeepsT.below (ts := [23, 28]) hbw)
      clear hJk hK hb1 d0 d1
      obtain ⟨B, hB⟩ : ∃ B, B = wr.heap.size := ⟨_, rfl⟩
      rw [← hB] at hBx ⊢
      clear hbw hB
      by_cases hfl : filledB f s = true
      · have hr : rightB f s = true := rightB_yes.2 (filledB_yes.1 hfl).1
        obtain ⟨r1, r2, r3, r4⟩ := rightB_yes.1 hr
        have e0 := cell_block hBx (i := 0) rfl
        have e1 := cell_block hBx (i := 1) rfl
        gi_wp2
        obtain ⟨wo, hwo⟩ : ∃ wo : World, wo = w1 := ⟨_, rfl⟩
        rw [← hwo] at hBx hJ1 hK1 e0 e1 ⊢
        clear hwo w1 e0 e1
        gi_loopw [5] (fun av w2 => ∃ m : Nat, m ≤ s.toNat ∧ av = .int .i64 (f + m) ∧ J (allOf (l.take k) ++ (segs (f, s)).take m) w2 ∧ KeepsT [23, 28] W w2 ∧ w2.heap[B]? = some (Obj.cells #[.int .i64 f, .int .i64 s] 23 (0, 0))) (fun av _ => (f + s - intOf av).toNat)
        case atStart => exact ⟨0, Nat.zero_le _, by simp, by simpa using hJ1, hK1, hBx⟩
        case round =>
          clear hBx hJ1 hK1
          obtain ⟨m, hm, rfl, hJm, hKm, hBm⟩ := hrel
          have e0 := cell_block hBm (i := 0) rfl
          have e1 := cell_block hBm (i := 1) rfl
          gi_wp2_with fail
          refine ⟨trivial, (callsIn_wide.2 (end_b f s _ hr)).mono ?_⟩
          rintro e w3 ⟨rfl, hb3⟩
          have hJ3 := abides_below hJ hJm hb3
          have hK3 := hKm.trans (KeepsT.below (ts := [23, 28]) hb3)
          have hB3 := (hb3.block B (Array.getElem?_eq_some_iff.1 hBm).1).trans hBm
          clear hJm hKm hBm hb3 e0 e1
          by_cases hms : f + (m : Int) < f + s
          · have hget := segs_get f s hr m (by omega)
            have hpx := HP.out (m + 1)
            have hlen : (allOf (l.take k) ++ (segs (f, s)).take m).length < (allOf l).length := by
              have := hpx.length_le; rw [hget] at this; simp at this ⊢; omega
            obtain ⟨fn, tmps, assign, body, hy, hR⟩ := hY _ (f + m) w3 hJ3 hlen
            have HG := Lib.hid hget
            have HX := Lib.hid hpx
            clear hget hpx hlen
            gi_wp2
            refine hR.mono ?_
            rintro e W5 (⟨rfl, hJ5, hk5⟩ | ⟨rfl, hJx5⟩)
            · have hK5 := hK3.trans hk5
              have hB5 := hk5.2 B _ _ _ (by simp) hB3
              clear hR hy
              gi_wp2
              go_roundw
              case rel => exact ⟨m + 1, by omega, by go_num, by rw [HG.out, ← List.append_assoc]; exact hJ5, hK5, hB5⟩
              case measure => simp [intOf]; omega
            · clear hR hy
              gi_wp2
              refine bodyPost_ret (results_none rfl _ _ _) rfl ?_
              exact ⟨⟨_, rfl⟩, .inr ⟨_, by have := HX.out; rw [HG.out, ← List.append_assoc] at this; exact this, hJx5⟩⟩
          · have hmm : m = s.toNat := by omega
            have HA := Lib.hid (show allOf (l.take (k + 1)) = allOf (l.take k) ++ (segs (f, s)).take m by rw [HN.out, hmm, ← segs_count f s hr, List.take_length])
            clear hmm
            gi_wp2
            go_roundw
            case rel => exact ⟨k + 1, by omega, by go_num, by rw [HA.out]; exact hJ3, hK3⟩
            case measure => simp [intOf]; omega
      · have hfl' : filledB f s = false := by simpa using hfl
        have HA := Lib.hid (show allOf (l.take (k + 1)) = allOf (l.take k) by rw [HN.out, segs_empty f s hfl']; simp)
        gi_wp2
        go_roundw
        case rel => exact ⟨k + 1, by omega, by go_num, by rw [HA.out]; exact hJ1, hK1⟩
        case measure => simp [intOf]; omega
    · have hk' : k = l.length := by omega
      have HA := Lib.hid (show allOf l = allOf (l.take k) by rw [hk', List.take_length])
      clear hk'
      gi_wp2
      go_end0
      exact ⟨⟨_, rfl⟩, .inl ⟨_, HA.out.symm, hJk⟩⟩
end Go.Proofs.Ytgplpcghencilaa
