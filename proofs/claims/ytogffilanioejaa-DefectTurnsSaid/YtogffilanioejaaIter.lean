/- The iterator of defects as a contract: what it hands to a loop's rounds. No condition but those in the statements. -/
import Derived.Test.YtogffilanioejaaAll
import Derived.RangeFuncBox
import Derived.RangeFuncNested
import Derived.RangeFuncBound
import Derived.RangeFuncCalls
import Derived.RangeFuncLeaves
import Derived.Shelf.Abstract
import Derived.Shelf.RegionOpen
import Derived.OwnWalkIn
import Derived.TacticsInMore
import Derived.LoopNIn
import Derived.LoopIn
namespace Go.Proofs.Ytogffilanioejaa
open Go.RowKit Go.Sort Go.Shelf
set_option linter.unusedVariables false
set_option linter.unusedSimpArgs false
set_option linter.unusedVariables false
attribute [local go_sem] Oper.semAt_some

/-- These blocks stand as they stood. -/
def KeepsB (bs : List Nat) (W W' : World) : Prop := W.heap.size ≤ W'.heap.size ∧ ∀ k ∈ bs, W'.heap[k]? = W.heap[k]?
theorem KeepsB.refl (bs : List Nat) (W : World) : KeepsB bs W W := ⟨Nat.le_refl _, fun _ _ => rfl⟩
theorem KeepsB.trans {bs : List Nat} {A B C : World} (h : KeepsB bs A B) (k : KeepsB bs B C) : KeepsB bs A C := ⟨Nat.le_trans h.1 k.1, fun i hi => (k.2 i hi).trans (h.2 i hi)⟩
theorem keepsB_put {bs : List Nat} {W : World} {l : Nat} (o' : Obj) (h : ∀ k ∈ bs, k ≠ l) : KeepsB bs W (W.putObj l o') := ⟨by simp, fun k hk => World.putObj_heap_other (h k hk)⟩
theorem cell_block {W : World} {b : Nat} {cs : Array Value} {t : TypeId} {m : Nat × Nat} {i : Nat} {v : Value} (h : W.heap[b]? = some (.cells cs t m)) (hv : cs[i]? = some v) : W.cell? ⟨b, i, none⟩ = some v := by
  simp [World.cell?, h, hv]
theorem keepsB_store {bs : List Nat} {W w1 : World} {bo n1 : Nat} {v v' : Value} {tmp : Obj} (hg : (W.alloc tmp).grownBy w1 v.ownBlock) (hv : ∀ g, v.ownBlock = some g → n1 ≤ g) (h1 : ∀ k ∈ bs, k < n1 ∧ k ≠ bo) (hn : n1 ≤ W.heap.size) : KeepsB bs W (w1.setCell ⟨bo, 0, none⟩ v') := by
  refine ⟨by have := hg.size; simp [World.setCell] at this ⊢; omega, fun k hk => ?_⟩
  obtain ⟨h2, h3⟩ := h1 k hk
  rw [Below.heap_setCell _ _ _ _ (by simpa using h3), hg.block k (by simp; omega) (fun e => by have := hv k e.symm; omega)]
  exact Below.heap_alloc W tmp k (by omega)
theorem keepsB_set {bs : List Nat} {W : World} {bo o : Nat} {v' : Value} (h1 : ∀ k ∈ bs, k ≠ bo) : KeepsB bs W (W.setCell ⟨bo, o, none⟩ v') := by
  refine ⟨by simp [World.setCell], fun k hk => Below.heap_setCell _ _ _ _ (by simpa using h1 k hk)⟩
theorem cell_kept {W W' : World} {b o : Nat} (h : W'.heap[b]? = W.heap[b]?) : W'.cell? ⟨b, o, none⟩ = W.cell? ⟨b, o, none⟩ := by simp [World.cell?, h]
/-- What has been found lies so: its box tb, its row's block rb. -/
structure FoundAt (w : World) (tb rb : Nat) (A : Option Addr) (cap : Nat) (xs : List Int) : Prop where
  box : w.heap[tb]? = some (.cells #[.slice A xs.length cap] 42 (0, 0))
  row : 0 < xs.length → ∃ o, A = some ⟨rb, o, none⟩ ∧ ∀ i, i < xs.length → w.cell? ⟨rb, o + i, none⟩ = some (.int .i64 (xs.getD i 0))
  lt : rb < w.heap.size
theorem FoundAt.of {w w' : World} {tb rb : Nat} {A : Option Addr} {cap : Nat} {xs : List Int} (h : FoundAt w tb rb A cap xs) (hs : w.heap.size ≤ w'.heap.size) (h1 : w'.heap[tb]? = w.heap[tb]?) (h2 : w'.heap[rb]? = w.heap[rb]?) : FoundAt w' tb rb A cap xs :=
  ⟨h1.trans h.box, fun hp => by
    obtain ⟨o, hA, hc⟩ := h.row hp
    exact ⟨o, hA, fun i hi => (cell_kept h2).trans (hc i hi)⟩, Nat.lt_of_lt_of_le h.lt hs⟩
theorem FoundAt.below {w w' : World} {tb rb : Nat} {A : Option Addr} {cap : Nat} {xs : List Int} (h : FoundAt w tb rb A cap xs) (hb : Below w.heap.size w w') : FoundAt w' tb rb A cap xs :=
  h.of hb.size (hb.block _ (Array.getElem?_eq_some_iff.1 h.box).1) (hb.block _ h.lt)
theorem GivesIter.at_ {w w' : World} {xs : List Int} {e : Ending} (h : GivesIter w xs e w') : ∃ tb rb A cap, e = .returned (.func (.func 44) #[] #[.pointer (some ⟨tb, 0, none⟩)]) ∧ w.heap.size ≤ tb ∧ w.heap.size ≤ rb ∧ FoundAt w' tb rb A cap xs ∧ Below w.heap.size w w' := by
  obtain ⟨tb, v, rfl, htb, hbx, hown, hb⟩ := h
  obtain ⟨A, cap, rfl, _⟩ := hown.slice
  by_cases hp : 0 < xs.length
  · obtain ⟨g, off, cap', hv, hg, hgl, _, _, _, hcell⟩ := hown.lies hp
    cases hv
    refine ⟨tb, g, _, _, rfl, htb, hg, ⟨hbx, fun _ => ⟨off, rfl, fun i hi => hcell i _ ?_⟩, hgl⟩, hb⟩
    simp [icells, List.getD_eq_getElem?_getD, hi]
  · exact ⟨tb, tb, A, cap, rfl, htb, htb, ⟨hbx, fun h => absurd h hp, hbx.lt⟩, hb⟩

set_option maxHeartbeats 1600000 in
theorem iter_stops (n : Nat) (hn : 1 ≤ n) (tb rb : Nat) (A : Option Addr) (cap : Nat) (xs : List Int) (hl : xs.length ≤ 1000000) (w : World) (hF : FoundAt w tb rb A cap xs) :
    SeqStopsK Fence.wide n Try.prog 44 #[.pointer (some ⟨tb, 0, none⟩)] (fun x : Int => #[.int .i64 x]) (KeepsB [tb, rb]) (fun ys => ys = xs) (fun pre => pre <+: xs) xs.length w := by
  intro lp J Jx W hW hJ hJx hY h0
  have hFW := hF.below hW
  have hs0 : W.cell? ⟨tb, 0, none⟩ = some (.slice A xs.length cap) := cell_block hFW.box rfl
  refine callsIn_of_wp Try.func44 rfl trivial ?_ rfl
  simp only [Try.ntmps44, List.size_toArray, List.length_cons, List.length_nil, Nat.reduceAdd, Nat.reduceSub, Array.replicate_succ, Array.replicate_zero, List.push_toArray, List.append_toArray, List.nil_append, List.cons_append]
  gi_wp2
  gi_loopw [7] (fun ix wr => ∃ k : Nat, k ≤ xs.length ∧ ix = .int .i64 k ∧ J (xs.take k) wr ∧ KeepsB [tb, rb] W wr) (fun ix _ => xs.length - (intOf ix).toNat)
  case atStart => exact ⟨0, Nat.zero_le _, rfl, h0, KeepsB.refl _ _⟩
  case round =>
    obtain ⟨k, hk, rfl, hJk, hK⟩ := hrel
    by_cases hlt : k < xs.length
    · have hFr := hFW.of hK.1 (hK.2 tb (by simp)) (hK.2 rb (by simp))
      obtain ⟨o, rfl, hca⟩ := hFr.row (by omega)
      have hc := hca k hlt
      clear hca
      have hpx : xs.take k ++ [xs.getD k 0] = xs.take (k + 1) := by
        rw [List.take_succ_eq_append_getElem hlt]
        simp [List.getD_eq_getElem?_getD, hlt]
      obtain ⟨z, hz⟩ : ∃ z, xs.getD k 0 = z := ⟨_, rfl⟩
      rw [hz] at hc hpx
      have hlen : (xs.take k).length < xs.length := by rw [List.length_take]; omega
      have HP := Lib.hid hpx
      have HQ := Lib.hid (List.take_prefix (k + 1) xs)
      obtain ⟨fn, tmps, assign, body, hy, hR⟩ := hY _ z wr hJk hlen
      clear hpx hlen hz hs0 hFr
      gi_wp2
      refine hR.mono ?_
      rintro e W5 (⟨rfl, hJ5, hk5⟩ | ⟨rfl, hJx5⟩)
      · have hK5 := hK.trans hk5
        clear hR hy hc hK hk5
        gi_wp2
        go_roundw
        case rel => exact ⟨k + 1, by omega, by go_num, by rw [← HP.out]; exact hJ5, hK5⟩
        case measure => simp [intOf]; omega
      · clear hR hy hc
        gi_wp2
        refine bodyPost_ret (results_none rfl _ _ _) rfl ?_
        exact ⟨⟨_, rfl⟩, .inr ⟨_, by have h := HQ.out; rwa [← HP.out] at h, hJx5⟩⟩
    · have hkk : xs.take k = xs := List.take_of_length_le (by omega)
      have HK := Lib.hid hkk
      clear hkk
      gi_wp2
      go_end0
      exact ⟨⟨_, rfl⟩, .inl ⟨_, by rw [HK.out], hJk⟩⟩
end Go.Proofs.Ytogffilanioejaa
