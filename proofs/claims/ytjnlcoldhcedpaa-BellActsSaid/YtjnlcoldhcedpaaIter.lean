/- A set's iterator as a contract: what it hands to a loop's rounds. No condition but those in the statements. -/
import Derived.Test.YtjnlcoldhcedpaaDocA
import Derived.RangeFuncBox
import Derived.RangeFuncNested
import Derived.RangeFuncBound
import Derived.RangeFuncCalls
import Derived.RangeFuncLeaves
import Derived.Shelf.Abstract
import Derived.Shelf.RegionOpen
import Derived.OwnWalkIn
import Derived.TacticsInMore
import Derived.LoopNIn
import Derived.LoopIn
namespace Go.Proofs.Ytjnlcoldhcedpaa
open Go.RowKit Go.Sort Go.Shelf
set_option linter.unusedVariables false
attribute [local go_sem] Oper.semAt_some

/-- These blocks stand as they stood. -/
def KeepsB (bs : List Nat) (W W' : World) : Prop := W.heap.size ≤ W'.heap.size ∧ ∀ k ∈ bs, W'.heap[k]? = W.heap[k]?
theorem KeepsB.refl (bs : List Nat) (W : World) : KeepsB bs W W := ⟨Nat.le_refl _, fun _ _ => rfl⟩
theorem KeepsB.trans {bs : List Nat} {A B C : World} (h : KeepsB bs A B) (k : KeepsB bs B C) : KeepsB bs A C := ⟨Nat.le_trans h.1 k.1, fun i hi => (k.2 i hi).trans (h.2 i hi)⟩
theorem keepsB_put {bs : List Nat} {W : World} {l : Nat} (o' : Obj) (h : ∀ k ∈ bs, k ≠ l) : KeepsB bs W (W.putObj l o') := ⟨by simp, fun k hk => World.putObj_heap_other (h k hk)⟩
theorem cell_block {W : World} {b : Nat} {cs : Array Value} {t : TypeId} {m : Nat × Nat} {i : Nat} {v : Value} (h : W.heap[b]? = some (.cells cs t m)) (hv : cs[i]? = some v) : W.cell? ⟨b, i, none⟩ = some v := by
  simp [World.cell?, h, hv]
theorem keepsB_store {bs : List Nat} {W w1 : World} {bo n1 : Nat} {v v' : Value} {tmp : Obj} (hg : (W.alloc tmp).grownBy w1 v.ownBlock) (hv : ∀ g, v.ownBlock = some g → n1 ≤ g) (h1 : ∀ k ∈ bs, k < n1 ∧ k ≠ bo) (hn : n1 ≤ W.heap.size) : KeepsB bs W (w1.setCell ⟨bo, 0, none⟩ v') := by
  refine ⟨by have := hg.size; simp [World.setCell] at this ⊢; omega, fun k hk => ?_⟩
  obtain ⟨h2, h3⟩ := h1 k hk
  rw [Below.heap_setCell _ _ _ _ (by simpa using h3), hg.block k (by simp; omega) (fun e => by have := hv k e.symm; omega)]
  exact Below.heap_alloc W tmp k (by omega)

/-- All hands back its closure, over a box that holds the pointer. -/
def GivesIter (w : World) (mb : Nat) (e : Ending) (w' : World) : Prop :=
  ∃ cb, e = .returned (.func (.func 20) #[] #[.pointer (some ⟨cb, 0, none⟩)]) ∧ w.heap.size ≤ cb ∧ w'.heap[cb]? = some (.cells #[.pointer (some ⟨mb, 0, none⟩)] 24 (0, 0)) ∧ Below w.heap.size w w'
theorem all_b (mb : Nat) (w : World) : Calls Try.prog 19 #[.pointer (some ⟨mb, 0, none⟩)] w (GivesIter w mb) := by
  go_enter Try.func19, Try.ntmps19
  go_wp2
  go_ret
  exact ⟨w.heap.size, rfl, Nat.le_refl _, heap_alloc_new w _, (Below.refl _ _).alloc (Nat.le_refl _) _⟩

set_option maxHeartbeats 800000 in
theorem iter_stops (n : Nat) (hn : 1 ≤ n) (mb rb cb : Nat) (bs : List Bool) (hl : bs.length ≤ 1000000) (w : World)
    (hcb : w.heap[cb]? = some (.cells #[.pointer (some ⟨mb, 0, none⟩)] 24 (0, 0))) (hM : SetAt w mb rb bs) :
    SeqStopsK Fence.wide n Try.prog 20 #[.pointer (some ⟨cb, 0, none⟩)] (fun x : Int => #[.int .i64 x]) (KeepsB [cb, mb, rb]) (fun xs => xs = allB bs) (fun pre => pre <+: allB bs) (allB bs).length w := by
  intro lp J Jx W hW hJ hJx hY h0
  have hcW : W.heap[cb]? = some (.cells #[.pointer (some ⟨mb, 0, none⟩)] 24 (0, 0)) := (hW.block cb (Array.getElem?_eq_some_iff.1 hcb).1).trans hcb
  have hMW := hM.below hW
  have hs0 : W.cell? ⟨cb, 0, none⟩ = some (.pointer (some ⟨mb, 0, none⟩)) := cell_block hcW rfl
  have hs1 := hMW.cell
  refine callsIn_of_wp Try.func20 rfl trivial ?_ rfl
  simp only [Try.ntmps20, List.size_toArray, List.length_cons, List.length_nil, Nat.reduceAdd, Nat.reduceSub, Array.replicate_succ, Array.replicate_zero, List.push_toArray, List.append_toArray, List.nil_append, List.cons_append]
  gi_wp2
  gi_loopw [9] (fun ix wr => ∃ k : Nat, k ≤ bs.length ∧ ix = .int .i64 k ∧ J (allTo bs k) wr ∧ KeepsB [cb, mb, rb] W wr) (fun ix _ => bs.length - (intOf ix).toNat)
  case atStart => exact ⟨0, Nat.zero_le _, rfl, h0, KeepsB.refl _ _⟩
  case round =>
    obtain ⟨k, hk, rfl, hJk, hK⟩ := hrel
    by_cases hlt : k < bs.length
    · have hMr : SetAt wr mb rb bs := hMW.of (hK.2 mb (by simp)) (hK.2 rb (by simp))
      have hc := hMr.row.cell hlt
      have hr1 := hMr.cell
      have hr0 : wr.cell? ⟨cb, 0, none⟩ = some (.pointer (some ⟨mb, 0, none⟩)) := cell_block ((hK.2 cb (by simp)).trans hcW) rfl
      have hon := allTo_in bs k
      have hoff := allTo_out bs k
      have hpx := allTo_pre bs (k + 1) hlt
      obtain ⟨q, hq⟩ : ∃ q, bs.getD k false = q := ⟨_, rfl⟩
      rw [hq] at hc
      simp only [hq] at hon hoff
      clear hs0 hs1 hq hMr
      cases q
      · have hJ2 := hJk
        rw [← hoff (by simp)] at hJ2
        clear hJk hon hoff hpx
        gi_wp2
        refine ⟨(fun _ h => by cases h), ?_⟩
        gi_wp2
        go_roundw
        case rel => exact ⟨k + 1, by omega, by go_num, hJ2, hK⟩
        case measure => simp [intOf]; omega
      · have hon2 := hon (by simp)
        have hlen : (allTo bs k).length < (allB bs).length := by have h1 := hpx.length_le; rw [hon2] at h1; simp at h1; omega
        obtain ⟨fn, tmps, assign, body, hy, hR⟩ := hY _ (k : Int) wr hJk hlen
        have HP := Lib.hid hpx; have HO := Lib.hid hon2
        clear hon hoff hpx hon2 hlen
        gi_wp2
        refine hR.mono ?_
        rintro e W5 (⟨rfl, hJ5, hk5⟩ | ⟨rfl, hJx5⟩)
        · have hK5 := hK.trans hk5
          clear hR hy hc hK hk5 hr0 hr1
          gi_wp2
          go_roundw
          case rel => exact ⟨k + 1, by omega, by go_num, by rw [HO.out]; exact hJ5, hK5⟩
          case measure => simp [intOf]; omega
        · clear hR hy hc hr0 hr1
          gi_wp2
          refine bodyPost_ret (results_none rfl _ _ _) rfl ?_
          exact ⟨⟨_, rfl⟩, .inr ⟨_, by have h := HP.out; rwa [HO.out] at h, hJx5⟩⟩
    · have hkk : allTo bs k = allB bs := by rw [show k = bs.length by omega]; rfl
      have HK := Lib.hid hkk
      clear hkk
      gi_wp2
      go_end0
      exact ⟨⟨_, rfl⟩, .inl ⟨_, by rw [HK.out], hJk⟩⟩
end Go.Proofs.Ytjnlcoldhcedpaa
