/- A memory's iterator as a contract: what it hands to a loop's rounds. No condition but those in the statements. -/
import Derived.Test.YtckhlencaojkmaaMem
import Derived.RangeFuncBox
import Derived.RangeFuncNested
import Derived.RangeFuncBound
import Derived.RangeFuncCalls
import Derived.RangeFuncLeaves
import Derived.Shelf.Abstract
import Derived.Shelf.RegionOpen
import Derived.OwnWalkIn
import Derived.TacticsInMore
import Derived.LoopNIn
import Derived.LoopIn
namespace Go.Proofs.Ytckhlencaojkmaa
open Go.RowKit Go.Sort Go.Shelf
attribute [local go_sem] Oper.semAt_some

/-- These blocks stand as they stood. -/
def KeepsB (bs : List Nat) (W W' : World) : Prop := W.heap.size ≤ W'.heap.size ∧ ∀ k ∈ bs, W'.heap[k]? = W.heap[k]?
theorem KeepsB.refl (bs : List Nat) (W : World) : KeepsB bs W W := ⟨Nat.le_refl _, fun _ _ => rfl⟩
theorem KeepsB.trans {bs : List Nat} {A B C : World} (h : KeepsB bs A B) (k : KeepsB bs B C) : KeepsB bs A C := ⟨Nat.le_trans h.1 k.1, fun i hi => (k.2 i hi).trans (h.2 i hi)⟩
theorem keepsB_put {bs : List Nat} {W : World} {l : Nat} (o' : Obj) (h : ∀ k ∈ bs, k ≠ l) : KeepsB bs W (W.putObj l o') := ⟨by simp, fun k hk => World.putObj_heap_other (h k hk)⟩
theorem keepsB_set {bs : List Nat} {W : World} {b i : Nat} (v : Value) (h : ∀ k ∈ bs, k ≠ b) : KeepsB bs W (W.setCell ⟨b, i, none⟩ v) := ⟨by simp [World.setCell], fun k hk => Below.heap_setCell _ _ _ _ (h k hk)⟩
theorem cell_block {W : World} {b : Nat} {cs : Array Value} {t : TypeId} {m : Nat × Nat} {i : Nat} {v : Value} (h : W.heap[b]? = some (.cells cs t m)) (hv : cs[i]? = some v) : W.cell? ⟨b, i, none⟩ = some v := by
  simp [World.cell?, h, hv]

/-- All hands back its closure, over a box that holds the pointer. -/
def GivesIter (w : World) (mb : Nat) (e : Ending) (w' : World) : Prop :=
  ∃ cb, e = .returned (.func (.func 17) #[] #[.pointer (some ⟨cb, 0, none⟩)]) ∧ w.heap.size ≤ cb ∧ w'.heap[cb]? = some (.cells #[.pointer (some ⟨mb, 0, none⟩)] 23 (0, 0)) ∧ Below w.heap.size w w'
theorem memAll_b (mb : Nat) (w : World) : Calls Try.prog 14 #[.pointer (some ⟨mb, 0, none⟩)] w (GivesIter w mb) := by
  go_enter Try.func14, Try.ntmps14
  go_wp2
  go_ret
  exact ⟨w.heap.size, rfl, Nat.le_refl _, heap_alloc_new w _, (Below.refl _ _).alloc (Nat.le_refl _) _⟩

theorem range_next (n k : Nat) (h : k < n) : List.range k ++ [k] <+: List.range n := by
  rw [← List.range_succ, show n = (k + 1) + (n - (k + 1)) by omega, List.range_add]
  exact List.prefix_append _ _

set_option maxHeartbeats 800000 in
theorem memIter_stops (n : Nat) (hn : 1 ≤ n) (mb rb cb : Nat) (ws : List Int) (hl : ws.length ≤ 1000000) (w : World)
    (hcb : w.heap[cb]? = some (.cells #[.pointer (some ⟨mb, 0, none⟩)] 23 (0, 0))) (hM : MemAt w mb rb ws) :
    SeqStopsK Fence.wide n Try.prog 17 #[.pointer (some ⟨cb, 0, none⟩)] (fun k : Nat => #[.int .i64 k, .int .u32 (ws.getD k 0)]) (KeepsB [cb, mb, rb]) (fun xs => xs = List.range ws.length) (fun pre => pre <+: List.range ws.length) ws.length w := by
  intro lp J Jx W hW hJ hJx hY h0
  have hcW : W.heap[cb]? = some (.cells #[.pointer (some ⟨mb, 0, none⟩)] 23 (0, 0)) := (hW.block cb (Array.getElem?_eq_some_iff.1 hcb).1).trans hcb
  have hMW := hM.below hW
  have hs0 : W.cell? ⟨cb, 0, none⟩ = some (.pointer (some ⟨mb, 0, none⟩)) := cell_block hcW rfl
  have hs1 := hMW.cell
  refine callsIn_of_wp Try.func17 rfl trivial ?_ rfl
  simp only [Try.ntmps17, List.size_toArray, List.length_cons, List.length_nil, Nat.reduceAdd, Nat.reduceSub, Array.replicate_succ, Array.replicate_zero, List.push_toArray, List.append_toArray, List.nil_append, List.cons_append]
  gi_wp2
  gi_loopw [10] (fun ix wr => ∃ k : Nat, k ≤ ws.length ∧ ix = .int .i64 k ∧ J (List.range k) wr ∧ KeepsB [cb, mb, rb] W wr) (fun ix _ => ws.length - (intOf ix).toNat)
  case atStart => exact ⟨0, Nat.zero_le _, rfl, h0, KeepsB.refl _ _⟩
  case round =>
    obtain ⟨k, hk, rfl, hJk, hK⟩ := hrel
    by_cases hlt : k < ws.length
    · have hMr : MemAt wr mb rb ws := hMW.of (hK.2 mb (by simp)) (hK.2 rb (by simp))
      have hc := hMr.row.cell hlt
      obtain ⟨fn, tmps, assign, body, hy, hR⟩ := hY _ k wr hJk (by simpa using hlt)
      obtain ⟨v, hv⟩ : ∃ v, ws.getD k 0 = v := ⟨_, rfl⟩
      simp only [hv] at hc hy
      clear hs0 hs1 hv hMr
      gi_wp2
      refine hR.mono ?_
      rintro e W5 (⟨rfl, hJ5, hk5⟩ | ⟨rfl, hJx5⟩)
      · have hK5 := hK.trans hk5
        clear hR hy hc hK hk5
        gi_wp2
        go_roundw
        case rel => exact ⟨k + 1, by omega, by go_num, by rw [List.range_succ]; exact hJ5, hK5⟩
        case measure => simp [intOf]; omega
      · have hpx := range_next ws.length k hlt
        clear hR hy hc
        gi_wp2
        refine bodyPost_ret (results_none rfl _ _ _) rfl ?_
        exact ⟨⟨_, rfl⟩, .inr ⟨_, hpx, hJx5⟩⟩
    · have hkk : k = ws.length := by omega
      have HK := Lib.hid hkk
      clear hkk
      gi_wp2
      go_end0
      exact ⟨⟨_, rfl⟩, .inl ⟨_, by rw [HK.out], hJk⟩⟩

theorem neq_nil2 (w : World) (fn : Fn) (xs ys : Array Value) : (binOp .neq 42 (.func fn xs ys) .nilFunc).run Try.prog w = .ok (.bool true) w := by
  have h : ∀ d : Nat, (Op.equalIn (d + 1) 42 (.func fn xs ys) .nilFunc).run Try.prog w = .ok false w := fun d => by
    simp [Op.equalIn, run_underlying Try.underlying42]
  simp only [binOp]
  simp [Op.equal, Op.maxDepth, h 9999]
end Go.Proofs.Ytckhlencaojkmaa
