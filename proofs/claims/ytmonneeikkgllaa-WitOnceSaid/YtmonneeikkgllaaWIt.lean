/- What All's iterator hands to a loop's rounds. No condition but those in the statements. -/
import Derived.Test.YtmonneeikkgllaaWAl
import Derived.BigQuiet
import Derived.IntWalk
import Derived.BigRegion
import Derived.OpenShut
import Derived.Deep.MidRow
import Derived.Lib.Hide
import Derived.Deep.Slices
import Derived.Lib.SmallJoins
import Derived.RangeFuncBox
import Derived.RangeFuncNested
import Derived.RangeFuncBound
import Derived.RangeFuncCalls
import Derived.RangeFuncLeaves
import Derived.Shelf.Abstract
import Derived.Shelf.RegionOpen
import Derived.OwnWalkIn
import Derived.TacticsInMore
import Derived.LoopNIn
import Derived.LoopIn
namespace Go.Proofs.Ytmonneeikkgllaa
open Go.Shelf WtP Go.RowKit Go.Sort Go.Deep Go.ChangeShapes Go.WideShapes Go.Joins
attribute [local go_sem] Oper.semAt_some
set_option linter.unusedVariables false
set_option linter.unusedSimpArgs false


/-- These blocks stand as they stood. -/
def KeepsB (bs : List Nat) (W W' : World) : Prop := W.heap.size ≤ W'.heap.size ∧ ∀ k ∈ bs, W'.heap[k]? = W.heap[k]?
theorem KeepsB.refl (bs : List Nat) (W : World) : KeepsB bs W W := ⟨Nat.le_refl _, fun _ _ => rfl⟩
theorem KeepsB.trans {bs : List Nat} {A B C : World} (h : KeepsB bs A B) (k : KeepsB bs B C) : KeepsB bs A C := ⟨Nat.le_trans h.1 k.1, fun i hi => (k.2 i hi).trans (h.2 i hi)⟩
theorem keepsB_put {bs : List Nat} {W : World} {l : Nat} (o' : Obj) (h : ∀ k ∈ bs, k ≠ l) : KeepsB bs W (W.putObj l o') := ⟨by simp, fun k hk => World.putObj_heap_other (h k hk)⟩
theorem keepsB_set {bs : List Nat} {W : World} {b i : Nat} (v : Value) (h : ∀ k ∈ bs, k ≠ b) : KeepsB bs W (W.setCell ⟨b, i, none⟩ v) := ⟨by simp [World.setCell], fun k hk => Below.heap_setCell _ _ _ _ (h k hk)⟩
theorem keepsB_below {bs : List Nat} {W W' : World} (h : Below W.heap.size W W') (hb : ∀ k ∈ bs, k < W.heap.size) : KeepsB bs W W' := ⟨h.size, fun k hk => h.block k (hb k hk)⟩
theorem grown_below {W W' : World} (hb : Below W.heap.size W W') : W.grownBy W' none := ⟨hb.os, hb.tape, hb.output, hb.size, fun k hk _ => hb.block k hk⟩
theorem abides_below {β : Type} {B : Nat} {J : β → World → Prop} (hJ : AbidesFrom B J) {s : β} {W W' : World} (h : J s W) (hb : Below W.heap.size W W') : J s W' :=
  hJ s W W' none h (grown_below hb) (fun r e => by cases e)
theorem take_pre19 {L : List T4} {k : Nat} {x : T4} (h : L[k]? = some x) : L.take (k + 1) = L.take k ++ [x] := by
  rw [List.take_add_one, h]; rfl
/-- The block of a row, or another one. -/
def blkOf (A : Option Addr) (d : Nat) : Nat := match A with | some a => a.block | none => d
set_option maxHeartbeats 4000000 in
theorem iter19_stops (n : Nat) (hn : 1 ≤ n) (p : Nat) (A : Option Addr) (c : Nat) (L : List T4) (hl : L.length ≤ 1000000) (w : World)
    (hp : w.heap[p]? = some (.cells #[.slice A L.length c] 61 (0, 0))) (hA : TRow w w.heap.size A L) :
    SeqStopsK Fence.wide n Try.prog 25 #[.pointer (some ⟨p, 0, none⟩)] (fun x : T4 => #[.int .i64 x.mom, .agg #[.int .i64 x.kind, .int .i64 x.idx]]) (KeepsB [p, blkOf A p]) (fun xs => xs = L) (fun pre => pre <+: L) L.length w := by
  intro lp J Jx W hW hJ hJx hY h0
  have hsW : W.heap[p]? = some (.cells #[.slice A L.length c] 61 (0, 0)) := (hW.block p (Array.getElem?_eq_some_iff.1 hp).1).trans hp
  have hAW : TRow W w.heap.size A L := hA.below hW
  have hs0 : W.cell? ⟨p, 0, none⟩ = some (.slice A L.length c) := cell_at19 hsW rfl
  have HWS := Lib.hid hW.size
  refine callsIn_of_wp Try.func25 rfl trivial ?_ rfl
  simp only [Try.ntmps25, List.size_toArray, List.length_cons, List.length_nil, Nat.reduceAdd, Nat.reduceSub, Array.replicate_succ, Array.replicate_zero, List.push_toArray, List.append_toArray, List.nil_append, List.cons_append]
  gi_wp2
  gi_loopw [7] (fun ix wr => ∃ k : Nat, k ≤ L.length ∧ ix = .int .i64 k ∧ J (L.take k) wr ∧ KeepsB [p, blkOf A p] W wr) (fun ix _ => L.length - (intOf ix).toNat)
  case atStart => exact ⟨0, Nat.zero_le _, rfl, h0, KeepsB.refl _ _⟩
  case round =>
    obtain ⟨k, hk, rfl, hJk, hK⟩ := hrel
    by_cases hlt : k < L.length
    · obtain ⟨b, o, x, rfl, hbl, hx, hxc⟩ := hAW.at_ hlt
      have hxr := hxc W (Below.refl _ _)
      have hbr : wr.heap[b]? = W.heap[b]? := hK.2 b (by simp [blkOf])
      obtain ⟨c0, c1, c2, c3⟩ := tc_cells (w := wr) (b := b) (o := o + k * 4) (x := x) (fun j u hu => by rw [← hxr j u hu]; simp [World.cell?, hbr])
      have HN := Lib.hid (take_pre19 hx)
      have HLT := Lib.hid hlt
      have hbn : b < wr.heap.size := by have := HWS.out; have := hK.1; omega
      have hpn : p < wr.heap.size := by have := (Array.getElem?_eq_some_iff.1 hsW).1; have := hK.1; omega
      obtain ⟨x0, x1, x2, x3⟩ := x
      simp only at c0 c1 c2 c3
      obtain ⟨V, HV⟩ : ∃ u, Hid (u = wr.alloc (.cells #[.int .i64 x0, .int .i64 x1, .int .i64 x2, .int .i64 x3] 64)) := ⟨_, rfl⟩
      have hbV : Below wr.heap.size wr V := by rw [HV.out]; exact (Below.refl _ _).alloc (Nat.le_refl _) _
      have hVb : V.heap[wr.heap.size]? = some (.cells #[.int .i64 x0, .int .i64 x1, .int .i64 x2, .int .i64 x3] 64 (0, 0)) := by rw [HV.out]; exact heap_alloc_new _ _
      have e0 := cell_at19 hVb (i := 0) rfl
      have e2 := cell_at19 hVb (i := 2) rfl
      have e3 := cell_at19 hVb (i := 3) rfl
      have hJV := abides_below hJ hJk hbV
      have HKV := Lib.hid (hK.trans (keepsB_below (bs := [p, b]) hbV (fun q hq => by simp at hq; rcases hq with rfl | rfl <;> assumption)))
      have HPX := Lib.hid (show L.take k ++ [(⟨x0, x1, x2, x3⟩ : T4)] <+: L by rw [← HN.out]; exact List.take_prefix _ _)
      obtain ⟨fn, tmps, assign, body, hy, hR⟩ := hY _ (⟨x0, x1, x2, x3⟩ : T4) V hJV (by rw [List.length_take]; omega)
      clear hxr hbr hbn hpn hbV hVb hJk hxc hx hbl hJV hK
      simp only at hy
      gi_wp2_with (rw [← HV.out])
      refine hR.mono ?_
      rintro e W5 (⟨rfl, hJ5, hk5⟩ | ⟨rfl, hJx5⟩)
      · have HK5 := Lib.hid (HKV.out.trans hk5)
        have HJ5 := Lib.hid hJ5
        clear hR hy hk5 hJ5 c0 c1 c2 c3 e0 e2 e3
        gi_wp2
        go_roundw
        case rel => exact ⟨k + 1, by have := HLT.out; omega, by go_num, by rw [HN.out]; exact HJ5.out, HK5.out⟩
        case measure => have := HLT.out; simp [intOf]; omega
      · clear hR hy
        gi_wp2
        refine bodyPost_ret (results_none rfl _ _ _) rfl ?_
        exact ⟨⟨_, rfl⟩, .inr ⟨_, HPX.out, hJx5⟩⟩
    · have hkk : L.take k = L := List.take_of_length_le (by omega)
      have HK := Lib.hid hkk
      have HJK := Lib.hid hJk
      clear hkk hJk
      gi_wp2
      go_end0
      exact ⟨⟨_, rfl⟩, .inl ⟨_, by rw [HK.out], HJK.out⟩⟩
theorem neq_nil19 (w : World) (fn : Fn) (xs ys : Array Value) : (binOp .neq 34 (.func fn xs ys) .nilFunc).run Try.prog w = .ok (.bool true) w := by
  have h : ∀ d : Nat, (Op.equalIn (d + 1) 34 (.func fn xs ys) .nilFunc).run Try.prog w = .ok false w := fun d => by
    simp [Op.equalIn, run_underlying Try.underlying34]
  simp only [binOp]
  simp [Op.equal, Op.maxDepth, h 9999]
end Go.Proofs.Ytmonneeikkgllaa
