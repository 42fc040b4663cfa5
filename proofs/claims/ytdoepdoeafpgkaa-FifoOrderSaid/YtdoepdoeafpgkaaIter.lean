/- A row's copy; its iterator as a contract: what it hands to a loop's rounds. No condition but those in the statements. -/
import Derived.Test.YtdoepdoeafpgkaaFifo
import Derived.Test.YtdoepdoeafpgkaaKitB
import Derived.RangeFuncBox
import Derived.RangeFuncNested
import Derived.RangeFuncBound
import Derived.RangeFuncCalls
import Derived.RangeFuncLeaves
import Derived.Shelf.Abstract
import Derived.Shelf.RegionOpen
import Derived.OwnWalkIn
import Derived.TacticsInMore
import Derived.LoopNIn
import Derived.LoopIn
namespace Go.Proofs.Ytdoepdoeafpgkaa
open Go.RowKit Go.Sort Go.Shelf
set_option linter.unusedVariables false
attribute [local go_sem] Oper.semAt_some

theorem clone_b (base : Nat) (v : Value) (xs : List Int) (w : World) (h : OwnsOff w base 3 1 v xs.length (xs.map (Value.int .i64))) (hl : xs.length ≤ 1000000) :
    Calls Try.prog 22 #[v] w (GivesInts 3 w xs) := by
  obtain ⟨i0, hi, hz0, hz1, hz2⟩ := info_parts Try.infoI
  by_cases hv : v = .slice none 0 0
  · subst hv
    have hx : xs = [] := by
      rcases h.2 with ⟨_, h0⟩ | ⟨g, off, cap, cur, hv, _⟩
      · exact List.eq_nil_of_length_eq_zero h0
      · cases hv
    subst hx
    have q := Lib.run_eql_slice_nil (P := Try.prog) w 22 3 none 0 0 0 0 Try.underlying22
    clear h
    go_enter Try.func22, Try.ntmps22
    go_wp2
    go_ret
    exact ⟨_, rfl, World.ownsRow_nil _ _ _ _, Below.refl _ _⟩
  · obtain ⟨g, off, cap, rfl, hcell⟩ : ∃ g off cap, v = .slice (some ⟨g, off, none⟩) xs.length cap ∧ ∀ j u, (xs.map (Value.int .i64))[j]? = some u → w.cell? ((⟨g, off, none⟩ : Addr).add j) = some u := by
      rcases h.2 with ⟨h0, _⟩ | ⟨g, off, cap, cur, rfl, hb, hg, hnc, hcm, hcs, htk⟩
      · exact absurd h0 hv
      · refine ⟨g, off, cap, rfl, fun j u hj => ?_⟩
        rw [← htk, List.getElem?_take] at hj
        split at hj
        · rw [List.getElem?_drop] at hj
          rw [Addr.add_lit]
          simp [World.cell?, hg]
          simpa using hj
        · cases hj
    have q := Lib.run_eql_slice_nil (P := Try.prog) w 22 3 (some ⟨g, off, none⟩) xs.length cap 0 0 Try.underlying22
    have hb1 : Below w.heap.size w (w.alloc (.cells #[] 3)) := (Below.refl _ _).alloc (Nat.le_refl _) _
    have hown := World.ownsRow_made (base := w.heap.size) (e := 3) (size := 1) w #[] 0 (Nat.le_refl _) (by unfold maxLen; omega) (by simp)
    have hcell1 : ∀ j u, (xs.map (Value.int .i64))[j]? = some u → (w.alloc (.cells #[] 3)).cell? ((⟨g, off, none⟩ : Addr).add j) = some u := fun j u hj =>
      (hb1.cell (by have := World.block_lt_of_cell? _ _ (hcell j u hj); exact this)).trans (hcell j u hj)
    have hone : ∀ u ∈ xs.map (Value.int .i64), u.oneCell' = true := ints_oneCell _ _
    have HO := Lib.hid hone; have HC := Lib.hid hcell1
    clear h hv hcell hcell1 hone
    go_enter Try.func22, Try.ntmps22
    go_wp2_with (at_builtin; refine wpList_append_own _ rfl _ _ 22 rfl w.heap.size 3 i0 (.int .i64 0) 1 8 Try.underlying22 hi hz0 hz1 hz2 rfl (by decide) _ _ _ rfl hown ⟨g, off, none⟩ xs.length cap _ rfl (by simp) HC.out HO.out (by unfold maxLen; omega) (by omega) (by simp) ?_)
    · intro v' w2 hown' hgrow _
      obtain ⟨a', c', rfl, _⟩ := (OwnsOff.of_own hown').slice
      have hb2 : Below w.heap.size w w2 := hb1.grown hgrow hb1.size (fun k hk => by cases hk; exact Nat.le_refl _)
      have HH := Lib.hid hown'; have HB := Lib.hid hb2
      clear hown' hgrow hb1 hown hb2
      go_wp2
      go_ret
      refine ⟨_, rfl, ?_, HB.out⟩
      have := HH.out
      simpa using this

/-- Over a round: the box bo holds a slice whose block is the one it had, or new; and all other cells stand as they stood. -/
def KeepsOut (bo : Nat) (O : TypeId) (W W' : World) : Prop :=
  W.heap.size ≤ W'.heap.size ∧ ∀ v, Boxed W bo O v → ∃ v', Boxed W' bo O v' ∧ (∀ g, v'.ownBlock = some g → v.ownBlock = some g ∨ W.heap.size ≤ g) ∧
    ∀ (k : Nat) (cs : Array Value) (t : TypeId) (m : Nat × Nat), W.heap[k]? = some (.cells cs t m) → k ≠ bo → v.ownBlock ≠ some k → W'.heap[k]? = some (.cells cs t m)
theorem KeepsOut.trans {bo : Nat} {O : TypeId} {A B C : World} (h : KeepsOut bo O A B) (k : KeepsOut bo O B C) : KeepsOut bo O A C := by
  refine ⟨Nat.le_trans h.1 k.1, fun v hv => ?_⟩
  obtain ⟨v', h1, h2, h3⟩ := h.2 v hv
  obtain ⟨v'', k1, k2, k3⟩ := k.2 v' h1
  refine ⟨v'', k1, fun g hg => ?_, fun i cs t m hi hne hv' => ?_⟩
  · rcases k2 g hg with e | e
    · exact h2 g e
    · exact .inr (Nat.le_trans h.1 e)
  · refine k3 i cs t m (h3 i cs t m hi hne hv') hne (fun e => ?_)
    rcases h2 i e with e | e
    · exact hv' e
    · have := (Array.getElem?_eq_some_iff.1 hi).1; omega
theorem keepsOut_put {bo : Nat} {O : TypeId} {W : World} {l : Nat} {o : Obj} (o' : Obj) (hl : W.heap[l]? = some o) (ho : o.isCells = false) : KeepsOut bo O W (W.putObj l o') :=
  ⟨by simp, fun v hv => ⟨v, (World.putObj_heap_other (fun e => by subst e; rw [show W.heap[bo]? = _ from hv] at hl; cases hl; cases ho)).trans hv, fun g hg => .inl hg,
    fun k cs t m hk _ _ => (World.putObj_heap_other (fun e => by subst e; rw [hl] at hk; cases hk; cases ho)).trans hk⟩⟩
theorem keepsOut_below {bo : Nat} {O : TypeId} {W W' : World} (hb : Below W.heap.size W W') : KeepsOut bo O W W' :=
  ⟨hb.size, fun v hv => ⟨v, (hb.block bo hv.lt).trans hv, fun g hg => .inl hg, fun k cs t m hk _ _ => (hb.block k (Array.getElem?_eq_some_iff.1 hk).1).trans hk⟩⟩
theorem grown_below {W W' : World} (hb : Below W.heap.size W W') : W.grownBy W' none := ⟨hb.os, hb.tape, hb.output, hb.size, fun k hk _ => hb.block k hk⟩
theorem abides_below {β : Type} {B : Nat} {J : β → World → Prop} (hJ : AbidesFrom B J) {s : β} {W W' : World} (h : J s W) (hb : Below W.heap.size W W') : J s W' :=
  hJ s W W' none h (grown_below hb) (fun r e => by cases e)
theorem cell_block {W : World} {b : Nat} {cs : Array Value} {t : TypeId} {m : Nat × Nat} {i : Nat} {v : Value} (h : W.heap[b]? = some (.cells cs t m)) (hv : cs[i]? = some v) : W.cell? ⟨b, i, none⟩ = some v := by
  simp [World.cell?, h, hv]
theorem own_cells {w : World} {base : Nat} {e : TypeId} {v : Value} {xs : List Int} (h : w.ownsRow base e 1 v xs.length (xs.map (Value.int .i64))) (hn : 0 < xs.length) :
    ∃ g cap cur, v = .slice (some ⟨g, 0, none⟩) xs.length cap ∧ base ≤ g ∧ w.heap[g]? = some (.cells cur e (0, 0)) ∧ ∀ k, k < xs.length → cur[k]? = some (.int .i64 (xs.getD k 0)) := by
  obtain ⟨_, ⟨_, h0⟩ | ⟨g, cap, cur, rfl, hb, hg, hnc, hcm, hcs, ht⟩⟩ := h
  · omega
  · refine ⟨g, cap, cur, rfl, hb, hg, fun k hk => ?_⟩
    have h1 : (xs.map (Value.int .i64))[k]? = some (.int .i64 (xs.getD k 0)) := by simp [List.getD_eq_getElem?_getD, hk]
    rw [← ht, List.getElem?_take] at h1
    split at h1
    · simpa using h1
    · cases h1

theorem keepsOut_store {W w1 : World} {bo : Nat} {O e : TypeId} {n₀ size k m : Nat} {v v' : Value} {xs ys : List Value} {tmp : Obj} (hb : Boxed W bo O v) (hte : O ≠ e) (hrow : OwnsOff W n₀ e size v k xs) (hown' : OwnsOff w1 n₀ e size v' m ys)
    (hg : (W.alloc tmp).grownBy w1 v.ownBlock) (hfr : ∀ g, v'.ownBlock = some g → v.ownBlock = some g ∨ W.heap.size + 1 ≤ g) : KeepsOut bo O W (w1.setCell ⟨bo, 0, none⟩ v') := by
  have hne : v.ownBlock ≠ some bo := fun hk => by
    obtain ⟨cs, hc⟩ := hrow.typed bo hk
    rw [show W.heap[bo]? = _ from hb] at hc; injection hc with hc; injection hc with _ hc; exact hte hc
  have hb1 : Boxed w1 bo O v := (hb.alloc tmp).kept hg (fun e => hne e.symm)
  refine ⟨by have := hg.size; simp [World.setCell] at this ⊢; omega, fun u hu => ?_⟩
  obtain rfl : u = v := by
    have := (show W.heap[bo]? = _ from hu).symm.trans hb
    simpa using this
  refine ⟨v', hb1.set v', fun g hg' => (hfr g hg').imp id (by omega), fun i cs t mm hi hne' hv' => ?_⟩
  rw [Below.heap_setCell _ _ _ _ (by simpa using hne')]
  have hil := (Array.getElem?_eq_some_iff.1 hi).1
  exact (hg.block i (by simp; omega) (fun e => hv' e.symm)).trans ((Below.heap_alloc W tmp i hil).trans hi)

/-- All hands back its closure, over a box that holds the pointer. -/
def GivesIter (w : World) (rb : Nat) (e : Ending) (w' : World) : Prop :=
  ∃ cb, e = .returned (.func (.func 21) #[] #[.pointer (some ⟨cb, 0, none⟩)]) ∧ w.heap.size ≤ cb ∧ Boxed w' cb 24 (.pointer (some ⟨rb, 0, none⟩)) ∧ Below w.heap.size w w'
theorem all_b (rb : Nat) (w : World) : Calls Try.prog 20 #[.pointer (some ⟨rb, 0, none⟩)] w (GivesIter w rb) := by
  go_enter Try.func20, Try.ntmps20
  go_wp2
  go_ret
  exact ⟨w.heap.size, rfl, Nat.le_refl _, heap_alloc_new w _, (Below.refl _ _).alloc (Nat.le_refl _) _⟩

theorem take_next (xs : List Int) (k : Nat) (h : k < xs.length) : xs.take (k + 1) = xs.take k ++ [xs.getD k 0] := by
  rw [List.take_succ_eq_append_getElem h]; simp [List.getD_eq_getElem?_getD, h]

set_option maxHeartbeats 1600000 in
theorem iter_stops (n : Nat) (hn : 1 ≤ n) (base rb cb : Nat) (most : Int) (v : Value) (xs : List Int) (hl : xs.length ≤ 1000000) (w : World) (hcb : Boxed w cb 24 (.pointer (some ⟨rb, 0, none⟩))) (hR : IRow w base rb most v xs)
    (bo : Nat) (O : TypeId) (v0 : Value) (hbo : Boxed w bo O v0) (hv0 : ∀ g, v0.ownBlock = some g → g < w.heap.size) :
    SeqStopsK Fence.wide n Try.prog 21 #[.pointer (some ⟨cb, 0, none⟩)] (fun x : Int => #[.int .i64 x]) (KeepsOut bo O) (fun ys => ys = xs) (fun pre => pre <+: xs) xs.length w := by
  intro lp J Jx W hW hJ hJx hY h0
  have hcW : Boxed W cb 24 (.pointer (some ⟨rb, 0, none⟩)) := (hW.block cb hcb.lt).trans hcb
  have hRW := hR.keptB hW
  have hoW : Boxed W bo O v0 := (hW.block bo hbo.lt).trans hbo
  have hvW : ∀ g, v0.ownBlock = some g → g < W.heap.size := fun g hg => Nat.lt_of_lt_of_le (hv0 g hg) hW.size
  have hs0 := hcW.cell
  have hs1 := hRW.c1
  obtain ⟨a, c, rfl, _⟩ := hRW.row.slice
  have HR := Lib.hid hRW
  have HV := Lib.hid hvW
  clear hR hRW hcb hcW hW hbo hv0 hvW
  refine callsIn_of_wp Try.func21 rfl trivial ?_ rfl
  simp only [Try.ntmps21, List.size_toArray, List.length_cons, List.length_nil, Nat.reduceAdd, Nat.reduceSub, Array.replicate_succ, Array.replicate_zero, List.push_toArray, List.append_toArray, List.nil_append, List.cons_append]
  gi_wp2_with fail
  refine ⟨trivial, (callsIn_wide.2 (clone_b base _ xs _ HR.out.row hl)).mono ?_⟩
  rintro e w1 ⟨vc, rfl, hown, hb1⟩
  have hJ1 := abides_below hJ h0 hb1
  have ho1 : Boxed w1 bo O v0 := (hb1.block bo hoW.lt).trans hoW
  by_cases hx : xs = []
  · subst hx
    obtain ⟨A', c', rfl, _⟩ := own_form hown
    clear hown hb1 ho1 h0 hoW
    gi_wp2
    gi_loopw [11] (fun ix wr => ix = .int .i64 0 ∧ wr = w1) (fun ix _ => 0)
    case atStart => exact ⟨rfl, rfl⟩
    case round =>
      obtain ⟨rfl, rfl⟩ := hrel
      gi_wp2
      go_end0
      exact ⟨⟨_, rfl⟩, .inl ⟨_, rfl, hJ1⟩⟩
  · have hpos : 0 < xs.length := List.length_pos_iff.2 hx
    obtain ⟨gc, cap, cur, rfl, hgc, hcur, hcells⟩ := own_cells hown hpos
    have hgne : gc ≠ bo := by have := hoW.lt; omega
    have hgv : v0.ownBlock ≠ some gc := fun e => by have := HV.out gc e; omega
    have HC := Lib.hid hcells
    clear hown hb1 h0 hoW hx hcells
    gi_wp2
    gi_loopw [11] (fun ix wr => ∃ k : Nat, k ≤ xs.length ∧ ix = .int .i64 k ∧ J (xs.take k) wr ∧ wr.heap[gc]? = some (.cells cur 3 (0, 0)) ∧ ∃ v, Boxed wr bo O v ∧ v.ownBlock ≠ some gc) (fun ix _ => xs.length - (intOf ix).toNat)
    case atStart => exact ⟨0, Nat.zero_le _, rfl, hJ1, hcur, v0, ho1, hgv⟩
    case round =>
      obtain ⟨k, hk, rfl, hJk, hcr, vk, hbk, hvk⟩ := hrel
      clear hJ1 hcur ho1 hgv
      by_cases hlt : k < xs.length
      · have hc := cell_block hcr (HC.out k hlt)
        have hnext := take_next xs k hlt
        have hpx : xs.take (k + 1) <+: xs := List.take_prefix _ _
        obtain ⟨x, hx⟩ : ∃ x, x = xs.getD k 0 := ⟨_, rfl⟩
        rw [← hx] at hc hnext
        obtain ⟨fn, tmps, assign, body, hy, hR⟩ := hY _ x wr hJk (by simp; omega)
        have HN := Lib.hid hnext; have HP := Lib.hid hpx; have HX := Lib.hid hx
        clear hnext hpx hx
        gi_wp2
        refine hR.mono ?_
        rintro e W5 (⟨rfl, hJ5, hk5⟩ | ⟨rfl, hJx5⟩)
        · obtain ⟨v5, h51, h52, h53⟩ := hk5.2 vk hbk
          have hc5 := h53 gc _ _ _ hcr hgne hvk
          have hv5 : v5.ownBlock ≠ some gc := fun e => by
            rcases h52 gc e with e | e
            · exact hvk e
            · have := (Array.getElem?_eq_some_iff.1 hcr).1; omega
          have HV5 := Lib.hid hv5
          clear hR hy h52 h53 hk5 hv5
          gi_wp2
          go_roundw
          case rel => exact ⟨k + 1, by omega, by go_num, by rw [HN.out]; exact hJ5, hc5, v5, h51, HV5.out⟩
          case measure => simp [intOf]; omega
        · clear hR hy
          gi_wp2
          refine bodyPost_ret (results_none rfl _ _ _) rfl ?_
          exact ⟨⟨_, rfl⟩, .inr ⟨_, by have := HP.out; rwa [HN.out] at this, hJx5⟩⟩
      · have hkk : xs.take k = xs := List.take_of_length_le (by omega)
        have HK := Lib.hid hkk
        clear hkk
        gi_wp2
        go_end0
        exact ⟨⟨_, rfl⟩, .inl ⟨_, HK.out, hJk⟩⟩
end Go.Proofs.Ytdoepdoeafpgkaa
