/- Texts of the ring, joined, what is used of them. No condition but those in the statements. -/
import Derived.BigQuiet
import Derived.BigRegion
import Derived.Deep.MidRow
import Derived.Deep.RegionHeld3
import Derived.Deep.Upon
import Derived.IntWalk
import Derived.LoopIn
import Derived.LoopNIn
import Derived.OwnWalkIn
import Derived.RangeFuncBound
import Derived.RangeFuncBox
import Derived.RangeFuncCalls
import Derived.RangeFuncLeaves
import Derived.RangeFuncNested
import Derived.Shelf.Abstract
import Derived.Shelf.RegionOpen
import Derived.TacticsInMore
import Derived.Test.YtfdgokkngejbhaaGreatQRIs
namespace Go.Proofs.YtfdgokkngejbhaaGreat
open Go.RowKit Go.Sort Go.Shelf
set_option linter.unusedVariables false
set_option linter.unusedSimpArgs false
set_option linter.unusedVariables false
set_option linter.unusedSimpArgs false
set_option maxRecDepth 100000
set_option maxHeartbeats 1600000
attribute [local go_sem] Oper.semAt_some
theorem msgS_tells (n : Nat) (hn : 1 ≤ n) (ob bn bf bo bd db m : Nat) (dof dc : Nat) (data : List Int) (hm : m ≤ 1000000) (w : World) (hbn : w.heap[bn]? = some (.cells #[.int .i64 (m : Int)] 3 (0, 0))) (hbf : w.heap[bf]? = some (.cells #[.func (.func 46) #[] #[.pointer (some ⟨bo, 0, none⟩), .pointer (some ⟨bd, 0, none⟩)]] 101 (0, 0))) (hbo : w.heap[bo]? = some (.cells #[.pointer (some ⟨ob, 0, none⟩)] 50 (0, 0))) (hbd : w.heap[bd]? = some (.cells #[.slice (some ⟨db, dof, none⟩) m dc] 30 (0, 0))) (hdb : ∃ cs mm, w.heap[db]? = some (.cells cs 34 mm) ∧ ∀ j, j < m → cs[dof + j]? = some (.int .u32 (data.getD j 0))) :
    Tells Fence.wide n Tryz.prog 81 #[.pointer (some ⟨bn, 0, none⟩), .pointer (some ⟨bf, 0, none⟩)] (fun v : Value => #[v]) Stands (fun pre v Y => IsWord ob pre.length (data.getD pre.length 0) w.heap.size v Y) (fun xs => xs.length = m) m w := by
  intro lp J W hW hJ hY h0
  have hSW : Stands w W := Stands.below hW
  have HST := Lib.hid hSW
  have s1 : W.cell? ⟨bn, 0, none⟩ = some (.int .i64 (m : Int)) := blk_cell (hSW.2 _ _ _ _ (by decide) (by decide) hbn) rfl
  refine callsIn_of_wp Tryz.func81 rfl trivial ?_ rfl
  simp only [Tryz.ntmps81, List.size_toArray, List.length_cons, List.length_nil, Nat.reduceAdd, Nat.reduceSub, Array.replicate_succ, Array.replicate_zero, List.push_toArray, List.append_toArray, List.nil_append, List.cons_append]
  gi_wp2
  gi_loopw [6] (fun ix wr => ∃ (k : Nat) (xs : List Value), k ≤ m ∧ ix = .int .i64 k ∧ Hid (xs.length = k) ∧ J xs wr ∧ Stands W wr ∧ W.heap.size ≤ wr.heap.size) (fun ix _ => m - (intOf ix).toNat)
  case atStart => exact ⟨0, [], Nat.zero_le _, rfl, rfl, h0, Stands.refl _, Nat.le_refl _⟩
  case round =>
    obtain ⟨k, xs, hk, rfl, hxl, hJk, hK, hsz⟩ := hrel
    have hT := HST.out.trans hK
    by_cases hlt : k < m
    · have c2 : wr.cell? ⟨bf, 0, none⟩ = some (.func (.func 46) #[] #[.pointer (some ⟨bo, 0, none⟩), .pointer (some ⟨bd, 0, none⟩)]) := blk_cell (hT.2 _ _ _ _ (by decide) (by decide) hbf) rfl
      have hbo2 := hT.2 _ _ _ _ (by decide) (by decide) hbo
      have HC := Lib.hid (by obtain ⟨cs, mm, hd1, hd2⟩ := hdb; exact snd1_b ob bo bd db dof m dc k (data.getD k 0) wr hbo2 (hT.2 _ _ _ _ (by decide) (by decide) hbd) (blk_cell (hT.2 _ _ _ _ (by decide) (by decide) hd1) (hd2 k hlt)) hlt)
      clear hbo2 s1
      gi_wp2_with fail
      refine ⟨trivial, (callsIn_wide.2 HC.out).mono ?_⟩
      rintro e w5 ⟨v, rfl, hv, hb5⟩
      have hJ5 : J xs w5 := hJ xs wr w5 none hJk (grown_of_below hb5) (fun r e => by cases e)
      have hwl : w.heap.size ≤ wr.heap.size := hT.1
      obtain ⟨fn, tmps, assign, body, hy, hR⟩ := hY xs v w5 hJ5 (by
        have := IsWord.mono hv hwl
        have e := hxl.out
        rw [e]; exact this) (by have := hxl.out; omega)
      have hK5 : Stands W w5 := hK.trans (Stands.below hb5)
      have hs5 : W.heap.size ≤ w5.heap.size := Nat.le_trans hsz hb5.size
      clear hv hJk hJ5 hb5 c2
      gi_wp2
      refine hR.mono ?_
      rintro e W6 ⟨rfl, hJ6, hk6⟩
      clear hR hy
      gi_wp2
      go_roundw
      case rel => exact ⟨k + 1, xs ++ [v], by omega, by go_num, Lib.hid (by rw [List.length_append, hxl.out]; rfl), hJ6, hK5.trans hk6, Nat.le_trans hs5 hk6.1⟩
      case measure => simp [intOf]; omega
    · have hkm : k = m := by omega
      have HX := Lib.hid (hxl.out.trans hkm)
      clear hkm hxl s1
      gi_wp2
      go_end0
      exact ⟨⟨_, rfl⟩, _, HX.out, hJk⟩
theorem msgG_tells (n : Nat) (hn : 1 ≤ n) (ob bn bf bo bd db m : Nat)  (hm : m ≤ 1000000) (w : World) (hbn : w.heap[bn]? = some (.cells #[.int .i64 (m : Int)] 3 (0, 0))) (hbf : w.heap[bf]? = some (.cells #[.func (.func 84) #[] #[.pointer (some ⟨bo, 0, none⟩), .pointer (some ⟨bd, 0, none⟩)]] 101 (0, 0))) (hbo : w.heap[bo]? = some (.cells #[.pointer (some ⟨ob, 0, none⟩)] 50 (0, 0))) (hbd : w.heap[bd]? = some (.cells #[.slice (some ⟨db, 0, none⟩) m m] 30 (0, 0))) :
    Tells Fence.wide n Tryz.prog 81 #[.pointer (some ⟨bn, 0, none⟩), .pointer (some ⟨bf, 0, none⟩)] (fun v : Value => #[v]) Stands (fun pre v Y => IsGet ob pre.length db m w.heap.size v Y) (fun xs => xs.length = m) m w := by
  intro lp J W hW hJ hY h0
  have hSW : Stands w W := Stands.below hW
  have HST := Lib.hid hSW
  have s1 : W.cell? ⟨bn, 0, none⟩ = some (.int .i64 (m : Int)) := blk_cell (hSW.2 _ _ _ _ (by decide) (by decide) hbn) rfl
  refine callsIn_of_wp Tryz.func81 rfl trivial ?_ rfl
  simp only [Tryz.ntmps81, List.size_toArray, List.length_cons, List.length_nil, Nat.reduceAdd, Nat.reduceSub, Array.replicate_succ, Array.replicate_zero, List.push_toArray, List.append_toArray, List.nil_append, List.cons_append]
  gi_wp2
  gi_loopw [6] (fun ix wr => ∃ (k : Nat) (xs : List Value), k ≤ m ∧ ix = .int .i64 k ∧ Hid (xs.length = k) ∧ J xs wr ∧ Stands W wr ∧ W.heap.size ≤ wr.heap.size) (fun ix _ => m - (intOf ix).toNat)
  case atStart => exact ⟨0, [], Nat.zero_le _, rfl, rfl, h0, Stands.refl _, Nat.le_refl _⟩
  case round =>
    obtain ⟨k, xs, hk, rfl, hxl, hJk, hK, hsz⟩ := hrel
    have hT := HST.out.trans hK
    by_cases hlt : k < m
    · have c2 : wr.cell? ⟨bf, 0, none⟩ = some (.func (.func 84) #[] #[.pointer (some ⟨bo, 0, none⟩), .pointer (some ⟨bd, 0, none⟩)]) := blk_cell (hT.2 _ _ _ _ (by decide) (by decide) hbf) rfl
      have hbo2 := hT.2 _ _ _ _ (by decide) (by decide) hbo
      have HC := Lib.hid (lln1_b ob bo bd db m k wr hbo2 (hT.2 _ _ _ _ (by decide) (by decide) hbd))
      clear hbo2 s1
      gi_wp2_with fail
      refine ⟨trivial, (callsIn_wide.2 HC.out).mono ?_⟩
      rintro e w5 ⟨v, rfl, hv, hb5⟩
      have hJ5 : J xs w5 := hJ xs wr w5 none hJk (grown_of_below hb5) (fun r e => by cases e)
      have hwl : w.heap.size ≤ wr.heap.size := hT.1
      obtain ⟨fn, tmps, assign, body, hy, hR⟩ := hY xs v w5 hJ5 (by
        have := IsGet.mono hv hwl
        have e := hxl.out
        rw [e]; exact this) (by have := hxl.out; omega)
      have hK5 : Stands W w5 := hK.trans (Stands.below hb5)
      have hs5 : W.heap.size ≤ w5.heap.size := Nat.le_trans hsz hb5.size
      clear hv hJk hJ5 hb5 c2
      gi_wp2
      refine hR.mono ?_
      rintro e W6 ⟨rfl, hJ6, hk6⟩
      clear hR hy
      gi_wp2
      go_roundw
      case rel => exact ⟨k + 1, xs ++ [v], by omega, by go_num, Lib.hid (by rw [List.length_append, hxl.out]; rfl), hJ6, hK5.trans hk6, Nat.le_trans hs5 hk6.1⟩
      case measure => simp [intOf]; omega
    · have hkm : k = m := by omega
      have HX := Lib.hid (hxl.out.trans hkm)
      clear hkm hxl s1
      gi_wp2
      go_end0
      exact ⟨⟨_, rfl⟩, _, HX.out, hJk⟩
end Go.Proofs.YtfdgokkngejbhaaGreat
