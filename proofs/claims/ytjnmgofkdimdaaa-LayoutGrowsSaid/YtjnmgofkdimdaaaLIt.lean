/- All: the layout's spans, as a contract. No condition but those in the statements. The iterator of spans as a contract: what it hands to a loop's rounds. No condition but those in the statements. told: what a loop over All gathers, as far as so many. No condition but those in the statements. Size, as a contract. No condition but those in the statements. -/
import Derived.Test.YtjnmgofkdimdaaaLNt
import Derived.Test.YtjnmgofkdimdaaaRAll8
import Derived.BigQuiet
import Derived.IntWalk
import Derived.Laws.EntriesVeiled
import Derived.Test.YtjnmgofkdimdaaaAllF
import Derived.RangeFuncBox
import Derived.RangeFuncNested
import Derived.RangeFuncBound
import Derived.RangeFuncCalls
import Derived.RangeFuncLeaves
import Derived.Shelf.Abstract
import Derived.Shelf.RegionOpen
import Derived.OwnWalkIn
import Derived.TacticsInMore
import Derived.LoopNIn
import Derived.LoopIn
namespace Go.Proofs.Ytjnmgofkdimdaaa
open Go.RowKit Go.Sort Go.ChangeShapes Go.WideShapes
set_option linter.unusedVariables false
set_option linter.unusedSimpArgs false

/-- A span's two numbers, and back. -/
def pr (x : List Int) : Int × Int := (fld x 0, fld x 1)
def two (x : Int × Int) : List Int := [x.1, x.2]
/-- The first n pairs of two rows, in turn. -/
def interN (ls ld : List (List Int)) : Nat → List (Int × Int)
  | 0 => []
  | n + 1 => interN ls ld n ++ [pr (row ls n), pr (row ld n)]
theorem interN_len (ls ld : List (List Int)) : ∀ n, (interN ls ld n).length = 2 * n
  | 0 => rfl
  | n + 1 => by
    show (interN ls ld n ++ _).length = _
    rw [List.length_append, interN_len ls ld n]
    simp; omega
theorem interN_pre (ls ld : List (List Int)) {k : Nat} : ∀ {n}, k ≤ n → interN ls ld k <+: interN ls ld n
  | 0, h => by rw [show k = 0 by omega]; exact List.prefix_refl _
  | n + 1, h => by
    by_cases e : k = n + 1
    · subst e; exact List.prefix_refl _
    · exact (interN_pre ls ld (show k ≤ n by omega)).trans (List.prefix_append _ _)
/-- All spans of a configuration, one by one. -/
def allS (c : Cfg) : List (Int × Int) := (PV c).map pr ++ interN (SR c) (DS c) (SR c).length
/-- The closure that All hands back: its box holds the three rows. -/
structure SpansAt (w : World) (tb : Nat) (A1 A2 A3 : Option Addr) (k1 k2 k3 : Nat) (lp ls ld : List (List Int)) : Prop where
  box : w.heap[tb]? = some (.cells #[.slice A1 lp.length k1, .slice A2 ls.length k2, .slice A3 ld.length k3] 60 (0, 0))
  r1 : RowN [.i64, .i64] w w.heap.size A1 lp
  r2 : RowN [.i64, .i64] w w.heap.size A2 ls
  r3 : RowN [.i64, .i64] w w.heap.size A3 ld
/-- The block of a row, or another one. -/
def blkOf (A : Option Addr) (tb : Nat) : Nat := match A with | some a => a.block | none => tb
theorem RowN.keptBlk {ks : List IntKind} {w w' : World} {B : Nat} {A : Option Addr} {l : List (List Int)} {tb : Nat} (h : RowN ks w B A l) (hk : w'.heap[blkOf A tb]? = w.heap[blkOf A tb]?) : RowN ks w' B A l := fun hp => by
  obtain ⟨b, o, rfl, hb, hc⟩ := h hp
  refine ⟨b, o, rfl, hb, fun i x hx j v hv => ?_⟩
  rw [← hc i x hx j v hv]
  exact (show w'.cell? ⟨b, o + i * ks.length + j, none⟩ = w.cell? ⟨b, o + i * ks.length + j, none⟩ by simp [World.cell?, show w'.heap[b]? = w.heap[b]? from hk])
theorem blkOf_lt {ks : List IntKind} {w : World} {A : Option Addr} {l : List (List Int)} {tb : Nat} (h : RowN ks w w.heap.size A l) (hn : A = none ∨ 0 < l.length) (ht : tb < w.heap.size) : blkOf A tb < w.heap.size := by
  rcases hn with rfl | hn
  · exact ht
  · obtain ⟨b, o, rfl, hb, _⟩ := h hn
    exact hb
def GivesIterS (w : World) (c : Cfg) (e : Ending) (w' : World) : Prop :=
  ∃ tb A1 A2 A3 k1 k2 k3, e = .returned (.func (.func 52) #[] #[.pointer (some ⟨tb, 0, none⟩)]) ∧ w.heap.size ≤ tb ∧ SpansAt w' tb A1 A2 A3 k1 k2 k3 (PV c) (SR c) (DS c) ∧ (∀ a, A1 = some a → w.heap.size ≤ a.block ∧ a.block < w'.heap.size) ∧ (∀ a, A2 = some a → w.heap.size ≤ a.block ∧ a.block < w'.heap.size) ∧ (∀ a, A3 = some a → w.heap.size ≤ a.block ∧ a.block < w'.heap.size) ∧ Below w.heap.size w w'
theorem own_lt {w : World} {base : Nat} {e : TypeId} {size n k : Nat} {A : Option Addr} {xs : List Value} (h : OwnsOff w base e size (.slice A n k) n xs) : ∀ a, A = some a → base ≤ a.block ∧ a.block < w.heap.size := fun a ha => by
  subst ha; exact h.lt a.block rfl
set_option maxRecDepth 100000 in
set_option maxHeartbeats 1600000 in
theorem all8_b (c : Cfg) (x : CfgAt) (w : World) (hx : CfgIn w w.heap.size c x) (wx : CfgWf c) (lx : CfgFew c) : Calls Try.prog 32 #[.agg (cfgCells c x)] w (GivesIterS w c) := by
  obtain ⟨W, HW, hB, -, bx⟩ := one_cbox w c x 29
  have hx := hx.later hB
  obtain ⟨c0, c1, c2, c3, c4, c5⟩ := bx _ (Below.refl _ _)
  have HLY := Lib.hid (lay_b c x W hx wx lx)
  have HB := Lib.hid hB
  simp only [cfgCells] at HLY ⊢
  clear hB hx
  go_enter Try.func32, Try.ntmps32
  go_wp2_with (rw [← HW.out])
  refine HLY.out.mono ?_
  rintro e w5 ⟨vp, vs, vd, rfl, r1, r2, r3, hb5⟩
  obtain ⟨A1, k1, rfl, _, _, n1, _, _⟩ := OwnsOff.rowN (ks := [.i64, .i64]) r1 (PV_wf c)
  obtain ⟨A2, k2, rfl, _, _, n2, _, _⟩ := OwnsOff.rowN (ks := [.i64, .i64]) r2 (SR_wf c)
  obtain ⟨A3, k3, rfl, _, _, n3, _, _⟩ := OwnsOff.rowN (ks := [.i64, .i64]) r3 (DS_wf c)
  have o1 := own_lt r1
  have o2 := own_lt r2
  have o3 := own_lt r3
  obtain ⟨w6, hw6⟩ : ∃ u, Hid (u = w5.alloc (.cells #[.slice A1 (PV c).length k1, .slice A2 (SR c).length k2, .slice A3 (DS c).length k3] 60)) := ⟨_, rfl⟩
  have hb6 : Below w5.heap.size w5 w6 := by rw [hw6.out]; exact (Below.refl _ _).alloc (Nat.le_refl _) _
  have hP6 : w6.heap[w5.heap.size]? = some (.cells #[.slice A1 (PV c).length k1, .slice A2 (SR c).length k2, .slice A3 (DS c).length k3] 60 (0, 0)) := by rw [hw6.out]; exact heap_alloc_new _ _
  have H : Hid (GivesIterS w c (.returned (.func (.func 52) #[] #[.pointer (some ⟨w5.heap.size, 0, none⟩)])) w6) := by
    have s0 := HB.out.size
    have s5 := hb5.size
    have s6 := hb6.size
    exact ⟨w5.heap.size, A1, A2, A3, k1, k2, k3, rfl, by omega, ⟨hP6, n1.later hb6, n2.later hb6, n3.later hb6⟩, (fun a ha => by have := o1 a ha; omega), (fun a ha => by have := o2 a ha; omega), (fun a ha => by have := o3 a ha; omega), HB.out.trans ((hb5.trans (hb6.mono hb5.size)).mono HB.out.size)⟩
  clear hb5 hb6 hP6 n1 n2 n3 r1 r2 r3 o1 o2 o3 c0 c1 c2 c3 c4 c5
  go_wp2_with (rw [← hw6.out])
  go_ret
  exact H.out
end Go.Proofs.Ytjnmgofkdimdaaa

namespace Go.Proofs.Ytjnmgofkdimdaaa
open Go.RowKit Go.Sort Go.Shelf
set_option linter.unusedVariables false
set_option linter.unusedSimpArgs false
set_option linter.unusedVariables false
attribute [local go_sem] Oper.semAt_some

theorem grown_below {W W' : World} (hb : Below W.heap.size W W') : W.grownBy W' none := ⟨hb.os, hb.tape, hb.output, hb.size, fun k hk _ => hb.block k hk⟩
theorem abides_below {β : Type} {B : Nat} {J : β → World → Prop} (hJ : AbidesFrom B J) {s : β} {W W' : World} (h : J s W) (hb : Below W.heap.size W W') : J s W' :=
  hJ s W W' none h (grown_below hb) (fun r e => by cases e)
theorem keepsB_below {bs : List Nat} {W W' : World} (hb : Below W.heap.size W W') (h : ∀ k ∈ bs, k < W.heap.size) : KeepsB bs W W' := ⟨hb.size, fun k hk => hb.block k (h k hk)⟩
theorem span_at {w : World} {B : Nat} {A : Option Addr} {l : List (List Int)} (h : RowN [.i64, .i64] w B A l) (hw : wfR [.i64, .i64] l) {i : Nat} (hi : i < l.length) :
    ∃ (b o : Nat) (x0 x1 : Int), A = some ⟨b, o, none⟩ ∧ pr (row l i) = (x0, x1) ∧ w.cell? ⟨b, o + i * 2, none⟩ = some (.int .i64 x0) ∧ w.cell? ⟨b, o + i * 2 + 1, none⟩ = some (.int .i64 x1) := by
  obtain ⟨b, o, x0, x1, hA, _, e1, _, k0⟩ := h.at2 hw hi
  obtain ⟨q0, q1⟩ := k0 w (Below.refl _ _)
  exact ⟨b, o, x0, x1, hA, by rw [row_at e1]; rfl, q0, q1⟩
theorem map_take {l : List (List Int)} {i : Nat} (hi : i < l.length) : (l.map pr).take i ++ [pr (row l i)] = (l.map pr).take (i + 1) := by
  have h1 : (l.map pr)[i]? = some (pr (row l i)) := by
    rw [List.getElem?_map, List.getElem?_eq_getElem hi, row_at (List.getElem?_eq_getElem hi)]
    rfl
  rw [List.take_add_one, h1]
  rfl
set_option maxRecDepth 100000 in
set_option maxHeartbeats 4000000 in
theorem iter8_stops (n : Nat) (hn : 1 ≤ n) (tb : Nat) (A1 A2 A3 : Option Addr) (k1 k2 k3 : Nat) (lp ls ld : List (List Int)) (wp : wfR [.i64, .i64] lp) (ws : wfR [.i64, .i64] ls) (wd : wfR [.i64, .i64] ld) (hp : lp.length ≤ 1000000) (hs : ls.length ≤ 1000000) (hsd : ls.length = ld.length) (w : World) (hF : SpansAt w tb A1 A2 A3 k1 k2 k3 lp ls ld)
    (u1 : ∀ a, A1 = some a → a.block < w.heap.size) (u2 : ∀ a, A2 = some a → a.block < w.heap.size) (u3 : ∀ a, A3 = some a → a.block < w.heap.size) :
    SeqStopsK Fence.wide n Try.prog 52 #[.pointer (some ⟨tb, 0, none⟩)] (fun x : Int × Int => #[.agg #[.int .i64 x.1, .int .i64 x.2]]) (KeepsB [tb, blkOf A1 tb, blkOf A2 tb, blkOf A3 tb]) (fun ys => ys = lp.map pr ++ interN ls ld ls.length) (fun pre => pre <+: lp.map pr ++ interN ls ld ls.length) (lp.length + 2 * ls.length) w := by
  intro lo J Jx W hW hJ hJx hY h0
  have htb : tb < W.heap.size := Nat.lt_of_lt_of_le (Array.getElem?_eq_some_iff.1 hF.box).1 hW.size
  have hbox : W.heap[tb]? = some (.cells #[.slice A1 lp.length k1, .slice A2 ls.length k2, .slice A3 ld.length k3] 60 (0, 0)) := (hW.block _ (Array.getElem?_eq_some_iff.1 hF.box).1).trans hF.box
  have hin : ∀ k ∈ [tb, blkOf A1 tb, blkOf A2 tb, blkOf A3 tb], k < W.heap.size := by
    have h1 : ∀ A : Option Addr, (∀ a, A = some a → a.block < w.heap.size) → blkOf A tb < W.heap.size := fun A hA => by
      cases A with
      | none => exact htb
      | some a => exact Nat.lt_of_lt_of_le (hA a rfl) hW.size
    intro k hk
    simp at hk
    rcases hk with rfl | rfl | rfl | rfl
    · exact htb
    · exact h1 A1 u1
    · exact h1 A2 u2
    · exact h1 A3 u3
  have HIN := Lib.hid hin; have HBX := Lib.hid hbox
  have R1 := Lib.hid (hF.r1.later hW); have R2 := Lib.hid (hF.r2.later hW); have R3 := Lib.hid (hF.r3.later hW)
  have ALL := Lib.hid (show ∀ pre, pre <+: lp.map pr → pre <+: lp.map pr ++ interN ls ld ls.length from fun pre h => h.trans (List.prefix_append _ _))
  have ALI := Lib.hid (show ∀ k, k ≤ ls.length → lp.map pr ++ interN ls ld k <+: lp.map pr ++ interN ls ld ls.length from fun k h => (List.prefix_append_right_inj _).2 (interN_pre ls ld h))
  have HSD := Lib.hid hsd
  have hs0 : W.cell? ⟨tb, 0, none⟩ = some (.slice A1 lp.length k1) := cell_blk hbox rfl
  clear hin hbox hF hW u1 u2 u3 hsd
  refine callsIn_of_wp Try.func52 rfl trivial ?_ rfl
  simp only [Try.ntmps52, List.size_toArray, List.length_cons, List.length_nil, Nat.reduceAdd, Nat.reduceSub, Array.replicate_succ, Array.replicate_zero, List.push_toArray, List.append_toArray, List.nil_append, List.cons_append]
  gi_wp2
  gi_loopw [9] (fun ix wr => ∃ i : Nat, i ≤ lp.length ∧ ix = .int .i64 i ∧ J ((lp.map pr).take i) wr ∧ KeepsB [tb, blkOf A1 tb, blkOf A2 tb, blkOf A3 tb] W wr) (fun ix _ => lp.length - (intOf ix).toNat)
  case atStart => exact ⟨0, Nat.zero_le _, rfl, h0, KeepsB.refl _ _⟩
  case round =>
    clear hs0
    obtain ⟨i, hi, rfl, hJk, hK⟩ := hrel
    by_cases hlt : i < lp.length
    · obtain ⟨b, o, x0, x1, rfl, hpr, q0, q1⟩ := span_at (R1.out.keptBlk (w' := wr) (tb := tb) (hK.2 _ (by simp))) wp hlt
      have hpx := map_take hlt
      rw [hpr] at hpx
      obtain ⟨wa, hwa⟩ : ∃ u, Hid (u = wr.alloc (.cells #[.int .i64 x0, .int .i64 x1] 36)) := ⟨_, rfl⟩
      have hba : Below wr.heap.size wr wa := by rw [hwa.out]; exact (Below.refl _ _).alloc (Nat.le_refl _) _
      have hPa : wa.heap[wr.heap.size]? = some (.cells #[.int .i64 x0, .int .i64 x1] 36 (0, 0)) := by rw [hwa.out]; exact heap_alloc_new _ _
      have p0 := cell_blk hPa (i := 0) rfl
      have p1 := cell_blk hPa (i := 1) rfl
      have hJa := abides_below hJ hJk hba
      have hKa := hK.trans (keepsB_below hba (fun k hk => Nat.lt_of_lt_of_le (HIN.out k hk) hK.1))
      have hlen : ((lp.map pr).take i).length < lp.length + 2 * ls.length := by rw [List.length_take]; omega
      have HP := Lib.hid hpx
      obtain ⟨fn, tmps, assign, body, hy, hR⟩ := hY _ (x0, x1) wa hJa hlen
      clear hpx hlen hba hPa hJk hK
      gi_wp2_with (rw [← hwa.out])
      refine hR.mono ?_
      rintro e W5 (⟨rfl, hJ5, hk5⟩ | ⟨rfl, hJx5⟩)
      · have hK5 := hKa.trans hk5
        clear hR hy q0 q1 hJa hKa hk5 p0 p1 hY
        gi_wp2
        go_roundw
        case rel => exact ⟨i + 1, by omega, by go_num, by rw [← HP.out]; exact hJ5, hK5⟩
        case measure => simp [intOf]; omega
      · clear hR hy q0 q1 hJa hKa p0 p1 hY
        gi_wp2
        refine bodyPost_ret (results_none rfl _ _ _) rfl ?_
        exact ⟨⟨_, rfl⟩, .inr ⟨_, ALL.out _ (by rw [HP.out]; exact List.take_prefix _ _), hJx5⟩⟩
    · have hii : i = lp.length := by omega
      subst hii
      rw [show (lp.map pr).take lp.length = lp.map pr from List.take_of_length_le (by simp)] at hJk
      have hJ0 := Lib.hid (show J (lp.map pr ++ interN ls ld 0) wr by simpa [interN] using hJk)
      have HK0 := Lib.hid hK
      have hbr := (hK.2 tb (by simp)).trans HBX.out
      have s1 := cell_blk hbr (i := 1) rfl
      clear hJk hbr hK
      gi_wp2
      clear s1
      gi_loopw [21] (fun ix wv => ∃ k : Nat, k ≤ ls.length ∧ ix = .int .i64 k ∧ J (lp.map pr ++ interN ls ld k) wv ∧ KeepsB [tb, blkOf A1 tb, blkOf A2 tb, blkOf A3 tb] W wv) (fun ix _ => ls.length - (intOf ix).toNat)
      case atStart => exact ⟨0, Nat.zero_le _, rfl, hJ0.out, HK0.out⟩
      case round =>
        clear hJ0 HK0
        obtain ⟨k, hk, rfl, hJk, hK⟩ := hrel
        by_cases hlt : k < ls.length
        · have hlt2 : k < ld.length := by have := HSD.out; omega
          have hbr := (hK.2 tb (by simp)).trans HBX.out
          have s1 := cell_blk hbr (i := 1) rfl
          obtain ⟨b, o, x0, x1, hA2, hpr, q0, q1⟩ := span_at (R2.out.keptBlk (w' := wr) (tb := tb) (hK.2 _ (by simp))) ws hlt
          subst hA2
          obtain ⟨z, hz⟩ : ∃ z, pr (row ld k) = z := ⟨_, rfl⟩
          have HN := Lib.hid (show lp.map pr ++ interN ls ld (k + 1) = (lp.map pr ++ interN ls ld k ++ [(x0, x1)]) ++ [z] by
            rw [← hpr, ← hz, List.append_assoc, List.append_assoc]
            rfl)
          have hlen : (lp.map pr ++ interN ls ld k).length < lp.length + 2 * ls.length := by rw [List.length_append, List.length_map, interN_len]; omega
          have HLN := Lib.hid (show (lp.map pr ++ interN ls ld k ++ [(x0, x1)]).length < lp.length + 2 * ls.length by rw [List.length_append, List.length_append, List.length_map, interN_len]; simp; omega)
          have HY := Lib.hid hY
          have HZ := Lib.hid hz
          obtain ⟨fn, tmps, assign, body, hy, hR⟩ := hY _ (x0, x1) wr hJk hlen
          have k0 : (0 : Int) ≤ (k : Int) := by omega
          have k1' : (k : Int) < (ls.length : Int) := by omega
          have k2' : (k : Int) < (ld.length : Int) := by omega
          clear hlen hbr hJk hz hpr hY
          gi_wp2
          refine hR.mono ?_
          rintro e W5 (⟨rfl, hJ5, hk5⟩ | ⟨rfl, hJx5⟩)
          · have hK5 := hK.trans hk5
            have hbr5 := (hK5.2 tb (by simp)).trans HBX.out
            have s2 := cell_blk hbr5 (i := 2) rfl
            obtain ⟨b2, o2, y0, y1, hA3, hpr2, r0, r1⟩ := span_at (R3.out.keptBlk (w' := W5) (tb := tb) (hK5.2 _ (by simp))) wd hlt2
            subst hA3
            obtain rfl : (y0, y1) = z := hpr2.symm.trans HZ.out
            obtain ⟨fn2, tmps2, assign2, body2, hy2, hR2⟩ := HY.out _ (y0, y1) W5 hJ5 HLN.out
            clear hR hy q0 q1 s1 hk5 hbr5 hK hJ5 hpr2
            gi_wp2
            refine hR2.mono ?_
            rintro e W6 (⟨rfl, hJ6, hk6⟩ | ⟨rfl, hJx6⟩)
            · have hK6 := hK5.trans hk6
              clear hR2 hy2 r0 r1 s2 hk6 hK5
              gi_wp2
              go_roundw
              case rel => exact ⟨k + 1, by omega, by go_num, by rw [HN.out]; exact hJ6, hK6⟩
              case measure => simp [intOf]; omega
            · clear hR2 hy2 r0 r1 s2 hK5
              gi_wp2
              refine bodyPost_ret (results_none rfl _ _ _) rfl ?_
              exact ⟨⟨_, rfl⟩, .inr ⟨_, by rw [← HN.out]; exact ALI.out (k + 1) (by omega), hJx6⟩⟩
          · clear hR hy q0 q1 s1 hK
            gi_wp2
            (try (refine ⟨(fun _ h => by cases h), ?_⟩; gi_wp2))
            refine bodyPost_ret (results_none rfl _ _ _) rfl ?_
            exact ⟨⟨_, rfl⟩, .inr ⟨_, (List.prefix_append _ [z]).trans (by rw [← HN.out]; exact ALI.out (k + 1) (by omega)), hJx5⟩⟩
        · have hkk : k = ls.length := by omega
          subst hkk
          gi_wp2
          go_end0
          exact ⟨⟨_, rfl⟩, .inl ⟨_, rfl, hJk⟩⟩
end Go.Proofs.Ytjnmgofkdimdaaa

namespace Go.Proofs.Ytjnmgofkdimdaaa
open Go.RowKit Go.Sort Go.Shelf
set_option linter.unusedVariables false
set_option linter.unusedSimpArgs false
set_option linter.unusedVariables false
attribute [local go_sem] Oper.semAt_some

theorem neq_nil8 (w : World) (fn : Fn) (xs ys : Array Value) : (binOp .neq 55 (.func fn xs ys) .nilFunc).run Try.prog w = .ok (.bool true) w := by
  have h : ∀ d : Nat, (Op.equalIn (d + 1) 55 (.func fn xs ys) .nilFunc).run Try.prog w = .ok false w := fun d => by
    simp [Op.equalIn, run_underlying Try.underlying55]
  simp only [binOp]
  simp [Op.equal, Op.maxDepth, h 9999]
theorem offOwn_put {W : World} {base : Nat} {e : TypeId} {size k : Nat} {v : Value} {xs : List Value} (h : OwnsOff W base e size v k xs) {l : Nat} {o : Obj} (o' : Obj) (hl : W.heap[l]? = some o) (ho : o.isCells = false) : OwnsOff (W.putObj l o') base e size v k xs :=
  h.kept (Only.of_grown (grownBy_putObj' W l o')) (fun g hg e' => by
    obtain ⟨cs, hc⟩ := h.typed g hg
    cases e'
    rw [hc] at hl; cases hl; cases ho)
/-- The cells of spans. -/
def scells (xs : List (Int × Int)) : List Value := rcells [.i64, .i64] (xs.map two)
theorem scells_app (xs : List (Int × Int)) (x : Int × Int) : scells (xs ++ [x]) = scells xs ++ [.int .i64 x.1, .int .i64 x.2] := by
  unfold scells
  rw [List.map_append, rcells_app]
  rfl
/-- A call that hands back a new list of spans, and turns nothing that was there. -/
def GivesSpans (w : World) (xs : List (Int × Int)) (e : Ending) (w' : World) : Prop := ∃ v, e = .returned v ∧ OwnsOff w' w.heap.size 36 2 v xs.length (scells xs) ∧ Below w.heap.size w w'
/-- Between two rounds: what has been gathered, in the box of 'out'; its row lies in a block from n1 on. -/
def TI8 (w : World) (n1 m : Nat) (pre : List (Int × Int)) (W : World) : Prop :=
  pre.length ≤ m ∧ Boxed W (w.heap.size + 1) 3 (.int .i64 m) ∧ (∃ v, Boxed W (w.heap.size + 2) 32 v ∧ OwnsOff W (w.heap.size + 2) 36 2 v pre.length (scells pre) ∧ ∀ g, v.ownBlock = some g → n1 ≤ g) ∧ n1 ≤ W.heap.size ∧ Below w.heap.size w W
/-- A round has left by the break. -/
def TX8 (w : World) (n1 m : Nat) (c : Code) (xs : List (Int × Int)) (W : World) : Prop :=
  c = .exit 0 ∧ ∃ pre x, xs = pre ++ [x] ∧ pre.length = m ∧ TI8 w n1 m pre W
theorem TI8.turn {w : World} {n₀ n1 m : Nat} (hn : w.heap.size ≤ n₀) : OwnFrom n₀ (TI8 w n1 m) := by
  rintro s W W' row ⟨h1, h2, ⟨v, h3, h4, h6⟩, h7, h5⟩ hg hr
  have keep : ∀ (k : Nat) (o : Obj), W.heap[k]? = some o → o.isCells = true → W'.heap[k]? = some o := fun k o hk ho =>
    (hg.block k (Array.getElem?_eq_some_iff.1 hk).1 (fun e => by obtain ⟨_, o', ho', hc⟩ := hr k e.symm; rw [hk] at ho'; cases ho'; rw [ho] at hc; cases hc)).trans hk
  refine ⟨h1, keep _ _ h2 rfl, ⟨v, keep _ _ h3 rfl, h4.kept (Only.of_grown hg) (fun g hg' e => ?_), h6⟩, Nat.le_trans h7 hg.size, h5.grown hg h5.size (fun k e => by have := (hr k e).1; omega)⟩
  obtain ⟨cs, hc⟩ := h4.typed g hg'
  obtain ⟨_, o', ho', hcc⟩ := hr g e.symm
  rw [hc] at ho'; cases ho'; cases hcc
theorem TX8.turn {w : World} {n₀ n1 m : Nat} (hn : w.heap.size ≤ n₀) (c : Code) : OwnFrom n₀ (TX8 w n1 m c) := by
  rintro s W W' row ⟨h1, pre, x, h2, h3, h4⟩ hg hr
  exact ⟨h1, pre, x, h2, h3, TI8.turn hn _ _ _ _ h4 hg hr⟩
theorem SR_DS (c : Cfg) : (SR c).length = (DS c).length := by
  unfold SR DS
  split
  · rw [srL_len, dsL_len]
  · rfl
theorem allS_len (c : Cfg) : (allS c).length ≤ 22 := by
  unfold allS
  rw [List.length_append, List.length_map, interN_len]
  cases hq : acceptsB c with
  | false => rw [show PV c = [] from if_neg (by rw [hq]; decide), show SR c = [] from if_neg (by rw [hq]; decide)]; simp
  | true =>
    have ha := accd_of hq
    have h1 := ha.parts
    have h2 := ha.chans
    rw [show PV c = pvL c c.parts.length from if_pos hq, show SR c = srL c c.chans.length from if_pos hq, pvL_len, srL_len]
    omega

set_option maxRecDepth 100000 in
set_option maxHeartbeats 4000000 in
theorem told8_in (n : Nat) (hn : 3 ≤ n) (c : Cfg) (xa : CfgAt) (m : Nat) (w : World) (hm : m ≤ 1000000) (hx : CfgIn w w.heap.size c xa) (wx : CfgWf c) (lx : CfgFew c) :
    CallsIn Fence.wide n Try.prog 20 #[.agg (cfgCells c xa), .int .i64 m] w (GivesSpans w ((allS c).take m)) := by
  have h1 : 1 ≤ n := by omega
  obtain ⟨i0, hi, hz0, hz1, hz2⟩ := info_parts Try.infoSp
  have hneq := neq_nil8
  have hl := allS_len c
  have hds : allS c = (PV c).map pr ++ interN (SR c) (DS c) (SR c).length := rfl
  have hlp := PV_len c
  have hls := SR_len c
  obtain ⟨W0, hW0⟩ : ∃ u, Hid (u = ((w.alloc (.cells (cfgCells c xa) 29)).alloc (.cells #[.int .i64 m] 3)).alloc (.cells #[.slice none 0 0] 32)) := ⟨_, rfl⟩
  have hb0 : Below w.heap.size w W0 := by rw [hW0.out]; exact (((Below.refl _ w).alloc (Nat.le_refl _) _).alloc (by simp) _).alloc (by simp; omega) _
  have hs0 : W0.heap.size = w.heap.size + 3 := by rw [hW0.out]; simp
  have hc0 : CBox W0 w.heap.size c xa := by rw [hW0.out]; exact (cbox_new w c xa 29).on (((Below.refl _ _).alloc (Nat.le_refl _) _).alloc (by simp) _)
  obtain ⟨c0, c1, c2, c3, c4, c5⟩ := hc0 W0 (Below.refl _ _)
  have bM : Boxed W0 (w.heap.size + 1) 3 (.int .i64 m) := by
    rw [hW0.out]
    have := Boxed.new (w.alloc (.cells (cfgCells c xa) 29)) 3 (.int .i64 m)
    rw [World.size_alloc] at this
    exact this.alloc _
  have bO : Boxed W0 (w.heap.size + 2) 32 (.slice none 0 0) := by
    rw [hW0.out]
    have := Boxed.new ((w.alloc (.cells (cfgCells c xa) 29)).alloc (.cells #[.int .i64 m] 3)) 32 (.slice none 0 0)
    rwa [World.size_alloc, World.size_alloc] at this
  have hall := all8_b c xa W0 (hx.later hb0) wx lx
  have HW0 := Lib.hid hb0; have HS0 := Lib.hid hs0; have HM := Lib.hid bM; have HO := Lib.hid bO; have HDS := Lib.hid hds; have HL := Lib.hid hl
  simp only [cfgCells] at hW0 c0 c1 c2 c3 c4 c5 hall ⊢
  clear hb0 hs0 bM bO hc0 hds hx hl
  refine callsIn_of_wp_marks Try.func20 rfl trivial ?_ rfl
  simp only [Try.ntmps20, List.size_toArray, List.length_cons, List.length_nil, Nat.reduceAdd, Nat.reduceSub, Array.replicate_succ, Array.replicate_zero, List.push_toArray, List.append_toArray, List.nil_append, List.cons_append]
  gi_wp2_with (rw [← hW0.out])
  refine ⟨trivial, (callsIn_wide.2 hall).mono ?_⟩
  intro e w1 hG
  obtain ⟨tb, A1, A2, A3, k1, k2, k3, rfl, htb, hF, o1, o2, o3, hb1⟩ := hG
  have hs0 := HS0.out
  have hn0 : w.heap.size + 3 ≤ w1.heap.size := by have := hb1.size; omega
  have hcl : w.heap.size + 3 ≤ tb ∧ tb < w1.heap.size := ⟨by omega, (Array.getElem?_eq_some_iff.1 hF.box).1⟩
  have hbs : ∀ k ∈ [tb, blkOf A1 tb, blkOf A2 tb, blkOf A3 tb], w.heap.size + 3 ≤ k ∧ k < w1.heap.size := by
    have h1 : ∀ A : Option Addr, (∀ a, A = some a → W0.heap.size ≤ a.block ∧ a.block < w1.heap.size) → w.heap.size + 3 ≤ blkOf A tb ∧ blkOf A tb < w1.heap.size := fun A hA => by
      cases A with
      | none => exact hcl
      | some a => have := hA a rfl; exact ⟨by show _ ≤ a.block; omega, this.2⟩
    intro k hk
    simp at hk
    rcases hk with rfl | rfl | rfl | rfl
    · exact hcl
    · exact h1 A1 o1
    · exact h1 A2 o2
    · exact h1 A3 o3
  have HBS := Lib.hid hbs
  have hBw : Below w.heap.size w w1 := HW0.out.trans (hb1.mono (by omega))
  have bM : Boxed w1 (w.heap.size + 1) 3 (.int .i64 m) := (hb1.block (w.heap.size + 1) (by omega)).trans HM.out
  have bO : Boxed w1 (w.heap.size + 2) 32 (.slice none 0 0) := (hb1.block (w.heap.size + 2) (by omega)).trans HO.out
  have hI0 : TI8 w w1.heap.size m [] w1 := ⟨Nat.zero_le _, bM, ⟨_, bO, OwnsOff.nil _ _ _ _, fun g hg => by cases hg⟩, Nat.le_refl _, hBw⟩
  have HN := Lib.hid (show (PV c).length + 2 * (SR c).length ≤ 22 by have h := HL.out; rw [HDS.out, List.length_append, List.length_map, interN_len] at h; exact h)
  clear bM bO hBw hb1 hs0 hall c0 c1 c2 c3 c4 c5 hbs
  gi_wp2
  refine wpIn_rangeFunc_ownH rfl h1 (gf := 52) (lb := #[.pointer (some ⟨tb, 0, none⟩)]) rfl trivial (enters_of Try.func52 (by kernel_rfl) rfl)
    (iter8_stops (n - 1) (by omega) tb A1 A2 A3 k1 k2 k3 (PV c) (SR c) (DS c) (PV_wf c) (SR_wf c) (DS_wf c) hlp hls (SR_DS c) w1 hF (fun a ha => (o1 a ha).2) (fun a ha => (o2 a ha).2) (fun a ha => (o3 a ha).2)) (fun h k => h.trans k) (fun W lp o o' hle _ _ _ => keepsB_put o' (fun k hk => by have := HBS.out k hk; omega)) (Below.refl _ _) (fun _ => rfl)
    (TI8 w w1.heap.size m) (TX8 w w1.heap.size m) (TI8.turn (by omega)) (TX8.turn (by omega)) hI0
    (fun x a' W => ∃ Bx, w1.heap.size ≤ Bx ∧ W.heap[Bx]? = some (.cells #[.int .i64 x.1, .int .i64 x.2] 36 (0, 0)) ∧ a' = { tmps := #[.agg #[.slice xa.pa c.parts.length xa.pc, .slice xa.ca c.chans.length xa.cc, .int .i64 c.len0, .slice xa.aa c.win0.length xa.ac, .int .i64 c.len1, .slice xa.ba c.win1.length xa.bc], .int .i64 m, .pointer (some ⟨w.heap.size, 0, none⟩), .pointer (some ⟨w.heap.size + 1, 0, none⟩), .slice none 0 0, .pointer (some ⟨w.heap.size + 1 + 1, 0, none⟩), .func (.func 52) #[] #[.pointer (some ⟨tb, 0, none⟩)], .pointer (some ⟨Bx, 0, none⟩), .agg #[.slice xa.pa c.parts.length xa.pc, .slice xa.ca c.chans.length xa.cc, .int .i64 c.len0, .slice xa.aa c.win0.length xa.ac, .int .i64 c.len1, .slice xa.ba c.win1.length xa.bc], .func (.func 52) #[] #[.pointer (some ⟨tb, 0, none⟩)], .func (.func 52) #[] #[.pointer (some ⟨tb, 0, none⟩)], .bool true, .func (.func 52) #[] #[.pointer (some ⟨tb, 0, none⟩)], .agg #[.int .i64 x.1, .int .i64 x.2], undef, undef, undef, undef, undef, undef, undef, undef, undef], defers := [] }) ?hAx ?assign ?body ?done ?stop
  case hAx =>
    rintro x a' s W W' row ⟨Bx, e1, e2, e3⟩ hg hr
    exact ⟨Bx, e1, (hg.block Bx (Array.getElem?_eq_some_iff.1 e2).1 (fun e => by obtain ⟨_, o', ho', hc⟩ := hr Bx e.symm; rw [e2] at ho'; cases ho'; cases hc)).trans e2, e3⟩
  case assign =>
    rintro lo pre x W K ⟨hp, bM, ⟨v, bO, hown, hv⟩, hnW, hB⟩ hK
    gi_wp2
    refine hK _ _ ((KeepsOthers.alloc _ _).from _) (keepsB_below ((Below.refl _ _).alloc (Nat.le_refl _) _) (fun k hk => by have := HBS.out k hk; omega)) ⟨hp, bM.alloc _, ⟨v, bO.alloc _, hown.keptB ((Below.refl _ _).alloc (Nat.le_refl _) _), hv⟩, by simp; omega, hB.alloc hB.size _⟩ ⟨W.heap.size, hnW, heap_alloc_new _ _, rfl⟩
  case body =>
    rintro lp pre x a' W hlo ⟨rr, hrr⟩ ⟨hpm, bM, ⟨v, bO, hown, hvn⟩, hnW, hB⟩ ⟨Bx, hBx, bX, rfl⟩ hlt2
    obtain ⟨A', c', rfl, hle, hmx⟩ := hown.slice
    have hcM := bM.cell
    have hcO := bO.cell
    have hfO := bO.frozen
    have x0 := cell_blk bX (i := 0) rfl
    have x1 := cell_blk bX (i := 1) rfl
    have hlt22 := HN.out
    by_cases hpe : pre.length = m
    · have ht : (m : Int) ≤ pre.length := by omega
      gi_wp2
      exact ⟨KeepsFrom.refl _ _, rfl, pre, x, rfl, hpe, hpm, bM, ⟨_, bO, hown, hvn⟩, hnW, hB⟩
    · have ht : ¬ (m : Int) ≤ pre.length := by omega
      have HV := Lib.hid hvn
      clear hvn
      gi_wp2_with (gi_at_builtin; refine wpListIn_append_off _ rfl _ _ 32 rfl (w.heap.size + 2) 36 i0 (.agg #[.int .i64 0, .int .i64 0]) 2 16 Try.underlying32 hi hz0 hz1 hz2 rfl (by decide) _ _ _ rfl (hown.keptB ((Below.refl _ _).alloc (Nat.le_refl _) _)) ⟨W.heap.size, 0, none⟩ 1 1 [.int .i64 x.1, .int .i64 x.2] rfl rfl (news_new' _ _ _) (by simp [Value.oneCell']) (by unfold maxLen; omega) (by omega) ?c5 ?_)
      case c5 => have := hB.size; have := bO.lt; simp; omega
      · intro v' w2 hown' hgrow hfr
        have hkt : KeepsB [tb, blkOf A1 tb, blkOf A2 tb, blkOf A3 tb] W (w2.setCell ⟨w.heap.size + 2, 0, none⟩ v') := keepsB_store (n1 := w1.heap.size) hgrow HV.out (fun k hk => by have := HBS.out k hk; omega) hnW
        have hvn' : ∀ g, v'.ownBlock = some g → w1.heap.size ≤ g := fun g hg => by
          rcases hfr g hg with h | h
          · exact HV.out g h
          · omega
        obtain ⟨hv1, hv2, hr2, hk2, hb2⟩ := Boxed.appendedOff bO (by decide) hown (by have := bO.lt; omega) (Nat.le_refl _) hown' hgrow
        obtain ⟨a', c', rfl, _⟩ := hown'.slice
        have hc1 := hv1.cell
        have hf1 := hv1.frozen
        have bM2 := (hb2.block (w.heap.size + 1) (by omega)).trans bM
        have hBB := hB.trans (hb2.mono (by omega))
        have hnW2 := Nat.le_trans hnW hkt.1
        have HV2 := Lib.hid hvn'
        clear hown' hgrow hcM hcO hfO hv1 hb2 hfr hvn' x0 x1
        gi_wp2
        exact ⟨hk2.from _, hkt, by simp; omega, bM2, ⟨_, hv2, by rw [scells_app, List.length_append]; exact hr2, HV2.out⟩, hnW2, hBB⟩
  case done =>
    rintro D ys W hD hys ⟨hpm, bM, ⟨v, bO, hown, _⟩, _, hB⟩ hK
    obtain ⟨a', c', rfl, _⟩ := hown.slice
    have hc := bO.cell
    have HYS := Lib.hid (show (allS c).take m = ys by rw [HDS.out, ← hys]; exact List.take_of_length_le hpm)
    clear hys
    gi_wp2
    refine ⟨by simp, .inl ⟨_, _, rfl, run_takeDeferred hK, ?_⟩⟩
    exact ⟨_, results_tmp rfl _ _ _, _, rfl, by rw [HYS.out]; exact OwnsOff.mono (base := w.heap.size + 2) (base' := w.heap.size) (offOwn_put hown _ hK rfl) (by omega), hB.trans (belowK_b (w := w) (Nat.le_refl _) W D _ _ (by omega) hK rfl rfl)⟩
  case stop =>
    rintro D cc ys W hD hpx ⟨rfl, pre, x, rfl, hpl, hpm, bM, ⟨v, bO, hown, _⟩, _, hB⟩ hK
    obtain ⟨a', c', rfl, _⟩ := hown.slice
    have hc := bO.cell
    have ht : (allS c).take m = pre := by
      obtain ⟨r, hr⟩ := hpx
      rw [HDS.out, ← hr, List.append_assoc, ← hpl, List.take_left]
    have HT := Lib.hid ht
    clear ht hpl hpx
    gi_wp2
    refine ⟨by simp, .inl ⟨_, _, rfl, run_takeDeferred hK, ?_⟩⟩
    exact ⟨_, results_tmp rfl _ _ _, _, rfl, by rw [HT.out]; exact OwnsOff.mono (base := w.heap.size + 2) (base' := w.heap.size) (offOwn_put hown _ hK rfl) (by omega), hB.trans (belowK_b (w := w) (Nat.le_refl _) W D _ _ (by omega) hK rfl rfl)⟩
theorem told8_b (c : Cfg) (xa : CfgAt) (m : Nat) (w : World) (hm : m ≤ 1000000) (hx : CfgIn w w.heap.size c xa) (wx : CfgWf c) (lx : CfgFew c) :
    Calls Try.prog 20 #[.agg (cfgCells c xa), .int .i64 m] w (GivesSpans w ((allS c).take m)) := callsIn_wide.1 (told8_in 5 (by omega) c xa m w hm hx wx lx)
theorem told8_all (c : Cfg) (xa : CfgAt) (w : World) (hx : CfgIn w w.heap.size c xa) (wx : CfgWf c) (lx : CfgFew c) :
    Calls Try.prog 20 #[.agg (cfgCells c xa), .int .i64 99] w (GivesSpans w (allS c)) := by
  have := told8_b c xa 99 w (by omega) hx wx lx
  rwa [List.take_of_length_le (by have := allS_len c; omega)] at this
end Go.Proofs.Ytjnmgofkdimdaaa

namespace Go.Proofs.Ytjnmgofkdimdaaa
open Go.RowKit Go.Sort Go.Shelf
set_option linter.unusedVariables false
set_option linter.unusedSimpArgs false
set_option linter.unusedVariables false
attribute [local go_sem] Oper.semAt_some

/-- The sizes of spans, summed as the machine sums. -/
def foldW (xs : List (Int × Int)) : Int := xs.foldl (fun a x => IntKind.i64.wrap (a + x.2)) 0
theorem foldW_app (xs : List (Int × Int)) (x : Int × Int) : foldW (xs ++ [x]) = IntKind.i64.wrap (foldW xs + x.2) := by simp [foldW, List.foldl_append]
theorem foldW_pv {c : Cfg} (h : Accd c) : ∀ n, n ≤ c.parts.length → foldW ((pvL c n).map pr) = privUp c.parts n
  | 0, _ => rfl
  | n + 1, hn => by
    have h1 := privUp_in h (n + 1) hn
    have h3 := h.parts
    rw [pvL_succ, List.map_append]
    show foldW ((pvL c n).map pr ++ [pr [privUp c.parts n, fld (row c.parts n) 1]]) = _
    rw [foldW_app, foldW_pv h n (by omega)]
    show IntKind.i64.wrap (privUp c.parts n + fld (row c.parts n) 1) = privUp c.parts n + fld (row c.parts n) 1
    have h2 : privUp c.parts (n + 1) = privUp c.parts n + fld (row c.parts n) 1 := rfl
    rw [h2] at h1
    exact IntWalk.i64_in _ (by omega)
theorem foldW_ch {c : Cfg} (h : Accd c) : ∀ k, k ≤ c.chans.length → foldW ((pvL c c.parts.length).map pr ++ interN (srL c c.chans.length) (dsL c c.chans.length) k) = beforeN c k
  | 0, _ => by
    show foldW ((pvL c c.parts.length).map pr ++ []) = _
    rw [List.append_nil, foldW_pv h _ (Nat.le_refl _), beforeN_zero]
  | k + 1, hk => by
    have h1 := beforeN_in h (k := k + 1) hk
    have h0 := beforeN_in h (k := k) (by omega)
    have hs := srcN_of h (i := k) (by omega)
    rw [beforeN_succ] at h1 ⊢
    show foldW ((pvL c c.parts.length).map pr ++ (interN (srL c c.chans.length) (dsL c c.chans.length) k ++ [pr (row (srL c c.chans.length) k), pr (row (dsL c c.chans.length) k)])) = _
    rw [row_at (srL_at c (by omega)), row_at (dsL_at c (by omega))]
    rw [show ∀ (a b : List (Int × Int)) (y z : Int × Int), a ++ (b ++ [y, z]) = ((a ++ b) ++ [y]) ++ [z] from fun a b y z => by simp]
    rw [foldW_app, foldW_app, foldW_ch h k (by omega)]
    show IntKind.i64.wrap (IntKind.i64.wrap (beforeN c k + srcN (row c.chans k)) + 1) = beforeN c k + srcN (row c.chans k) + 1
    rw [IntWalk.i64_in (beforeN c k + srcN (row c.chans k)) (by omega), IntWalk.i64_in (beforeN c k + srcN (row c.chans k) + 1) (by omega)]
theorem foldW_all (c : Cfg) : foldW (allS c) = sizeN c := by
  unfold allS sizeN
  cases hq : acceptsB c with
  | false =>
    rw [show PV c = [] from if_neg (by rw [hq]; decide), show SR c = [] from if_neg (by rw [hq]; decide), if_neg (by decide)]
    rfl
  | true =>
    rw [show PV c = pvL c c.parts.length from if_pos hq, show SR c = srL c c.chans.length from if_pos hq, show DS c = dsL c c.chans.length from if_pos hq, if_pos rfl, srL_len]
    exact foldW_ch (accd_of hq) _ (Nat.le_refl _)
/-- Between two rounds: the sum so far, in its box. -/
def TS8 (w : World) (n1 : Nat) (pre : List (Int × Int)) (W : World) : Prop := Boxed W (w.heap.size + 1) 3 (.int .i64 (foldW pre)) ∧ n1 ≤ W.heap.size ∧ Below w.heap.size w W
theorem TS8.turn {w : World} {n₀ n1 : Nat} (hn : w.heap.size ≤ n₀) : OwnFrom n₀ (TS8 w n1) := by
  rintro s W W' row ⟨h2, h7, h5⟩ hg hr
  exact ⟨(hg.block _ (Array.getElem?_eq_some_iff.1 h2).1 (fun e => by obtain ⟨_, o', ho', hc⟩ := hr _ e.symm; rw [show W.heap[w.heap.size + 1]? = _ from h2] at ho'; cases ho'; cases hc)).trans h2, Nat.le_trans h7 hg.size, h5.grown hg h5.size (fun k e => by have := (hr k e).1; omega)⟩
set_option maxRecDepth 100000 in
set_option maxHeartbeats 4000000 in
theorem size8_in (n : Nat) (hn : 3 ≤ n) (c : Cfg) (xa : CfgAt) (w : World) (hx : CfgIn w w.heap.size c xa) (wx : CfgWf c) (lx : CfgFew c) :
    CallsIn Fence.wide n Try.prog 11 #[.agg (cfgCells c xa)] w fun e w' => e = .returned (.int .i64 (sizeN c)) ∧ Below w.heap.size w w' := by
  have h1 : 1 ≤ n := by omega
  have hlp := PV_len c
  have hls := SR_len c
  obtain ⟨W0, hW0⟩ : ∃ u, Hid (u = (w.alloc (.cells (cfgCells c xa) 29)).alloc (.cells #[.int .i64 0] 3)) := ⟨_, rfl⟩
  have hb0 : Below w.heap.size w W0 := by rw [hW0.out]; exact ((Below.refl _ w).alloc (Nat.le_refl _) _).alloc (by simp) _
  have hs0 : W0.heap.size = w.heap.size + 2 := by rw [hW0.out]; simp
  have hc0 : CBox W0 w.heap.size c xa := by rw [hW0.out]; exact (cbox_new w c xa 29).on ((Below.refl _ _).alloc (Nat.le_refl _) _)
  obtain ⟨c0, c1, c2, c3, c4, c5⟩ := hc0 W0 (Below.refl _ _)
  have bM : Boxed W0 (w.heap.size + 1) 3 (.int .i64 0) := by
    rw [hW0.out]
    have := Boxed.new (w.alloc (.cells (cfgCells c xa) 29)) 3 (.int .i64 0)
    rwa [World.size_alloc] at this
  have hall := all8_b c xa W0 (hx.later hb0) wx lx
  have HW0 := Lib.hid hb0; have HS0 := Lib.hid hs0; have HM := Lib.hid bM
  simp only [cfgCells] at hW0 c0 c1 c2 c3 c4 c5 hall ⊢
  clear hb0 hs0 bM hc0 hx
  refine callsIn_of_wp_marks Try.func11 rfl trivial ?_ rfl
  simp only [Try.ntmps11, List.size_toArray, List.length_cons, List.length_nil, Nat.reduceAdd, Nat.reduceSub, Array.replicate_succ, Array.replicate_zero, List.push_toArray, List.append_toArray, List.nil_append, List.cons_append]
  have C := And.intro c0 (And.intro c1 (And.intro c2 (And.intro c3 (And.intro c4 c5))))
  clear c0 c1 c2 c3 c4 c5
  rw [hW0.out] at C
  obtain ⟨c0, c1, c2, c3, c4, c5⟩ := C
  gi_wp2
  rw [← hW0.out]
  refine ⟨trivial, (callsIn_wide.2 hall).mono ?_⟩
  intro e w1 hG
  obtain ⟨tb, A1, A2, A3, k1, k2, k3, rfl, htb, hF, o1, o2, o3, hb1⟩ := hG
  have hs0 := HS0.out
  have hn0 : w.heap.size + 2 ≤ w1.heap.size := by have := hb1.size; omega
  have hcl : w.heap.size + 2 ≤ tb ∧ tb < w1.heap.size := ⟨by omega, (Array.getElem?_eq_some_iff.1 hF.box).1⟩
  have hbs : ∀ k ∈ [tb, blkOf A1 tb, blkOf A2 tb, blkOf A3 tb], w.heap.size + 2 ≤ k ∧ k < w1.heap.size := by
    have h1 : ∀ A : Option Addr, (∀ a, A = some a → W0.heap.size ≤ a.block ∧ a.block < w1.heap.size) → w.heap.size + 2 ≤ blkOf A tb ∧ blkOf A tb < w1.heap.size := fun A hA => by
      cases A with
      | none => exact hcl
      | some a => have := hA a rfl; exact ⟨by show _ ≤ a.block; omega, this.2⟩
    intro k hk
    simp at hk
    rcases hk with rfl | rfl | rfl | rfl
    · exact hcl
    · exact h1 A1 o1
    · exact h1 A2 o2
    · exact h1 A3 o3
  have HBS := Lib.hid hbs
  have hBw : Below w.heap.size w w1 := HW0.out.trans (hb1.mono (by omega))
  have bM : Boxed w1 (w.heap.size + 1) 3 (.int .i64 0) := (hb1.block (w.heap.size + 1) (by omega)).trans HM.out
  have hI0 : TS8 w w1.heap.size [] w1 := ⟨bM, Nat.le_refl _, hBw⟩
  clear bM hBw hb1 hs0 hall c0 c1 c2 c3 c4 c5 hbs
  gi_wp2
  refine wpIn_rangeFunc_ownH rfl h1 (gf := 52) (lb := #[.pointer (some ⟨tb, 0, none⟩)]) rfl trivial (enters_of Try.func52 (by kernel_rfl) rfl)
    (iter8_stops (n - 1) (by omega) tb A1 A2 A3 k1 k2 k3 (PV c) (SR c) (DS c) (PV_wf c) (SR_wf c) (DS_wf c) hlp hls (SR_DS c) w1 hF (fun a ha => (o1 a ha).2) (fun a ha => (o2 a ha).2) (fun a ha => (o3 a ha).2)) (fun h k => h.trans k) (fun W lp o o' hle _ _ _ => keepsB_put o' (fun k hk => by have := HBS.out k hk; omega)) (Below.refl _ _) (fun _ => rfl)
    (TS8 w w1.heap.size) (fun _ _ _ => False) (TS8.turn (by omega)) (fun _ _ _ _ _ h _ _ => h.elim) hI0
    (fun x a' W => ∃ Bx, w1.heap.size ≤ Bx ∧ W.heap[Bx]? = some (.cells #[.int .i64 x.1, .int .i64 x.2] 36 (0, 0)) ∧ a' = { tmps := #[.agg #[.slice xa.pa c.parts.length xa.pc, .slice xa.ca c.chans.length xa.cc, .int .i64 c.len0, .slice xa.aa c.win0.length xa.ac, .int .i64 c.len1, .slice xa.ba c.win1.length xa.bc], .pointer (some ⟨w.heap.size, 0, none⟩), .int .i64 0, .pointer (some ⟨w.heap.size + 1, 0, none⟩), .pointer (some ⟨Bx, 0, none⟩), .agg #[.slice xa.pa c.parts.length xa.pc, .slice xa.ca c.chans.length xa.cc, .int .i64 c.len0, .slice xa.aa c.win0.length xa.ac, .int .i64 c.len1, .slice xa.ba c.win1.length xa.bc], .func (.func 52) #[] #[.pointer (some ⟨tb, 0, none⟩)], .agg #[.int .i64 x.1, .int .i64 x.2], undef, undef, undef, undef, undef], defers := [] }) ?hAx ?assign ?body ?done ?stop
  case hAx =>
    rintro x a' s W W' row ⟨Bx, e1, e2, e3⟩ hg hr
    exact ⟨Bx, e1, (hg.block Bx (Array.getElem?_eq_some_iff.1 e2).1 (fun e => by obtain ⟨_, o', ho', hc⟩ := hr Bx e.symm; rw [e2] at ho'; cases ho'; cases hc)).trans e2, e3⟩
  case assign =>
    rintro lo pre x W K ⟨bM, hnW, hB⟩ hK
    gi_wp2
    refine hK _ _ ((KeepsOthers.alloc _ _).from _) (keepsB_below ((Below.refl _ _).alloc (Nat.le_refl _) _) (fun k hk => by have := HBS.out k hk; omega)) ⟨bM.alloc _, by simp; omega, hB.alloc hB.size _⟩ ⟨W.heap.size, hnW, heap_alloc_new _ _, rfl⟩
  case body =>
    rintro lp pre x a' W hlo ⟨rr, hrr⟩ ⟨bM, hnW, hB⟩ ⟨Bx, hBx, bX, rfl⟩ hlt2
    have hcM := bM.cell
    have hfM := bM.frozen
    have x1 := cell_blk bX (i := 1) rfl
    have H1 := Lib.hid bM; have H2 := Lib.hid hB; have H3 := Lib.hid hnW
    obtain ⟨z, hz⟩ : ∃ z, IntKind.i64.wrap (foldW pre + x.2) = z := ⟨_, rfl⟩
    have HZ := Lib.hid hz
    clear bM hB hnW
    gi_wp2
    exact ⟨(KeepsOthers.setCell _ _ _).from _, keepsB_set (fun k hk => by have := HBS.out k hk; omega), by rw [foldW_app, HZ.out]; exact H1.out.set _, by simpa [World.setCell] using H3.out, H2.out.setCell (by simp) _⟩
  case done =>
    rintro D ys W hD hys ⟨bM, hnW, hB⟩ hK
    have hcM := bM.cell
    have HX := Lib.hid (show foldW ys = sizeN c by rw [← foldW_all, hys]; rfl)
    have H2 := Lib.hid hB
    clear hys hB bM
    gi_wp2
    refine ⟨by simp, .inl ⟨_, _, rfl, run_takeDeferred hK, ?_⟩⟩
    exact ⟨_, results_tmp rfl _ _ _, by rw [← HX.out]; rfl, H2.out.trans (belowK_b (w := w) (Nat.le_refl _) W D _ _ (by omega) hK rfl rfl)⟩
  case stop =>
    rintro D cc ys W hD hpx h hK
    exact h.elim
theorem size8_b (c : Cfg) (xa : CfgAt) (w : World) (hx : CfgIn w w.heap.size c xa) (wx : CfgWf c) (lx : CfgFew c) : Calls Try.prog 11 #[.agg (cfgCells c xa)] w fun e w' => e = .returned (.int .i64 (sizeN c)) ∧ Below w.heap.size w w' := callsIn_wide.1 (size8_in 5 (by omega) c xa w hx wx lx)
end Go.Proofs.Ytjnmgofkdimdaaa
