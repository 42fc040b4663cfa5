/- All: the layout's spans, as a contract. No condition but those in the statements. The iterator of spans as a contract: what it hands to a loop's rounds. No condition but those in the statements. told: what a loop over All gathers, as far as so many. No condition but those in the statements. Size, as a contract. No condition but those in the statements. -/
import Derived.Test.YtnemabgenaijhaaDoorLNt
import Derived.Test.YtnemabgenaijhaaDoorRAll8
import Derived.BigQuiet
import Derived.IntWalk
import Derived.Laws.EntriesVeiled
import Derived.Test.YtnemabgenaijhaaDoorAllF
import Derived.RangeFuncBox
import Derived.RangeFuncNested
import Derived.RangeFuncBound
import Derived.RangeFuncCalls
import Derived.RangeFuncLeaves
import Derived.Shelf.Abstract
import Derived.Shelf.RegionOpen
import Derived.OwnWalkIn
import Derived.TacticsInMore
import Derived.LoopNIn
import Derived.LoopIn
namespace Go.Proofs.YtnemabgenaijhaaDoor
open Go.RowKit Go.Sort Go.ChangeShapes Go.WideShapes
set_option linter.unusedVariables false
set_option linter.unusedSimpArgs false

/-- A span's two numbers, and back. -/
def pr (x : List Int) : Int × Int := (fld x 0, fld x 1)
def two (x : Int × Int) : List Int := [x.1, x.2]
/-- The first n pairs of two rows, in turn. -/
def interN (ls ld : List (List Int)) : Nat → List (Int × Int)
  | 0 => []
  | n + 1 => interN ls ld n ++ [pr (row ls n), pr (row ld n)]
theorem interN_len (ls ld : List (List Int)) : ∀ n, (interN ls ld n).length = 2 * n
  | 0 => rfl
  | n + 1 => by
    show (interN ls ld n ++ _).length = _
    rw [List.length_append, interN_len ls ld n]
    simp; omega
theorem interN_pre (ls ld : List (List Int)) {k : Nat} : ∀ {n}, k ≤ n → interN ls ld k <+: interN ls ld n
  | 0, h => by rw [show k = 0 by omega]; exact List.prefix_refl _
  | n + 1, h => by
    by_cases e : k = n + 1
    · subst e; exact List.prefix_refl _
    · exact (interN_pre ls ld (show k ≤ n by omega)).trans (List.prefix_append _ _)
/-- All spans of a configuration, one by one. -/
def allS (c : Cfg) : List (Int × Int) := (PV c).map pr ++ interN (SR c) (DS c) (SR c).length
/-- The closure that All hands back: its box holds the three rows. -/
structure SpansAt (w : World) (tb : Nat) (A1 A2 A3 : Option Addr) (k1 k2 k3 : Nat) (lp ls ld : List (List Int)) : Prop where
  box : w.heap[tb]? = some (.cells #[.slice A1 lp.length k1, .slice A2 ls.length k2, .slice A3 ld.length k3] 98 (0, 0))
  r1 : RowN [.i64, .i64] w w.heap.size A1 lp
  r2 : RowN [.i64, .i64] w w.heap.size A2 ls
  r3 : RowN [.i64, .i64] w w.heap.size A3 ld
/-- The block of a row, or another one. -/
def blkOf (A : Option Addr) (tb : Nat) : Nat := match A with | some a => a.block | none => tb
theorem RowN.keptBlk {ks : List IntKind} {w w' : World} {B : Nat} {A : Option Addr} {l : List (List Int)} {tb : Nat} (h : RowN ks w B A l) (hk : w'.heap[blkOf A tb]? = w.heap[blkOf A tb]?) : RowN ks w' B A l := fun hp => by
  obtain ⟨b, o, rfl, hb, hc⟩ := h hp
  refine ⟨b, o, rfl, hb, fun i x hx j v hv => ?_⟩
  rw [← hc i x hx j v hv]
  exact (show w'.cell? ⟨b, o + i * ks.length + j, none⟩ = w.cell? ⟨b, o + i * ks.length + j, none⟩ by simp [World.cell?, show w'.heap[b]? = w.heap[b]? from hk])
theorem blkOf_lt {ks : List IntKind} {w : World} {A : Option Addr} {l : List (List Int)} {tb : Nat} (h : RowN ks w w.heap.size A l) (hn : A = none ∨ 0 < l.length) (ht : tb < w.heap.size) : blkOf A tb < w.heap.size := by
  rcases hn with rfl | hn
  · exact ht
  · obtain ⟨b, o, rfl, hb, _⟩ := h hn
    exact hb
theorem own_lt {w : World} {base : Nat} {e : TypeId} {size n k : Nat} {A : Option Addr} {xs : List Value} (h : OwnsOff w base e size (.slice A n k) n xs) : ∀ a, A = some a → base ≤ a.block ∧ a.block < w.heap.size := fun a ha => by
  subst ha; exact h.lt a.block rfl
end Go.Proofs.YtnemabgenaijhaaDoor

namespace Go.Proofs.YtnemabgenaijhaaDoor
open Go.RowKit Go.Sort Go.Shelf
set_option linter.unusedVariables false
set_option linter.unusedSimpArgs false
set_option linter.unusedVariables false
attribute [local go_sem] Oper.semAt_some

theorem grown_below {W W' : World} (hb : Below W.heap.size W W') : W.grownBy W' none := ⟨hb.os, hb.tape, hb.output, hb.size, fun k hk _ => hb.block k hk⟩
theorem abides_below {β : Type} {B : Nat} {J : β → World → Prop} (hJ : AbidesFrom B J) {s : β} {W W' : World} (h : J s W) (hb : Below W.heap.size W W') : J s W' :=
  hJ s W W' none h (grown_below hb) (fun r e => by cases e)
theorem keepsB_below {bs : List Nat} {W W' : World} (hb : Below W.heap.size W W') (h : ∀ k ∈ bs, k < W.heap.size) : KeepsB bs W W' := ⟨hb.size, fun k hk => hb.block k (h k hk)⟩
theorem span_at {w : World} {B : Nat} {A : Option Addr} {l : List (List Int)} (h : RowN [.i64, .i64] w B A l) (hw : wfR [.i64, .i64] l) {i : Nat} (hi : i < l.length) :
    ∃ (b o : Nat) (x0 x1 : Int), A = some ⟨b, o, none⟩ ∧ pr (row l i) = (x0, x1) ∧ w.cell? ⟨b, o + i * 2, none⟩ = some (.int .i64 x0) ∧ w.cell? ⟨b, o + i * 2 + 1, none⟩ = some (.int .i64 x1) := by
  obtain ⟨b, o, x0, x1, hA, _, e1, _, k0⟩ := h.at2 hw hi
  obtain ⟨q0, q1⟩ := k0 w (Below.refl _ _)
  exact ⟨b, o, x0, x1, hA, by rw [row_at e1]; rfl, q0, q1⟩
theorem map_take {l : List (List Int)} {i : Nat} (hi : i < l.length) : (l.map pr).take i ++ [pr (row l i)] = (l.map pr).take (i + 1) := by
  have h1 : (l.map pr)[i]? = some (pr (row l i)) := by
    rw [List.getElem?_map, List.getElem?_eq_getElem hi, row_at (List.getElem?_eq_getElem hi)]
    rfl
  rw [List.take_add_one, h1]
  rfl
end Go.Proofs.YtnemabgenaijhaaDoor

namespace Go.Proofs.YtnemabgenaijhaaDoor
open Go.RowKit Go.Sort Go.Shelf
set_option linter.unusedVariables false
set_option linter.unusedSimpArgs false
set_option linter.unusedVariables false
attribute [local go_sem] Oper.semAt_some

theorem offOwn_put {W : World} {base : Nat} {e : TypeId} {size k : Nat} {v : Value} {xs : List Value} (h : OwnsOff W base e size v k xs) {l : Nat} {o : Obj} (o' : Obj) (hl : W.heap[l]? = some o) (ho : o.isCells = false) : OwnsOff (W.putObj l o') base e size v k xs :=
  h.kept (Only.of_grown (grownBy_putObj' W l o')) (fun g hg e' => by
    obtain ⟨cs, hc⟩ := h.typed g hg
    cases e'
    rw [hc] at hl; cases hl; cases ho)
/-- The cells of spans. -/
def scells (xs : List (Int × Int)) : List Value := rcells [.i64, .i64] (xs.map two)
theorem scells_app (xs : List (Int × Int)) (x : Int × Int) : scells (xs ++ [x]) = scells xs ++ [.int .i64 x.1, .int .i64 x.2] := by
  unfold scells
  rw [List.map_append, rcells_app]
  rfl
/-- A call that hands back a new list of spans, and turns nothing that was there. -/
def GivesSpans (w : World) (xs : List (Int × Int)) (e : Ending) (w' : World) : Prop := ∃ v, e = .returned v ∧ OwnsOff w' w.heap.size 75 2 v xs.length (scells xs) ∧ Below w.heap.size w w'
/-- Between two rounds: what has been gathered, in the box of 'out'; its row lies in a block from n1 on. -/
def TI8 (w : World) (n1 m : Nat) (pre : List (Int × Int)) (W : World) : Prop :=
  pre.length ≤ m ∧ Boxed W (w.heap.size + 1) 3 (.int .i64 m) ∧ (∃ v, Boxed W (w.heap.size + 2) 96 v ∧ OwnsOff W (w.heap.size + 2) 75 2 v pre.length (scells pre) ∧ ∀ g, v.ownBlock = some g → n1 ≤ g) ∧ n1 ≤ W.heap.size ∧ Below w.heap.size w W
/-- A round has left by the break. -/
def TX8 (w : World) (n1 m : Nat) (c : Code) (xs : List (Int × Int)) (W : World) : Prop :=
  c = .exit 0 ∧ ∃ pre x, xs = pre ++ [x] ∧ pre.length = m ∧ TI8 w n1 m pre W
theorem TI8.turn {w : World} {n₀ n1 m : Nat} (hn : w.heap.size ≤ n₀) : OwnFrom n₀ (TI8 w n1 m) := by
  rintro s W W' row ⟨h1, h2, ⟨v, h3, h4, h6⟩, h7, h5⟩ hg hr
  have keep : ∀ (k : Nat) (o : Obj), W.heap[k]? = some o → o.isCells = true → W'.heap[k]? = some o := fun k o hk ho =>
    (hg.block k (Array.getElem?_eq_some_iff.1 hk).1 (fun e => by obtain ⟨_, o', ho', hc⟩ := hr k e.symm; rw [hk] at ho'; cases ho'; rw [ho] at hc; cases hc)).trans hk
  refine ⟨h1, keep _ _ h2 rfl, ⟨v, keep _ _ h3 rfl, h4.kept (Only.of_grown hg) (fun g hg' e => ?_), h6⟩, Nat.le_trans h7 hg.size, h5.grown hg h5.size (fun k e => by have := (hr k e).1; omega)⟩
  obtain ⟨cs, hc⟩ := h4.typed g hg'
  obtain ⟨_, o', ho', hcc⟩ := hr g e.symm
  rw [hc] at ho'; cases ho'; cases hcc
theorem TX8.turn {w : World} {n₀ n1 m : Nat} (hn : w.heap.size ≤ n₀) (c : Code) : OwnFrom n₀ (TX8 w n1 m c) := by
  rintro s W W' row ⟨h1, pre, x, h2, h3, h4⟩ hg hr
  exact ⟨h1, pre, x, h2, h3, TI8.turn hn _ _ _ _ h4 hg hr⟩
theorem SR_DS (c : Cfg) : (SR c).length = (DS c).length := by
  unfold SR DS
  split
  · rw [srL_len, dsL_len]
  · rfl
theorem allS_len (c : Cfg) : (allS c).length ≤ 22 := by
  unfold allS
  rw [List.length_append, List.length_map, interN_len]
  cases hq : acceptsB c with
  | false => rw [show PV c = [] from if_neg (by rw [hq]; decide), show SR c = [] from if_neg (by rw [hq]; decide)]; simp
  | true =>
    have ha := accd_of hq
    have h1 := ha.parts
    have h2 := ha.chans
    rw [show PV c = pvL c c.parts.length from if_pos hq, show SR c = srL c c.chans.length from if_pos hq, pvL_len, srL_len]
    omega

end Go.Proofs.YtnemabgenaijhaaDoor

namespace Go.Proofs.YtnemabgenaijhaaDoor
open Go.RowKit Go.Sort Go.Shelf
set_option linter.unusedVariables false
set_option linter.unusedSimpArgs false
set_option linter.unusedVariables false
attribute [local go_sem] Oper.semAt_some

/-- The sizes of spans, summed as the machine sums. -/
def foldW (xs : List (Int × Int)) : Int := xs.foldl (fun a x => IntKind.i64.wrap (a + x.2)) 0
theorem foldW_app (xs : List (Int × Int)) (x : Int × Int) : foldW (xs ++ [x]) = IntKind.i64.wrap (foldW xs + x.2) := by simp [foldW, List.foldl_append]
theorem foldW_pv {c : Cfg} (h : Accd c) : ∀ n, n ≤ c.parts.length → foldW ((pvL c n).map pr) = privUp c.parts n
  | 0, _ => rfl
  | n + 1, hn => by
    have h1 := privUp_in h (n + 1) hn
    have h3 := h.parts
    rw [pvL_succ, List.map_append]
    show foldW ((pvL c n).map pr ++ [pr [privUp c.parts n, fld (row c.parts n) 1]]) = _
    rw [foldW_app, foldW_pv h n (by omega)]
    show IntKind.i64.wrap (privUp c.parts n + fld (row c.parts n) 1) = privUp c.parts n + fld (row c.parts n) 1
    have h2 : privUp c.parts (n + 1) = privUp c.parts n + fld (row c.parts n) 1 := rfl
    rw [h2] at h1
    exact IntWalk.i64_in _ (by omega)
theorem foldW_ch {c : Cfg} (h : Accd c) : ∀ k, k ≤ c.chans.length → foldW ((pvL c c.parts.length).map pr ++ interN (srL c c.chans.length) (dsL c c.chans.length) k) = beforeN c k
  | 0, _ => by
    show foldW ((pvL c c.parts.length).map pr ++ []) = _
    rw [List.append_nil, foldW_pv h _ (Nat.le_refl _), beforeN_zero]
  | k + 1, hk => by
    have h1 := beforeN_in h (k := k + 1) hk
    have h0 := beforeN_in h (k := k) (by omega)
    have hs := srcN_of h (i := k) (by omega)
    rw [beforeN_succ] at h1 ⊢
    show foldW ((pvL c c.parts.length).map pr ++ (interN (srL c c.chans.length) (dsL c c.chans.length) k ++ [pr (row (srL c c.chans.length) k), pr (row (dsL c c.chans.length) k)])) = _
    rw [row_at (srL_at c (by omega)), row_at (dsL_at c (by omega))]
    rw [show ∀ (a b : List (Int × Int)) (y z : Int × Int), a ++ (b ++ [y, z]) = ((a ++ b) ++ [y]) ++ [z] from fun a b y z => by simp]
    rw [foldW_app, foldW_app, foldW_ch h k (by omega)]
    show IntKind.i64.wrap (IntKind.i64.wrap (beforeN c k + srcN (row c.chans k)) + 1) = beforeN c k + srcN (row c.chans k) + 1
    rw [IntWalk.i64_in (beforeN c k + srcN (row c.chans k)) (by omega), IntWalk.i64_in (beforeN c k + srcN (row c.chans k) + 1) (by omega)]
theorem foldW_all (c : Cfg) : foldW (allS c) = sizeN c := by
  unfold allS sizeN
  cases hq : acceptsB c with
  | false =>
    rw [show PV c = [] from if_neg (by rw [hq]; decide), show SR c = [] from if_neg (by rw [hq]; decide), if_neg (by decide)]
    rfl
  | true =>
    rw [show PV c = pvL c c.parts.length from if_pos hq, show SR c = srL c c.chans.length from if_pos hq, show DS c = dsL c c.chans.length from if_pos hq, if_pos rfl, srL_len]
    exact foldW_ch (accd_of hq) _ (Nat.le_refl _)
/-- Between two rounds: the sum so far, in its box. -/
def TS8 (w : World) (n1 : Nat) (pre : List (Int × Int)) (W : World) : Prop := Boxed W (w.heap.size + 1) 3 (.int .i64 (foldW pre)) ∧ n1 ≤ W.heap.size ∧ Below w.heap.size w W
theorem TS8.turn {w : World} {n₀ n1 : Nat} (hn : w.heap.size ≤ n₀) : OwnFrom n₀ (TS8 w n1) := by
  rintro s W W' row ⟨h2, h7, h5⟩ hg hr
  exact ⟨(hg.block _ (Array.getElem?_eq_some_iff.1 h2).1 (fun e => by obtain ⟨_, o', ho', hc⟩ := hr _ e.symm; rw [show W.heap[w.heap.size + 1]? = _ from h2] at ho'; cases ho'; cases hc)).trans h2, Nat.le_trans h7 hg.size, h5.grown hg h5.size (fun k e => by have := (hr k e).1; omega)⟩
end Go.Proofs.YtnemabgenaijhaaDoor
