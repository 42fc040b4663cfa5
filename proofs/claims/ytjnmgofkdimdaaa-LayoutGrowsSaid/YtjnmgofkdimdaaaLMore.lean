/- With one channel more, behind all others. No condition but those in the statements. -/
import Derived.Test.YtjnmgofkdimdaaaLSame
import Derived.Test.YtjnmgofkdimdaaaAppN
import Derived.BigQuiet
namespace Go.Proofs.Ytjnmgofkdimdaaa
open Go.RowKit Go.Sort Go.ChangeShapes Go.WideShapes
set_option linter.unusedVariables false
set_option linter.unusedSimpArgs false

theorem row_app (l : List (List Int)) (x : List Int) {k : Nat} (h : k < l.length) : row (l ++ [x]) k = row l k := by
  rw [row_at (l := l) (List.getElem?_eq_getElem h)]
  exact row_at (by rw [List.getElem?_append_left h]; exact List.getElem?_eq_getElem h)
theorem row_last (l : List (List Int)) (x : List Int) : row (l ++ [x]) l.length = x := row_at (by simp)
theorem chanUp_app (l : List (List Int)) (x : List Int) : ∀ k, k ≤ l.length → chanUp (l ++ [x]) k = chanUp l k
  | 0, _ => rfl
  | k + 1, h => by
    show chanUp (l ++ [x]) k + srcN (row (l ++ [x]) k) + 1 = chanUp l k + srcN (row l k) + 1
    rw [chanUp_app l x k (by omega), row_app l x (by omega)]
/-- A configuration with one channel more. -/
def moreC (c : Cfg) (x : List Int) : Cfg := ⟨c.parts, c.chans ++ [x], c.len0, c.win0, c.len1, c.win1⟩
theorem before_more (c : Cfg) (x : List Int) {k : Nat} (h : k ≤ c.chans.length) : beforeN (moreC c x) k = beforeN c k := by
  show privUp c.parts c.parts.length + chanUp (c.chans ++ [x]) k = privUp c.parts c.parts.length + chanUp c.chans k
  rw [chanUp_app _ _ _ h]
theorem size_more {c : Cfg} {x : List Int} (h1 : acceptsB c = true) (h2 : acceptsB (moreC c x) = true) : sizeN (moreC c x) = sizeN c + srcN x + 1 := by
  unfold sizeN
  rw [if_pos h1, if_pos h2, show (moreC c x).chans.length = c.chans.length + 1 from by simp [moreC], beforeN_succ, before_more _ _ (Nat.le_refl _), show row (moreC c x).chans c.chans.length = x from row_last _ _]
theorem inter_congr {ls ld ms md : List (List Int)} : ∀ n, (∀ k, k < n → row ls k = row ms k ∧ row ld k = row md k) → interN ls ld n = interN ms md n
  | 0, _ => rfl
  | n + 1, h => by
    show interN ls ld n ++ [pr (row ls n), pr (row ld n)] = interN ms md n ++ [pr (row ms n), pr (row md n)]
    rw [inter_congr n (fun k hk => h k (by omega)), (h n (by omega)).1, (h n (by omega)).2]
theorem spans_more {c : Cfg} {x : List Int} (h1 : acceptsB c = true) (h2 : acceptsB (moreC c x) = true) : spansL (moreC c x) = spansL c ++ [[beforeN c c.chans.length, srcN x], [beforeN c c.chans.length + srcN x, 1]] := by
  have hl : (moreC c x).chans.length = c.chans.length + 1 := by simp [moreC]
  rw [← allS_two, ← allS_two]
  unfold allS
  rw [show PV (moreC c x) = pvL (moreC c x) (moreC c x).parts.length from if_pos h2, show SR (moreC c x) = srL (moreC c x) (moreC c x).chans.length from if_pos h2, show DS (moreC c x) = dsL (moreC c x) (moreC c x).chans.length from if_pos h2,
    show PV c = pvL c c.parts.length from if_pos h1, show SR c = srL c c.chans.length from if_pos h1, show DS c = dsL c c.chans.length from if_pos h1, srL_len, srL_len, hl]
  rw [show pvL (moreC c x) (moreC c x).parts.length = pvL c c.parts.length from rfl]
  have e1 : ∀ k, k < c.chans.length → row (srL (moreC c x) (c.chans.length + 1)) k = row (srL c c.chans.length) k ∧ row (dsL (moreC c x) (c.chans.length + 1)) k = row (dsL c c.chans.length) k := fun k hk => by
    rw [row_at (srL_at _ (show k < c.chans.length + 1 by omega)), row_at (dsL_at _ (show k < c.chans.length + 1 by omega)), row_at (srL_at c hk), row_at (dsL_at c hk), before_more _ _ (by omega), show row (moreC c x).chans k = row c.chans k from row_app _ _ hk]
    exact ⟨rfl, rfl⟩
  show List.map two ((pvL c c.parts.length).map pr ++ (interN (srL (moreC c x) (c.chans.length + 1)) (dsL (moreC c x) (c.chans.length + 1)) c.chans.length ++ [pr (row (srL (moreC c x) (c.chans.length + 1)) c.chans.length), pr (row (dsL (moreC c x) (c.chans.length + 1)) c.chans.length)])) = _
  rw [inter_congr _ e1, row_at (srL_at _ (show c.chans.length < c.chans.length + 1 by omega)), row_at (dsL_at _ (show c.chans.length < c.chans.length + 1 by omega)), before_more _ _ (Nat.le_refl _), show row (moreC c x).chans c.chans.length = x from row_last _ _]
  rw [← List.append_assoc, List.map_append]
  rfl
theorem cbox_of {W : World} {b : Nat} {c : Cfg} {x : CfgAt} {t : TypeId} (h : W.heap[b]? = some (.cells (cfgCells c x) t (0, 0))) : CBox W b c x := fun w' hb => by
  have hk := (hb.block b (Array.getElem?_eq_some_iff.1 h).1).trans h
  exact ⟨cell_blk hk rfl, cell_blk hk rfl, cell_blk hk rfl, cell_blk hk rfl, cell_blk hk rfl, cell_blk hk rfl⟩
theorem told99_cap (c : Cfg) (xa : CfgAt) (w : World) (hx : CfgIn w w.heap.size c xa) (wx : CfgWf c) (lx : CfgFew c) :
    Calls Try.prog 20 #[.agg (cfgCells c xa), .int .i64 99] w fun e w' => ∃ A cap, e = .returned (.slice A (spansL c).length cap) ∧ (spansL c).length ≤ cap ∧ RowN [.i64, .i64] w' w'.heap.size A (spansL c) ∧ Below w.heap.size w w' :=
  (told8_all c xa w hx wx lx).mono fun e w' h => by
    obtain ⟨v, rfl, hown, hb⟩ := h
    obtain ⟨A, cap, rfl, hc, _, hr, _, _⟩ := OwnsOff.rowN (ks := [.i64, .i64]) (l := (allS c).map two) (by rw [List.length_map]; exact hown) (by rw [allS_two]; exact spansL_wf c)
    rw [allS_two] at hc hr
    exact ⟨A, cap, by rw [allS_two], hc, hr, hb⟩
theorem Try.infoC : (Try.prog.info? 48).map (fun i => (i.zero, i.size, i.bytes)) = some (some (.agg #[.int .i64 0, .int .i64 0, .int .i64 0, .int .i64 0, .int .i64 0, .int .i64 0, .int .u32 0]), 7, 56) := by kernel_rfl
section
variable {P : Program} {ops : Array Oper} {rest : List Oper} {o : Oper} {a : Act} {Q : Exit → Act → World → Prop} {w : World}
/-- s[:i] behind a guard that wants it: by a run equation. -/
theorem wpList_uptoG (hwt : Region.wanted o (yielded ops a.tmps) = true) (t : TypeId) (s x : Operand) (ho : o.op = .slice t s none (some x) none) (v n r : Value) (hs : a.eval s = v) (hx : a.eval x = n) (hrun : (Instr.sliceAt t v none (some n) none).run P w = .ok r w)
    (h : wpList P ops Q rest (a.put o.dst r) w) : wpList P ops Q (o :: rest) a w := by
  refine wpList_step fun K hK' => ?_
  rw [if_pos hwt]
  unfold Oper.wp
  simp [execOp, ho, hs, hx, hrun, Result.andThen]
  exact hK' _ _ h
end
end Go.Proofs.Ytjnmgofkdimdaaa
