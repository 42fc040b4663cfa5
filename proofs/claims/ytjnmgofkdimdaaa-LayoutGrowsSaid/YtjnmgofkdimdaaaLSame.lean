/- The spans that are told are the document's. No condition but those in the statements. -/
import Derived.Test.YtjnmgofkdimdaaaLIt
import Derived.Test.YtjnmgofkdimdaaaSameE
import Derived.BigQuiet
import Derived.IntWalk
namespace Go.Proofs.Ytjnmgofkdimdaaa
open Go.RowKit Go.Sort Go.ChangeShapes Go.WideShapes
set_option linter.unusedVariables false
set_option linter.unusedSimpArgs false

theorem two_pr {q : List Int} (h : wfN [.i64, .i64] q) : two (pr q) = q := by
  obtain ⟨x0, x1, rfl, _⟩ := wfN2 h
  rfl
theorem map_two_pr {l : List (List Int)} (h : wfR [.i64, .i64] l) : (l.map pr).map two = l := by
  rw [List.map_map]
  conv => rhs; rw [← List.map_id l]
  exact List.map_congr_left fun q hq => two_pr (h q hq)
theorem pair_two (x : Int × Int) : pair x = two x := rfl
theorem privL_pv {c : Cfg} (hq : acceptsB c = true) : ∀ n, n ≤ c.parts.length → privL c n = pvL c n
  | 0, _ => rfl
  | n + 1, h => by
    rw [privL_succ, pvL_succ, privL_pv hq n (by omega), ← nthS_pv, nthS_at (show (PV c)[n]? = some [privUp c.parts n, fld (row c.parts n) 1] by rw [show PV c = pvL c c.parts.length from if_pos hq]; exact pvL_at c (by omega))]
    rfl
theorem chanL_in {c : Cfg} (hq : acceptsB c = true) : ∀ k, k ≤ c.chans.length → chanL c k = (interN (SR c) (DS c) k).map two
  | 0, _ => rfl
  | k + 1, h => by
    have h1 : (SR c)[k]? = some [beforeN c k, srcN (row c.chans k)] := by rw [show SR c = srL c c.chans.length from if_pos hq]; exact srL_at c (by omega)
    have h2 : (DS c)[k]? = some [beforeN c k + srcN (row c.chans k), 1] := by rw [show DS c = dsL c c.chans.length from if_pos hq]; exact dsL_at c (by omega)
    show chanL c k ++ [pair (srcSpan c (k : Int)), pair (dstSpan c (k : Int))] = (interN (SR c) (DS c) k ++ [pr (row (SR c) k), pr (row (DS c) k)]).map two
    rw [List.map_append, chanL_in hq k (by omega), ← nthS_sr, ← nthS_ds, nthS_at h1, nthS_at h2, row_at h1, row_at h2]
    rfl
/-- All spans, as the document tells them. -/
theorem allS_two (c : Cfg) : (allS c).map two = spansL c := by
  unfold allS spansL
  cases hq : acceptsB c with
  | false => rw [show PV c = [] from if_neg (by rw [hq]; decide), show SR c = [] from if_neg (by rw [hq]; decide), if_neg (by decide)]; rfl
  | true =>
    have hS : SR c = srL c c.chans.length := if_pos hq
    rw [if_pos rfl, List.map_append, map_two_pr (PV_wf c), show PV c = pvL c c.parts.length from if_pos hq, privL_pv hq _ (Nat.le_refl _), chanL_in hq _ (Nat.le_refl _)]
    rw [show (SR c).length = c.chans.length by rw [hS, srL_len]]
theorem inter_wf {ls ld : List (List Int)} (ws : wfR [.i64, .i64] ls) (wd : wfR [.i64, .i64] ld) : ∀ n, n ≤ ls.length → n ≤ ld.length → wfR [.i64, .i64] ((interN ls ld n).map two)
  | 0, _, _ => fun q hq => by cases hq
  | n + 1, h1, h2 => fun q hq => by
    have e1 : ls[n]? = some (row ls n) := by rw [row_at (List.getElem?_eq_getElem (by omega))]; exact List.getElem?_eq_getElem (by omega)
    have e2 : ld[n]? = some (row ld n) := by rw [row_at (List.getElem?_eq_getElem (by omega))]; exact List.getElem?_eq_getElem (by omega)
    have w1 := ws _ (List.mem_of_getElem? e1)
    have w2 := wd _ (List.mem_of_getElem? e2)
    rw [show interN ls ld (n + 1) = interN ls ld n ++ [pr (row ls n), pr (row ld n)] from rfl, List.map_append] at hq
    rcases List.mem_append.1 hq with hq | hq
    · exact inter_wf ws wd n (by omega) (by omega) q hq
    · simp only [List.map_cons, List.map_nil, two_pr w1, two_pr w2, List.mem_cons, List.not_mem_nil, or_false] at hq
      rcases hq with rfl | rfl
      · exact w1
      · exact w2
theorem spansL_wf (c : Cfg) : wfR [.i64, .i64] (spansL c) := by
  rw [← allS_two]
  intro q hq
  rw [allS, List.map_append] at hq
  rcases List.mem_append.1 hq with hq | hq
  · rw [map_two_pr (PV_wf c)] at hq; exact PV_wf c q hq
  · exact inter_wf (SR_wf c) (DS_wf c) _ (Nat.le_refl _) (by rw [SR_DS]; exact Nat.le_refl _) q hq
theorem spansL_len (c : Cfg) : (spansL c).length ≤ 22 := by rw [← allS_two, List.length_map]; exact allS_len c
theorem wfR_take {ks : List IntKind} {l : List (List Int)} (h : wfR ks l) (k : Nat) : wfR ks (l.take k) := fun q hq => h q (List.mem_of_mem_take hq)
theorem RowN.take {ks : List IntKind} {w : World} {B : Nat} {A : Option Addr} {l : List (List Int)} (h : RowN ks w B A l) (k : Nat) : RowN ks w B A (l.take k) := fun hp => by
  obtain ⟨b, o, hA, hb, hc⟩ := h (by rw [List.length_take] at hp; omega)
  refine ⟨b, o, hA, hb, fun i x hx j v hv => hc i x ?_ j v hv⟩
  rw [List.getElem?_take] at hx
  split at hx
  · exact hx
  · cases hx
/-- What told hands back, as a row. -/
theorem GivesSpans.row {w w' : World} {xs : List (Int × Int)} {e : Ending} (h : GivesSpans w xs e w') (hw : wfR [.i64, .i64] (xs.map two)) :
    ∃ A cap, e = .returned (.slice A (xs.map two).length cap) ∧ RowN [.i64, .i64] w' w'.heap.size A (xs.map two) ∧ Below w.heap.size w w' := by
  obtain ⟨v, rfl, hown, hb⟩ := h
  obtain ⟨A, cap, rfl, _, _, hr, _, _⟩ := OwnsOff.rowN (ks := [.i64, .i64]) (l := xs.map two) (by rw [List.length_map]; exact hown) hw
  exact ⟨A, cap, rfl, hr, hb⟩
/-- told, and all spans of the document: rows of the same list. -/
theorem told_row (c : Cfg) (xa : CfgAt) (m : Nat) (w : World) (hm : m ≤ 1000000) (hx : CfgIn w w.heap.size c xa) (wx : CfgWf c) (lx : CfgFew c) :
    Calls Try.prog 20 #[.agg (cfgCells c xa), .int .i64 m] w fun e w' => ∃ A cap, e = .returned (.slice A ((spansL c).take m).length cap) ∧ RowN [.i64, .i64] w' w'.heap.size A ((spansL c).take m) ∧ Below w.heap.size w w' := by
  have h2 : ((allS c).take m).map two = (spansL c).take m := by rw [List.map_take, allS_two]
  exact (told8_b c xa m w hm hx wx lx).mono fun e w' h => by
    have := h.row (by rw [h2]; exact wfR_take (spansL_wf c) m)
    rwa [h2] at this
theorem told99_row (c : Cfg) (xa : CfgAt) (w : World) (hx : CfgIn w w.heap.size c xa) (wx : CfgWf c) (lx : CfgFew c) :
    Calls Try.prog 20 #[.agg (cfgCells c xa), .int .i64 99] w fun e w' => ∃ A cap, e = .returned (.slice A (spansL c).length cap) ∧ RowN [.i64, .i64] w' w'.heap.size A (spansL c) ∧ Below w.heap.size w w' := by
  have := told_row c xa 99 w (by omega) hx wx lx
  rwa [List.take_of_length_le (by have := spansL_len c; omega)] at this
theorem rall_row (c : Cfg) (xa : CfgAt) (w : World) (hx : CfgIn w w.heap.size c xa) (wx : CfgWf c) (lx : CfgFew c) :
    Calls Try.prog 10 #[.agg (cfgCells c xa)] w fun e w' => ∃ A cap, e = .returned (.slice A (spansL c).length cap) ∧ (spansL c).length ≤ cap ∧ RowN [.i64, .i64] w' w'.heap.size A (spansL c) ∧ Below w.heap.size w w' :=
  (rall8_b c xa w hx wx lx).mono fun e w' ⟨v, h1, h2, h3⟩ => by
    obtain ⟨A, cap, rfl, hc, _, hr, _, _⟩ := OwnsOff.rowN (ks := [.i64, .i64]) h2 (spansL_wf c)
    exact ⟨A, cap, h1, hc, hr, h3⟩
theorem sameS_yes (l : List (List Int)) (A A' : Option Addr) (c c' : Nat) (w : World) (hx : RowN [.i64, .i64] w w.heap.size A l) (hy : RowN [.i64, .i64] w w.heap.size A' l) (wl : wfR [.i64, .i64] l) (hl : l.length ≤ 1000000) :
    Calls Try.prog 19 #[.slice A l.length c, .slice A' l.length c'] w fun e w' => e = .returned (.bool true) ∧ Below w.heap.size w w' := by
  have := sameS_b l l A A' c c' w hx hy wl wl hl
  rwa [decide_eq_true rfl] at this
theorem eqlS (a b : Int) (w : World) : (binOp .eql 36 (.agg #[.int .i64 a, .int .i64 b]) (.agg #[.int .i64 a, .int .i64 b])).run Try.prog w = .ok (.bool true) w := by
  rw [run_eql_struct w 36, eqS a b a b true (by simp) w]
  rfl
end Go.Proofs.Ytjnmgofkdimdaaa
