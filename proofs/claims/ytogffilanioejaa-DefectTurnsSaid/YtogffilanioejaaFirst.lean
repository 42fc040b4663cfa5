/- First, Accepts, as contracts. No condition but those in the statements. -/
import Derived.Test.YtogffilanioejaaTold
namespace Go.Proofs.Ytogffilanioejaa
open Go.RowKit Go.Sort Go.Shelf
set_option linter.unusedVariables false
set_option linter.unusedSimpArgs false
set_option linter.unusedVariables false
attribute [local go_sem] Oper.semAt_some

theorem results_cell_int {fn : Func} {p : Tmp} {ty : TypeId} {P : Program} (h : fn.results = #[.cell p ty]) (hu : P.underlying ty = some (.int .i64)) (tmps : Array Value) (w : World) (g : Nat) (b : Int)
    (hp : tmps.getD p undef = .pointer (some ⟨g, 0, none⟩)) (hc : w.cell? ⟨g, 0, none⟩ = some (.int .i64 b)) : (results fn tmps).run P w = .ok (.int .i64 b) w := by
  have hp' : tmps[p]?.getD undef = .pointer (some ⟨g, 0, none⟩) := by simpa using hp
  simp [results, h, hp', asAddr, loadVar, isAgg, run_underlying hu]
  go_simp
/-- Before the first round: the result's box. -/
def FI (w : World) (pre : List Int) (W : World) : Prop := pre = [] ∧ Boxed W (w.heap.size + 1) 3 (.int .i64 0) ∧ Below w.heap.size w W
/-- The first round has left by the return. -/
def FX (w : World) (c : Code) (xs : List Int) (W : World) : Prop := c = .ret ∧ ∃ x, xs = [x] ∧ Boxed W (w.heap.size + 1) 3 (.int .i64 x) ∧ Below w.heap.size w W
theorem FI.turn {w : World} {n₀ : Nat} (hn : w.heap.size ≤ n₀) : OwnFrom n₀ (FI w) := by
  rintro s W W' row ⟨h1, h2, h3⟩ hg hr
  have keep : ∀ (k : Nat) (o : Obj), W.heap[k]? = some o → o.isCells = true → W'.heap[k]? = some o := fun k o hk ho =>
    (hg.block k (Array.getElem?_eq_some_iff.1 hk).1 (fun e => by obtain ⟨_, o', ho', hc⟩ := hr k e.symm; rw [hk] at ho'; cases ho'; rw [ho] at hc; cases hc)).trans hk
  exact ⟨h1, keep _ _ h2 rfl, h3.grown hg h3.size (fun k e => by have := (hr k e).1; omega)⟩
theorem FX.turn {w : World} {n₀ : Nat} (hn : w.heap.size ≤ n₀) (c : Code) : OwnFrom n₀ (FX w c) := by
  rintro s W W' row ⟨h1, x, h2, h4, h3⟩ hg hr
  have keep : ∀ (k : Nat) (o : Obj), W.heap[k]? = some o → o.isCells = true → W'.heap[k]? = some o := fun k o hk ho =>
    (hg.block k (Array.getElem?_eq_some_iff.1 hk).1 (fun e => by obtain ⟨_, o', ho', hc⟩ := hr k e.symm; rw [hk] at ho'; cases ho'; rw [ho] at hc; cases hc)).trans hk
  exact ⟨h1, x, h2, keep _ _ h4 rfl, h3.grown hg h3.size (fun k e => by have := (hr k e).1; omega)⟩

set_option maxRecDepth 100000 in
set_option maxHeartbeats 4000000 in
theorem first_in (n : Nat) (hn : 3 ≤ n) (c : Cfg) (x : CfgAt) (w : World) (hx : CfgIn w w.heap.size c x) (wx : CfgWf c) (lx : CfgFew c) :
    CallsIn Fence.wide n Try.prog 18 #[.agg (cfgCells c x)] w fun e w' => e = .returned (.int .i64 ((allP c 17).headD 0)) ∧ Below w.heap.size w w' := by
  have h1 : 1 ≤ n := by omega
  have hl := allP_len c 17
  obtain ⟨ds, hds⟩ : ∃ ds, allP c 17 = ds := ⟨_, rfl⟩
  obtain ⟨W0, hW0⟩ : ∃ u, Hid (u = (w.alloc (.cells (cfgCells c x) 29)).alloc (.cells #[.int .i64 0] 3)) := ⟨_, rfl⟩
  have hb0 : Below w.heap.size w W0 := by rw [hW0.out]; exact ((Below.refl _ w).alloc (Nat.le_refl _) _).alloc (by simp) _
  have hs0 : W0.heap.size = w.heap.size + 2 := by rw [hW0.out]; simp
  have hc0 : CBox W0 w.heap.size c x := by rw [hW0.out]; exact (cbox_new w c x 29).on ((Below.refl _ _).alloc (Nat.le_refl _) _)
  obtain ⟨c0, c1, c2, c3, c4, c5⟩ := hc0 W0 (Below.refl _ _)
  have bR : Boxed W0 (w.heap.size + 1) 3 (.int .i64 0) := by
    rw [hW0.out]
    have := Boxed.new (w.alloc (.cells (cfgCells c x) 29)) 3 (.int .i64 0)
    rwa [World.size_alloc] at this
  have hall := all_b c x W0 (hx.later hb0) wx lx
  rw [hds] at hall hl ⊢
  have HW0 := Lib.hid hb0; have HS0 := Lib.hid hs0; have HR := Lib.hid bR
  simp only [cfgCells]
  clear hb0 hs0 bR hc0 hds hx
  refine callsIn_of_wp_marks Try.func18 rfl trivial ?_ rfl
  simp only [Try.ntmps18, List.size_toArray, List.length_cons, List.length_nil, Nat.reduceAdd, Nat.reduceSub, Array.replicate_succ, Array.replicate_zero, List.push_toArray, List.append_toArray, List.nil_append, List.cons_append]
  gi_wp2_with (rw [← hW0.out])
  refine ⟨trivial, (callsIn_wide.2 hall).mono ?_⟩
  intro e w1 hG
  obtain ⟨tb, rb, A, cap, rfl, htb, hrb, hF, hb1⟩ := hG.at_
  have hs0 := HS0.out
  have hn0 : w.heap.size + 2 ≤ w1.heap.size := by have := hb1.size; omega
  have hcl : w.heap.size + 2 ≤ tb ∧ tb < w1.heap.size := ⟨by omega, (Array.getElem?_eq_some_iff.1 hF.box).1⟩
  have hrl : w.heap.size + 2 ≤ rb ∧ rb < w1.heap.size := ⟨by omega, hF.lt⟩
  have hBw : Below w.heap.size w w1 := HW0.out.trans (hb1.mono (by omega))
  have bR : Boxed w1 (w.heap.size + 1) 3 (.int .i64 0) := (hb1.block (w.heap.size + 1) (by omega)).trans HR.out
  have hI0 : FI w [] w1 := ⟨rfl, bR, hBw⟩
  clear bR hBw hb1 hs0 hall c0 c1 c2 c3 c4 c5 hG
  gi_wp2
  refine wpIn_rangeFunc_ownG rfl h1 (gf := 44) (lb := #[.pointer (some ⟨tb, 0, none⟩)]) rfl trivial (enters_of Try.func44 (by kernel_rfl) rfl)
    (iter_stops (n - 1) (by omega) tb rb A cap ds (by omega) w1 hF) (fun h k => h.trans k) (fun W lp o o' hle _ _ _ => keepsB_put o' (by simp; omega)) (Below.refl _ _) (fun _ => rfl)
    (FI w) (FX w) (FI.turn (by omega)) (FX.turn (by omega)) hI0
    ?a1 ?assign ?body ?done ?stop
  case assign =>
    intro lp x W K hK
    gi_wp2
    exact hK
  case body =>
    rintro lp pre x W ⟨rfl, bR, hB⟩ hlt2
    have hcR := bR.cell
    have hfR := bR.frozen
    have H1 := Lib.hid bR; have H2 := Lib.hid hB
    clear bR hB
    gi_wp2
    exact ⟨(KeepsOthers.setCell _ _ _).from _, rfl, x, rfl, by simpa using H1.out.set (.int .i64 x), H2.out.setCell (by simp) _⟩
  case done =>
    rintro D ys W hD rfl ⟨hnil, bR, hB⟩ hK
    have hcR := bR.cell
    have hfR := bR.frozen
    have hDr : D ≠ w.heap.size + 1 := by omega
    subst hnil
    gi_wp2
    have hD9 : (W.setCell ⟨w.heap.size + 1, 0, none⟩ (.int .i64 0)).heap[D]? = some (.deferred (some [])) := (Below.heap_setCell _ _ _ _ (by simpa using hDr)).trans hK
    have br9 := bR.set (.int .i64 0)
    refine ⟨by simp, .inl ⟨_, _, rfl, run_takeDeferred hD9, ?_⟩⟩
    have br10 : Boxed ((W.setCell ⟨w.heap.size + 1, 0, none⟩ (.int .i64 0)).putObj D (.deferred none)) (w.heap.size + 1) 3 (.int .i64 0) := (World.putObj_heap_other hDr.symm).trans br9
    exact ⟨_, results_cell_int rfl Try.underlying3 _ _ (w.heap.size + 1) 0 rfl br10.cell, rfl, (hB.setCell (by simp) _).trans (belowK_b (w := w) (Nat.le_refl _) _ D _ _ (by omega) hD9 rfl rfl)⟩
  case stop =>
    rintro D cc ys W hD hpx ⟨rfl, x, rfl, bR, hB⟩ hK
    have hDr : D ≠ w.heap.size + 1 := by omega
    have hh : ds.headD 0 = x := by
      obtain ⟨r, hr⟩ := hpx
      rw [← hr]; rfl
    have HH := Lib.hid hh
    clear hh hpx
    gi_wp2
    refine ⟨by simp, .inl ⟨_, _, rfl, run_takeDeferred hK, ?_⟩⟩
    have br10 : Boxed (W.putObj D (.deferred none)) (w.heap.size + 1) 3 (.int .i64 x) := (World.putObj_heap_other hDr.symm).trans bR
    exact ⟨_, results_cell_int rfl Try.underlying3 _ _ (w.heap.size + 1) x rfl br10.cell, by rw [HH.out], hB.trans (belowK_b (w := w) (Nat.le_refl _) _ D _ _ (by omega) hK rfl rfl)⟩
theorem first_b (c : Cfg) (x : CfgAt) (w : World) (hx : CfgIn w w.heap.size c x) (wx : CfgWf c) (lx : CfgFew c) : Calls Try.prog 18 #[.agg (cfgCells c x)] w fun e w' => e = .returned (.int .i64 ((allP c 17).headD 0)) ∧ Below w.heap.size w w' := callsIn_wide.1 (first_in 5 (by omega) c x w hx wx lx)
/-- Has it none? -/
def acceptsP (c : Cfg) : Bool := decide (allP c 17 = [])
theorem headD_zero {c : Cfg} : (allP c 17).headD 0 = 0 ↔ allP c 17 = [] := by
  have hp : ∀ d ∈ allP c 17, 1 ≤ d := by
    intro d hd
    unfold allP at hd
    obtain ⟨i, _, rfl⟩ := List.mem_map.1 (List.mem_filter.1 hd).1
    omega
  cases h : allP c 17 with
  | nil => simp
  | cons d l =>
    have := hp d (by rw [h]; simp)
    simp
    omega
theorem accepts_b (c : Cfg) (x : CfgAt) (q : Bool) (w : World) (hx : CfgIn w w.heap.size c x) (wx : CfgWf c) (lx : CfgFew c) (hq : acceptsP c = q) : Calls Try.prog 11 #[.agg (cfgCells c x)] w fun e w' => e = .returned (.bool q) ∧ Below w.heap.size w w' := by
  obtain ⟨W, HW, hB, -, bx⟩ := one_cbox w c x 29
  have hx := hx.later hB
  obtain ⟨c0, c1, c2, c3, c4, c5⟩ := bx _ (Below.refl _ _)
  have HB := Lib.hid hB
  have hF := first_b c x W hx wx lx
  obtain ⟨d, hd⟩ : ∃ d, (allP c 17).headD 0 = d := ⟨_, rfl⟩
  have hdq : (d == 0) = q := by
    rw [← hq, ← hd]
    unfold acceptsP
    rw [Bool.eq_iff_iff]
    simp only [beq_iff_eq, decide_eq_true_eq]
    exact headD_zero
  rw [hd] at hF
  simp only [cfgCells]
  clear hB hd hq
  go_enter Try.func11, Try.ntmps11
  go_wp2_with (rw [← HW.out])
  refine hF.mono ?_
  rintro e w5 ⟨rfl, hb5⟩
  have HF := Lib.hid (HB.out.trans (hb5.mono HB.out.size))
  clear hF hb5
  go_wp2
  go_ret
  exact ⟨rfl, HF.out⟩
end Go.Proofs.Ytogffilanioejaa
