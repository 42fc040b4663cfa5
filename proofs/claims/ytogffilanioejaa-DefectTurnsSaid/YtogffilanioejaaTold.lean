/- told: what a loop over All gathers, as far as so many. No condition but those in the statements. -/
import Derived.Test.YtogffilanioejaaIter
namespace Go.Proofs.Ytogffilanioejaa
open Go.RowKit Go.Sort Go.Shelf
set_option linter.unusedVariables false
set_option linter.unusedSimpArgs false
set_option linter.unusedVariables false
attribute [local go_sem] Oper.semAt_some

theorem neq_nil (w : World) (fn : Fn) (xs ys : Array Value) : (binOp .neq 52 (.func fn xs ys) .nilFunc).run Try.prog w = .ok (.bool true) w := by
  have h : ∀ d : Nat, (Op.equalIn (d + 1) 52 (.func fn xs ys) .nilFunc).run Try.prog w = .ok false w := fun d => by
    simp [Op.equalIn, run_underlying Try.underlying52]
  simp only [binOp]
  simp [Op.equal, Op.maxDepth, h 9999]
theorem offOwn_put {W : World} {base : Nat} {e : TypeId} {size k : Nat} {v : Value} {xs : List Value} (h : OwnsOff W base e size v k xs) {l : Nat} {o : Obj} (o' : Obj) (hl : W.heap[l]? = some o) (ho : o.isCells = false) : OwnsOff (W.putObj l o') base e size v k xs :=
  h.kept (Only.of_grown (grownBy_putObj' W l o')) (fun g hg e' => by
    obtain ⟨cs, hc⟩ := h.typed g hg
    cases e'
    rw [hc] at hl; cases hl; cases ho)
theorem cell_one_new (w : World) (v : Value) (t : TypeId) : ∀ j u, [v][j]? = some u → (w.alloc (.cells #[v] t)).cell? ((⟨w.heap.size, 0, none⟩ : Addr).add j) = some u := news_new w #[v] t

/-- Between two rounds: what has been gathered, in the box of 'out'; its row lies in a block from n1 on. -/
def TI (I O : TypeId) (w : World) (n1 m : Nat) (pre : List Int) (W : World) : Prop :=
  pre.length ≤ m ∧ Boxed W (w.heap.size + 1) I (.int .i64 m) ∧ (∃ v, Boxed W (w.heap.size + 2) O v ∧ OwnsOff W (w.heap.size + 2) I 1 v pre.length (pre.map (Value.int .i64)) ∧ ∀ g, v.ownBlock = some g → n1 ≤ g) ∧ n1 ≤ W.heap.size ∧ Below w.heap.size w W
/-- A round has left by the break. -/
def TX (I O : TypeId) (w : World) (n1 m : Nat) (c : Code) (xs : List Int) (W : World) : Prop :=
  c = .exit 0 ∧ ∃ pre x, xs = pre ++ [x] ∧ pre.length = m ∧ TI I O w n1 m pre W
theorem TI.turn {I O : TypeId} {w : World} {n₀ n1 m : Nat} (hn : w.heap.size ≤ n₀) : OwnFrom n₀ (TI I O w n1 m) := by
  rintro s W W' row ⟨h1, h2, ⟨v, h3, h4, h6⟩, h7, h5⟩ hg hr
  have keep : ∀ (k : Nat) (o : Obj), W.heap[k]? = some o → o.isCells = true → W'.heap[k]? = some o := fun k o hk ho =>
    (hg.block k (Array.getElem?_eq_some_iff.1 hk).1 (fun e => by obtain ⟨_, o', ho', hc⟩ := hr k e.symm; rw [hk] at ho'; cases ho'; rw [ho] at hc; cases hc)).trans hk
  refine ⟨h1, keep _ _ h2 rfl, ⟨v, keep _ _ h3 rfl, h4.kept (Only.of_grown hg) (fun g hg' e => ?_), h6⟩, Nat.le_trans h7 hg.size, h5.grown hg h5.size (fun k e => by have := (hr k e).1; omega)⟩
  obtain ⟨cs, hc⟩ := h4.typed g hg'
  obtain ⟨_, o', ho', hcc⟩ := hr g e.symm
  rw [hc] at ho'; cases ho'; cases hcc
theorem TX.turn {I O : TypeId} {w : World} {n₀ n1 m : Nat} (hn : w.heap.size ≤ n₀) (c : Code) : OwnFrom n₀ (TX I O w n1 m c) := by
  rintro s W W' row ⟨h1, pre, x, h2, h3, h4⟩ hg hr
  exact ⟨h1, pre, x, h2, h3, TI.turn hn _ _ _ _ h4 hg hr⟩

set_option maxRecDepth 100000 in
set_option maxHeartbeats 4000000 in
theorem told_in (n : Nat) (hn : 3 ≤ n) (c : Cfg) (x : CfgAt) (m : Nat) (w : World) (hm : m ≤ 1000000) (hx : CfgIn w w.heap.size c x) (wx : CfgWf c) (lx : CfgFew c) :
    CallsIn Fence.wide n Try.prog 13 #[.agg (cfgCells c x), .int .i64 m] w (GivesNums w ((allP c 17).take m)) := by
  have h1 : 1 ≤ n := by omega
  obtain ⟨i0, hi, hz0, hz1, hz2⟩ := info_parts Try.infoI
  have hneq := neq_nil
  have hl := allP_len c 17
  obtain ⟨ds, hds⟩ : ∃ ds, allP c 17 = ds := ⟨_, rfl⟩
  obtain ⟨W0, hW0⟩ : ∃ u, Hid (u = ((w.alloc (.cells (cfgCells c x) 29)).alloc (.cells #[.int .i64 m] 3)).alloc (.cells #[.slice none 0 0] 42)) := ⟨_, rfl⟩
  have hb0 : Below w.heap.size w W0 := by rw [hW0.out]; exact (((Below.refl _ w).alloc (Nat.le_refl _) _).alloc (by simp) _).alloc (by simp; omega) _
  have hs0 : W0.heap.size = w.heap.size + 3 := by rw [hW0.out]; simp
  have hc0 : CBox W0 w.heap.size c x := by rw [hW0.out]; exact (cbox_new w c x 29).on (((Below.refl _ _).alloc (Nat.le_refl _) _).alloc (by simp) _)
  obtain ⟨c0, c1, c2, c3, c4, c5⟩ := hc0 W0 (Below.refl _ _)
  have bM : Boxed W0 (w.heap.size + 1) 3 (.int .i64 m) := by
    rw [hW0.out]
    have := Boxed.new (w.alloc (.cells (cfgCells c x) 29)) 3 (.int .i64 m)
    rw [World.size_alloc] at this
    exact this.alloc _
  have bO : Boxed W0 (w.heap.size + 2) 42 (.slice none 0 0) := by
    rw [hW0.out]
    have := Boxed.new ((w.alloc (.cells (cfgCells c x) 29)).alloc (.cells #[.int .i64 m] 3)) 42 (.slice none 0 0)
    rwa [World.size_alloc, World.size_alloc] at this
  have hall := all_b c x W0 (hx.later hb0) wx lx
  rw [hds] at hall hl ⊢
  have HW0 := Lib.hid hb0; have HS0 := Lib.hid hs0; have HM := Lib.hid bM; have HO := Lib.hid bO
  simp only [cfgCells]
  clear hb0 hs0 bM bO hc0 hds hx
  refine callsIn_of_wp_marks Try.func13 rfl trivial ?_ rfl
  simp only [Try.ntmps13, List.size_toArray, List.length_cons, List.length_nil, Nat.reduceAdd, Nat.reduceSub, Array.replicate_succ, Array.replicate_zero, List.push_toArray, List.append_toArray, List.nil_append, List.cons_append]
  gi_wp2_with (rw [← hW0.out])
  refine ⟨trivial, (callsIn_wide.2 hall).mono ?_⟩
  intro e w1 hG
  obtain ⟨tb, rb, A, cap, rfl, htb, hrb, hF, hb1⟩ := hG.at_
  have hs0 := HS0.out
  have hn0 : w.heap.size + 3 ≤ w1.heap.size := by have := hb1.size; omega
  have hcl : w.heap.size + 3 ≤ tb ∧ tb < w1.heap.size := ⟨by omega, (Array.getElem?_eq_some_iff.1 hF.box).1⟩
  have hrl : w.heap.size + 3 ≤ rb ∧ rb < w1.heap.size := ⟨by omega, hF.lt⟩
  have hBw : Below w.heap.size w w1 := HW0.out.trans (hb1.mono (by omega))
  have bM : Boxed w1 (w.heap.size + 1) 3 (.int .i64 m) := (hb1.block (w.heap.size + 1) (by omega)).trans HM.out
  have bO : Boxed w1 (w.heap.size + 2) 42 (.slice none 0 0) := (hb1.block (w.heap.size + 2) (by omega)).trans HO.out
  have hI0 : TI 3 42 w w1.heap.size m [] w1 := ⟨Nat.zero_le _, bM, ⟨_, bO, OwnsOff.nil _ _ _ _, fun g hg => by cases hg⟩, Nat.le_refl _, hBw⟩
  clear bM bO hBw hb1 hs0 hall c0 c1 c2 c3 c4 c5 hG
  gi_wp2
  refine wpIn_rangeFunc_ownG rfl h1 (gf := 44) (lb := #[.pointer (some ⟨tb, 0, none⟩)]) rfl trivial (enters_of Try.func44 (by kernel_rfl) rfl)
    (iter_stops (n - 1) (by omega) tb rb A cap ds (by omega) w1 hF) (fun h k => h.trans k) (fun W lp o o' hle _ _ _ => keepsB_put o' (by simp; omega)) (Below.refl _ _) (fun _ => rfl)
    (TI 3 42 w w1.heap.size m) (TX 3 42 w w1.heap.size m) (TI.turn (by omega)) (TX.turn (by omega)) hI0
    ?a1 ?assign ?body ?done ?stop
  case assign =>
    intro lp x W K hK
    gi_wp2
    exact hK
  case body =>
    rintro lp pre x W ⟨hpm, bM, ⟨v, bO, hown, hvn⟩, hnW, hB⟩ hlt2
    obtain ⟨A', c', rfl, hle, hmx⟩ := hown.slice
    have hcM := bM.cell
    have hcO := bO.cell
    have hfO := bO.frozen
    by_cases hpe : pre.length = m
    · have ht : (m : Int) ≤ pre.length := by omega
      gi_wp2
      exact ⟨KeepsFrom.refl _ _, rfl, pre, x, rfl, hpe, hpm, bM, ⟨_, bO, hown, hvn⟩, hnW, hB⟩
    · have ht : ¬ (m : Int) ≤ pre.length := by omega
      have HV := Lib.hid hvn
      clear hvn
      gi_wp2_with (gi_at_builtin; refine wpListIn_append_off _ rfl _ _ 42 rfl (w.heap.size + 2) 3 i0 (.int .i64 0) 1 8 Try.underlying42 hi hz0 hz1 hz2 rfl (by decide) _ _ _ rfl (hown.keptB ((Below.refl _ _).alloc (Nat.le_refl _) _)) ⟨W.heap.size, 0, none⟩ 1 1 [.int .i64 x] rfl rfl (cell_one_new _ _ _) (by simp [Value.oneCell']) (by unfold maxLen; omega) (by omega) ?c5 ?_)
      case c5 => have := hB.size; have := bO.lt; simp; omega
      · intro v' w2 hown' hgrow hfr
        have hkt : KeepsB [tb, rb] W (w2.setCell ⟨w.heap.size + 2, 0, none⟩ v') := keepsB_store (n1 := w1.heap.size) hgrow HV.out (by simp; omega) hnW
        have hvn' : ∀ g, v'.ownBlock = some g → w1.heap.size ≤ g := fun g hg => by
          rcases hfr g hg with h | h
          · exact HV.out g h
          · omega
        obtain ⟨hv1, hv2, hr2, hk2, hb2⟩ := Boxed.appendedOff bO (by decide) hown (by have := bO.lt; omega) (Nat.le_refl _) hown' hgrow
        obtain ⟨a', c', rfl, _⟩ := hown'.slice
        have hc1 := hv1.cell
        have hf1 := hv1.frozen
        have bM2 := (hb2.block (w.heap.size + 1) (by omega)).trans bM
        have hBB := hB.trans (hb2.mono (by omega))
        have hnW2 := Nat.le_trans hnW hkt.1
        have HV2 := Lib.hid hvn'
        clear hown' hgrow hcM hcO hfO hv1 hb2 hfr hvn'
        gi_wp2
        exact ⟨hk2.from _, hkt, by simp; omega, bM2, ⟨_, hv2, by simpa using hr2, HV2.out⟩, hnW2, hBB⟩
  case done =>
    rintro D ys W hD rfl ⟨hpm, bM, ⟨v, bO, hown, _⟩, _, hB⟩ hK
    obtain ⟨a', c', rfl, _⟩ := hown.slice
    have hc := bO.cell
    gi_wp2
    refine ⟨by simp, .inl ⟨_, _, rfl, run_takeDeferred hK, ?_⟩⟩
    exact ⟨_, results_tmp rfl _ _ _, _, rfl, by rw [List.take_of_length_le hpm]; exact OwnsOff.mono (base := w.heap.size + 2) (base' := w.heap.size) (offOwn_put hown _ hK rfl) (by omega), hB.trans (belowK_b (w := w) (Nat.le_refl _) W D _ _ (by omega) hK rfl rfl)⟩
  case stop =>
    rintro D cc ys W hD hpx ⟨rfl, pre, x, rfl, hpl, hpm, bM, ⟨v, bO, hown, _⟩, _, hB⟩ hK
    obtain ⟨a', c', rfl, _⟩ := hown.slice
    have hc := bO.cell
    have ht : ds.take m = pre := by
      obtain ⟨r, hr⟩ := hpx
      rw [← hr, List.append_assoc, ← hpl, List.take_left]
    have HT := Lib.hid ht
    clear ht hpl hpx
    gi_wp2
    refine ⟨by simp, .inl ⟨_, _, rfl, run_takeDeferred hK, ?_⟩⟩
    exact ⟨_, results_tmp rfl _ _ _, _, rfl, by rw [HT.out]; exact OwnsOff.mono (base := w.heap.size + 2) (base' := w.heap.size) (offOwn_put hown _ hK rfl) (by omega), hB.trans (belowK_b (w := w) (Nat.le_refl _) W D _ _ (by omega) hK rfl rfl)⟩

theorem told_b (c : Cfg) (x : CfgAt) (m : Nat) (w : World) (hm : m ≤ 1000000) (hx : CfgIn w w.heap.size c x) (wx : CfgWf c) (lx : CfgFew c) :
    Calls Try.prog 13 #[.agg (cfgCells c x), .int .i64 m] w (GivesNums w ((allP c 17).take m)) := callsIn_wide.1 (told_in 5 (by omega) c x m w hm hx wx lx)
theorem toldAll_b (c : Cfg) (x : CfgAt) (w : World) (hx : CfgIn w w.heap.size c x) (wx : CfgWf c) (lx : CfgFew c) :
    Calls Try.prog 13 #[.agg (cfgCells c x), .int .i64 99] w (GivesNums w (allP c 17)) := by
  have := told_b c x 99 w (by omega) hx wx lx
  rwa [List.take_of_length_le (by have := allP_len c 17; omega)] at this
end Go.Proofs.Ytogffilanioejaa
