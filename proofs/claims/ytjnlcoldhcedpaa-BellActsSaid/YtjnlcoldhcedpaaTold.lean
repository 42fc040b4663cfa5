/- told: what a loop over a set's All gathers, as far as so many. No condition but those in the statements. -/
import Derived.Test.YtjnlcoldhcedpaaIter
namespace Go.Proofs.Ytjnlcoldhcedpaa
open Go.RowKit Go.Sort Go.Shelf
set_option linter.unusedVariables false
attribute [local go_sem] Oper.semAt_some

theorem neq_nil (w : World) (fn : Fn) (xs ys : Array Value) : (binOp .neq 48 (.func fn xs ys) .nilFunc).run Try.prog w = .ok (.bool true) w := by
  have h : ∀ d : Nat, (Op.equalIn (d + 1) 48 (.func fn xs ys) .nilFunc).run Try.prog w = .ok false w := fun d => by
    simp [Op.equalIn, run_underlying Try.underlying48]
  simp only [binOp]
  simp [Op.equal, Op.maxDepth, h 9999]
theorem offOwn_put {W : World} {base : Nat} {e : TypeId} {size k : Nat} {v : Value} {xs : List Value} (h : OwnsOff W base e size v k xs) {l : Nat} {o : Obj} (o' : Obj) (hl : W.heap[l]? = some o) (ho : o.isCells = false) : OwnsOff (W.putObj l o') base e size v k xs :=
  h.kept (Only.of_grown (grownBy_putObj' W l o')) (fun g hg e' => by
    obtain ⟨cs, hc⟩ := h.typed g hg
    cases e'
    rw [hc] at hl; cases hl; cases ho)

/-- Between two rounds: what has been gathered, in the box of 'out'; its row lies in a block from n1 on. -/
def TI (I O : TypeId) (w : World) (n1 m : Nat) (pre : List Int) (W : World) : Prop :=
  pre.length ≤ m ∧ Boxed W w.heap.size I (.int .i64 m) ∧ (∃ v, Boxed W (w.heap.size + 1) O v ∧ OwnsOff W (w.heap.size + 1) I 1 v pre.length (pre.map (Value.int .i64)) ∧ ∀ g, v.ownBlock = some g → n1 ≤ g) ∧ n1 ≤ W.heap.size ∧ Below w.heap.size w W
/-- A round has left by the break. -/
def TX (I O : TypeId) (w : World) (n1 m : Nat) (c : Code) (xs : List Int) (W : World) : Prop :=
  c = .exit 0 ∧ ∃ pre x, xs = pre ++ [x] ∧ pre.length = m ∧ TI I O w n1 m pre W
theorem TI.turn {I O : TypeId} {w : World} {n₀ n1 m : Nat} (hn : w.heap.size ≤ n₀) : OwnFrom n₀ (TI I O w n1 m) := by
  rintro s W W' row ⟨h1, h2, ⟨v, h3, h4, h6⟩, h7, h5⟩ hg hr
  have keep : ∀ (k : Nat) (o : Obj), W.heap[k]? = some o → o.isCells = true → W'.heap[k]? = some o := fun k o hk ho =>
    (hg.block k (Array.getElem?_eq_some_iff.1 hk).1 (fun e => by obtain ⟨_, o', ho', hc⟩ := hr k e.symm; rw [hk] at ho'; cases ho'; rw [ho] at hc; cases hc)).trans hk
  refine ⟨h1, keep _ _ h2 rfl, ⟨v, keep _ _ h3 rfl, h4.kept (Only.of_grown hg) (fun g hg' e => ?_), h6⟩, Nat.le_trans h7 hg.size, h5.grown hg h5.size (fun k e => by have := (hr k e).1; omega)⟩
  obtain ⟨cs, hc⟩ := h4.typed g hg'
  obtain ⟨_, o', ho', hcc⟩ := hr g e.symm
  rw [hc] at ho'; cases ho'; cases hcc
theorem TX.turn {I O : TypeId} {w : World} {n₀ n1 m : Nat} (hn : w.heap.size ≤ n₀) (c : Code) : OwnFrom n₀ (TX I O w n1 m c) := by
  rintro s W W' row ⟨h1, pre, x, h2, h3, h4⟩ hg hr
  exact ⟨h1, pre, x, h2, h3, TI.turn hn _ _ _ _ h4 hg hr⟩

set_option maxHeartbeats 1600000 in
theorem told_in (n : Nat) (hn : 3 ≤ n) (mb rb : Nat) (bs : List Bool) (m : Nat) (w : World) (hl : bs.length ≤ 1000000) (hm : m ≤ 1000000) (hR : SetAt w mb rb bs) :
    CallsIn Fence.wide n Try.prog 15 #[.pointer (some ⟨mb, 0, none⟩), .int .i64 m] w (GivesOff w ((allB bs).take m)) := by
  have h1 : 1 ≤ n := by omega
  obtain ⟨i0, hi, hz0, hz1, hz2⟩ := info_parts Try.infoI
  have hneq := neq_nil
  have hlt := hR.lt
  refine callsIn_of_wp_marks Try.func15 rfl trivial ?_ rfl
  simp only [Try.ntmps15, List.size_toArray, List.length_cons, List.length_nil, Nat.reduceAdd, Nat.reduceSub, Array.replicate_succ, Array.replicate_zero, List.push_toArray, List.append_toArray, List.nil_append, List.cons_append]
  gi_wp2_with fail
  refine ⟨trivial, (callsIn_wide.2 (all_b mb _)).mono ?_⟩
  rintro e w1 ⟨cb, rfl, hcb, hcB, hb1⟩
  have hb0 : Below w.heap.size w ((w.alloc (.cells #[.int .i64 m] 3)).alloc (.cells #[.slice none 0 0] 29)) := ((Below.refl _ w).alloc (Nat.le_refl _) _).alloc (by simp) _
  have hn0 : w.heap.size + 2 ≤ w1.heap.size := by have := hb1.size; simpa using this
  have hcl : w.heap.size + 2 ≤ cb ∧ cb < w1.heap.size := ⟨by simpa using hcb, (Array.getElem?_eq_some_iff.1 hcB).1⟩
  have hBw : Below w.heap.size w w1 := hb0.trans (hb1.mono (by simp; omega))
  have bM : Boxed w1 w.heap.size 3 (.int .i64 m) := (hb1.block w.heap.size (by simp; omega)).trans ((Boxed.new w _ _).alloc _)
  have bO : Boxed w1 (w.heap.size + 1) 29 (.slice none 0 0) := (hb1.block (w.heap.size + 1) (by simp)).trans (by have := Boxed.new (w.alloc (.cells #[.int .i64 m] 3)) 29 (.slice none 0 0); rwa [World.size_alloc] at this)
  have hI0 : TI 3 29 w w1.heap.size m [] w1 := ⟨Nat.zero_le _, bM, ⟨_, bO, OwnsOff.nil _ _ _ _, fun g hg => by cases hg⟩, Nat.le_refl _, hBw⟩
  have hR1 := hR.below hBw
  clear bM hBw hb1 hR hb0
  gi_wp2
  refine wpIn_rangeFunc_ownG rfl h1 (gf := 20) (lb := #[.pointer (some ⟨cb, 0, none⟩)]) rfl trivial (enters_of Try.func20 (by kernel_rfl) rfl)
    (iter_stops (n - 1) (by omega) mb rb cb bs hl w1 hcB hR1) (fun h k => h.trans k) (fun W lp o o' hle _ _ _ => keepsB_put o' (by simp; omega)) (Below.refl _ _) (fun _ => rfl)
    (TI 3 29 w w1.heap.size m) (TX 3 29 w w1.heap.size m) (TI.turn (by omega)) (TX.turn (by omega)) hI0
    ?a1 ?assign ?body ?done ?stop
  case assign =>
    intro lp x W K hK
    gi_wp2
    exact hK
  case body =>
    rintro lp pre x W ⟨hpm, bM, ⟨v, bO, hown, hvn⟩, hnW, hB⟩ hlt2
    obtain ⟨A', c', rfl, hle, hmx⟩ := hown.slice
    have hcM := bM.cell
    have hcO := bO.cell
    have hfO := bO.frozen
    by_cases hpe : pre.length = m
    · have ht : (m : Int) ≤ pre.length := by omega
      gi_wp2
      exact ⟨KeepsFrom.refl _ _, rfl, pre, x, rfl, hpe, hpm, bM, ⟨_, bO, hown, hvn⟩, hnW, hB⟩
    · have ht : ¬ (m : Int) ≤ pre.length := by omega
      have HV := Lib.hid hvn
      clear hvn
      gi_wp2_with (gi_at_builtin; refine wpListIn_append_off _ rfl _ _ 29 rfl (w.heap.size + 1) 3 i0 (.int .i64 0) 1 8 Try.underlying29 hi hz0 hz1 hz2 rfl (by decide) _ _ _ rfl (hown.keptB ((Below.refl _ _).alloc (Nat.le_refl _) _)) ⟨W.heap.size, 0, none⟩ 1 1 [.int .i64 x] rfl rfl (cell_one_new _ _ _) (by simp [Value.oneCell']) (by unfold maxLen; omega) (by omega) ?c5 ?_)
      case c5 => have := hB.size; have := bO.lt; simp; omega
      · intro v' w2 hown' hgrow hfr
        have hkt : KeepsB [cb, mb, rb] W (w2.setCell ⟨w.heap.size + 1, 0, none⟩ v') := keepsB_store (n1 := w1.heap.size) hgrow HV.out (by simp; omega) hnW
        have hvn' : ∀ g, v'.ownBlock = some g → w1.heap.size ≤ g := fun g hg => by
          rcases hfr g hg with h | h
          · exact HV.out g h
          · omega
        obtain ⟨hv1, hv2, hr2, hk2, hb2⟩ := Boxed.appendedOff bO (by decide) hown (by have := bO.lt; omega) (Nat.le_refl _) hown' hgrow
        obtain ⟨a', c', rfl, _⟩ := hown'.slice
        have hc1 := hv1.cell
        have hf1 := hv1.frozen
        have bM2 := (hb2.block w.heap.size (by omega)).trans bM
        have hBB := hB.trans (hb2.mono (by omega))
        have hnW2 := Nat.le_trans hnW hkt.1
        have HV2 := Lib.hid hvn'
        clear hown' hgrow hcM hcO hfO hv1 hb2 hfr hvn'
        gi_wp2
        exact ⟨hk2.from _, hkt, by simp; omega, bM2, ⟨_, hv2, by simpa using hr2, HV2.out⟩, hnW2, hBB⟩
  case done =>
    rintro D ys W hD rfl ⟨hpm, bM, ⟨v, bO, hown, _⟩, _, hB⟩ hK
    obtain ⟨a', c', rfl, _⟩ := hown.slice
    have hc := bO.cell
    gi_wp2
    refine ⟨by simp, .inl ⟨_, _, rfl, run_takeDeferred hK, ?_⟩⟩
    exact ⟨_, results_tmp rfl _ _ _, _, rfl, by rw [List.take_of_length_le hpm]; exact OwnsOff.mono (base := w.heap.size + 1) (base' := w.heap.size) (offOwn_put hown _ hK rfl) (by omega), hB.trans (belowK_b (w := w) (Nat.le_refl _) W D _ _ (by omega) hK rfl rfl)⟩
  case stop =>
    rintro D cc ys W hD hpx ⟨rfl, pre, x, rfl, hpl, hpm, bM, ⟨v, bO, hown, _⟩, _, hB⟩ hK
    obtain ⟨a', c', rfl, _⟩ := hown.slice
    have hc := bO.cell
    have ht : (allB bs).take m = pre := by
      obtain ⟨r, hr⟩ := hpx
      rw [← hr, List.append_assoc, ← hpl, List.take_left]
    have HT := Lib.hid ht
    clear ht hpl hpx
    gi_wp2
    refine ⟨by simp, .inl ⟨_, _, rfl, run_takeDeferred hK, ?_⟩⟩
    exact ⟨_, results_tmp rfl _ _ _, _, rfl, by rw [HT.out]; exact OwnsOff.mono (base := w.heap.size + 1) (base' := w.heap.size) (offOwn_put hown _ hK rfl) (by omega), hB.trans (belowK_b (w := w) (Nat.le_refl _) W D _ _ (by omega) hK rfl rfl)⟩

theorem told_b (mb rb : Nat) (bs : List Bool) (m : Nat) (w : World) (hl : bs.length ≤ 1000000) (hm : m ≤ 1000000) (hR : SetAt w mb rb bs) :
    Calls Try.prog 15 #[.pointer (some ⟨mb, 0, none⟩), .int .i64 m] w (GivesOff w ((allB bs).take m)) := callsIn_wide.1 (told_in 5 (by omega) mb rb bs m w hl hm hR)
theorem toldAll_b (mb rb : Nat) (bs : List Bool) (m : Int) (w : World) (hl : (bs.length : Int) ≤ m) (hm2 : m ≤ 1000000) (hR : SetAt w mb rb bs) :
    Calls Try.prog 15 #[.pointer (some ⟨mb, 0, none⟩), .int .i64 m] w (GivesOff w (allB bs)) := by
  obtain ⟨k, rfl⟩ := Int.eq_ofNat_of_zero_le (a := m) (by omega)
  have := told_b mb rb bs k w (by omega) (by omega) hR
  rwa [List.take_of_length_le (by have := allB_len bs; omega)] at this
end Go.Proofs.Ytjnlcoldhcedpaa
