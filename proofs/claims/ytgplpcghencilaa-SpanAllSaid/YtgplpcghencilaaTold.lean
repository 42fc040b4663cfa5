/- told: what a loop over span.All gathers, as far as so many. No condition but those in the statements. -/
import Derived.Test.YtgplpcghencilaaIterB
import Derived.Maps.AppendAt
namespace Go.Proofs.Ytgplpcghencilaa
open Go.RowKit Go.Sort Go.Shelf
attribute [local go_sem] Oper.semAt_some

theorem neq_nil (w : World) (fn : Fn) (xs ys : Array Value) : (binOp .neq 43 (.func fn xs ys) .nilFunc).run Try.prog w = .ok (.bool true) w := by
  have h : ∀ d : Nat, (Op.equalIn (d + 1) 43 (.func fn xs ys) .nilFunc).run Try.prog w = .ok false w := fun d => by
    simp [Op.equalIn, run_underlying Try.underlying43]
  simp only [binOp]
  simp [Op.equal, Op.maxDepth, h 9999]

theorem own_mono {w : World} {base base' : Nat} {e : TypeId} {size n : Nat} {v : Value} {xs : List Value} (h : w.ownsRow base e size v n xs) (hb : base' ≤ base) : w.ownsRow base' e size v n xs := by
  obtain ⟨h1, h2 | ⟨g, cap, cur, a, b, c⟩⟩ := h
  · exact ⟨h1, .inl h2⟩
  · exact ⟨h1, .inr ⟨g, cap, cur, a, by omega, c⟩⟩
theorem keepsT_put {ts : List TypeId} {W : World} {l : Nat} {o : Obj} (o' : Obj) (hl : W.heap[l]? = some o) (ho : o.isCells = false) : KeepsT ts W (W.putObj l o') :=
  ⟨by simp, fun k cs t m _ hk => (World.putObj_heap_other (fun e => by subst e; rw [hl] at hk; cases hk; cases ho)).trans hk⟩
theorem keepsT_store {ts : List TypeId} {W w1 : World} {b : Nat} {t : TypeId} {v v' : Value} {tmp : Obj} {row : Option Nat} (hb : Boxed W b t v) (ht : t ∉ ts) (hrow : ∀ g, row = some g → ∃ cs e m, W.heap[g]? = some (Obj.cells cs e m) ∧ e ∉ ts) (hg : (W.alloc tmp).grownBy w1 row) :
    KeepsT ts W (w1.setCell ⟨b, 0, none⟩ v') := by
  refine ⟨by have := hg.size; simp [World.setCell] at this ⊢; omega, fun k cs t' m ht' hk => ?_⟩
  have hkl := (Array.getElem?_eq_some_iff.1 hk).1
  have hkb : k ≠ b := fun e => by subst e; rw [show W.heap[k]? = _ from hb] at hk; cases hk; exact ht ht'
  have hkr : some k ≠ row := fun e => by
    obtain ⟨cs2, e2, m2, h2, h3⟩ := hrow k e.symm
    rw [h2] at hk; cases hk; exact h3 ht'
  rw [Below.heap_setCell _ _ _ _ hkb]
  exact (hg.block k (by simp; omega) hkr).trans ((Below.heap_alloc W tmp k hkl).trans hk)
theorem own_block {w : World} {base : Nat} {e : TypeId} {size n : Nat} {v : Value} {xs : List Value} (h : w.ownsRow base e size v n xs) : ∀ g, v.ownBlock = some g → ∃ cs m, w.heap[g]? = some (Obj.cells cs e m) := by
  intro g hg
  obtain ⟨_, ⟨rfl, _⟩ | ⟨g', cap, cur, rfl, _, hcur, _⟩⟩ := h
  · cases hg
  · cases hg; exact ⟨_, _, hcur⟩

/-- Between two rounds: what has been gathered, in the box of 'out'. -/
def TI (I O : TypeId) (w : World) (m : Nat) (pre : List Int) (W : World) : Prop :=
  pre.length ≤ m ∧ Boxed W w.heap.size I (.int .i64 m) ∧ (∃ v, Boxed W (w.heap.size + 1) O v ∧ W.ownsRow (w.heap.size + 1) I 1 v pre.length (pre.map (Value.int .i64))) ∧ Below w.heap.size w W
/-- A round has left by the break. -/
def TX (I O : TypeId) (w : World) (m : Nat) (c : Code) (xs : List Int) (W : World) : Prop :=
  c = .exit 0 ∧ ∃ pre x, xs = pre ++ [x] ∧ pre.length = m ∧ TI I O w m pre W
theorem TI.turn {I O : TypeId} {w : World} {n₀ m : Nat} (hn : w.heap.size ≤ n₀) : OwnFrom n₀ (TI I O w m) := by
  rintro s W W' row ⟨h1, h2, ⟨v, h3, h4⟩, h5⟩ hg hr
  have keep : ∀ (k : Nat) (o : Obj), W.heap[k]? = some o → o.isCells = true → W'.heap[k]? = some o := fun k o hk ho =>
    (hg.block k (Array.getElem?_eq_some_iff.1 hk).1 (fun e => by obtain ⟨_, o', ho', hc⟩ := hr k e.symm; rw [hk] at ho'; cases ho'; rw [ho] at hc; cases hc)).trans hk
  refine ⟨h1, keep _ _ h2 rfl, ⟨v, keep _ _ h3 rfl, h4.kept hg ?_⟩, h5.grown hg h5.size (fun k e => by have := (hr k e).1; omega)⟩
  by_cases hv : v.ownBlock = none
  · exact .inl hv
  · refine .inr fun e => ?_
    obtain ⟨g, hgv⟩ := Option.ne_none_iff_exists'.1 hv
    obtain ⟨cs, mm, hc⟩ := own_block h4 g hgv
    obtain ⟨_, o', ho', hcc⟩ := hr g (e ▸ hgv)
    rw [hc] at ho'; cases ho'; cases hcc
theorem TX.turn {I O : TypeId} {w : World} {n₀ m : Nat} (hn : w.heap.size ≤ n₀) (c : Code) : OwnFrom n₀ (TX I O w m c) := by
  rintro s W W' row ⟨h1, pre, x, h2, h3, h4⟩ hg hr
  exact ⟨h1, pre, x, h2, h3, TI.turn hn _ _ _ _ h4 hg hr⟩

set_option maxHeartbeats 1600000 in
theorem told_in (n : Nat) (hn : 3 ≤ n) (l : List (Int × Int)) (A : Option Addr) (c m : Nat) (w : World) (hl : l.length ≤ 1000000) (hm : m ≤ 1000000) (hA : A = none → l = []) (hrow : PairRow w w.heap.size A l) :
    CallsIn Fence.wide n Try.prog 22 #[.int .i64 m, .slice A l.length c] w (GivesInts 3 w ((allOf l).take m)) := by
  have h1 : 1 ≤ n := by omega
  obtain ⟨i0, hi, hz0, hz1, hz2⟩ := info_parts Try.infoI
  refine callsIn_of_wp_marks Try.func22 rfl trivial ?_ rfl
  simp only [Try.ntmps22, List.size_toArray, List.length_cons, List.length_nil, Nat.reduceAdd, Nat.reduceSub, Array.replicate_succ, Array.replicate_zero, List.push_toArray, List.append_toArray, List.nil_append, List.cons_append]
  have hneq := neq_nil
  gi_wp2_with fail
  refine ⟨trivial, (callsIn_wide.2 (all_b l A c _ hl hA ?_)).mono ?_⟩
  · exact (hrow.below (((Below.refl _ w).alloc (Nat.le_refl _) _).alloc (by simp) _)).more (by simp; omega)
  rintro e w1 ⟨sb, A1, c1, rfl, hsb, hA1, hb1⟩
  have hn0 : w.heap.size + 2 ≤ w1.heap.size := by have := hb1.size; simpa using this
  have hBw : Below w.heap.size w w1 := (((Below.refl _ w).alloc (Nat.le_refl _) _).alloc (by simp) _).trans (hb1.mono (by simp; omega))
  have bM : Boxed w1 w.heap.size 3 (.int .i64 m) := (hb1.block w.heap.size (by simp; omega)).trans ((Boxed.new w _ _).alloc _)
  have bO : Boxed w1 (w.heap.size + 1) 31 (.slice none 0 0) := (hb1.block (w.heap.size + 1) (by simp)).trans (by have := Boxed.new (w.alloc (.cells #[.int .i64 m] 3)) 31 (.slice none 0 0); rwa [World.size_alloc] at this)
  have hI0 : TI 3 31 w m [] w1 := ⟨Nat.zero_le _, bM, ⟨_, bO, World.ownsRow_nil _ _ _ _⟩, hBw⟩
  clear bM bO hBw hb1 hrow
  gi_wp2
  refine wpIn_rangeFunc_ownG rfl h1 (gf := 33) (lb := #[.pointer (some ⟨sb, 0, none⟩)]) rfl trivial (enters_of Try.func33 (by kernel_rfl) rfl)
    (iter_stops (n - 1) (by omega) l hl sb A1 c1 w1 hsb hA1) (fun h k => h.trans k) (fun W lp o o' _ ho hc _ => keepsT_put o' ho hc) (Below.refl _ _) (fun _ => rfl)
    (TI 3 31 w m) (TX 3 31 w m) (TI.turn (by omega)) (TX.turn (by omega)) hI0
    (fun x => { tmps := #[.int .i64 m, .slice A l.length c, .pointer (some ⟨w.heap.size, 0, none⟩), undef, .slice none 0 0, .pointer (some ⟨w.heap.size + 1, 0, none⟩), .func (.func 33) #[] #[.pointer (some ⟨sb, 0, none⟩)], .int .i64 x, .slice A l.length c, .func (.func 33) #[] #[.pointer (some ⟨sb, 0, none⟩)], .func (.func 33) #[] #[.pointer (some ⟨sb, 0, none⟩)], .bool true, .func (.func 33) #[] #[.pointer (some ⟨sb, 0, none⟩)], .int .i64 x, undef, undef, undef, undef, undef, undef, undef, undef, undef], defers := [] }) ?assign ?body ?done ?stop
  case assign =>
    intro lp x W K hK
    gi_wp2
    exact hK
  case body =>
    rintro lp pre x W ⟨hpm, bM, ⟨v, bO, hown⟩, hB⟩ hlt
    obtain ⟨A', c', rfl, hle, hmx, _⟩ := own_form hown
    have hcM := bM.cell
    have hcO := bO.cell
    have hfO := bO.frozen
    by_cases hpe : pre.length = m
    · have ht : (m : Int) ≤ pre.length := by omega
      gi_wp2
      exact ⟨KeepsFrom.refl _ _, rfl, pre, x, rfl, hpe, hpm, bM, ⟨_, bO, hown⟩, hB⟩
    · have ht : ¬ (m : Int) ≤ pre.length := by omega
      gi_wp2_with (gi_at_builtin; refine wpListIn_append_own _ rfl _ _ 31 rfl (w.heap.size + 1) 3 i0 (.int .i64 0) 1 8 Try.underlying31 hi hz0 hz1 hz2 rfl (by decide) _ _ _ rfl (hown.alloc _) ⟨W.heap.size, 0, none⟩ 1 1 [.int .i64 x] rfl rfl (cell_one_new _ _ _) (by simp [Value.oneCell']) (by unfold maxLen; omega) (by omega) ?c5 ?_)
      case c5 => have := hB.size; have := bO.lt; simp; omega
      · intro v' w2 hown' hgrow _
        obtain ⟨g', cap', rfl⟩ := ownsRow_succ hown'
        have hkt : KeepsT [23, 28] W (w2.setCell ⟨w.heap.size + 1, 0, none⟩ (.slice (some ⟨g', 0, none⟩) (pre.length + 1) cap')) :=
          keepsT_store bO (by decide) (fun g hg => by obtain ⟨cs, mm, h⟩ := own_block hown g hg; exact ⟨cs, _, mm, h, by decide⟩) hgrow
        obtain ⟨hv1, hv2, hr2, hk2, hb2⟩ := bO.appended (by decide) hown (by have := bO.lt; omega) (Nat.le_refl _) hown' hgrow
        have hc1 := hv1.cell
        have hf1 := hv1.frozen
        have bM2 := (hb2.block w.heap.size (by omega)).trans bM
        have hBB := hB.trans (hb2.mono (by omega))
        clear hown' hgrow hcM hcO hfO hv1 hb2
        gi_wp2
        exact ⟨hk2.from _, hkt, by simp; omega, bM2, ⟨_, hv2, by simpa using hr2⟩, hBB⟩
  case done =>
    rintro D xs W hD rfl ⟨hpm, bM, ⟨v, bO, hown⟩, hB⟩ hK
    have hc := bO.cell
    gi_wp2
    refine ⟨by simp, .inl ⟨_, _, rfl, run_takeDeferred hK, ?_⟩⟩
    exact ⟨_, results_tmp rfl _ _ _, v, rfl, by rw [List.take_of_length_le hpm]; exact own_mono (ownsRow_putObj hown _ hK rfl) (by omega), hB.trans (belowK_b (w := w) (Nat.le_refl _) W D _ _ (by omega) hK rfl rfl)⟩
  case stop =>
    rintro D cc xs W hD hpx ⟨rfl, pre, x, rfl, hpl, hpm, bM, ⟨v, bO, hown⟩, hB⟩ hK
    have hc := bO.cell
    have ht : (allOf l).take m = pre := by
      obtain ⟨r, hr⟩ := hpx
      rw [← hr, List.append_assoc, ← hpl, List.take_left]
    have HT := Lib.hid ht
    clear ht
    gi_wp2
    refine ⟨by simp, .inl ⟨_, _, rfl, run_takeDeferred hK, ?_⟩⟩
    exact ⟨_, results_tmp rfl _ _ _, v, rfl, by rw [HT.out]; exact own_mono (ownsRow_putObj hown _ hK rfl) (by omega), hB.trans (belowK_b (w := w) (Nat.le_refl _) W D _ _ (by omega) hK rfl rfl)⟩
end Go.Proofs.Ytgplpcghencilaa
