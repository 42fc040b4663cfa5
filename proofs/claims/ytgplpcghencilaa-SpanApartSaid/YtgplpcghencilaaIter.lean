/- span.All: what it hands back; how it clones its spans. No condition but those in the statements. -/
import Derived.Test.YtgplpcghencilaaAll
import Derived.RangeFuncBox
import Derived.Lib.SliceRun
namespace Go.Proofs.Ytgplpcghencilaa
open Go.RowKit Go.Sort

theorem Try.infoS : (Try.prog.info? 23).map (fun i => (i.zero, i.size, i.bytes)) = some (some (.agg #[.int .i64 0, .int .i64 0]), 2, 16) := by kernel_rfl
/-- The cells of a row of pairs. -/
def flat (l : List (Int × Int)) : List Value := l.flatMap fun p => [.int .i64 p.1, .int .i64 p.2]
theorem flat_len (l : List (Int × Int)) : (flat l).length = l.length * 2 := by
  induction l with
  | nil => rfl
  | cons p l ih => simp only [flat, List.flatMap_cons, List.length_append, List.length_cons, List.length_nil] at ih ⊢; omega
theorem flat_at (l : List (Int × Int)) : ∀ i, i < l.length → (flat l)[i * 2]? = some (.int .i64 (l.getD i (0, 0)).1) ∧ (flat l)[i * 2 + 1]? = some (.int .i64 (l.getD i (0, 0)).2) := by
  induction l with
  | nil => intro i h; simp at h
  | cons p l ih =>
    intro i h
    cases i with
    | zero => simp [flat]
    | succ i =>
      have := ih i (by simpa using h)
      rw [show (i + 1) * 2 = i * 2 + 2 by omega, show i * 2 + 2 + 1 = (i * 2 + 1) + 2 by omega]
      simpa [flat] using this
theorem flat_from {w : World} {l : List (Int × Int)} {b o : Nat} (hc : ∀ i, i < l.length → w.cell? ⟨b, o + i * 2, none⟩ = some (.int .i64 (l.getD i (0, 0)).1) ∧ w.cell? ⟨b, o + i * 2 + 1, none⟩ = some (.int .i64 (l.getD i (0, 0)).2)) :
    ∀ j u, (flat l)[j]? = some u → w.cell? ((⟨b, o, none⟩ : Addr).add j) = some u := by
  intro j u hj
  have hl : j < l.length * 2 := by rw [← flat_len]; exact (List.getElem?_eq_some_iff.1 hj).1
  have e : (⟨b, o, none⟩ : Addr).add j = ⟨b, o + j, none⟩ := by unfold Addr.add; split <;> simp_all
  rw [e]
  obtain ⟨h1, h2⟩ := hc (j / 2) (by omega)
  obtain ⟨g1, g2⟩ := flat_at l (j / 2) (by omega)
  by_cases hp : j % 2 = 0
  · rw [show o + j = o + j / 2 * 2 by omega, h1, ← g1, show j / 2 * 2 = j by omega, hj]
  · rw [show o + j = o + j / 2 * 2 + 1 by omega, h2, ← g2, show j / 2 * 2 + 1 = j by omega, hj]
theorem flat_one (l : List (Int × Int)) : ∀ u ∈ flat l, u.oneCell' = true := by
  intro u hu; simp only [flat, List.mem_flatMap] at hu; obtain ⟨p, _, hu⟩ := hu; simp at hu; rcases hu with rfl | rfl <;> rfl

/-- A row of pairs, its block known: cells of spans, not frozen. -/
def PairBlock (w : World) (A : Option Addr) (l : List (Int × Int)) : Prop :=
  0 < l.length → ∃ b cur, A = some ⟨b, 0, none⟩ ∧ w.heap[b]? = some (.cells cur 23 (0, 0)) ∧ ∀ i, i < l.length → cur[i * 2]? = some (.int .i64 (l.getD i (0, 0)).1) ∧ cur[i * 2 + 1]? = some (.int .i64 (l.getD i (0, 0)).2)
/-- A call that hands back a new row of pairs. -/
def GivesPairs (w : World) (l : List (Int × Int)) (e : Ending) (w' : World) : Prop :=
  ∃ A c, e = .returned (.slice A l.length c) ∧ l.length ≤ c ∧ c ≤ maxLen ∧ PairBlock w' A l ∧ Below w.heap.size w w'

set_option maxHeartbeats 800000 in
theorem clone_b (l : List (Int × Int)) (A : Option Addr) (c : Nat) (w : World) (hl : l.length ≤ 1000000) (hA : A = none → l = []) (hrow : PairRow w w.heap.size A l) :
    Calls Try.prog 32 #[.slice A l.length c] w (GivesPairs w l) := by
  obtain ⟨i0, hi, hz0, hz1, hz2⟩ := info_parts Try.infoS
  have hnil := fun W a n c => Go.Lib.run_eql_slice_nil (P := Try.prog) W 28 23 a n c 0 0 Try.underlying28
  cases A with
  | none =>
    have h0 := hA rfl
    subst h0
    go_enter Try.func32, Try.ntmps32
    go_wp2
    go_ret
    exact ⟨none, 0, rfl, by simp, by unfold maxLen; omega, fun h => by simp at h, Below.refl _ _⟩
  | some a =>
    have hcells : ∀ j u, (flat l)[j]? = some u → (w.alloc (.cells #[] 23)).cell? (a.add j) = some u := by
      intro j u hj
      have hl0 : 0 < l.length := by have := (List.getElem?_eq_some_iff.1 hj).1; rw [flat_len] at this; omega
      obtain ⟨b, o, ha, hlt, hc⟩ := hrow hl0
      injection ha with ha
      subst ha
      have hb : Below w.heap.size w (w.alloc (.cells #[] 23)) := (Below.refl _ _).alloc (Nat.le_refl _) _
      refine flat_from (fun i hi => ?_) j u hj
      exact ⟨(hb.cell (p := ⟨b, o + i * 2, none⟩) hlt).trans (hc i hi).1, (hb.cell (p := ⟨b, o + i * 2 + 1, none⟩) hlt).trans (hc i hi).2⟩
    clear hrow hA
    go_enter Try.func32, Try.ntmps32
    go_wp2_with (at_builtin; refine wpList_append_own _ rfl _ _ 28 rfl w.heap.size 23 i0 (.agg #[.int .i64 0, .int .i64 0]) 2 16 Try.underlying28 hi hz0 hz1 hz2 rfl (by decide) _ 0 [] rfl (World.ownsRow_made w #[] 0 (Nat.le_refl _) (by unfold maxLen; omega) rfl) a l.length c (flat l) rfl (flat_len l) hcells (flat_one l) ?c3 ?c4 ?c5 ?_)
    case c3 => unfold maxLen; omega
    case c4 => omega
    case c5 => simp
    · intro v' w1 hown' hgrow _
      try simp only [Nat.zero_add, List.nil_append] at hown'
      have hfin : Below w.heap.size w w1 := (((Below.refl _ _).alloc (Nat.le_refl _) _).grown hgrow (by simp) (fun g hg => by simp [Value.ownBlock] at hg; omega))
      clear hcells
      obtain ⟨_, ⟨rfl, hn⟩ | ⟨g, cap, cur, rfl, hge, hcur, hle, hmax, _, htake⟩⟩ := hown'
      · go_wp2
        go_ret
        exact ⟨none, 0, by rw [hn]; rfl, by omega, by unfold maxLen; omega, fun hp => by omega, hfin⟩
      · go_wp2
        go_ret
        refine ⟨_, cap, rfl, hle, hmax, fun hp => ⟨g, cur, rfl, hcur, fun i hi => ?_⟩, hfin⟩
        obtain ⟨g1, g2⟩ := flat_at l i hi
        rw [← htake] at g1 g2
        rw [List.getElem?_take_of_lt (by omega)] at g1 g2
        exact ⟨by simpa using g1, by simpa using g2⟩

/-- span.All hands back its closure, over a box that holds a new row. -/
def GivesIter (w : World) (l : List (Int × Int)) (e : Ending) (w' : World) : Prop :=
  ∃ sb A c, e = .returned (.func (.func 33) #[] #[.pointer (some ⟨sb, 0, none⟩)]) ∧ w'.heap[sb]? = some (.cells #[.slice A l.length c] 28 (0, 0)) ∧ PairBlock w' A l ∧ Below w.heap.size w w'

set_option maxHeartbeats 800000 in
theorem all_b (l : List (Int × Int)) (A : Option Addr) (c : Nat) (w : World) (hl : l.length ≤ 1000000) (hA : A = none → l = []) (hrow : PairRow w w.heap.size A l) :
    Calls Try.prog 28 #[.slice A l.length c] w (GivesIter w l) := by
  go_enter Try.func28, Try.ntmps28
  go_wp2_with (go_at_call 32; refine (clone_b l A c _ hl hA ?_).mono ?_)
  · exact hrow
  intro e w1 hg
  obtain ⟨A1, c1, rfl, h1, h2, h3, hb⟩ := hg
  go_wp2
  go_ret
  have hb2 : Below w1.heap.size w1 (w1.alloc (.cells #[.slice A1 l.length c1] 28)) := (Below.refl _ _).alloc (Nat.le_refl _) _
  refine ⟨w1.heap.size, A1, c1, rfl, World.alloc_heap_new w1 _, fun hp => ?_, hb.trans (hb2.mono hb.size)⟩
  obtain ⟨b, cur, rfl, hb3, hc⟩ := h3 hp
  exact ⟨b, cur, rfl, (hb2.block b (Array.getElem?_eq_some_iff.1 hb3).1).trans hb3, hc⟩
end Go.Proofs.Ytgplpcghencilaa
