/- The clock's example. No condition but those in the statements. -/
import Derived.Test.YtfpcldkgcifciaaCorS
import Derived.BigQuiet
import Derived.IntWalk
import Derived.BigRegion
import Derived.OpenShut
namespace Go.Proofs.Ytfpcldkgcifciaa
open Go.RowKit Go.Sort Go.ChangeShapes Go.WideShapes
set_option linter.unusedVariables false
set_option linter.unusedSimpArgs false

set_option linter.unusedVariables false
set_option linter.unusedSimpArgs false

theorem intRow_later {K : IntKind} {w w' : World} {A : Option Addr} {l : List Int} (h : IntRowK K w w.heap.size A l) (hb : Below w.heap.size w w') : IntRowK K w' w'.heap.size A l := fun hn => by
  obtain ⟨b, o, hA, hlt, hc⟩ := h hn
  exact ⟨b, o, hA, Nat.lt_of_lt_of_le hlt hb.size, fun k hk => (hb.cell (p := ⟨b, o + k, none⟩) hlt).trans (hc k hk)⟩
theorem row_blk {ks : List IntKind} {W : World} {g : Nat} {cs : Array Value} {t : TypeId} {m : Nat × Nat} {l : List (List Int)} (h : W.heap[g]? = some (.cells cs t m)) (hc : cs.toList = rcells ks l) (hw : wfR ks l) : RowN ks W W.heap.size (some ⟨g, 0, none⟩) l := fun _ => ⟨g, 0, rfl, (Array.getElem?_eq_some_iff.1 h).1, fun i x hx j v hv => by
  have hj : j < ks.length := by
    have := (List.getElem?_eq_some_iff.1 hv).1
    rw [ncells_len (hw x (List.mem_of_getElem? hx)).1] at this; exact this
  have h1 := rcells_at hw hx j hj
  rw [← hc, hv] at h1
  rw [Nat.zero_add]
  exact cell_blk h (by simpa using h1)⟩
theorem four_new (w : World) (a b c d : Obj) : ∃ W, Hid (W = (((w.alloc a).alloc b).alloc c).alloc d) ∧ W.heap[w.heap.size]? = some a ∧ W.heap[w.heap.size + 1]? = some b ∧ W.heap[w.heap.size + 1 + 1]? = some c ∧ W.heap[w.heap.size + 1 + 1 + 1]? = some d ∧ Below w.heap.size w W := by
  refine ⟨_, rfl, ?_, ?_, ?_, ?_, ?_⟩
  · exact (Below.heap_alloc _ _ _ (by simp; omega)).trans ((Below.heap_alloc _ _ _ (by simp; omega)).trans ((Below.heap_alloc _ _ _ (by simp)).trans (heap_alloc_new _ _)))
  · refine (Below.heap_alloc _ _ _ (by simp)).trans ((Below.heap_alloc _ _ _ (by simp)).trans ?_)
    have := heap_alloc_new (w.alloc a) b
    simpa using this
  · refine (Below.heap_alloc _ _ _ (by simp)).trans ?_
    have := heap_alloc_new ((w.alloc a).alloc b) c
    simpa using this
  · have := heap_alloc_new (((w.alloc a).alloc b).alloc c) d
    simpa using this
  · exact ((((Below.refl _ w).alloc (Nat.le_refl _) _).alloc (by simp) _).alloc (by simp; omega) _).alloc (by simp; omega) _
def exK : Cfg := ⟨[[0, 0], [1, 0]], [], 1, [[0, 0, 1]], 1, [[1, 0, 1]]⟩
theorem exK_wf2 : wfR [.i64, .i64] exK.parts := by
  intro x hx
  simp [exK] at hx
  rcases hx with rfl | rfl <;> exact wfN2_mk (by decide) (by decide)
theorem exK_wfa : wfR [.i64, .i64, .i64] exK.win0 := by
  intro x hx
  simp [exK] at hx
  subst hx
  exact wfN3_mk (by decide) (by decide) (by decide)
theorem exK_wfb : wfR [.i64, .i64, .i64] exK.win1 := by
  intro x hx
  simp [exK] at hx
  subst hx
  exact wfN3_mk (by decide) (by decide) (by decide)
theorem exK_fr : CfgFr exK := ⟨exK_wfa, exK_wfb, by decide, by decide, by decide, by decide⟩
theorem exK_ent1 : entL exK 1 = [0, 1] := by decide +kernel
theorem exK_ent2 : entL exK 2 = [0, 1] := by decide +kernel
theorem lit01 (w : World) : IntRowK .i64 (w.alloc (.cells #[.int .i64 0, .int .i64 1] 3)) (w.alloc (.cells #[.int .i64 0, .int .i64 1] 3)).heap.size (some ⟨w.heap.size, 0, none⟩) [0, 1] := fun _ => ⟨w.heap.size, 0, rfl, by simp, fun k hk => by
  have h := heap_alloc_new w (.cells #[.int .i64 0, .int .i64 1] 3)
  match k, hk with
  | 0, _ => exact cell_blk h rfl
  | 1, _ => exact cell_blk h rfl
  | k + 2, hk => exact absurd hk (by simp)⟩
set_option maxRecDepth 100000 in
set_option maxHeartbeats 1600000 in
theorem wakes_b (w : World) : Calls Try.prog 6 #[] w fun e w' => e = .returned (.bool true) ∧ Below w.heap.size w w' := by
  obtain ⟨W, HW, hp, hc, ha, hb, hB⟩ := four_new w (.cells #[.int .i64 0, .int .i64 0, .int .i64 1, .int .i64 0] 45) (.cells #[.slice (some ⟨w.heap.size, 0, none⟩) 2 2, .slice none 0 0, .int .i64 1, .slice (some ⟨w.heap.size + 1 + 1, 0, none⟩) 1 1, .int .i64 1, .slice (some ⟨w.heap.size + 1 + 1 + 1, 0, none⟩) 1 1] 29) (.cells #[.int .i64 0, .int .i64 0, .int .i64 1] 49) (.cells #[.int .i64 1, .int .i64 0, .int .i64 1] 49)
  have hx : CfgIn W W.heap.size exK ⟨some ⟨w.heap.size, 0, none⟩, 2, none, 0, some ⟨w.heap.size + 1 + 1, 0, none⟩, 1, some ⟨w.heap.size + 1 + 1 + 1, 0, none⟩, 1⟩ :=
    ⟨row_blk hp rfl exK_wf2, RowN.nil _ _ _ _, row_blk ha rfl exK_wfa, row_blk hb rfl exK_wfb, by simp [exK, maxLen], by simp [exK, maxLen], by simp [exK, maxLen], by simp [exK, maxLen]⟩
  have HN := Lib.hid (new_b exK _ W hx exK_fr)
  have e1 : exK.parts.length = 2 := rfl
  have e2 : exK.chans.length = 0 := rfl
  have e3 : exK.len0 = 1 := rfl
  have e4 : exK.win0.length = 1 := rfl
  have e5 : exK.len1 = 1 := rfl
  have e6 : exK.win1.length = 1 := rfl
  simp only [cfgCells, e1, e2, e3, e4, e5, e6] at HN
  clear e1 e2 e3 e4 e5 e6
  have c0 := cell_blk hc (i := 0) rfl; have c1 := cell_blk hc (i := 1) rfl; have c2 := cell_blk hc (i := 2) rfl; have c3 := cell_blk hc (i := 3) rfl; have c4 := cell_blk hc (i := 4) rfl; have c5 := cell_blk hc (i := 5) rfl
  have HB := Lib.hid hB
  clear hp hc ha hb hB hx
  go_enter Try.func6, Try.ntmps6
  go_wp2_with (rw [← HW.out])
  refine HN.out.mono ?_
  rintro e w1 ⟨b, y, rfl, hbl, hk1, hb1⟩
  have HB1 := Lib.hid (HB.out.trans (hb1.mono HB.out.size))
  have HLB := Lib.hid (Nat.le_trans HB.out.size hbl)
  have HT1 := Lib.hid (tick_b exK y b 0 1 w1 hk1 exK_fr rfl (by omega) (by omega))
  clear hbl hk1 hb1 HN
  go_wp2_with fail
  refine HT1.out.mono ?_
  rintro e w2 ⟨v, rfl, hown, hk2, ho2⟩
  rw [exK_ent1] at hown
  obtain ⟨A2, p2, rfl, _, _, _, hr2⟩ := nums_at hown
  have HB2 := Lib.hid (HB1.out.trans (ho2.below HB1.out.size (fun k e => by rw [e]; exact HLB.out)))
  obtain ⟨w3, hw3⟩ : ∃ u, Hid (u = w2.alloc (.cells #[.int .i64 0, .int .i64 1] 3)) := ⟨_, rfl⟩
  have hb3 : Below w2.heap.size w2 w3 := by rw [hw3.out]; exact (Below.refl _ _).alloc (Nat.le_refl _) _
  have hl3 : IntRowK .i64 w3 w3.heap.size (some ⟨w2.heap.size, 0, none⟩) [0, 1] := by rw [hw3.out]; exact lit01 w2
  have HS := Lib.hid (same_yes 2 [0, 1] A2 (some ⟨w2.heap.size, 0, none⟩) p2 2 w3 rfl (intRow_later hr2 hb3) hl3 (by omega))
  have HB3 := Lib.hid (HB2.out.trans (hb3.mono HB2.out.size))
  have HK3 := Lib.hid (hk2.later hb3)
  clear hown hk2 ho2 hr2 hb3 hl3 HT1
  go_wp2_with (rw [← hw3.out])
  refine HS.out.mono ?_
  rintro e w4 ⟨rfl, hb4⟩
  have HB4 := Lib.hid (HB3.out.trans (hb4.mono HB3.out.size))
  have HT4 := Lib.hid (tick_b exK y b 1 2 w4 (HK3.out.later hb4) exK_fr rfl (by omega) (by omega))
  clear hb4 HS HK3
  go_wp2_with fail
  refine HT4.out.mono ?_
  rintro e w5 ⟨v, rfl, hown, hk5, ho5⟩
  rw [exK_ent2] at hown
  obtain ⟨A5, p5, rfl, _, _, _, hr5⟩ := nums_at hown
  have HB5 := Lib.hid (HB4.out.trans (ho5.below HB4.out.size (fun k e => by rw [e]; exact HLB.out)))
  obtain ⟨w6, hw6⟩ : ∃ u, Hid (u = w5.alloc (.cells #[.int .i64 0, .int .i64 1] 3)) := ⟨_, rfl⟩
  have hb6 : Below w5.heap.size w5 w6 := by rw [hw6.out]; exact (Below.refl _ _).alloc (Nat.le_refl _) _
  have hl6 : IntRowK .i64 w6 w6.heap.size (some ⟨w5.heap.size, 0, none⟩) [0, 1] := by rw [hw6.out]; exact lit01 w5
  have HS := Lib.hid (same_yes 2 [0, 1] A5 (some ⟨w5.heap.size, 0, none⟩) p5 2 w6 rfl (intRow_later hr5 hb6) hl6 (by omega))
  have HB6 := Lib.hid (HB5.out.trans (hb6.mono HB5.out.size))
  clear hown hk5 ho5 hr5 hb6 hl6 HT4
  go_wp2_with (rw [← hw6.out])
  refine HS.out.mono ?_
  rintro e w7 ⟨rfl, hb7⟩
  have HB7 := Lib.hid (HB6.out.trans (hb7.mono HB6.out.size))
  clear hb7
  go_wp2
  go_ret
  exact ⟨rfl, HB7.out⟩
end Go.Proofs.Ytfpcldkgcifciaa
