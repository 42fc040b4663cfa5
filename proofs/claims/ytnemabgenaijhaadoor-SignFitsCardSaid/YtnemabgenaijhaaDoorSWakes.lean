/- wakes answers true. No condition but those in the statements. -/
import Derived.Test.YtnemabgenaijhaaDoorPSg
import Derived.BigQuiet
import Derived.IntWalk
namespace Go.Proofs.YtnemabgenaijhaaDoor
open Go.RowKit Go.Sort Go.ChangeShapes Go.WideShapes
set_option linter.unusedVariables false
set_option linter.unusedSimpArgs false

theorem sin_nil (w : World) : SIn w [] none := ⟨fun h => by simp at h, by simp⟩
theorem sin_one (w : World) (n : Int) : SIn (w.alloc (.cells #[.int .i64 n] 3)) [n] (some ⟨w.heap.size, 0, none⟩) :=
  ⟨fun _ => ⟨w.heap.size, 0, rfl, by simp, fun i hi => by
    have h0 : i = 0 := by simp at hi; omega
    subst h0
    exact cell_blk (heap_alloc_new w _) rfl⟩, by simp⟩
set_option maxRecDepth 100000 in
set_option maxHeartbeats 4000000 in
theorem wakes10_b (w : World) (hT : TabsAt w) : Calls Tryd.prog 8 #[] w fun e w' => e = .returned (.bool true) ∧ Below w.heap.size w w' := by
  go_enter Tryd.func8, Tryd.ntmps8
  go_wp2_with fail
  refine (example10_b w).mono ?_
  rintro e w1 ⟨x, rfl, hx, hb1⟩
  obtain ⟨W, HW, hB, hWs, bx⟩ := one_cbox w1 ex10 x 35
  obtain ⟨X, hX⟩ : ∃ u, Hid (u = (W.alloc (.cells #[.int .u32 1] 56)).alloc (.cells #[.int .i64 3, .int .i64 0, .int .u64 0, .slice (some ⟨W.heap.size, 0, none⟩) 1 1] 49)) := ⟨_, rfl⟩
  have hbX : Below W.heap.size W X := by rw [hX.out]; exact ((Below.refl _ _).alloc (Nat.le_refl _) _).alloc (by simp) _
  have hRX : X.heap[W.heap.size + 1]? = some (.cells #[.int .i64 3, .int .i64 0, .int .u64 0, .slice (some ⟨W.heap.size, 0, none⟩) 1 1] 49 (0, 0)) := by
    have h := heap_alloc_new (W.alloc (.cells #[.int .u32 1] 56)) (.cells #[.int .i64 3, .int .i64 0, .int .u64 0, .slice (some ⟨W.heap.size, 0, none⟩) 1 1] 49)
    rw [World.size_alloc] at h
    rw [hX.out]; exact h
  have HX := Lib.hid (hx.later (hB.trans (hbX.mono hB.size)))
  have HB := Lib.hid ((hb1.trans (hB.mono hb1.size)).trans (hbX.mono (Nat.le_trans hb1.size hB.size)))
  have BX : ∀ w', Below X.heap.size X w' → Below W.heap.size W w' := fun w' h => hbX.trans (h.mono hbX.size)
  obtain ⟨c0, c1, c2, c3, c4, c5⟩ := bx _ hbX
  have q0 : X.cell? ⟨W.heap.size + 1, 0, none⟩ = some (.int .i64 3) := cell_blk hRX rfl
  have q1 : X.cell? ⟨W.heap.size + 1, 1, none⟩ = some (.int .i64 0) := cell_blk hRX rfl
  have q2 : X.cell? ⟨W.heap.size + 1, 2, none⟩ = some (.int .u64 0) := cell_blk hRX rfl
  have q3 : X.cell? ⟨W.heap.size + 1, 3, none⟩ = some (.slice (some ⟨W.heap.size, 0, none⟩) 1 1) := cell_blk hRX rfl
  have HRX := Lib.hid hRX
  have hql := (Array.getElem?_eq_some_iff.1 hRX).1
  obtain ⟨z1, z2, z3⟩ := ex10_ref
  have HZ := Lib.hid (And.intro z1 (And.intro z2 z3))
  simp only [cfgCells] at HW
  clear hb1 hx hB hbX hRX hWs z1 z2 z3
  go_wp2_with (first | (rw [← HW.out]) | (rw [← hX.out]))
  refine (prefused_is ex10 x 0 false [] none 0 none 0 0 3 0 0 (some ⟨W.heap.size, 0, none⟩) 1 1 3 X HX.out ex10_wf ex10_few (sin_nil _) (by decide) (by decide) (by omega) (hT.later HB.out) HZ.out.1).mono ?_
  rintro e w2 ⟨rfl, hb2⟩
  have H2 := Lib.hid hb2
  clear c0 c1 c2 c3 c4 c5 q0 q1 q2 q3 hb2
  obtain ⟨c0, c1, c2, c3, c4, c5⟩ := bx _ (BX _ H2.out)
  have hq2 := (H2.out.block _ hql).trans HRX.out
  have q0 : w2.cell? ⟨W.heap.size + 1, 0, none⟩ = some (.int .i64 3) := cell_blk hq2 rfl
  have q1 : w2.cell? ⟨W.heap.size + 1, 1, none⟩ = some (.int .i64 0) := cell_blk hq2 rfl
  have q2 : w2.cell? ⟨W.heap.size + 1, 2, none⟩ = some (.int .u64 0) := cell_blk hq2 rfl
  have q3 : w2.cell? ⟨W.heap.size + 1, 3, none⟩ = some (.slice (some ⟨W.heap.size, 0, none⟩) 1 1) := cell_blk hq2 rfl
  clear hq2
  go_wp2_with fail
  refine (prefused_is ex10 x 0 true [] none 0 none 0 0 2 0 0 none 0 0 5 w2 (HX.out.later H2.out) ex10_wf ex10_few (sin_nil _) (by decide) (by decide) (by omega) (hT.later (HB.out.trans (H2.out.mono HB.out.size))) HZ.out.2.1).mono ?_
  rintro e w3 ⟨rfl, hb3⟩
  have H3 := Lib.hid (H2.out.trans (hb3.mono H2.out.size))
  clear c0 c1 c2 c3 c4 c5 q0 q1 q2 q3 hb3
  obtain ⟨Y, hY⟩ : ∃ u, Hid (u = w3.alloc (.cells #[.int .i64 0] 3)) := ⟨_, rfl⟩
  have hbY : Below w3.heap.size w3 Y := by rw [hY.out]; exact (Below.refl _ _).alloc (Nat.le_refl _) _
  have hsY : SIn Y [0] (some ⟨w3.heap.size, 0, none⟩) := by rw [hY.out]; exact sin_one w3 0
  have HY := Lib.hid (H3.out.trans (hbY.mono H3.out.size))
  obtain ⟨c0, c1, c2, c3, c4, c5⟩ := bx _ (BX _ H3.out)
  obtain ⟨d0, d1, d2, d3, d4, d5⟩ := bx _ (BX _ HY.out)
  have hq2 := (HY.out.block _ hql).trans HRX.out
  have q0 : Y.cell? ⟨W.heap.size + 1, 0, none⟩ = some (.int .i64 3) := cell_blk hq2 rfl
  have q1 : Y.cell? ⟨W.heap.size + 1, 1, none⟩ = some (.int .i64 0) := cell_blk hq2 rfl
  have q2 : Y.cell? ⟨W.heap.size + 1, 2, none⟩ = some (.int .u64 0) := cell_blk hq2 rfl
  have q3 : Y.cell? ⟨W.heap.size + 1, 3, none⟩ = some (.slice (some ⟨W.heap.size, 0, none⟩) 1 1) := cell_blk hq2 rfl
  have HSY := Lib.hid hsY
  clear hq2 hbY hsY
  go_wp2_with (rw [← hY.out])
  refine (prefused_is ex10 x 0 true [0] (some ⟨w3.heap.size, 0, none⟩) 1 none 0 0 3 0 0 (some ⟨W.heap.size, 0, none⟩) 1 1 0 Y (HX.out.later HY.out) ex10_wf ex10_few HSY.out (by decide) (by decide) (by omega) (hT.later (HB.out.trans (HY.out.mono HB.out.size))) HZ.out.2.2).mono ?_
  rintro e w4 ⟨rfl, hb4⟩
  have H4 := Lib.hid (HY.out.trans (hb4.mono HY.out.size))
  clear c0 c1 c2 c3 c4 c5 d0 d1 d2 d3 d4 d5 q0 q1 q2 q3 hb4
  go_wp2_with fail
  refine (pname_is 1 ⟨#[99, 114, 101, 97, 116, 101]⟩ w4 (hT.later (HB.out.trans (H4.out.mono HB.out.size))) (by decide)).mono ?_
  rintro e w5 ⟨rfl, hb5⟩
  go_wp2
  go_ret
  exact ⟨by first | rfl | simp, HB.out.trans ((H4.out.trans (hb5.mono H4.out.size)).mono HB.out.size)⟩
end Go.Proofs.YtnemabgenaijhaaDoor
