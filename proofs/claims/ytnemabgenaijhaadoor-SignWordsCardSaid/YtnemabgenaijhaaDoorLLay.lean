/- lay, as a contract. No condition but those in the statements. -/
import Derived.Test.YtnemabgenaijhaaDoorLStand
import Derived.Test.YtnemabgenaijhaaDoorAllF
import Derived.Test.YtnemabgenaijhaaDoorLink
import Derived.BigQuiet
import Derived.IntWalk
import Derived.BigRegion
import Derived.Laws.EntriesVeiled
namespace Go.Proofs.YtnemabgenaijhaaDoor
open Go.RowKit Go.Sort Go.ChangeShapes Go.WideShapes
set_option linter.unusedVariables false
set_option linter.unusedSimpArgs false

/-- The spans of a layout: none, of a configuration that isn't accepted. -/
def PV (c : Cfg) : List (List Int) := if acceptsB c = true then pvL c c.parts.length else []
def SR (c : Cfg) : List (List Int) := if acceptsB c = true then srL c c.chans.length else []
def DS (c : Cfg) : List (List Int) := if acceptsB c = true then dsL c c.chans.length else []
/-- A call that hands back the three rows of a configuration's layout, in new memory. -/
def GivesPlaces (w : World) (c : Cfg) (e : Ending) (w' : World) : Prop := ∃ vp vs vd, e = .returned (.agg #[vp, vs, vd]) ∧ OwnsOff w' w.heap.size 75 2 vp (PV c).length (rcells [.i64, .i64] (PV c)) ∧
  OwnsOff w' w.heap.size 75 2 vs (SR c).length (rcells [.i64, .i64] (SR c)) ∧ OwnsOff w' w.heap.size 75 2 vd (DS c).length (rcells [.i64, .i64] (DS c)) ∧ Below w.heap.size w w'
set_option maxRecDepth 100000 in
set_option maxHeartbeats 1600000 in
theorem lay_b (c : Cfg) (x : CfgAt) (w : World) (hx : CfgIn w w.heap.size c x) (wx : CfgWf c) (lx : CfgFew c) : Calls Tryd.prog 66 #[.agg (cfgCells c x)] w (GivesPlaces w c) := by
  obtain ⟨W, hW⟩ : ∃ u, Hid (u = (w.alloc (.cells (cfgCells c x) 35)).alloc (.cells #[.slice none 0 0, .slice none 0 0, .slice none 0 0] 98)) := ⟨_, rfl⟩
  have hb0 : Below w.heap.size w W := by rw [hW.out]; exact ((Below.refl _ w).alloc (Nat.le_refl _) _).alloc (by simp) _
  have hs0 : W.heap.size = w.heap.size + 2 := by rw [hW.out]; simp
  have hCb : CBox W w.heap.size c x := by rw [hW.out]; exact (cbox_new w c x 35).on ((Below.refl _ _).alloc (Nat.le_refl _) _)
  have hR : W.heap[w.heap.size + 1]? = some (.cells #[.slice none 0 0, .slice none 0 0, .slice none 0 0] 98 (0, 0)) := by
    rw [hW.out]
    have := heap_alloc_new (w.alloc (.cells (cfgCells c x) 35)) (.cells #[.slice none 0 0, .slice none 0 0, .slice none 0 0] 98)
    simpa using this
  obtain ⟨c0, c1, c2, c3, c4, c5⟩ := hCb W (Below.refl _ _)
  have hxW := hx.later hb0
  obtain ⟨q, hq⟩ : ∃ q, acceptsB c = q := ⟨_, rfl⟩
  have HA := Lib.hid (accepts_b c x q W hxW wx lx (by rw [← hq, ← accepts_same]; rfl))
  have HQ := Lib.hid hq; have HB := Lib.hid hb0; have HS := Lib.hid hs0; have HR := Lib.hid hR; have HX := Lib.hid hxW
  simp only [cfgCells] at hW HA ⊢
  clear hb0 hs0 hR hx hxW hq
  cases q with
  | false =>
    have hp : PV c = [] := if_neg (by rw [HQ.out]; decide)
    have hs : SR c = [] := if_neg (by rw [HQ.out]; decide)
    have hd : DS c = [] := if_neg (by rw [HQ.out]; decide)
    have HP := Lib.hid hp; have HSS := Lib.hid hs; have HD := Lib.hid hd
    clear hp hs hd
    go_enter Tryd.func66, Tryd.ntmps66
    go_wp2_with (rw [← hW.out])
    refine HA.out.mono ?_
    rintro e w5 ⟨rfl, hb5⟩
    have hR5 := (hb5.block _ (Array.getElem?_eq_some_iff.1 HR.out).1).trans HR.out
    have f0 : w5.frozen? ⟨w.heap.size + 1, 0, none⟩ = false := by simp [World.frozen?, hR5]
    have f1 : w5.frozen? ⟨w.heap.size + 1, 1, none⟩ = false := by simp [World.frozen?, hR5]
    have f2 : w5.frozen? ⟨w.heap.size + 1, 2, none⟩ = false := by simp [World.frozen?, hR5]
    have y0 := cell_blk hR5 (i := 0) rfl
    have y1 := cell_blk hR5 (i := 1) rfl
    have y2 := cell_blk hR5 (i := 2) rfl
    have HR5 := Lib.hid hR5
    have HF := Lib.hid (HB.out.trans (hb5.mono HB.out.size))
    clear hb5 hR5 c0 c1 c2 c3 c4 c5 HA
    go_wp2
    have hRz : (((w5.setCell ⟨w.heap.size + 1, 0, none⟩ (.slice none 0 0)).setCell ⟨w.heap.size + 1, 1, none⟩ (.slice none 0 0)).setCell ⟨w.heap.size + 1, 2, none⟩ (.slice none 0 0)).heap[w.heap.size + 1]? = some (.cells #[.slice none 0 0, .slice none 0 0, .slice none 0 0] 98 (0, 0)) := by simp [World.setCell, Array.getElem?_modify, HR5.out]
    exact bodyPost_ret (results_cell_places rfl _ _ (w.heap.size + 1) _ _ _ rfl (cell_blk hRz (i := 0) rfl) (cell_blk hRz (i := 1) rfl) (cell_blk hRz (i := 2) rfl)) rfl
      ⟨_, _, _, rfl, by rw [HP.out]; exact OwnsOff.nil _ _ _ _, by rw [HSS.out]; exact OwnsOff.nil _ _ _ _, by rw [HD.out]; exact OwnsOff.nil _ _ _ _, ((HF.out.setCell (p := ⟨w.heap.size + 1, 0, none⟩) (by simp) _).setCell (p := ⟨w.heap.size + 1, 1, none⟩) (by simp) _).setCell (p := ⟨w.heap.size + 1, 2, none⟩) (by simp) _⟩
  | true =>
    have hp : PV c = pvL c c.parts.length := if_pos HQ.out
    have hs : SR c = srL c c.chans.length := if_pos HQ.out
    have hd : DS c = dsL c c.chans.length := if_pos HQ.out
    have HP := Lib.hid hp; have HSS := Lib.hid hs; have HD := Lib.hid hd; have HAC := Lib.hid (accd_of HQ.out)
    clear hp hs hd
    go_enter Tryd.func66, Tryd.ntmps66
    go_wp2_with (rw [← hW.out])
    refine HA.out.mono ?_
    rintro e w5 ⟨rfl, hb5⟩
    have hEa := heap_alloc_new w5 (.cells #[.int .i64 0] 110)
    obtain ⟨w6, hw6⟩ : ∃ u, Hid (u = w5.alloc (.cells #[.int .i64 0] 110)) := ⟨_, rfl⟩
    rw [← hw6.out] at hEa
    have hb6 : Below w5.heap.size w5 w6 := by rw [hw6.out]; exact (Below.refl _ _).alloc (Nat.le_refl _) _
    have hB6 := hb5.trans (hb6.mono hb5.size)
    have hR6 := (hB6.block _ (Array.getElem?_eq_some_iff.1 HR.out).1).trans HR.out
    have hin : CfgIn w6 w5.heap.size c x := (HX.out.below hB6).more hb5.size
    have HST := Lib.hid (stand_b c x w5.heap.size w6 hin wx HAC.out hEa)
    obtain ⟨d0, d1, d2, d3, d4, d5⟩ := hCb _ hB6
    have HB6 := Lib.hid hB6; have HR6 := Lib.hid hR6; have H5S := Lib.hid hb5.size
    simp only [cfgCells] at HST
    clear hb5 hR6 c0 c1 c2 c3 c4 c5 HA hEa hb6 hB6 hin
    go_wp2_with (rw [← hw6.out])
    refine HST.out.mono ?_
    rintro e w7 ⟨vp, vs, vd, rfl, r1, r2, r3, ho⟩
    have hb7 : Below W.heap.size W w7 := HB6.out.trans (ho.below (B := W.heap.size) HB6.out.size (fun k hk => by have : k = w5.heap.size := hk; have := H5S.out; omega))
    have hR7 := (hb7.block _ (Array.getElem?_eq_some_iff.1 HR.out).1).trans HR.out
    have f0 : w7.frozen? ⟨w.heap.size + 1, 0, none⟩ = false := by simp [World.frozen?, hR7]
    have f1 : w7.frozen? ⟨w.heap.size + 1, 1, none⟩ = false := by simp [World.frozen?, hR7]
    have f2 : w7.frozen? ⟨w.heap.size + 1, 2, none⟩ = false := by simp [World.frozen?, hR7]
    have y0 := cell_blk hR7 (i := 0) rfl
    have y1 := cell_blk hR7 (i := 1) rfl
    have y2 := cell_blk hR7 (i := 2) rfl
    have s6 := HB6.out.size
    have s0 := HS.out
    have HR7 := Lib.hid hR7; have HB7 := Lib.hid hb7; have H1 := Lib.hid r1; have H2 := Lib.hid r2; have H3 := Lib.hid r3
    obtain ⟨A1, k1, rfl, _⟩ := r1.slice
    obtain ⟨A2, k2, rfl, _⟩ := r2.slice
    obtain ⟨A3, k3, rfl, _⟩ := r3.slice
    clear hb7 hR7 r1 r2 r3 ho d0 d1 d2 d3 d4 d5
    go_wp2
    have hRz : (((w7.setCell ⟨w.heap.size + 1, 0, none⟩ (.slice A1 c.parts.length k1)).setCell ⟨w.heap.size + 1, 1, none⟩ (.slice A2 c.chans.length k2)).setCell ⟨w.heap.size + 1, 2, none⟩ (.slice A3 c.chans.length k3)).heap[w.heap.size + 1]? = some (.cells #[.slice A1 c.parts.length k1, .slice A2 c.chans.length k2, .slice A3 c.chans.length k3] 98 (0, 0)) := by simp [World.setCell, Array.getElem?_modify, HR7.out]
    have hO := ((Only.setCell w7 ⟨w.heap.size + 1, 0, none⟩ (.slice A1 c.parts.length k1)).trans (Only.setCell _ ⟨w.heap.size + 1, 1, none⟩ (.slice A2 c.chans.length k2))).trans (Only.setCell _ ⟨w.heap.size + 1, 2, none⟩ (.slice A3 c.chans.length k3))
    have keep : ∀ {v n xs}, OwnsOff w7 w6.heap.size 75 2 v n xs → OwnsOff _ w.heap.size 75 2 v n xs := fun h => (h.kept hO (fun k hk e => by have := (h.lt k hk).1; have : k = w.heap.size + 1 := e; omega)).mono (by omega)
    refine bodyPost_ret (results_cell_places rfl _ _ (w.heap.size + 1) _ _ _ rfl (cell_blk hRz (i := 0) rfl) (cell_blk hRz (i := 1) rfl) (cell_blk hRz (i := 2) rfl)) rfl ⟨_, _, _, rfl, ?_, ?_, ?_, ?_⟩
    · rw [HP.out, pvL_len]; exact keep H1.out
    · rw [HSS.out, srL_len]; exact keep H2.out
    · rw [HD.out, dsL_len]; exact keep H3.out
    · exact (HB.out.trans (HB7.out.mono HB.out.size)).trans (hO.below (Nat.le_trans HB.out.size HB7.out.size) (fun k hk => by have : k = w.heap.size + 1 := hk; omega))
end Go.Proofs.YtnemabgenaijhaaDoor
