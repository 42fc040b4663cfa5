/- The law's example. No condition but those in the statements. The law's examples hold. No condition but those in the statements. A poke and then a peek of one's own address tell the word. No condition but those in the statements. TaskAlone's law. No condition but those in the statements. -/
import Derived.Test.YtmhpcgcloojfbaaGreatDoorGA
import Derived.Test.YtmhpcgcloojfbaaGreatDoorTA
import Derived.BigQuiet
import Derived.IntWalk
import Derived.Deep.MidRow
import Derived.Deep.Upon
import Derived.BigRegion
import Derived.Deep.RegionHeld3
import Derived.Test.YtmhpcgcloojfbaaGreatDoorRBel
import Derived.Shelf.Abstract
namespace Go.Proofs.YtmhpcgcloojfbaaGreatDoor
open Go.RowKit Go.Sort
set_option linter.unusedVariables false
set_option linter.unusedSimpArgs false
set_option linter.unusedVariables false
set_option linter.unusedSimpArgs false

set_option maxRecDepth 100000
set_option maxHeartbeats 1600000
def cfgT : Cfg := ⟨[[0, 2], [1, 0]], [[1, 0, 1, 3, 0, 0, 0]], 1, [[0, 0, 1]], 1, [[1, 0, 1]]⟩
theorem cfgT_wf : CfgWf cfgT :=
  ⟨fun q hq => by simp [cfgT] at hq; rcases hq with rfl | rfl <;> exact wfN2_mk rfl rfl, fun q hq => by simp [cfgT] at hq; subst hq; exact wfN7_mk rfl rfl rfl rfl rfl rfl rfl, fun q hq => by simp [cfgT] at hq; subst hq; exact wfN3_mk rfl rfl rfl, fun q hq => by simp [cfgT] at hq; subst hq; exact wfN3_mk rfl rfl rfl, rfl, rfl⟩
theorem cfgT_few : CfgFew cfgT := ⟨by simp [cfgT], by simp [cfgT], by simp [cfgT], by simp [cfgT]⟩
theorem cfgT_acc : acceptsB cfgT = true := by kernel_rfl
theorem cfgT_size : sizeN cfgT = 26 := by kernel_rfl
theorem cfgT_create : refusedN cfgT 0 false [] 1 0 0 0 = 0 := by kernel_rfl
theorem cfgT_peek0 : refusedN cfgT 0 false [] 8 0 0 0 = 0 := by kernel_rfl
theorem cfgT_peek1 : refusedN cfgT 0 false [] 8 0 1 0 = 0 := by kernel_rfl
theorem cfgT_poke0 : refusedN cfgT 0 false [] 9 0 0 1 = 0 := by kernel_rfl
theorem cfgT_poke1 : refusedN cfgT 0 false [] 9 0 1 1 = 0 := by kernel_rfl
theorem example_b (w : World) : Calls Tryz.prog 15 #[] w fun e w' => ∃ x, e = .returned (.agg (cfgCells cfgT x)) ∧ CfgIn w' w'.heap.size cfgT x ∧ Below w.heap.size w w' := by
  have hwf := cfgT_wf
  go_enter Tryz.func15, Tryz.ntmps15
  go_wp2
  obtain ⟨V, hV⟩ : ∃ u, Hid (u = ((((((w.alloc (.cells #[.slice (some ⟨w.heap.size + 1, 0, none⟩) 2 2, .slice (some ⟨w.heap.size + 1 + 1, 0, none⟩) 1 1, .int .i64 1, .slice (some ⟨w.heap.size + 1 + 1 + 1 + 1, 0, none⟩) 1 1, .int .i64 1, .slice (some ⟨w.heap.size + 1 + 1 + 1 + 1 + 1, 0, none⟩) 1 1] 29)).alloc (.cells #[.int .i64 0, .int .i64 2, .int .i64 1, .int .i64 0] 102)).alloc (.cells #[.int .i64 1, .int .i64 0, .int .i64 1, .int .i64 3, .int .i64 0, .int .i64 0, .int .u32 0] 58)).alloc (.cells #[.slice (some ⟨w.heap.size + 1, 0, none⟩) 2 2, .slice (some ⟨w.heap.size + 1 + 1, 0, none⟩) 1 1, .int .i64 1, .slice (some ⟨w.heap.size + 1 + 1 + 1 + 1, 0, none⟩) 1 1, .int .i64 1, .slice (some ⟨w.heap.size + 1 + 1 + 1 + 1 + 1, 0, none⟩) 1 1] 29)).alloc (.cells #[.int .i64 0, .int .i64 0, .int .i64 1] 104)).alloc (.cells #[.int .i64 1, .int .i64 0, .int .i64 1] 104))) := ⟨_, rfl⟩
  rw [← hV.out]
  have h0 : V.heap[w.heap.size]? = some (.cells #[.slice (some ⟨w.heap.size + 1, 0, none⟩) 2 2, .slice (some ⟨w.heap.size + 1 + 1, 0, none⟩) 1 1, .int .i64 1, .slice (some ⟨w.heap.size + 1 + 1 + 1 + 1, 0, none⟩) 1 1, .int .i64 1, .slice (some ⟨w.heap.size + 1 + 1 + 1 + 1 + 1, 0, none⟩) 1 1] 29) := by rw [hV.out]; rw [Below.heap_alloc _ _ _ (by simp; try omega)]; rw [Below.heap_alloc _ _ _ (by simp; try omega)]; rw [Below.heap_alloc _ _ _ (by simp; try omega)]; rw [Below.heap_alloc _ _ _ (by simp; try omega)]; rw [Below.heap_alloc _ _ _ (by simp; try omega)]; exact heap_new_at _ _ (by simp)
  have h1 : V.heap[w.heap.size + 1]? = some (.cells #[.int .i64 0, .int .i64 2, .int .i64 1, .int .i64 0] 102) := by rw [hV.out]; rw [Below.heap_alloc _ _ _ (by simp; try omega)]; rw [Below.heap_alloc _ _ _ (by simp; try omega)]; rw [Below.heap_alloc _ _ _ (by simp; try omega)]; rw [Below.heap_alloc _ _ _ (by simp; try omega)]; exact heap_new_at _ _ (by simp)
  have h2 : V.heap[w.heap.size + 1 + 1]? = some (.cells #[.int .i64 1, .int .i64 0, .int .i64 1, .int .i64 3, .int .i64 0, .int .i64 0, .int .u32 0] 58) := by rw [hV.out]; rw [Below.heap_alloc _ _ _ (by simp; try omega)]; rw [Below.heap_alloc _ _ _ (by simp; try omega)]; rw [Below.heap_alloc _ _ _ (by simp; try omega)]; exact heap_new_at _ _ (by simp)
  have h3 : V.heap[w.heap.size + 1 + 1 + 1]? = some (.cells #[.slice (some ⟨w.heap.size + 1, 0, none⟩) 2 2, .slice (some ⟨w.heap.size + 1 + 1, 0, none⟩) 1 1, .int .i64 1, .slice (some ⟨w.heap.size + 1 + 1 + 1 + 1, 0, none⟩) 1 1, .int .i64 1, .slice (some ⟨w.heap.size + 1 + 1 + 1 + 1 + 1, 0, none⟩) 1 1] 29) := by rw [hV.out]; rw [Below.heap_alloc _ _ _ (by simp; try omega)]; rw [Below.heap_alloc _ _ _ (by simp; try omega)]; exact heap_new_at _ _ (by simp)
  have h4 : V.heap[w.heap.size + 1 + 1 + 1 + 1]? = some (.cells #[.int .i64 0, .int .i64 0, .int .i64 1] 104) := by rw [hV.out]; rw [Below.heap_alloc _ _ _ (by simp; try omega)]; exact heap_new_at _ _ (by simp)
  have h5 : V.heap[w.heap.size + 1 + 1 + 1 + 1 + 1]? = some (.cells #[.int .i64 1, .int .i64 0, .int .i64 1] 104) := by rw [hV.out]; exact heap_new_at _ _ (by simp)
  have hB : Below w.heap.size w V := by rw [hV.out]; exact ((((((Below.refl _ _).alloc (Nat.le_refl _) _).alloc (by simp; try omega) _).alloc (by simp; try omega) _).alloc (by simp; try omega) _).alloc (by simp; try omega) _).alloc (by simp; try omega) _
  have hS : V.heap.size = w.heap.size + 6 := by rw [hV.out]; simp
  have y0 := cell_blk h0 (i := 0) rfl
  have y1 := cell_blk h0 (i := 1) rfl
  have y2 := cell_blk h0 (i := 2) rfl
  have y3 := cell_blk h0 (i := 3) rfl
  have y4 := cell_blk h0 (i := 4) rfl
  have y5 := cell_blk h0 (i := 5) rfl
  clear hV
  refine bodyPost_ret (v := .agg #[.slice (some ⟨w.heap.size + 1, 0, none⟩) 2 2, .slice (some ⟨w.heap.size + 1 + 1, 0, none⟩) 1 1, .int .i64 1, .slice (some ⟨w.heap.size + 1 + 1 + 1 + 1, 0, none⟩) 1 1, .int .i64 1, .slice (some ⟨w.heap.size + 1 + 1 + 1 + 1 + 1, 0, none⟩) 1 1]) (by simp [results, Tryz.results15, go_sem, y0, y1, y2, y3, y4, y5]) rfl ⟨⟨some ⟨w.heap.size + 1, 0, none⟩, 2, some ⟨w.heap.size + 1 + 1, 0, none⟩, 1, some ⟨w.heap.size + 1 + 1 + 1 + 1, 0, none⟩, 1, some ⟨w.heap.size + 1 + 1 + 1 + 1 + 1, 0, none⟩, 1⟩, rfl, ⟨?_, ?_, ?_, ?_, ?_, ?_, ?_, ?_⟩, hB⟩
  · exact row_lit [.i64, .i64] (l := cfgT.parts) h1 (by omega) hwf.wp rfl
  · exact row_lit [.i64, .i64, .i64, .i64, .i64, .i64, .u32] (l := cfgT.chans) h2 (by omega) hwf.wc rfl
  · exact row_lit [.i64, .i64, .i64] (l := cfgT.win0) h4 (by omega) hwf.wa rfl
  · exact row_lit [.i64, .i64, .i64] (l := cfgT.win1) h5 (by omega) hwf.wb rfl
  all_goals exact ⟨by simp [cfgT], by simp [maxLen], fun h => by cases h⟩
end Go.Proofs.YtmhpcgcloojfbaaGreatDoor

namespace Go.Proofs.YtmhpcgcloojfbaaGreatDoor
open Go.RowKit Go.Sort
set_option linter.unusedVariables false
set_option linter.unusedSimpArgs false
set_option linter.unusedVariables false
set_option linter.unusedSimpArgs false

set_option maxRecDepth 100000
set_option maxHeartbeats 1600000
theorem run_did13 (v : Value) (w : World) : (Instr.field 68 (.agg #[.bool true, .int .i64 0, v, .bool false, .int .i64 0, .bool true, .bool false, .bool false, .int .i64 0]) 0).run Tryz.prog w = .ok (.bool true) w := by kernel_rfl
theorem sin0 (w : World) : SIn w [] none := ⟨fun h => absurd h (by simp), by simp⟩
theorem wakesT_b (w : World) (hT : TabsAt w) : Calls Tryz.prog 7 #[] w fun e w' => e = .returned (.bool true) ∧ Below w.heap.size w w' := by
  have HT := Lib.hid hT
  clear hT
  go_enter Tryz.func7, Tryz.ntmps7
  go_wp2_with fail
  refine (example_b w).mono ?_
  rintro e w1 ⟨x, rfl, hx1, hb1⟩
  obtain ⟨W, HW, hB2, hWs, bx⟩ := one_cbox w1 cfgT x 29
  have hxW := hx1.later hB2
  have hBW := hb1.trans (hB2.mono hb1.size)
  have HB1 := Lib.hid (fun (V : World) (hb : Below W.heap.size W V) => begin1_b cfgT x 0 false 0 [] [] none none 0 0 0 0 none 0 0 V (hxW.later hb) cfgT_wf cfgT_few (sin0 V) (sin0 V) rfl rfl (by omega) (HT.out.later (hBW.trans (hb.mono hBW.size))) cfgT_create)
  have HB8 := Lib.hid (fun (V : World) (hb : Below W.heap.size W V) => begin8_b cfgT x 0 false 0 [] [] none none 0 0 0 1 none 0 0 V (hxW.later hb) cfgT_wf cfgT_few (sin0 V) (sin0 V) rfl rfl (by omega) (HT.out.later (hBW.trans (hb.mono hBW.size))) cfgT_peek1)
  have HSI := Lib.hid (fun (V : World) (hb : Below W.heap.size W V) => rsize_b cfgT x V (hxW.later hb) cfgT_wf cfgT_few)
  rw [cfgT_size] at HSI
  obtain ⟨pa, pc, ca, cc, aa, ac, ba, bc⟩ := x
  have BX := Lib.hid (fun (V : World) (hb : Below W.heap.size W V) => bx V hb)
  have HBW := Lib.hid hBW
  simp only [cfgCells, List.length_nil] at HW HB1 HB8 HSI ⊢
  obtain ⟨c0, c1, c2, c3, c4, c5⟩ := BX.out W (Below.refl _ _)
  clear hx1 hb1 hB2 hWs bx hxW hBW
  go_wp2_with (first | (rw [← HW.out]))
  refine (HB1.out W (Below.refl _ _)).mono ?_
  rintro e w2 ⟨rfl, hb2⟩
  obtain ⟨Y11, HY11, hbY11, hsY11, yx1⟩ := box_new w2 #[.int .i64 0, .slice none 0 0, .bool false, .int .i64 0] 42
  obtain ⟨lb1, hlb1⟩ : ∃ k, k = w2.heap.size := ⟨_, rfl⟩
  have hth1 := there_blk (W := Y11) (yx1 _ (Below.refl _ _)) (n := (#[.int .i64 0, .slice none 0 0, .bool false, .int .i64 0] : Array Value).size) rfl
  have hsz1 : (Tryz.prog.info? 42).map (·.size) = some (#[.int .i64 0, .slice none 0 0, .bool false, .int .i64 0] : Array Value).size := ans_size
  obtain ⟨Y12, HY12⟩ : ∃ u, Hid (u = Y11.setCells w2.heap.size 0 [.int .i64 0, .slice none 0 0, .bool false, .int .i64 0]) := ⟨_, rfl⟩
  have hy1 : Y12.heap[w2.heap.size]? = some (.cells #[.int .i64 0, .slice none 0 0, .bool false, .int .i64 0] 42 (0, 0)) := by rw [HY12.out]; exact block_setCells (yx1 _ (Below.refl _ _)) _ rfl
  have hbP1 : Below w2.heap.size w2 Y12 := by rw [HY12.out]; exact below_setCells _ _ _ hbY11 (Nat.le_refl _)
  have hbA1 := (hb2).trans (hbP1.mono (hb2).size)
  rw [← hlb1] at hth1 hy1
  have HLB1 := Lib.hid hlb1; have HA1 := Lib.hid hbA1; have HP1 := Lib.hid hbP1; have HYB1 := Lib.hid hy1
  clear hbY11 hsY11 yx1 hlb1 hbP1 hbA1 hy1
  clear hb2 c0 c1 c2 c3 c4 c5
  obtain ⟨c0, c1, c2, c3, c4, c5⟩ := BX.out Y12 HA1.out
  go_wp2_with (first | (simp only [← HLB1.out]; rw [← HY11.out]) | (with_reducible refine wpList_store_mid (by kernel_rfl) _ _ _ rfl lb1 0 #[.int .i64 0, .slice none 0 0, .bool false, .int .i64 0] (by kernel_rfl) (by kernel_rfl) hth1 hsz1 (by kernel_rfl) ?_) | (simp only [HLB1.out]; rw [← HY12.out]; simp only [← HLB1.out]))
  refine (HB8.out Y12 HA1.out).mono ?_
  rintro e w3 ⟨tb, rfl, htb, htl, hb3⟩
  have hb3' := HA1.out.trans (hb3.mono HA1.out.size)
  obtain ⟨Y21, HY21, hbY21, hsY21, yx2⟩ := box_new w3 #[.int .i64 0, .slice none 0 0, .bool false, .int .i64 0] 42
  obtain ⟨lb2, hlb2⟩ : ∃ k, k = w3.heap.size := ⟨_, rfl⟩
  have hth2 := there_blk (W := Y21) (yx2 _ (Below.refl _ _)) (n := (#[.int .i64 0, .slice none 0 0, .bool false, .int .i64 0] : Array Value).size) rfl
  have hsz2 : (Tryz.prog.info? 42).map (·.size) = some (#[.int .i64 0, .slice none 0 0, .bool false, .int .i64 0] : Array Value).size := ans_size
  obtain ⟨Y22, HY22⟩ : ∃ u, Hid (u = Y21.setCells w3.heap.size 0 [.int .i64 0, .slice none 0 0, .bool false, .int .i64 0]) := ⟨_, rfl⟩
  have hy2 : Y22.heap[w3.heap.size]? = some (.cells #[.int .i64 0, .slice none 0 0, .bool false, .int .i64 0] 42 (0, 0)) := by rw [HY22.out]; exact block_setCells (yx2 _ (Below.refl _ _)) _ rfl
  have hbP2 : Below w3.heap.size w3 Y22 := by rw [HY22.out]; exact below_setCells _ _ _ hbY21 (Nat.le_refl _)
  have hbA2 := (hb3').trans (hbP2.mono (hb3').size)
  rw [← hlb2] at hth2 hy2
  have HLB2 := Lib.hid hlb2; have HA2 := Lib.hid hbA2; have HP2 := Lib.hid hbP2; have HYB2 := Lib.hid hy2
  clear hbY21 hsY21 yx2 hlb2 hbP2 hbA2 hy2
  have htY : Y22.heap[tb]? = some (.cells #[.iface 132 (.agg #[.int .u32 0, .int .u64 1]), .int .i64 (1), .bool false] 83 (0, 0)) := (HP2.out.block tb (Array.getElem?_eq_some_iff.1 htb).1).trans htb
  have hll : lb1 < Y12.heap.size := (Array.getElem?_eq_some_iff.1 HYB1.out).1
  have l0 : Y22.cell? ⟨lb1, 0, none⟩ = some (.int .i64 0) := cell_blk ((HP2.out.block lb1 (Nat.lt_of_lt_of_le hll hb3.size)).trans ((hb3.block lb1 hll).trans HYB1.out)) rfl
  have HTB := Lib.hid htY; have HTL := Lib.hid htl
  clear hb3 hb3' htb htl htY hll c0 c1 c2 c3 c4 c5 hth1 hsz1
  obtain ⟨c0, c1, c2, c3, c4, c5⟩ := BX.out Y22 HA2.out
  go_wp2_with (first | (simp only [← HLB2.out]; rw [← HY21.out]) | (with_reducible refine wpList_store_mid (by kernel_rfl) _ _ _ rfl lb2 0 #[.int .i64 0, .slice none 0 0, .bool false, .int .i64 0] (by kernel_rfl) (by kernel_rfl) hth2 hsz2 (by kernel_rfl) ?_) | (simp only [HLB2.out]; rw [← HY22.out]; simp only [← HLB2.out]))
  refine (HSI.out Y22 HA2.out).mono ?_
  rintro e w4 ⟨rfl, hb4⟩
  clear c0 c1 c2 c3 c4 c5 l0 hth2 hsz2
  go_wp2_with fail
  refine (memNew_at 26 26 rfl w4 (by omega)).mono ?_
  rintro e w5 ⟨mb, rb, rfl, h1, h2, hm, hb5⟩
  go_wp2_with fail
  refine (Bel.new_in 2 2 rfl w5 (by omega)).mono ?_
  rintro e w6 ⟨bb, br, rfl, -, -, -, hb6⟩
  have h46 := hb4.trans ((hb5.trans (hb6.mono hb5.size)).mono hb4.size)
  have h6 := HB8.out
  have htb6 := (h46.block tb (Array.getElem?_eq_some_iff.1 HTB.out).1).trans HTB.out
  have hPK := peekT_b tb 0 1 1 1 rfl (some ⟨bb, 0, none⟩) 0 (hm.below hb6) (by simp) (by simp) htb6 (by omega)
  have HPK := Lib.hid hPK
  have HW6 := Lib.hid (HA2.out.trans (h46.mono HA2.out.size)); have H6T := Lib.hid (Array.getElem?_eq_some_iff.1 htb6).1
  clear h1 h2 hm hb5 hb6 hb4 h46 h6 htb6 hPK
  go_wp2_with fail
  refine HPK.out.mono ?_
  rintro e w7 ⟨db, rfl, -, -, ho, ht7⟩
  have HO7 := Lib.hid ho
  have hfd := run_did13 (.slice (some ⟨db, 0, none⟩) 1 1)
  clear ho
  go_wp2_with fail
  refine (steps_b tb _ _ _ _ w7 ht7).mono ?_
  rintro e w8 ⟨rfl, rfl⟩
  have HLT := Lib.hid (show w.heap.size ≤ tb by have := HTL.out; have := HBW.out.size; have := HA1.out.size; omega)
  clear ht7
  go_wp2
  go_ret
  exact ⟨rfl, (HBW.out.trans (HW6.out.mono HBW.out.size)).trans (HO7.out.below (Nat.le_trans HBW.out.size HW6.out.size) (fun k e => by have := HLT.out; omega))⟩
end Go.Proofs.YtmhpcgcloojfbaaGreatDoor

namespace Go.Proofs.YtmhpcgcloojfbaaGreatDoor
open Go.RowKit Go.Sort
set_option linter.unusedVariables false
set_option linter.unusedSimpArgs false
set_option linter.unusedVariables false
set_option linter.unusedSimpArgs false
open Go.RowKit Go.Sort

set_option maxRecDepth 100000
set_option maxHeartbeats 1600000
theorem sameT_b (xs : List Int) (A A' : Option Addr) (c c' : Nat) (w : World) (hx : IntRowK .u32 w w.heap.size A xs) (hy : IntRowK .u32 w w.heap.size A' xs) (hl : xs.length ≤ 1000000) :
    Calls Tryz.prog 21 #[.slice A xs.length c, .slice A' xs.length c'] w fun e w' => e = .returned (.bool true) ∧ Below w.heap.size w w' := by
  go_enter Tryz.func21, Tryz.ntmps21
  go_wp2
  go_loopw [5] (fun ix wr => ∃ k : Nat, k ≤ xs.length ∧ ix = .int .i64 k ∧ Below w.heap.size w wr) (fun ix _ => xs.length - (intOf ix).toNat)
  case atStart => exact ⟨0, Nat.zero_le _, rfl, Below.refl _ _⟩
  case round =>
    obtain ⟨k, hk, rfl, hbc⟩ := hrel
    by_cases hlt : k < xs.length
    · obtain ⟨b, o, rfl, h1, k0⟩ := hx.at_ hlt
      obtain ⟨b', o', rfl, h2, k1⟩ := hy.at_ hlt
      have k0 := k0 _ hbc
      have k1 := k1 _ hbc
      obtain ⟨x, hxx⟩ : ∃ x, x = xs.getD k 0 := ⟨_, rfl⟩
      rw [← hxx] at k0 k1
      have k0 : ∀ p : Regrown, (grow (redrawn wr p.d) p.os).cell? ⟨b, o + k, none⟩ = some (.int .u32 x) := fun p => cell_regrown k0 p.d p.os
      have k1 : ∀ p : Regrown, (grow (redrawn wr p.d) p.os).cell? ⟨b', o' + k, none⟩ = some (.int .u32 x) := fun p => cell_regrown k1 p.d p.os
      have hbr := Below.refl wr.heap.size wr
      have s1 : (k : Int) < (xs.length : Int) := by omega
      clear hxx hx hy h1 h2
      go_wp2_with ((first | with_reducible refine wpList_on hbr ?_ | with_reducible refine wp_on hbr (by kernel_rfl) (by kernel_rfl) ?_); (repeat (go_big_quiet_step (fail))); with_reducible refine wpQuiet_nil ?_; intro wc hbr)
      go_roundw
      case rel => exact ⟨k + 1, by omega, by go_num, hbc.trans (hbr.mono hbc.size)⟩
      case measure => simp [intOf]; omega
    · have s1 : ¬ ((k : Int) < (xs.length : Int)) := by omega
      go_wp2
      go_ret
      exact ⟨rfl, hbc⟩
theorem alone0_b (at_ v : Int) (w : World) (hT : TabsAt w) (hk : at_ % 2 = 0) (hu : 0 ≤ at_ ∧ at_ ≤ 255) :
    Calls Tryz.prog 6 #[.int .u8 at_, .int .u32 v] w fun e w' => e = .returned (.bool true) ∧ Below w.heap.size w w' := by
  have hr1 : at_.tmod 2 = 0 := by rw [Int.tmod_eq_emod_of_nonneg hu.1]; exact hk
  have HT := Lib.hid hT
  clear hT hu
  go_enter Tryz.func6, Tryz.ntmps6
  go_wp2_with fail
  refine (wakesT_b w HT.out).mono ?_
  rintro e w1 ⟨rfl, hb1⟩
  go_wp2_with fail
  refine (example_b w1).mono ?_
  rintro e w2 ⟨x, rfl, hx2, hb2⟩
  obtain ⟨W, HW, hB3, hWs, bx⟩ := one_cbox w2 cfgT x 29
  have hxW := hx2.later hB3
  have hBW := hb1.trans ((hb2.trans (hB3.mono hb2.size)).mono hb1.size)
  have HB9 := Lib.hid (fun (V : World) (hb : Below W.heap.size W V) (g : Nat) (hg : V.cell? ⟨g, 0, none⟩ = some (.int .u32 v)) => begin9_b cfgT x 0 false 0 [] [] none none 0 0 0 0 (some ⟨g, 0, none⟩) 1 1 V (hxW.later hb) cfgT_wf cfgT_few (sin0 V) (sin0 V) rfl rfl (by omega) (HT.out.later (hBW.trans (hb.mono hBW.size))) cfgT_poke0 g 0 v rfl rfl hg)
  have HB8 := Lib.hid (fun (V : World) (hb : Below W.heap.size W V) => begin8_b cfgT x 0 false 0 [] [] none none 0 0 0 0 none 0 0 V (hxW.later hb) cfgT_wf cfgT_few (sin0 V) (sin0 V) rfl rfl (by omega) (HT.out.later (hBW.trans (hb.mono hBW.size))) cfgT_peek0)
  have HSI := Lib.hid (fun (V : World) (hb : Below W.heap.size W V) => rsize_b cfgT x V (hxW.later hb) cfgT_wf cfgT_few)
  rw [cfgT_size] at HSI
  obtain ⟨pa, pc, ca, cc, aa, ac, ba, bc⟩ := x
  have BX := Lib.hid (fun (V : World) (hb : Below W.heap.size W V) => bx V hb)
  have HBW := Lib.hid hBW
  simp only [cfgCells, List.length_nil] at HW HB9 HB8 HSI ⊢
  obtain ⟨c0, c1, c2, c3, c4, c5⟩ := BX.out W (Below.refl _ _)
  clear hx2 hb1 hb2 hB3 hWs bx hxW hBW
  go_wp2_with (first | (rw [← HW.out]))
  refine (HSI.out W (Below.refl _ _)).mono ?_
  rintro e w4 ⟨rfl, hb4⟩
  clear c0 c1 c2 c3 c4 c5
  go_wp2_with fail
  refine (memNew_at 26 26 rfl w4 (by omega)).mono ?_
  rintro e w5 ⟨mb, rb, rfl, h1, h2, hm, hb5⟩
  go_wp2_with fail
  refine (Bel.new_in 2 2 rfl w5 (by omega)).mono ?_
  rintro e w6 ⟨bb, br, rfl, -, -, -, hb6⟩
  have hm6 := hm.below hb6
  have h6 := hb4.trans ((hb5.trans (hb6.mono hb5.size)).mono hb4.size)
  obtain ⟨V6, HV6, hbV6, hsV6, vx6⟩ := box_new w6 #[.int .u32 v] 45
  have hV6 := h6.trans (hbV6.mono h6.size)
  have hg6 : V6.cell? ⟨w6.heap.size, 0, none⟩ = some (.int .u32 v) := cell_blk (vx6 _ (Below.refl _ _)) rfl
  have HMV := Lib.hid (hm6.below hbV6)
  have HLOW := Lib.hid (show W.heap.size ≤ mb ∧ W.heap.size ≤ rb by have := hb4.size; omega)
  have HV := Lib.hid hV6; have H6 := Lib.hid h6
  have HC9 := Lib.hid (HB9.out V6 hV6 w6.heap.size hg6)
  obtain ⟨c0, c1, c2, c3, c4, c5⟩ := BX.out w6 h6
  clear hb4 h1 h2 hm hb5 hb6 hm6 h6 hbV6 hsV6 vx6 hV6 hg6
  go_wp2_with (first | (rw [← HV6.out]))
  refine HC9.out.mono ?_
  rintro e w7 ⟨tp, rfl, htp, htpl, hb7⟩
  have hb7' := HV.out.trans (hb7.mono HV.out.size)
  obtain ⟨Y11, HY11, hbY11, hsY11, yx1⟩ := box_new w7 #[.int .i64 0, .slice none 0 0, .bool false, .int .i64 0] 42
  obtain ⟨lb1, hlb1⟩ : ∃ k, k = w7.heap.size := ⟨_, rfl⟩
  have hth1 := there_blk (W := Y11) (yx1 _ (Below.refl _ _)) (n := (#[.int .i64 0, .slice none 0 0, .bool false, .int .i64 0] : Array Value).size) rfl
  have hsz1 : (Tryz.prog.info? 42).map (·.size) = some (#[.int .i64 0, .slice none 0 0, .bool false, .int .i64 0] : Array Value).size := ans_size
  obtain ⟨Y12, HY12⟩ : ∃ u, Hid (u = Y11.setCells w7.heap.size 0 [.int .i64 0, .slice none 0 0, .bool false, .int .i64 0]) := ⟨_, rfl⟩
  have hy1 : Y12.heap[w7.heap.size]? = some (.cells #[.int .i64 0, .slice none 0 0, .bool false, .int .i64 0] 42 (0, 0)) := by rw [HY12.out]; exact block_setCells (yx1 _ (Below.refl _ _)) _ rfl
  have hbP1 : Below w7.heap.size w7 Y12 := by rw [HY12.out]; exact below_setCells _ _ _ hbY11 (Nat.le_refl _)
  have hbA1 := (hb7').trans (hbP1.mono (hb7').size)
  rw [← hlb1] at hth1 hy1
  have HLB1 := Lib.hid hlb1; have HA1 := Lib.hid hbA1; have HP1 := Lib.hid hbP1; have HYB1 := Lib.hid hy1
  clear hbY11 hsY11 yx1 hlb1 hbP1 hbA1 hy1
  have HTP := Lib.hid ((HP1.out.block tp (Array.getElem?_eq_some_iff.1 htp).1).trans htp); have HTPL := Lib.hid htpl
  have HM1 := Lib.hid (HMV.out.below (hb7.trans (HP1.out.mono hb7.size)))
  clear hb7 hb7' htp htpl c0 c1 c2 c3 c4 c5
  obtain ⟨c0, c1, c2, c3, c4, c5⟩ := BX.out Y12 HA1.out
  go_wp2_with (first | (simp only [← HLB1.out]; rw [← HY11.out]) | (with_reducible refine wpList_store_mid (by kernel_rfl) _ _ _ rfl lb1 0 #[.int .i64 0, .slice none 0 0, .bool false, .int .i64 0] (by kernel_rfl) (by kernel_rfl) hth1 hsz1 (by kernel_rfl) ?_) | (simp only [HLB1.out]; rw [← HY12.out]; simp only [← HLB1.out]))
  refine (HB8.out Y12 HA1.out).mono ?_
  rintro e w8 ⟨tq, rfl, htq, htql, hb8⟩
  have hb8' := HA1.out.trans (hb8.mono HA1.out.size)
  obtain ⟨Y21, HY21, hbY21, hsY21, yx2⟩ := box_new w8 #[.int .i64 0, .slice none 0 0, .bool false, .int .i64 0] 42
  obtain ⟨lb2, hlb2⟩ : ∃ k, k = w8.heap.size := ⟨_, rfl⟩
  have hth2 := there_blk (W := Y21) (yx2 _ (Below.refl _ _)) (n := (#[.int .i64 0, .slice none 0 0, .bool false, .int .i64 0] : Array Value).size) rfl
  have hsz2 : (Tryz.prog.info? 42).map (·.size) = some (#[.int .i64 0, .slice none 0 0, .bool false, .int .i64 0] : Array Value).size := ans_size
  obtain ⟨Y22, HY22⟩ : ∃ u, Hid (u = Y21.setCells w8.heap.size 0 [.int .i64 0, .slice none 0 0, .bool false, .int .i64 0]) := ⟨_, rfl⟩
  have hy2 : Y22.heap[w8.heap.size]? = some (.cells #[.int .i64 0, .slice none 0 0, .bool false, .int .i64 0] 42 (0, 0)) := by rw [HY22.out]; exact block_setCells (yx2 _ (Below.refl _ _)) _ rfl
  have hbP2 : Below w8.heap.size w8 Y22 := by rw [HY22.out]; exact below_setCells _ _ _ hbY21 (Nat.le_refl _)
  have hbA2 := (hb8').trans (hbP2.mono (hb8').size)
  rw [← hlb2] at hth2 hy2
  have HLB2 := Lib.hid hlb2; have HA2 := Lib.hid hbA2; have HP2 := Lib.hid hbP2; have HYB2 := Lib.hid hy2
  clear hbY21 hsY21 yx2 hlb2 hbP2 hbA2 hy2
  have h12 := hb8.trans (HP2.out.mono hb8.size)
  have hmY := HM1.out.below h12
  have htpY := (h12.block tp (Array.getElem?_eq_some_iff.1 HTP.out).1).trans HTP.out
  have htqY := (HP2.out.block tq (Array.getElem?_eq_some_iff.1 htq).1).trans htq
  have hor : mb ≠ tp ∧ rb ≠ tp ∧ tq ≠ rb ∧ tq ≠ tp ∧ W.heap.size ≤ tp ∧ W.heap.size ≤ tq := by
    have q1 := HMV.out.lt; have q2 := HTPL.out; have q3 := HM1.out.lt; have q4 := htql; have q5 := (Array.getElem?_eq_some_iff.1 HTP.out).1; have q6 := HV.out.size; have q7 := HA1.out.size; omega
  have HOR := Lib.hid hor
  have HMQ := Lib.hid (show mb ≠ tq by have := HM1.out.lt; have := htql; omega)
  have HPO := Lib.hid (pokeT_b tp 0 0 v 1 0 rfl (some ⟨bb, 0, none⟩) 0 hmY (by simp) (by simp) ⟨hor.1, hor.2.1⟩ htpY (by omega))
  have HTQ := Lib.hid htqY
  have hfd := run_did13 (.slice none 0 0)
  clear hb8 hb8' htq htql h12 hmY htpY htqY hor c0 c1 c2 c3 c4 c5 hth1 hsz1
  go_wp2_with (first | (simp only [← HLB2.out]; rw [← HY21.out]) | (with_reducible refine wpList_store_mid (by kernel_rfl) _ _ _ rfl lb2 0 #[.int .i64 0, .slice none 0 0, .bool false, .int .i64 0] (by kernel_rfl) (by kernel_rfl) hth2 hsz2 (by kernel_rfl) ?_) | (simp only [HLB2.out]; rw [← HY22.out]; simp only [← HLB2.out]))
  refine HPO.out.mono ?_
  rintro e w9 ⟨rfl, hm9, ho9, ht9⟩
  obtain ⟨zs, hzs⟩ : ∃ zs, zs = (List.replicate 26 (0 : Int)).set 0 v := ⟨_, rfl⟩
  rw [← hzs] at hm9
  have hzl : zs.length = 26 := by rw [hzs]; simp
  have hzg : ∀ i : Nat, i < 26 → zs.getD i 0 = if i = 0 then v else 0 := fun i hi => by
    rw [hzs, List.getD_eq_getElem?_getD, List.getElem?_set, List.getElem?_replicate]
    by_cases h : 0 = i
    · subst h; simp
    · simp [h, hi, Ne.symm h]
  have htq9 := ho9.at_ HTQ.out (fun e => by have := HOR.out; omega)
  have HPE := Lib.hid (peekT_b tq 0 0 1 0 rfl (some ⟨bb, 0, none⟩) 0 hm9 (by omega) (by omega) htq9 (by omega))
  rw [hzg 0 (by omega), if_pos rfl] at HPE
  have HO9 := Lib.hid ho9; have HM9 := Lib.hid hm9; have HZL := Lib.hid hzl; have HZG := Lib.hid hzg
  clear hm9 ho9 ht9 hzs hzl hzg htq9 hth2 hsz2
  go_wp2_with fail
  refine HPE.out.mono ?_
  rintro e w10 ⟨db, rfl, hdl, hdb, ho10, -⟩
  obtain ⟨V1, HV1, hbV1, hsV1, vx1⟩ := box_new w10 #[.bool true, .int .i64 0, .slice (some ⟨db, 0, none⟩) 1 1, .bool false, .int .i64 0, .bool true, .bool false, .bool false, .int .i64 0] 68
  obtain ⟨eb, heb⟩ : ∃ k, k = w10.heap.size := ⟨_, rfl⟩
  have hev : V1.heap[eb]? = some (.cells #[.bool true, .int .i64 0, .slice (some ⟨db, 0, none⟩) 1 1, .bool false, .int .i64 0, .bool true, .bool false, .bool false, .int .i64 0] 68 (0, 0)) := by rw [heb]; exact vx1 _ (Below.refl _ _)
  have hdv := (hbV1.block db (Array.getElem?_eq_some_iff.1 hdb).1).trans hdb
  have hmV := (HM9.out.only ho10 (fun e => by have := HOR.out; have := HMQ.out; omega) (fun e => by have := HOR.out; omega)).below hbV1
  have HEB := Lib.hid heb; have HEV := Lib.hid hev; have HDV := Lib.hid hdv; have HMW := Lib.hid hmV; have HBV := Lib.hid hbV1; have HO10 := Lib.hid ho10
  clear hdl hdb ho10 hbV1 hsV1 vx1 heb hev hdv hmV
  go_wp2_with (first | (simp only [← HEB.out]; rw [← HV1.out]))
  refine (memWords_b mb rb zs V1 HMW.out (by have := HZL.out; omega)).mono ?_
  rintro e w11 ⟨g, rfl, hgl, hgw, hb11⟩
  rw [HZL.out]
  have HGW := Lib.hid hgw
  have HEW := Lib.hid ((hb11.block eb (Array.getElem?_eq_some_iff.1 HEV.out).1).trans HEV.out)
  have HDW := Lib.hid ((hb11.block db (Array.getElem?_eq_some_iff.1 HDV.out).1).trans HDV.out)
  have HALL := Lib.hid (show Below w.heap.size w w11 by
    have h1 := HBW.out.trans (HA2.out.mono HBW.out.size)
    have h2 := h1.trans (HO9.out.below h1.size (fun k e => by have := HOR.out; have := HLOW.out; have := HBW.out.size; omega))
    have h3 := h2.trans (HO10.out.below h2.size (fun k e => by have := HOR.out; have := HBW.out.size; omega))
    have h4 := h3.trans (HBV.out.mono h3.size)
    exact h4.trans (hb11.mono h4.size))
  clear hgl hgw hb11
  go_wp2
  go_loopw [97] (fun ix wr => ∃ i : Nat, i ≤ 26 ∧ ix = .int .i64 i ∧ Below w11.heap.size w11 wr) (fun ix _ => 26 - (intOf ix).toNat)
  case atStart => exact ⟨0, by omega, rfl, Below.refl _ _⟩
  case round =>
    obtain ⟨i, hi, rfl, hbc⟩ := hrel
    by_cases hlt : i < 26
    · have s1 : (i : Int) < 26 := by omega
      have s0 : (0 : Int) ≤ (i : Int) := by omega
      have g0 := (HGW.out.below hbc).cell (k := i) (by have := HZL.out; omega)
      rw [HZG.out i hlt] at g0
      have hw1 : IntKind.u64.wrap (i : Int) = (i : Int) := IntWalk.u64_in _ (by omega)
      have HBC := Lib.hid hbc
      clear hbc
      by_cases hik : i = 0
      · subst hik
        rw [if_pos rfl] at g0
        go_wp2
        go_roundw
        case rel => exact ⟨0 + 1, by omega, by go_num, HBC.out⟩
        case measure => simp [intOf]
      · rw [if_neg hik] at g0
        have n1 : ((i : Int) == 0) = false := by rw [beq_eq_false_iff_ne]; omega
        have n2 : decide ((i : Int) = 0) = false := decide_eq_false (by omega)
        have n3 : ((i : Int) != 0) = true := by rw [bne, n1]; rfl
        have n4 : ¬ ((i : Int) = 0) := by omega
        have HIK := Lib.hid hik
        clear hik
        go_wp2
        go_roundw
        case rel => exact ⟨i + 1, by omega, by go_num, HBC.out⟩
        case measure => simp [intOf]; omega
    · have s1 : ¬ ((i : Int) < 26) := by omega
      have HE := Lib.hid ((hbc.block eb (Array.getElem?_eq_some_iff.1 HEW.out).1).trans HEW.out)
      have HD := Lib.hid ((hbc.block db (Array.getElem?_eq_some_iff.1 HDW.out).1).trans HDW.out)
      have e0 : wr.cell? ⟨eb, 0, none⟩ = some (.bool true) := cell_blk HE.out rfl
      have e2 : wr.cell? ⟨eb, 2, none⟩ = some (.slice (some ⟨db, 0, none⟩) 1 1) := cell_blk HE.out rfl
      obtain ⟨V2, HV2, hbV2, hsV2, vx2⟩ := box_new wr #[.int .u32 v] 45
      have hS := sameT_b [v] (some ⟨db, 0, none⟩) (some ⟨wr.heap.size, 0, none⟩) 1 1 V2 (fun _ => ⟨db, 0, rfl, by have := (Array.getElem?_eq_some_iff.1 HD.out).1; omega, fun j hj => by
          have : j = 0 := by simpa using hj
          subst this
          exact cell_blk ((hbV2.block db (Array.getElem?_eq_some_iff.1 HD.out).1).trans HD.out) rfl⟩)
        (fun _ => ⟨wr.heap.size, 0, rfl, hsV2, fun j hj => by
          have : j = 0 := by simpa using hj
          subst this
          exact cell_blk (vx2 _ (Below.refl _ _)) rfl⟩) (by simp)
      simp only [List.length_cons, List.length_nil, Nat.zero_add] at hS
      have HS := Lib.hid hS
      have HBC := Lib.hid (HALL.out.trans (hbc.mono HALL.out.size)); have HB2 := Lib.hid hbV2
      clear hS hbV2 hsV2 vx2 hbc
      go_wp2_with (first | (rw [← HV2.out]))
      refine HS.out.mono ?_
      rintro e w13 ⟨rfl, hb13⟩
      have HB13 := Lib.hid hb13
      clear hb13
      go_wp2
      go_ret
      have h1 := HBC.out.trans (HB2.out.mono HBC.out.size)
      exact ⟨rfl, h1.trans (HB13.out.mono h1.size)⟩
theorem alone1_b (at_ v : Int) (w : World) (hT : TabsAt w) (hk : at_ % 2 = 1) (hu : 0 ≤ at_ ∧ at_ ≤ 255) :
    Calls Tryz.prog 6 #[.int .u8 at_, .int .u32 v] w fun e w' => e = .returned (.bool true) ∧ Below w.heap.size w w' := by
  have hr1 : at_.tmod 2 = 1 := by rw [Int.tmod_eq_emod_of_nonneg hu.1]; exact hk
  have HT := Lib.hid hT
  clear hT hu
  go_enter Tryz.func6, Tryz.ntmps6
  go_wp2_with fail
  refine (wakesT_b w HT.out).mono ?_
  rintro e w1 ⟨rfl, hb1⟩
  go_wp2_with fail
  refine (example_b w1).mono ?_
  rintro e w2 ⟨x, rfl, hx2, hb2⟩
  obtain ⟨W, HW, hB3, hWs, bx⟩ := one_cbox w2 cfgT x 29
  have hxW := hx2.later hB3
  have hBW := hb1.trans ((hb2.trans (hB3.mono hb2.size)).mono hb1.size)
  have HB9 := Lib.hid (fun (V : World) (hb : Below W.heap.size W V) (g : Nat) (hg : V.cell? ⟨g, 0, none⟩ = some (.int .u32 v)) => begin9_b cfgT x 0 false 0 [] [] none none 0 0 0 1 (some ⟨g, 0, none⟩) 1 1 V (hxW.later hb) cfgT_wf cfgT_few (sin0 V) (sin0 V) rfl rfl (by omega) (HT.out.later (hBW.trans (hb.mono hBW.size))) cfgT_poke1 g 0 v rfl rfl hg)
  have HB8 := Lib.hid (fun (V : World) (hb : Below W.heap.size W V) => begin8_b cfgT x 0 false 0 [] [] none none 0 0 0 1 none 0 0 V (hxW.later hb) cfgT_wf cfgT_few (sin0 V) (sin0 V) rfl rfl (by omega) (HT.out.later (hBW.trans (hb.mono hBW.size))) cfgT_peek1)
  have HSI := Lib.hid (fun (V : World) (hb : Below W.heap.size W V) => rsize_b cfgT x V (hxW.later hb) cfgT_wf cfgT_few)
  rw [cfgT_size] at HSI
  obtain ⟨pa, pc, ca, cc, aa, ac, ba, bc⟩ := x
  have BX := Lib.hid (fun (V : World) (hb : Below W.heap.size W V) => bx V hb)
  have HBW := Lib.hid hBW
  simp only [cfgCells, List.length_nil] at HW HB9 HB8 HSI ⊢
  obtain ⟨c0, c1, c2, c3, c4, c5⟩ := BX.out W (Below.refl _ _)
  clear hx2 hb1 hb2 hB3 hWs bx hxW hBW
  go_wp2_with (first | (rw [← HW.out]))
  refine (HSI.out W (Below.refl _ _)).mono ?_
  rintro e w4 ⟨rfl, hb4⟩
  clear c0 c1 c2 c3 c4 c5
  go_wp2_with fail
  refine (memNew_at 26 26 rfl w4 (by omega)).mono ?_
  rintro e w5 ⟨mb, rb, rfl, h1, h2, hm, hb5⟩
  go_wp2_with fail
  refine (Bel.new_in 2 2 rfl w5 (by omega)).mono ?_
  rintro e w6 ⟨bb, br, rfl, -, -, -, hb6⟩
  have hm6 := hm.below hb6
  have h6 := hb4.trans ((hb5.trans (hb6.mono hb5.size)).mono hb4.size)
  obtain ⟨V6, HV6, hbV6, hsV6, vx6⟩ := box_new w6 #[.int .u32 v] 45
  have hV6 := h6.trans (hbV6.mono h6.size)
  have hg6 : V6.cell? ⟨w6.heap.size, 0, none⟩ = some (.int .u32 v) := cell_blk (vx6 _ (Below.refl _ _)) rfl
  have HMV := Lib.hid (hm6.below hbV6)
  have HLOW := Lib.hid (show W.heap.size ≤ mb ∧ W.heap.size ≤ rb by have := hb4.size; omega)
  have HV := Lib.hid hV6; have H6 := Lib.hid h6
  have HC9 := Lib.hid (HB9.out V6 hV6 w6.heap.size hg6)
  obtain ⟨c0, c1, c2, c3, c4, c5⟩ := BX.out w6 h6
  clear hb4 h1 h2 hm hb5 hb6 hm6 h6 hbV6 hsV6 vx6 hV6 hg6
  go_wp2_with (first | (rw [← HV6.out]))
  refine HC9.out.mono ?_
  rintro e w7 ⟨tp, rfl, htp, htpl, hb7⟩
  have hb7' := HV.out.trans (hb7.mono HV.out.size)
  obtain ⟨Y11, HY11, hbY11, hsY11, yx1⟩ := box_new w7 #[.int .i64 0, .slice none 0 0, .bool false, .int .i64 0] 42
  obtain ⟨lb1, hlb1⟩ : ∃ k, k = w7.heap.size := ⟨_, rfl⟩
  have hth1 := there_blk (W := Y11) (yx1 _ (Below.refl _ _)) (n := (#[.int .i64 0, .slice none 0 0, .bool false, .int .i64 0] : Array Value).size) rfl
  have hsz1 : (Tryz.prog.info? 42).map (·.size) = some (#[.int .i64 0, .slice none 0 0, .bool false, .int .i64 0] : Array Value).size := ans_size
  obtain ⟨Y12, HY12⟩ : ∃ u, Hid (u = Y11.setCells w7.heap.size 0 [.int .i64 0, .slice none 0 0, .bool false, .int .i64 0]) := ⟨_, rfl⟩
  have hy1 : Y12.heap[w7.heap.size]? = some (.cells #[.int .i64 0, .slice none 0 0, .bool false, .int .i64 0] 42 (0, 0)) := by rw [HY12.out]; exact block_setCells (yx1 _ (Below.refl _ _)) _ rfl
  have hbP1 : Below w7.heap.size w7 Y12 := by rw [HY12.out]; exact below_setCells _ _ _ hbY11 (Nat.le_refl _)
  have hbA1 := (hb7').trans (hbP1.mono (hb7').size)
  rw [← hlb1] at hth1 hy1
  have HLB1 := Lib.hid hlb1; have HA1 := Lib.hid hbA1; have HP1 := Lib.hid hbP1; have HYB1 := Lib.hid hy1
  clear hbY11 hsY11 yx1 hlb1 hbP1 hbA1 hy1
  have HTP := Lib.hid ((HP1.out.block tp (Array.getElem?_eq_some_iff.1 htp).1).trans htp); have HTPL := Lib.hid htpl
  have HM1 := Lib.hid (HMV.out.below (hb7.trans (HP1.out.mono hb7.size)))
  clear hb7 hb7' htp htpl c0 c1 c2 c3 c4 c5
  obtain ⟨c0, c1, c2, c3, c4, c5⟩ := BX.out Y12 HA1.out
  go_wp2_with (first | (simp only [← HLB1.out]; rw [← HY11.out]) | (with_reducible refine wpList_store_mid (by kernel_rfl) _ _ _ rfl lb1 0 #[.int .i64 0, .slice none 0 0, .bool false, .int .i64 0] (by kernel_rfl) (by kernel_rfl) hth1 hsz1 (by kernel_rfl) ?_) | (simp only [HLB1.out]; rw [← HY12.out]; simp only [← HLB1.out]))
  refine (HB8.out Y12 HA1.out).mono ?_
  rintro e w8 ⟨tq, rfl, htq, htql, hb8⟩
  have hb8' := HA1.out.trans (hb8.mono HA1.out.size)
  obtain ⟨Y21, HY21, hbY21, hsY21, yx2⟩ := box_new w8 #[.int .i64 0, .slice none 0 0, .bool false, .int .i64 0] 42
  obtain ⟨lb2, hlb2⟩ : ∃ k, k = w8.heap.size := ⟨_, rfl⟩
  have hth2 := there_blk (W := Y21) (yx2 _ (Below.refl _ _)) (n := (#[.int .i64 0, .slice none 0 0, .bool false, .int .i64 0] : Array Value).size) rfl
  have hsz2 : (Tryz.prog.info? 42).map (·.size) = some (#[.int .i64 0, .slice none 0 0, .bool false, .int .i64 0] : Array Value).size := ans_size
  obtain ⟨Y22, HY22⟩ : ∃ u, Hid (u = Y21.setCells w8.heap.size 0 [.int .i64 0, .slice none 0 0, .bool false, .int .i64 0]) := ⟨_, rfl⟩
  have hy2 : Y22.heap[w8.heap.size]? = some (.cells #[.int .i64 0, .slice none 0 0, .bool false, .int .i64 0] 42 (0, 0)) := by rw [HY22.out]; exact block_setCells (yx2 _ (Below.refl _ _)) _ rfl
  have hbP2 : Below w8.heap.size w8 Y22 := by rw [HY22.out]; exact below_setCells _ _ _ hbY21 (Nat.le_refl _)
  have hbA2 := (hb8').trans (hbP2.mono (hb8').size)
  rw [← hlb2] at hth2 hy2
  have HLB2 := Lib.hid hlb2; have HA2 := Lib.hid hbA2; have HP2 := Lib.hid hbP2; have HYB2 := Lib.hid hy2
  clear hbY21 hsY21 yx2 hlb2 hbP2 hbA2 hy2
  have h12 := hb8.trans (HP2.out.mono hb8.size)
  have hmY := HM1.out.below h12
  have htpY := (h12.block tp (Array.getElem?_eq_some_iff.1 HTP.out).1).trans HTP.out
  have htqY := (HP2.out.block tq (Array.getElem?_eq_some_iff.1 htq).1).trans htq
  have hor : mb ≠ tp ∧ rb ≠ tp ∧ tq ≠ rb ∧ tq ≠ tp ∧ W.heap.size ≤ tp ∧ W.heap.size ≤ tq := by
    have q1 := HMV.out.lt; have q2 := HTPL.out; have q3 := HM1.out.lt; have q4 := htql; have q5 := (Array.getElem?_eq_some_iff.1 HTP.out).1; have q6 := HV.out.size; have q7 := HA1.out.size; omega
  have HOR := Lib.hid hor
  have HMQ := Lib.hid (show mb ≠ tq by have := HM1.out.lt; have := htql; omega)
  have HPO := Lib.hid (pokeT_b tp 0 1 v 1 1 rfl (some ⟨bb, 0, none⟩) 0 hmY (by simp) (by simp) ⟨hor.1, hor.2.1⟩ htpY (by omega))
  have HTQ := Lib.hid htqY
  have hfd := run_did13 (.slice none 0 0)
  clear hb8 hb8' htq htql h12 hmY htpY htqY hor c0 c1 c2 c3 c4 c5 hth1 hsz1
  go_wp2_with (first | (simp only [← HLB2.out]; rw [← HY21.out]) | (with_reducible refine wpList_store_mid (by kernel_rfl) _ _ _ rfl lb2 0 #[.int .i64 0, .slice none 0 0, .bool false, .int .i64 0] (by kernel_rfl) (by kernel_rfl) hth2 hsz2 (by kernel_rfl) ?_) | (simp only [HLB2.out]; rw [← HY22.out]; simp only [← HLB2.out]))
  refine HPO.out.mono ?_
  rintro e w9 ⟨rfl, hm9, ho9, ht9⟩
  obtain ⟨zs, hzs⟩ : ∃ zs, zs = (List.replicate 26 (0 : Int)).set 1 v := ⟨_, rfl⟩
  rw [← hzs] at hm9
  have hzl : zs.length = 26 := by rw [hzs]; simp
  have hzg : ∀ i : Nat, i < 26 → zs.getD i 0 = if i = 1 then v else 0 := fun i hi => by
    rw [hzs, List.getD_eq_getElem?_getD, List.getElem?_set, List.getElem?_replicate]
    by_cases h : 1 = i
    · subst h; simp
    · simp [h, hi, Ne.symm h]
  have htq9 := ho9.at_ HTQ.out (fun e => by have := HOR.out; omega)
  have HPE := Lib.hid (peekT_b tq 0 1 1 1 rfl (some ⟨bb, 0, none⟩) 0 hm9 (by omega) (by omega) htq9 (by omega))
  rw [hzg 1 (by omega), if_pos rfl] at HPE
  have HO9 := Lib.hid ho9; have HM9 := Lib.hid hm9; have HZL := Lib.hid hzl; have HZG := Lib.hid hzg
  clear hm9 ho9 ht9 hzs hzl hzg htq9 hth2 hsz2
  go_wp2_with fail
  refine HPE.out.mono ?_
  rintro e w10 ⟨db, rfl, hdl, hdb, ho10, -⟩
  obtain ⟨V1, HV1, hbV1, hsV1, vx1⟩ := box_new w10 #[.bool true, .int .i64 0, .slice (some ⟨db, 0, none⟩) 1 1, .bool false, .int .i64 0, .bool true, .bool false, .bool false, .int .i64 0] 68
  obtain ⟨eb, heb⟩ : ∃ k, k = w10.heap.size := ⟨_, rfl⟩
  have hev : V1.heap[eb]? = some (.cells #[.bool true, .int .i64 0, .slice (some ⟨db, 0, none⟩) 1 1, .bool false, .int .i64 0, .bool true, .bool false, .bool false, .int .i64 0] 68 (0, 0)) := by rw [heb]; exact vx1 _ (Below.refl _ _)
  have hdv := (hbV1.block db (Array.getElem?_eq_some_iff.1 hdb).1).trans hdb
  have hmV := (HM9.out.only ho10 (fun e => by have := HOR.out; have := HMQ.out; omega) (fun e => by have := HOR.out; omega)).below hbV1
  have HEB := Lib.hid heb; have HEV := Lib.hid hev; have HDV := Lib.hid hdv; have HMW := Lib.hid hmV; have HBV := Lib.hid hbV1; have HO10 := Lib.hid ho10
  clear hdl hdb ho10 hbV1 hsV1 vx1 heb hev hdv hmV
  go_wp2_with (first | (simp only [← HEB.out]; rw [← HV1.out]))
  refine (memWords_b mb rb zs V1 HMW.out (by have := HZL.out; omega)).mono ?_
  rintro e w11 ⟨g, rfl, hgl, hgw, hb11⟩
  rw [HZL.out]
  have HGW := Lib.hid hgw
  have HEW := Lib.hid ((hb11.block eb (Array.getElem?_eq_some_iff.1 HEV.out).1).trans HEV.out)
  have HDW := Lib.hid ((hb11.block db (Array.getElem?_eq_some_iff.1 HDV.out).1).trans HDV.out)
  have HALL := Lib.hid (show Below w.heap.size w w11 by
    have h1 := HBW.out.trans (HA2.out.mono HBW.out.size)
    have h2 := h1.trans (HO9.out.below h1.size (fun k e => by have := HOR.out; have := HLOW.out; have := HBW.out.size; omega))
    have h3 := h2.trans (HO10.out.below h2.size (fun k e => by have := HOR.out; have := HBW.out.size; omega))
    have h4 := h3.trans (HBV.out.mono h3.size)
    exact h4.trans (hb11.mono h4.size))
  clear hgl hgw hb11
  go_wp2
  go_loopw [97] (fun ix wr => ∃ i : Nat, i ≤ 26 ∧ ix = .int .i64 i ∧ Below w11.heap.size w11 wr) (fun ix _ => 26 - (intOf ix).toNat)
  case atStart => exact ⟨0, by omega, rfl, Below.refl _ _⟩
  case round =>
    obtain ⟨i, hi, rfl, hbc⟩ := hrel
    by_cases hlt : i < 26
    · have s1 : (i : Int) < 26 := by omega
      have s0 : (0 : Int) ≤ (i : Int) := by omega
      have g0 := (HGW.out.below hbc).cell (k := i) (by have := HZL.out; omega)
      rw [HZG.out i hlt] at g0
      have hw1 : IntKind.u64.wrap (i : Int) = (i : Int) := IntWalk.u64_in _ (by omega)
      have HBC := Lib.hid hbc
      clear hbc
      by_cases hik : i = 1
      · subst hik
        rw [if_pos rfl] at g0
        go_wp2
        go_roundw
        case rel => exact ⟨1 + 1, by omega, by go_num, HBC.out⟩
        case measure => simp [intOf]
      · rw [if_neg hik] at g0
        have n1 : ((i : Int) == 1) = false := by rw [beq_eq_false_iff_ne]; omega
        have n2 : decide ((i : Int) = 1) = false := decide_eq_false (by omega)
        have n3 : ((i : Int) != 1) = true := by rw [bne, n1]; rfl
        have n4 : ¬ ((i : Int) = 1) := by omega
        have HIK := Lib.hid hik
        clear hik
        go_wp2
        go_roundw
        case rel => exact ⟨i + 1, by omega, by go_num, HBC.out⟩
        case measure => simp [intOf]; omega
    · have s1 : ¬ ((i : Int) < 26) := by omega
      have HE := Lib.hid ((hbc.block eb (Array.getElem?_eq_some_iff.1 HEW.out).1).trans HEW.out)
      have HD := Lib.hid ((hbc.block db (Array.getElem?_eq_some_iff.1 HDW.out).1).trans HDW.out)
      have e0 : wr.cell? ⟨eb, 0, none⟩ = some (.bool true) := cell_blk HE.out rfl
      have e2 : wr.cell? ⟨eb, 2, none⟩ = some (.slice (some ⟨db, 0, none⟩) 1 1) := cell_blk HE.out rfl
      obtain ⟨V2, HV2, hbV2, hsV2, vx2⟩ := box_new wr #[.int .u32 v] 45
      have hS := sameT_b [v] (some ⟨db, 0, none⟩) (some ⟨wr.heap.size, 0, none⟩) 1 1 V2 (fun _ => ⟨db, 0, rfl, by have := (Array.getElem?_eq_some_iff.1 HD.out).1; omega, fun j hj => by
          have : j = 0 := by simpa using hj
          subst this
          exact cell_blk ((hbV2.block db (Array.getElem?_eq_some_iff.1 HD.out).1).trans HD.out) rfl⟩)
        (fun _ => ⟨wr.heap.size, 0, rfl, hsV2, fun j hj => by
          have : j = 0 := by simpa using hj
          subst this
          exact cell_blk (vx2 _ (Below.refl _ _)) rfl⟩) (by simp)
      simp only [List.length_cons, List.length_nil, Nat.zero_add] at hS
      have HS := Lib.hid hS
      have HBC := Lib.hid (HALL.out.trans (hbc.mono HALL.out.size)); have HB2 := Lib.hid hbV2
      clear hS hbV2 hsV2 vx2 hbc
      go_wp2_with (first | (rw [← HV2.out]))
      refine HS.out.mono ?_
      rintro e w13 ⟨rfl, hb13⟩
      have HB13 := Lib.hid hb13
      clear hb13
      go_wp2
      go_ret
      have h1 := HBC.out.trans (HB2.out.mono HBC.out.size)
      exact ⟨rfl, h1.trans (HB13.out.mono h1.size)⟩
end Go.Proofs.YtmhpcgcloojfbaaGreatDoor

namespace Go.Proofs.YtmhpcgcloojfbaaGreatDoor
open Go.RowKit Go.Sort
set_option linter.unusedVariables false
set_option linter.unusedSimpArgs false
set_option linter.unusedVariables false
set_option linter.unusedSimpArgs false

theorem alone_b (q v : Int) (w : World) (hT : TabsAt w) (hq : (Lit.int .u8 q).wf = true) : Calls Tryz.prog 6 #[.int .u8 q, .int .u32 v] w fun e w' => e = .returned (.bool true) ∧ Below w.heap.size w w' := by
  have hb : 0 ≤ q ∧ q ≤ 255 := by simp [Lit.wf, IntKind.min, IntKind.max, IntKind.signed, IntKind.bits] at hq; omega
  have h2 : q % 2 = 0 ∨ q % 2 = 1 := by omega
  rcases h2 with h | h
  · exact alone0_b q v w hT h hb
  · exact alone1_b q v w hT h hb
end Go.Proofs.YtmhpcgcloojfbaaGreatDoor
