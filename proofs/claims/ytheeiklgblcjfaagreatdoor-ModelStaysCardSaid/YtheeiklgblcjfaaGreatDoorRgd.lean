/- Texts of the ring, joined, what is used of them. No condition but those in the statements. -/
import Derived.BigQuiet
import Derived.IntWalk
import Derived.Test.YtheeiklgblcjfaaGreatDoorRgb
import Derived.Test.YtheeiklgblcjfaaGreatDoorRgc
section
namespace Go.Proofs.YtheeiklgblcjfaaGreatDoor
open Go.RowKit Go.Sort Go.ChangeShapes Go.WideShapes
set_option linter.unusedVariables false
set_option linter.unusedSimpArgs false
set_option maxRecDepth 100000 in
set_option maxHeartbeats 8000000 in
theorem rwins0_15 (parts chans:List (List Int)) (len0:Int) (win0:List (List Int)) (len1:Int) (win1:List (List Int)) (pa:Option Addr) (pc:Nat) (ca:Option Addr) (cc:Nat) (aa:Option Addr) (ac:Nat) (ba:Option Addr) (bc:Nat) (w:World) (hp:RowN [.i64,.i64] w w.heap.size pa parts) (hpw:wfR [.i64,.i64] parts) (hpl:parts.length ≤ 1000000) (hc:RowN [.i64,.i64,.i64,.i64,.i64,.i64,.u32] w w.heap.size ca chans) (hcw:wfR [.i64,.i64,.i64,.i64,.i64,.i64,.u32] chans) (hcl:chans.length ≤ 1000000) (h0:RowN [.i64,.i64,.i64] w w.heap.size aa win0) (h0w:wfR [.i64,.i64,.i64] win0) (h0l:win0.length ≤ 1000000) (h1:RowN [.i64,.i64,.i64] w w.heap.size ba win1) (h1w:wfR [.i64,.i64,.i64] win1) (h1l:win1.length ≤ 1000000) (hl0:(Lit.int .i64 len0).wf = true):Calls Tryz.prog 106 #[.agg #[.slice pa parts.length pc,.slice ca chans.length cc,.int .i64 len0,.slice aa win0.length ac,.int .i64 len1,.slice ba win1.length bc],.int .i64 0,.int .i64 15] w fun e w' => e = .returned (.bool (winsB (⟨parts,chans,len0,win0,len1,win1⟩:Cfg) 0 len0 win0 15)) ∧ Below w.heap.size w w':=by
  obtain ⟨W,HW,hB,-,bx⟩:=one_cbox w ⟨parts,chans,len0,win0,len1,win1⟩ ⟨pa,pc,ca,cc,aa,ac,ba,bc⟩ 29
  have HB:=Lib.hid hB
  have hp:=hp.later hB;have hc:=hc.later hB;have h0:=h0.later hB;have h1:=h1.later hB
  clear hB
  go_enter Tryz.func106,Tryz.ntmps106
  go_wp2
  go_loopw [8] (fun ix wr => ∃ i:Nat,i ≤ win0.length ∧ ix = .int .i64 i ∧ scan i (fun i => win15 len0 (row win0 i)) = false ∧ Below W.heap.size W wr) (fun ix _ => win0.length - (intOf ix).toNat)
  case atStart => exact ⟨0,Nat.zero_le _,rfl,rfl,(by rw [← HW.out];exact Below.refl _ _)⟩
  case round =>
    obtain ⟨i,hi,rfl,ht,hbc⟩:=hrel
    have HT:=Lib.hid ht
    obtain ⟨c0,c1,c2,c3,c4,c5⟩:=bx _ hbc
    clear ht
    by_cases hlt:i < win0.length
    · obtain ⟨b,o,x0,x1,x2,e0,_,e1,⟨hw0,hw1,hw2⟩,k0⟩:=h0.at3 h0w hlt
      subst e0
      have k0:=k0 _ hbc
      obtain ⟨p0,k0⟩:=k0
      obtain ⟨p1,p2⟩:=k0
      have E1:=Lib.hid e1
      clear e1
      obtain ⟨wa,hwa⟩:∃ u,Hid (u = wr.alloc (.cells #[.int .i64 x0,.int .i64 x1,.int .i64 x2] 133)):=⟨_,rfl⟩
      have hba:Below wr.heap.size wr wa:=by rw [hwa.out];exact (Below.refl _ _).alloc (Nat.le_refl _) _
      have hxa:wa.heap[wr.heap.size]? = some (.cells #[.int .i64 x0,.int .i64 x1,.int .i64 x2] 133 (0,0)):=by rw [hwa.out];exact heap_alloc_new _ _
      have hwb:=hbc.trans (hba.mono hbc.size)
      have hla:wr.heap.size < wa.heap.size:=(Array.getElem?_eq_some_iff.1 hxa).1
      have a0:∀ p:Regrown,(grow (redrawn wa p.d) p.os).cell? ⟨wr.heap.size,0,none⟩ = some (.int .i64 x0):=fun p => cell_regrown (cell_blk hxa rfl) p.d p.os
      have a1:∀ p:Regrown,(grow (redrawn wa p.d) p.os).cell? ⟨wr.heap.size,1,none⟩ = some (.int .i64 x1):=fun p => cell_regrown (cell_blk hxa rfl) p.d p.os
      have a2:∀ p:Regrown,(grow (redrawn wa p.d) p.os).cell? ⟨wr.heap.size,2,none⟩ = some (.int .i64 x2):=fun p => cell_regrown (cell_blk hxa rfl) p.d p.os
      have g0:∀ p:Regrown,(grow (redrawn wa p.d) p.os).cell? ⟨w.heap.size,0,none⟩ = some (.slice pa parts.length pc):=fun p => ((bx.on hwb) _ (below_regrown wa p.d p.os)).1
      have g1:∀ p:Regrown,(grow (redrawn wa p.d) p.os).cell? ⟨w.heap.size,1,none⟩ = some (.slice ca chans.length cc):=fun p => ((bx.on hwb) _ (below_regrown wa p.d p.os)).2.1
      have g2:∀ p:Regrown,(grow (redrawn wa p.d) p.os).cell? ⟨w.heap.size,2,none⟩ = some (.int .i64 len0):=fun p => ((bx.on hwb) _ (below_regrown wa p.d p.os)).2.2.1
      have g3:∀ p:Regrown,(grow (redrawn wa p.d) p.os).cell? ⟨w.heap.size,3,none⟩ = some (.slice (some ⟨b,o,none⟩) win0.length ac):=fun p => ((bx.on hwb) _ (below_regrown wa p.d p.os)).2.2.2.1
      have g4:∀ p:Regrown,(grow (redrawn wa p.d) p.os).cell? ⟨w.heap.size,4,none⟩ = some (.int .i64 len1):=fun p => ((bx.on hwb) _ (below_regrown wa p.d p.os)).2.2.2.2.1
      have g5:∀ p:Regrown,(grow (redrawn wa p.d) p.os).cell? ⟨w.heap.size,5,none⟩ = some (.slice ba win1.length bc):=fun p => ((bx.on hwb) _ (below_regrown wa p.d p.os)).2.2.2.2.2
      have HWB:=Lib.hid hwb
      have hbq:=Below.refl wa.heap.size wa
      obtain ⟨u0,u1⟩:=bounds_i64 hl0
      obtain ⟨s0,s1⟩:=bounds_i64 hw1
      obtain ⟨t0,t1⟩:=bounds_i64 hw2
      clear hwb hxa hba
      by_cases h1:x1 < 0
      · go_wp2_with (rw [← hwa.out])
        (with_reducible refine wp_on hbq (by kernel_rfl) (by kernel_rfl) ?_);(repeat (go_big_quiet_step (fail)));(first | with_reducible refine wpQuiet_nil ?_ | refine wpQuiet_nil ?_);intro wq hbq
        have hwc:=HWB.out.trans (hbq.mono HWB.out.size)
        have HX:=Lib.hid (show winsB (⟨parts,chans,len0,win0,len1,win1⟩:Cfg) 0 len0 win0 15 = true from scan_hit (f:=(fun i => win15 len0 (row win0 i))) hlt (show win15 len0 (row win0 i) = true by rw [row_at E1.out];exact (show decide (x1 < 0 ∨ x2 < 1 ∨ len0 < x1 ∨ len0 - x1 < x2) = true from decide_eq_true (by omega))))
        go_wp2
        go_ret
        exact ⟨by rw [HX.out];rfl,HB.out.trans (hwc.mono HB.out.size)⟩
      · have h1d:decide (x1 < 0) = false:=decide_eq_false h1
        by_cases h2:x2 < 1
        · go_wp2_with (rw [← hwa.out])
          (with_reducible refine wp_on hbq (by kernel_rfl) (by kernel_rfl) ?_);(repeat (go_big_quiet_step (fail)));(first | with_reducible refine wpQuiet_nil ?_ | refine wpQuiet_nil ?_);intro wq hbq
          have hwc:=HWB.out.trans (hbq.mono HWB.out.size)
          have HX:=Lib.hid (show winsB (⟨parts,chans,len0,win0,len1,win1⟩:Cfg) 0 len0 win0 15 = true from scan_hit (f:=(fun i => win15 len0 (row win0 i))) hlt (show win15 len0 (row win0 i) = true by rw [row_at E1.out];exact (show decide (x1 < 0 ∨ x2 < 1 ∨ len0 < x1 ∨ len0 - x1 < x2) = true from decide_eq_true (by omega))))
          go_wp2
          go_ret
          exact ⟨by rw [HX.out];rfl,HB.out.trans (hwc.mono HB.out.size)⟩
        · have h2d:decide (x2 < 1) = false:=decide_eq_false h2
          by_cases h3:len0 < x1
          · go_wp2_with (rw [← hwa.out])
            (with_reducible refine wp_on hbq (by kernel_rfl) (by kernel_rfl) ?_);(repeat (go_big_quiet_step (fail)));(first | with_reducible refine wpQuiet_nil ?_ | refine wpQuiet_nil ?_);intro wq hbq
            have hwc:=HWB.out.trans (hbq.mono HWB.out.size)
            have HX:=Lib.hid (show winsB (⟨parts,chans,len0,win0,len1,win1⟩:Cfg) 0 len0 win0 15 = true from scan_hit (f:=(fun i => win15 len0 (row win0 i))) hlt (show win15 len0 (row win0 i) = true by rw [row_at E1.out];exact (show decide (x1 < 0 ∨ x2 < 1 ∨ len0 < x1 ∨ len0 - x1 < x2) = true from decide_eq_true (by omega))))
            go_wp2
            go_ret
            exact ⟨by rw [HX.out];rfl,HB.out.trans (hwc.mono HB.out.size)⟩
          · have h3d:decide (len0 < x1) = false:=decide_eq_false h3
            by_cases h4:len0 - x1 < x2
            · go_wp2_with (rw [← hwa.out])
              (with_reducible refine wp_on hbq (by kernel_rfl) (by kernel_rfl) ?_);(repeat (go_big_quiet_step (fail)));(first | with_reducible refine wpQuiet_nil ?_ | refine wpQuiet_nil ?_);intro wq hbq
              have hwc:=HWB.out.trans (hbq.mono HWB.out.size)
              have HX:=Lib.hid (show winsB (⟨parts,chans,len0,win0,len1,win1⟩:Cfg) 0 len0 win0 15 = true from scan_hit (f:=(fun i => win15 len0 (row win0 i))) hlt (show win15 len0 (row win0 i) = true by rw [row_at E1.out];exact (show decide (x1 < 0 ∨ x2 < 1 ∨ len0 < x1 ∨ len0 - x1 < x2) = true from decide_eq_true (by omega))))
              go_wp2
              go_ret
              exact ⟨by rw [HX.out];rfl,HB.out.trans (hwc.mono HB.out.size)⟩
            · have h4d:decide (len0 - x1 < x2) = false:=decide_eq_false h4
              go_wp2_with (rw [← hwa.out])
              (with_reducible refine wp_on hbq (by kernel_rfl) (by kernel_rfl) ?_);(repeat (go_big_quiet_step (fail)));(first | with_reducible refine wpQuiet_nil ?_ | refine wpQuiet_nil ?_);intro wq hbq
              go_wp2_with fail
              (with_reducible refine wp_on hbq (by kernel_rfl) (by kernel_rfl) ?_);(repeat (go_big_quiet_step (fail)));(first | with_reducible refine wpQuiet_nil ?_ | refine wpQuiet_nil ?_);intro wq hbq
              have hwc:=HWB.out.trans (hbq.mono HWB.out.size)
              have HX:=Lib.hid (show scan (i + 1) (fun i => win15 len0 (row win0 i)) = false from scan_next HT.out (show win15 len0 (row win0 i) = false by rw [row_at E1.out];exact (show decide (x1 < 0 ∨ x2 < 1 ∨ len0 < x1 ∨ len0 - x1 < x2) = false from decide_eq_false (by omega))))
              go_wp2
              go_roundw
              case rel => exact ⟨i + 1,by omega,by go_num,HX.out,hwc⟩
              case measure => simp [intOf];omega
    · have HS:=Lib.hid (show winsB (⟨parts,chans,len0,win0,len1,win1⟩:Cfg) 0 len0 win0 15 = false by have h:=HT.out;rw [show i = win0.length by omega] at h;exact h)
      clear HT
      go_wp2
      go_ret
      exact ⟨by rw [HS.out];rfl,HB.out.trans (hbc.mono HB.out.size)⟩
end Go.Proofs.YtheeiklgblcjfaaGreatDoor
namespace Go.Proofs.YtheeiklgblcjfaaGreatDoor
open Go.RowKit Go.Sort Go.ChangeShapes Go.WideShapes
set_option linter.unusedVariables false
set_option linter.unusedSimpArgs false
set_option maxRecDepth 100000 in
set_option maxHeartbeats 8000000 in
theorem rwins1_15 (parts chans:List (List Int)) (len0:Int) (win0:List (List Int)) (len1:Int) (win1:List (List Int)) (pa:Option Addr) (pc:Nat) (ca:Option Addr) (cc:Nat) (aa:Option Addr) (ac:Nat) (ba:Option Addr) (bc:Nat) (w:World) (hp:RowN [.i64,.i64] w w.heap.size pa parts) (hpw:wfR [.i64,.i64] parts) (hpl:parts.length ≤ 1000000) (hc:RowN [.i64,.i64,.i64,.i64,.i64,.i64,.u32] w w.heap.size ca chans) (hcw:wfR [.i64,.i64,.i64,.i64,.i64,.i64,.u32] chans) (hcl:chans.length ≤ 1000000) (h0:RowN [.i64,.i64,.i64] w w.heap.size aa win0) (h0w:wfR [.i64,.i64,.i64] win0) (h0l:win0.length ≤ 1000000) (h1:RowN [.i64,.i64,.i64] w w.heap.size ba win1) (h1w:wfR [.i64,.i64,.i64] win1) (h1l:win1.length ≤ 1000000) (hl1:(Lit.int .i64 len1).wf = true):Calls Tryz.prog 106 #[.agg #[.slice pa parts.length pc,.slice ca chans.length cc,.int .i64 len0,.slice aa win0.length ac,.int .i64 len1,.slice ba win1.length bc],.int .i64 1,.int .i64 15] w fun e w' => e = .returned (.bool (winsB (⟨parts,chans,len0,win0,len1,win1⟩:Cfg) 1 len1 win1 15)) ∧ Below w.heap.size w w':=by
  obtain ⟨W,HW,hB,-,bx⟩:=one_cbox w ⟨parts,chans,len0,win0,len1,win1⟩ ⟨pa,pc,ca,cc,aa,ac,ba,bc⟩ 29
  have HB:=Lib.hid hB
  have hp:=hp.later hB;have hc:=hc.later hB;have h0:=h0.later hB;have h1:=h1.later hB
  clear hB
  go_enter Tryz.func106,Tryz.ntmps106
  go_wp2
  go_loopw [8] (fun ix wr => ∃ i:Nat,i ≤ win1.length ∧ ix = .int .i64 i ∧ scan i (fun i => win15 len1 (row win1 i)) = false ∧ Below W.heap.size W wr) (fun ix _ => win1.length - (intOf ix).toNat)
  case atStart => exact ⟨0,Nat.zero_le _,rfl,rfl,(by rw [← HW.out];exact Below.refl _ _)⟩
  case round =>
    obtain ⟨i,hi,rfl,ht,hbc⟩:=hrel
    have HT:=Lib.hid ht
    obtain ⟨c0,c1,c2,c3,c4,c5⟩:=bx _ hbc
    clear ht
    by_cases hlt:i < win1.length
    · obtain ⟨b,o,x0,x1,x2,e0,_,e1,⟨hw0,hw1,hw2⟩,k0⟩:=h1.at3 h1w hlt
      subst e0
      have k0:=k0 _ hbc
      obtain ⟨p0,k0⟩:=k0
      obtain ⟨p1,p2⟩:=k0
      have E1:=Lib.hid e1
      clear e1
      obtain ⟨wa,hwa⟩:∃ u,Hid (u = wr.alloc (.cells #[.int .i64 x0,.int .i64 x1,.int .i64 x2] 133)):=⟨_,rfl⟩
      have hba:Below wr.heap.size wr wa:=by rw [hwa.out];exact (Below.refl _ _).alloc (Nat.le_refl _) _
      have hxa:wa.heap[wr.heap.size]? = some (.cells #[.int .i64 x0,.int .i64 x1,.int .i64 x2] 133 (0,0)):=by rw [hwa.out];exact heap_alloc_new _ _
      have hwb:=hbc.trans (hba.mono hbc.size)
      have hla:wr.heap.size < wa.heap.size:=(Array.getElem?_eq_some_iff.1 hxa).1
      have a0:∀ p:Regrown,(grow (redrawn wa p.d) p.os).cell? ⟨wr.heap.size,0,none⟩ = some (.int .i64 x0):=fun p => cell_regrown (cell_blk hxa rfl) p.d p.os
      have a1:∀ p:Regrown,(grow (redrawn wa p.d) p.os).cell? ⟨wr.heap.size,1,none⟩ = some (.int .i64 x1):=fun p => cell_regrown (cell_blk hxa rfl) p.d p.os
      have a2:∀ p:Regrown,(grow (redrawn wa p.d) p.os).cell? ⟨wr.heap.size,2,none⟩ = some (.int .i64 x2):=fun p => cell_regrown (cell_blk hxa rfl) p.d p.os
      have g0:∀ p:Regrown,(grow (redrawn wa p.d) p.os).cell? ⟨w.heap.size,0,none⟩ = some (.slice pa parts.length pc):=fun p => ((bx.on hwb) _ (below_regrown wa p.d p.os)).1
      have g1:∀ p:Regrown,(grow (redrawn wa p.d) p.os).cell? ⟨w.heap.size,1,none⟩ = some (.slice ca chans.length cc):=fun p => ((bx.on hwb) _ (below_regrown wa p.d p.os)).2.1
      have g2:∀ p:Regrown,(grow (redrawn wa p.d) p.os).cell? ⟨w.heap.size,2,none⟩ = some (.int .i64 len0):=fun p => ((bx.on hwb) _ (below_regrown wa p.d p.os)).2.2.1
      have g3:∀ p:Regrown,(grow (redrawn wa p.d) p.os).cell? ⟨w.heap.size,3,none⟩ = some (.slice aa win0.length ac):=fun p => ((bx.on hwb) _ (below_regrown wa p.d p.os)).2.2.2.1
      have g4:∀ p:Regrown,(grow (redrawn wa p.d) p.os).cell? ⟨w.heap.size,4,none⟩ = some (.int .i64 len1):=fun p => ((bx.on hwb) _ (below_regrown wa p.d p.os)).2.2.2.2.1
      have g5:∀ p:Regrown,(grow (redrawn wa p.d) p.os).cell? ⟨w.heap.size,5,none⟩ = some (.slice (some ⟨b,o,none⟩) win1.length bc):=fun p => ((bx.on hwb) _ (below_regrown wa p.d p.os)).2.2.2.2.2
      have HWB:=Lib.hid hwb
      have hbq:=Below.refl wa.heap.size wa
      obtain ⟨u0,u1⟩:=bounds_i64 hl1
      obtain ⟨s0,s1⟩:=bounds_i64 hw1
      obtain ⟨t0,t1⟩:=bounds_i64 hw2
      clear hwb hxa hba
      by_cases h1:x1 < 0
      · go_wp2_with (rw [← hwa.out])
        (with_reducible refine wp_on hbq (by kernel_rfl) (by kernel_rfl) ?_);(repeat (go_big_quiet_step (fail)));(first | with_reducible refine wpQuiet_nil ?_ | refine wpQuiet_nil ?_);intro wq hbq
        have hwc:=HWB.out.trans (hbq.mono HWB.out.size)
        have HX:=Lib.hid (show winsB (⟨parts,chans,len0,win0,len1,win1⟩:Cfg) 1 len1 win1 15 = true from scan_hit (f:=(fun i => win15 len1 (row win1 i))) hlt (show win15 len1 (row win1 i) = true by rw [row_at E1.out];exact (show decide (x1 < 0 ∨ x2 < 1 ∨ len1 < x1 ∨ len1 - x1 < x2) = true from decide_eq_true (by omega))))
        go_wp2
        go_ret
        exact ⟨by rw [HX.out];rfl,HB.out.trans (hwc.mono HB.out.size)⟩
      · have h1d:decide (x1 < 0) = false:=decide_eq_false h1
        by_cases h2:x2 < 1
        · go_wp2_with (rw [← hwa.out])
          (with_reducible refine wp_on hbq (by kernel_rfl) (by kernel_rfl) ?_);(repeat (go_big_quiet_step (fail)));(first | with_reducible refine wpQuiet_nil ?_ | refine wpQuiet_nil ?_);intro wq hbq
          have hwc:=HWB.out.trans (hbq.mono HWB.out.size)
          have HX:=Lib.hid (show winsB (⟨parts,chans,len0,win0,len1,win1⟩:Cfg) 1 len1 win1 15 = true from scan_hit (f:=(fun i => win15 len1 (row win1 i))) hlt (show win15 len1 (row win1 i) = true by rw [row_at E1.out];exact (show decide (x1 < 0 ∨ x2 < 1 ∨ len1 < x1 ∨ len1 - x1 < x2) = true from decide_eq_true (by omega))))
          go_wp2
          go_ret
          exact ⟨by rw [HX.out];rfl,HB.out.trans (hwc.mono HB.out.size)⟩
        · have h2d:decide (x2 < 1) = false:=decide_eq_false h2
          by_cases h3:len1 < x1
          · go_wp2_with (rw [← hwa.out])
            (with_reducible refine wp_on hbq (by kernel_rfl) (by kernel_rfl) ?_);(repeat (go_big_quiet_step (fail)));(first | with_reducible refine wpQuiet_nil ?_ | refine wpQuiet_nil ?_);intro wq hbq
            have hwc:=HWB.out.trans (hbq.mono HWB.out.size)
            have HX:=Lib.hid (show winsB (⟨parts,chans,len0,win0,len1,win1⟩:Cfg) 1 len1 win1 15 = true from scan_hit (f:=(fun i => win15 len1 (row win1 i))) hlt (show win15 len1 (row win1 i) = true by rw [row_at E1.out];exact (show decide (x1 < 0 ∨ x2 < 1 ∨ len1 < x1 ∨ len1 - x1 < x2) = true from decide_eq_true (by omega))))
            go_wp2
            go_ret
            exact ⟨by rw [HX.out];rfl,HB.out.trans (hwc.mono HB.out.size)⟩
          · have h3d:decide (len1 < x1) = false:=decide_eq_false h3
            by_cases h4:len1 - x1 < x2
            · go_wp2_with (rw [← hwa.out])
              (with_reducible refine wp_on hbq (by kernel_rfl) (by kernel_rfl) ?_);(repeat (go_big_quiet_step (fail)));(first | with_reducible refine wpQuiet_nil ?_ | refine wpQuiet_nil ?_);intro wq hbq
              have hwc:=HWB.out.trans (hbq.mono HWB.out.size)
              have HX:=Lib.hid (show winsB (⟨parts,chans,len0,win0,len1,win1⟩:Cfg) 1 len1 win1 15 = true from scan_hit (f:=(fun i => win15 len1 (row win1 i))) hlt (show win15 len1 (row win1 i) = true by rw [row_at E1.out];exact (show decide (x1 < 0 ∨ x2 < 1 ∨ len1 < x1 ∨ len1 - x1 < x2) = true from decide_eq_true (by omega))))
              go_wp2
              go_ret
              exact ⟨by rw [HX.out];rfl,HB.out.trans (hwc.mono HB.out.size)⟩
            · have h4d:decide (len1 - x1 < x2) = false:=decide_eq_false h4
              go_wp2_with (rw [← hwa.out])
              (with_reducible refine wp_on hbq (by kernel_rfl) (by kernel_rfl) ?_);(repeat (go_big_quiet_step (fail)));(first | with_reducible refine wpQuiet_nil ?_ | refine wpQuiet_nil ?_);intro wq hbq
              go_wp2_with fail
              (with_reducible refine wp_on hbq (by kernel_rfl) (by kernel_rfl) ?_);(repeat (go_big_quiet_step (fail)));(first | with_reducible refine wpQuiet_nil ?_ | refine wpQuiet_nil ?_);intro wq hbq
              have hwc:=HWB.out.trans (hbq.mono HWB.out.size)
              have HX:=Lib.hid (show scan (i + 1) (fun i => win15 len1 (row win1 i)) = false from scan_next HT.out (show win15 len1 (row win1 i) = false by rw [row_at E1.out];exact (show decide (x1 < 0 ∨ x2 < 1 ∨ len1 < x1 ∨ len1 - x1 < x2) = false from decide_eq_false (by omega))))
              go_wp2
              go_roundw
              case rel => exact ⟨i + 1,by omega,by go_num,HX.out,hwc⟩
              case measure => simp [intOf];omega
    · have HS:=Lib.hid (show winsB (⟨parts,chans,len0,win0,len1,win1⟩:Cfg) 1 len1 win1 15 = false by have h:=HT.out;rw [show i = win1.length by omega] at h;exact h)
      clear HT
      go_wp2
      go_ret
      exact ⟨by rw [HS.out];rfl,HB.out.trans (hbc.mono HB.out.size)⟩
end Go.Proofs.YtheeiklgblcjfaaGreatDoor
namespace Go.Proofs.YtheeiklgblcjfaaGreatDoor
open Go.RowKit Go.Sort Go.ChangeShapes Go.WideShapes
set_option linter.unusedVariables false
set_option linter.unusedSimpArgs false
theorem word_q (n:Int) (b:Bool) (w:World) (h:wordB n = b) {d:Nat} {os:Array Obj}:Calls Tryz.prog 118 #[.int .i64 n] (grow (redrawn w d) os) fun e w'' => e = .returned (.bool b) ∧ ∃ p:Regrown,w'' = grow (redrawn w p.d) p.os:=by
  subst h
  exact (word_b n _).mono fun _ _ hh => ⟨hh.1,⟨⟨d,os⟩,hh.2.symm⟩⟩
set_option maxRecDepth 100000 in
set_option maxHeartbeats 8000000 in
theorem rwins0_16 (parts chans:List (List Int)) (len0:Int) (win0:List (List Int)) (len1:Int) (win1:List (List Int)) (pa:Option Addr) (pc:Nat) (ca:Option Addr) (cc:Nat) (aa:Option Addr) (ac:Nat) (ba:Option Addr) (bc:Nat) (w:World) (hp:RowN [.i64,.i64] w w.heap.size pa parts) (hpw:wfR [.i64,.i64] parts) (hpl:parts.length ≤ 1000000) (hc:RowN [.i64,.i64,.i64,.i64,.i64,.i64,.u32] w w.heap.size ca chans) (hcw:wfR [.i64,.i64,.i64,.i64,.i64,.i64,.u32] chans) (hcl:chans.length ≤ 1000000) (h0:RowN [.i64,.i64,.i64] w w.heap.size aa win0) (h0w:wfR [.i64,.i64,.i64] win0) (h0l:win0.length ≤ 1000000) (h1:RowN [.i64,.i64,.i64] w w.heap.size ba win1) (h1w:wfR [.i64,.i64,.i64] win1) (h1l:win1.length ≤ 1000000):Calls Tryz.prog 106 #[.agg #[.slice pa parts.length pc,.slice ca chans.length cc,.int .i64 len0,.slice aa win0.length ac,.int .i64 len1,.slice ba win1.length bc],.int .i64 0,.int .i64 16] w fun e w' => e = .returned (.bool (winsB (⟨parts,chans,len0,win0,len1,win1⟩:Cfg) 0 len0 win0 16)) ∧ Below w.heap.size w w':=by
  obtain ⟨W,HW,hB,-,bx⟩:=one_cbox w ⟨parts,chans,len0,win0,len1,win1⟩ ⟨pa,pc,ca,cc,aa,ac,ba,bc⟩ 29
  have HB:=Lib.hid hB
  have hp:=hp.later hB;have hc:=hc.later hB;have h0:=h0.later hB;have h1:=h1.later hB
  clear hB
  go_enter Tryz.func106,Tryz.ntmps106
  go_wp2
  go_loopw [8] (fun ix wr => ∃ i:Nat,i ≤ win0.length ∧ ix = .int .i64 i ∧ scan i (fun i => decide (0 < i) && win16 (row win0 (i - 1)) (row win0 i)) = false ∧ Below W.heap.size W wr) (fun ix _ => win0.length - (intOf ix).toNat)
  case atStart => exact ⟨0,Nat.zero_le _,rfl,rfl,(by rw [← HW.out];exact Below.refl _ _)⟩
  case round =>
    obtain ⟨i,hi,rfl,ht,hbc⟩:=hrel
    have HT:=Lib.hid ht
    obtain ⟨c0,c1,c2,c3,c4,c5⟩:=bx _ hbc
    clear ht
    by_cases hlt:i < win0.length
    · obtain ⟨b,o,x0,x1,x2,e0,_,e1,⟨hw0,hw1,hw2⟩,k0⟩:=h0.at3 h0w hlt
      subst e0
      have hrow:=h0
      have k0:=k0 _ hbc
      obtain ⟨p0,k0⟩:=k0
      obtain ⟨p1,p2⟩:=k0
      have E1:=Lib.hid e1
      clear e1
      by_cases hi0:i = 0
      · have e1:¬ (0 < i):=by omega
        have e2:decide (0 < i) = false:=decide_eq_false e1
        have HI0:=Lib.hid hi0
        clear hi0
        obtain ⟨wa,hwa⟩:∃ u,Hid (u = wr.alloc (.cells #[.int .i64 x0,.int .i64 x1,.int .i64 x2] 133)):=⟨_,rfl⟩
        have hba:Below wr.heap.size wr wa:=by rw [hwa.out];exact (Below.refl _ _).alloc (Nat.le_refl _) _
        have hxa:wa.heap[wr.heap.size]? = some (.cells #[.int .i64 x0,.int .i64 x1,.int .i64 x2] 133 (0,0)):=by rw [hwa.out];exact heap_alloc_new _ _
        have hwb:=hbc.trans (hba.mono hbc.size)
        have hla:wr.heap.size < wa.heap.size:=(Array.getElem?_eq_some_iff.1 hxa).1
        have HWB:=Lib.hid hwb
        have hbq:=Below.refl wa.heap.size wa
        have a0:∀ p:Regrown,(grow (redrawn wa p.d) p.os).cell? ⟨wr.heap.size,0,none⟩ = some (.int .i64 x0):=fun p => cell_regrown (cell_blk hxa rfl) p.d p.os
        have a1:∀ p:Regrown,(grow (redrawn wa p.d) p.os).cell? ⟨wr.heap.size,1,none⟩ = some (.int .i64 x1):=fun p => cell_regrown (cell_blk hxa rfl) p.d p.os
        have a2:∀ p:Regrown,(grow (redrawn wa p.d) p.os).cell? ⟨wr.heap.size,2,none⟩ = some (.int .i64 x2):=fun p => cell_regrown (cell_blk hxa rfl) p.d p.os
        clear hba hwb hxa
        go_wp2_with (rw [← hwa.out])
        (with_reducible refine wp_on hbq (by kernel_rfl) (by kernel_rfl) ?_);(repeat (go_big_quiet_step (fail)));(first | with_reducible refine wpQuiet_nil ?_ | refine wpQuiet_nil ?_);intro wq hbq
        go_wp2_with fail
        (with_reducible refine wp_on hbq (by kernel_rfl) (by kernel_rfl) ?_);(repeat (go_big_quiet_step ((go_at_call 118;exact word_q _ _ _ (by assumption)))));(first | with_reducible refine wpQuiet_nil ?_ | refine wpQuiet_nil ?_);intro wq hbq
        have hwc:=HWB.out.trans (hbq.mono HWB.out.size)
        have HX:=Lib.hid (show scan (i + 1) (fun i => decide (0 < i) && win16 (row win0 (i - 1)) (row win0 i)) = false from scan_next HT.out (by have h:=HI0.out;subst h;rfl))
        go_wp2
        go_roundw
        case rel => exact ⟨i + 1,by omega,by go_num,HX.out,hwc⟩
        case measure => simp [intOf];omega
      · have HI0:=Lib.hid (show 0 < i by omega)
        obtain ⟨j,hij⟩:∃ j,i - 1 = j:=⟨_,rfl⟩
        have hj:j < win0.length:=by omega
        have e2:(i:Int) - 1 = (j:Int):=by omega
        have HIJ:=Lib.hid hij
        obtain ⟨b',o',y0,y1,y2,f0,_,f1,_,r0⟩:=hrow.at3 h0w hj
        cases f0
        have F1:=Lib.hid f1
        obtain ⟨wa,hwa⟩:∃ u,Hid (u = wr.alloc (.cells #[.int .i64 x0,.int .i64 x1,.int .i64 x2] 133)):=⟨_,rfl⟩
        have hba:Below wr.heap.size wr wa:=by rw [hwa.out];exact (Below.refl _ _).alloc (Nat.le_refl _) _
        have hxa:wa.heap[wr.heap.size]? = some (.cells #[.int .i64 x0,.int .i64 x1,.int .i64 x2] 133 (0,0)):=by rw [hwa.out];exact heap_alloc_new _ _
        have hwb:=hbc.trans (hba.mono hbc.size)
        have hla:wr.heap.size < wa.heap.size:=(Array.getElem?_eq_some_iff.1 hxa).1
        have HWB:=Lib.hid hwb
        have hbq:=Below.refl wa.heap.size wa
        have a0:∀ p:Regrown,(grow (redrawn wa p.d) p.os).cell? ⟨wr.heap.size,0,none⟩ = some (.int .i64 x0):=fun p => cell_regrown (cell_blk hxa rfl) p.d p.os
        have a1:∀ p:Regrown,(grow (redrawn wa p.d) p.os).cell? ⟨wr.heap.size,1,none⟩ = some (.int .i64 x1):=fun p => cell_regrown (cell_blk hxa rfl) p.d p.os
        have a2:∀ p:Regrown,(grow (redrawn wa p.d) p.os).cell? ⟨wr.heap.size,2,none⟩ = some (.int .i64 x2):=fun p => cell_regrown (cell_blk hxa rfl) p.d p.os
        clear hba hwb hxa
        have g1:∀ p:Regrown,(grow (redrawn wa p.d) p.os).cell? ⟨b,o + j * 3 + 1,none⟩ = some (.int .i64 y1):=fun p => (r0 _ (HWB.out.trans ((below_regrown wa p.d p.os).mono HWB.out.size))).2.1
        have g2:∀ p:Regrown,(grow (redrawn wa p.d) p.os).cell? ⟨b,o + j * 3 + 2,none⟩ = some (.int .i64 y2):=fun p => (r0 _ (HWB.out.trans ((below_regrown wa p.d p.os).mono HWB.out.size))).2.2
        have e1:0 < i:=by omega
        have e4:(j:Int) < (win0.length:Int):=by omega
        have e5:(0:Int) ≤ (j:Int):=by omega
        clear f1 r0 hij
        by_cases h1:wordB x1 = true
        · by_cases h2:wordB y1 = true
          · by_cases h3:wordB y2 = true
            · have hy1:=of_decide_eq_true h2
              have hy2:=of_decide_eq_true h3
              obtain ⟨m0,m1⟩:=hy1
              obtain ⟨m2,m3⟩:=hy2
              have hsum:=IntWalk.i64_in (y1 + y2) (by omega)
              by_cases h4:x1 < y1 + y2
              · go_wp2_with (rw [← hwa.out])
                (with_reducible refine wp_on hbq (by kernel_rfl) (by kernel_rfl) ?_);(repeat (go_big_quiet_step (fail)));(first | with_reducible refine wpQuiet_nil ?_ | refine wpQuiet_nil ?_);intro wq hbq
                go_wp2_with fail
                (with_reducible refine wp_on hbq (by kernel_rfl) (by kernel_rfl) ?_);(repeat (go_big_quiet_step ((go_at_call 118;exact word_q _ _ _ (by assumption)))));(first | with_reducible refine wpQuiet_nil ?_ | refine wpQuiet_nil ?_);intro wq hbq
                have hwc:=HWB.out.trans (hbq.mono HWB.out.size)
                have HX:=Lib.hid (show winsB (⟨parts,chans,len0,win0,len1,win1⟩:Cfg) 0 len0 win0 16 = true from scan_hit (f:=(fun i => decide (0 < i) && win16 (row win0 (i - 1)) (row win0 i))) hlt (show (decide (0 < i) && win16 (row win0 (i - 1)) (row win0 i)) = true by rw [HIJ.out,row_at E1.out,row_at F1.out];exact (show (decide (0 < i) && (wordB x1 && wordB y1 && wordB y2 && decide (x1 < y1 + y2))) = true by rw [decide_eq_true HI0.out,h1,h2,h3,decide_eq_true h4];rfl)))
                go_wp2
                go_ret
                exact ⟨by rw [HX.out];rfl,HB.out.trans (hwc.mono HB.out.size)⟩
              · have h4d:decide (x1 < y1 + y2) = false:=decide_eq_false h4
                go_wp2_with (rw [← hwa.out])
                (with_reducible refine wp_on hbq (by kernel_rfl) (by kernel_rfl) ?_);(repeat (go_big_quiet_step (fail)));(first | with_reducible refine wpQuiet_nil ?_ | refine wpQuiet_nil ?_);intro wq hbq
                go_wp2_with fail
                (with_reducible refine wp_on hbq (by kernel_rfl) (by kernel_rfl) ?_);(repeat (go_big_quiet_step ((go_at_call 118;exact word_q _ _ _ (by assumption)))));(first | with_reducible refine wpQuiet_nil ?_ | refine wpQuiet_nil ?_);intro wq hbq
                have hwc:=HWB.out.trans (hbq.mono HWB.out.size)
                have HX:=Lib.hid (show scan (i + 1) (fun i => decide (0 < i) && win16 (row win0 (i - 1)) (row win0 i)) = false from scan_next HT.out (show (decide (0 < i) && win16 (row win0 (i - 1)) (row win0 i)) = false by rw [HIJ.out,row_at E1.out,row_at F1.out];exact (show (decide (0 < i) && (wordB x1 && wordB y1 && wordB y2 && decide (x1 < y1 + y2))) = false by rw [decide_eq_true HI0.out,h1,h2,h3,decide_eq_false (show ¬ (x1 < y1 + y2) by omega)];simp)))
                go_wp2
                go_roundw
                case rel => exact ⟨i + 1,by omega,by go_num,HX.out,hwc⟩
                case measure => simp [intOf];omega
            · have h3:wordB y2 = false:=by simpa using h3
              go_wp2_with (rw [← hwa.out])
              (with_reducible refine wp_on hbq (by kernel_rfl) (by kernel_rfl) ?_);(repeat (go_big_quiet_step (fail)));(first | with_reducible refine wpQuiet_nil ?_ | refine wpQuiet_nil ?_);intro wq hbq
              go_wp2_with fail
              (with_reducible refine wp_on hbq (by kernel_rfl) (by kernel_rfl) ?_);(repeat (go_big_quiet_step ((go_at_call 118;exact word_q _ _ _ (by assumption)))));(first | with_reducible refine wpQuiet_nil ?_ | refine wpQuiet_nil ?_);intro wq hbq
              have hwc:=HWB.out.trans (hbq.mono HWB.out.size)
              have HX:=Lib.hid (show scan (i + 1) (fun i => decide (0 < i) && win16 (row win0 (i - 1)) (row win0 i)) = false from scan_next HT.out (show (decide (0 < i) && win16 (row win0 (i - 1)) (row win0 i)) = false by rw [HIJ.out,row_at E1.out,row_at F1.out];exact (show (decide (0 < i) && (wordB x1 && wordB y1 && wordB y2 && decide (x1 < y1 + y2))) = false by rw [decide_eq_true HI0.out,h1,h2,h3];simp)))
              go_wp2
              go_roundw
              case rel => exact ⟨i + 1,by omega,by go_num,HX.out,hwc⟩
              case measure => simp [intOf];omega
          · have h2:wordB y1 = false:=by simpa using h2
            go_wp2_with (rw [← hwa.out])
            (with_reducible refine wp_on hbq (by kernel_rfl) (by kernel_rfl) ?_);(repeat (go_big_quiet_step (fail)));(first | with_reducible refine wpQuiet_nil ?_ | refine wpQuiet_nil ?_);intro wq hbq
            go_wp2_with fail
            (with_reducible refine wp_on hbq (by kernel_rfl) (by kernel_rfl) ?_);(repeat (go_big_quiet_step ((go_at_call 118;exact word_q _ _ _ (by assumption)))));(first | with_reducible refine wpQuiet_nil ?_ | refine wpQuiet_nil ?_);intro wq hbq
            have hwc:=HWB.out.trans (hbq.mono HWB.out.size)
            have HX:=Lib.hid (show scan (i + 1) (fun i => decide (0 < i) && win16 (row win0 (i - 1)) (row win0 i)) = false from scan_next HT.out (show (decide (0 < i) && win16 (row win0 (i - 1)) (row win0 i)) = false by rw [HIJ.out,row_at E1.out,row_at F1.out];exact (show (decide (0 < i) && (wordB x1 && wordB y1 && wordB y2 && decide (x1 < y1 + y2))) = false by rw [decide_eq_true HI0.out,h1,h2];simp)))
            go_wp2
            go_roundw
            case rel => exact ⟨i + 1,by omega,by go_num,HX.out,hwc⟩
            case measure => simp [intOf];omega
        · have h1:wordB x1 = false:=by simpa using h1
          go_wp2_with (rw [← hwa.out])
          (with_reducible refine wp_on hbq (by kernel_rfl) (by kernel_rfl) ?_);(repeat (go_big_quiet_step (fail)));(first | with_reducible refine wpQuiet_nil ?_ | refine wpQuiet_nil ?_);intro wq hbq
          go_wp2_with fail
          (with_reducible refine wp_on hbq (by kernel_rfl) (by kernel_rfl) ?_);(repeat (go_big_quiet_step ((go_at_call 118;exact word_q _ _ _ (by assumption)))));(first | with_reducible refine wpQuiet_nil ?_ | refine wpQuiet_nil ?_);intro wq hbq
          have hwc:=HWB.out.trans (hbq.mono HWB.out.size)
          have HX:=Lib.hid (show scan (i + 1) (fun i => decide (0 < i) && win16 (row win0 (i - 1)) (row win0 i)) = false from scan_next HT.out (show (decide (0 < i) && win16 (row win0 (i - 1)) (row win0 i)) = false by rw [HIJ.out,row_at E1.out,row_at F1.out];exact (show (decide (0 < i) && (wordB x1 && wordB y1 && wordB y2 && decide (x1 < y1 + y2))) = false by rw [decide_eq_true HI0.out,h1];simp)))
          go_wp2
          go_roundw
          case rel => exact ⟨i + 1,by omega,by go_num,HX.out,hwc⟩
          case measure => simp [intOf];omega
    · have HS:=Lib.hid (show winsB (⟨parts,chans,len0,win0,len1,win1⟩:Cfg) 0 len0 win0 16 = false by have h:=HT.out;rw [show i = win0.length by omega] at h;exact h)
      clear HT
      go_wp2
      go_ret
      exact ⟨by rw [HS.out];rfl,HB.out.trans (hbc.mono HB.out.size)⟩
set_option maxRecDepth 100000 in
set_option maxHeartbeats 8000000 in
theorem rwins1_16 (parts chans:List (List Int)) (len0:Int) (win0:List (List Int)) (len1:Int) (win1:List (List Int)) (pa:Option Addr) (pc:Nat) (ca:Option Addr) (cc:Nat) (aa:Option Addr) (ac:Nat) (ba:Option Addr) (bc:Nat) (w:World) (hp:RowN [.i64,.i64] w w.heap.size pa parts) (hpw:wfR [.i64,.i64] parts) (hpl:parts.length ≤ 1000000) (hc:RowN [.i64,.i64,.i64,.i64,.i64,.i64,.u32] w w.heap.size ca chans) (hcw:wfR [.i64,.i64,.i64,.i64,.i64,.i64,.u32] chans) (hcl:chans.length ≤ 1000000) (h0:RowN [.i64,.i64,.i64] w w.heap.size aa win0) (h0w:wfR [.i64,.i64,.i64] win0) (h0l:win0.length ≤ 1000000) (h1:RowN [.i64,.i64,.i64] w w.heap.size ba win1) (h1w:wfR [.i64,.i64,.i64] win1) (h1l:win1.length ≤ 1000000):Calls Tryz.prog 106 #[.agg #[.slice pa parts.length pc,.slice ca chans.length cc,.int .i64 len0,.slice aa win0.length ac,.int .i64 len1,.slice ba win1.length bc],.int .i64 1,.int .i64 16] w fun e w' => e = .returned (.bool (winsB (⟨parts,chans,len0,win0,len1,win1⟩:Cfg) 1 len1 win1 16)) ∧ Below w.heap.size w w':=by
  obtain ⟨W,HW,hB,-,bx⟩:=one_cbox w ⟨parts,chans,len0,win0,len1,win1⟩ ⟨pa,pc,ca,cc,aa,ac,ba,bc⟩ 29
  have HB:=Lib.hid hB
  have hp:=hp.later hB;have hc:=hc.later hB;have h0:=h0.later hB;have h1:=h1.later hB
  clear hB
  go_enter Tryz.func106,Tryz.ntmps106
  go_wp2
  go_loopw [8] (fun ix wr => ∃ i:Nat,i ≤ win1.length ∧ ix = .int .i64 i ∧ scan i (fun i => decide (0 < i) && win16 (row win1 (i - 1)) (row win1 i)) = false ∧ Below W.heap.size W wr) (fun ix _ => win1.length - (intOf ix).toNat)
  case atStart => exact ⟨0,Nat.zero_le _,rfl,rfl,(by rw [← HW.out];exact Below.refl _ _)⟩
  case round =>
    obtain ⟨i,hi,rfl,ht,hbc⟩:=hrel
    have HT:=Lib.hid ht
    obtain ⟨c0,c1,c2,c3,c4,c5⟩:=bx _ hbc
    clear ht
    by_cases hlt:i < win1.length
    · obtain ⟨b,o,x0,x1,x2,e0,_,e1,⟨hw0,hw1,hw2⟩,k0⟩:=h1.at3 h1w hlt
      subst e0
      have hrow:=h1
      have k0:=k0 _ hbc
      obtain ⟨p0,k0⟩:=k0
      obtain ⟨p1,p2⟩:=k0
      have E1:=Lib.hid e1
      clear e1
      by_cases hi0:i = 0
      · have e1:¬ (0 < i):=by omega
        have e2:decide (0 < i) = false:=decide_eq_false e1
        have HI0:=Lib.hid hi0
        clear hi0
        obtain ⟨wa,hwa⟩:∃ u,Hid (u = wr.alloc (.cells #[.int .i64 x0,.int .i64 x1,.int .i64 x2] 133)):=⟨_,rfl⟩
        have hba:Below wr.heap.size wr wa:=by rw [hwa.out];exact (Below.refl _ _).alloc (Nat.le_refl _) _
        have hxa:wa.heap[wr.heap.size]? = some (.cells #[.int .i64 x0,.int .i64 x1,.int .i64 x2] 133 (0,0)):=by rw [hwa.out];exact heap_alloc_new _ _
        have hwb:=hbc.trans (hba.mono hbc.size)
        have hla:wr.heap.size < wa.heap.size:=(Array.getElem?_eq_some_iff.1 hxa).1
        have HWB:=Lib.hid hwb
        have hbq:=Below.refl wa.heap.size wa
        have a0:∀ p:Regrown,(grow (redrawn wa p.d) p.os).cell? ⟨wr.heap.size,0,none⟩ = some (.int .i64 x0):=fun p => cell_regrown (cell_blk hxa rfl) p.d p.os
        have a1:∀ p:Regrown,(grow (redrawn wa p.d) p.os).cell? ⟨wr.heap.size,1,none⟩ = some (.int .i64 x1):=fun p => cell_regrown (cell_blk hxa rfl) p.d p.os
        have a2:∀ p:Regrown,(grow (redrawn wa p.d) p.os).cell? ⟨wr.heap.size,2,none⟩ = some (.int .i64 x2):=fun p => cell_regrown (cell_blk hxa rfl) p.d p.os
        clear hba hwb hxa
        go_wp2_with (rw [← hwa.out])
        (with_reducible refine wp_on hbq (by kernel_rfl) (by kernel_rfl) ?_);(repeat (go_big_quiet_step (fail)));(first | with_reducible refine wpQuiet_nil ?_ | refine wpQuiet_nil ?_);intro wq hbq
        go_wp2_with fail
        (with_reducible refine wp_on hbq (by kernel_rfl) (by kernel_rfl) ?_);(repeat (go_big_quiet_step ((go_at_call 118;exact word_q _ _ _ (by assumption)))));(first | with_reducible refine wpQuiet_nil ?_ | refine wpQuiet_nil ?_);intro wq hbq
        have hwc:=HWB.out.trans (hbq.mono HWB.out.size)
        have HX:=Lib.hid (show scan (i + 1) (fun i => decide (0 < i) && win16 (row win1 (i - 1)) (row win1 i)) = false from scan_next HT.out (by have h:=HI0.out;subst h;rfl))
        go_wp2
        go_roundw
        case rel => exact ⟨i + 1,by omega,by go_num,HX.out,hwc⟩
        case measure => simp [intOf];omega
      · have HI0:=Lib.hid (show 0 < i by omega)
        obtain ⟨j,hij⟩:∃ j,i - 1 = j:=⟨_,rfl⟩
        have hj:j < win1.length:=by omega
        have e2:(i:Int) - 1 = (j:Int):=by omega
        have HIJ:=Lib.hid hij
        obtain ⟨b',o',y0,y1,y2,f0,_,f1,_,r0⟩:=hrow.at3 h1w hj
        cases f0
        have F1:=Lib.hid f1
        obtain ⟨wa,hwa⟩:∃ u,Hid (u = wr.alloc (.cells #[.int .i64 x0,.int .i64 x1,.int .i64 x2] 133)):=⟨_,rfl⟩
        have hba:Below wr.heap.size wr wa:=by rw [hwa.out];exact (Below.refl _ _).alloc (Nat.le_refl _) _
        have hxa:wa.heap[wr.heap.size]? = some (.cells #[.int .i64 x0,.int .i64 x1,.int .i64 x2] 133 (0,0)):=by rw [hwa.out];exact heap_alloc_new _ _
        have hwb:=hbc.trans (hba.mono hbc.size)
        have hla:wr.heap.size < wa.heap.size:=(Array.getElem?_eq_some_iff.1 hxa).1
        have HWB:=Lib.hid hwb
        have hbq:=Below.refl wa.heap.size wa
        have a0:∀ p:Regrown,(grow (redrawn wa p.d) p.os).cell? ⟨wr.heap.size,0,none⟩ = some (.int .i64 x0):=fun p => cell_regrown (cell_blk hxa rfl) p.d p.os
        have a1:∀ p:Regrown,(grow (redrawn wa p.d) p.os).cell? ⟨wr.heap.size,1,none⟩ = some (.int .i64 x1):=fun p => cell_regrown (cell_blk hxa rfl) p.d p.os
        have a2:∀ p:Regrown,(grow (redrawn wa p.d) p.os).cell? ⟨wr.heap.size,2,none⟩ = some (.int .i64 x2):=fun p => cell_regrown (cell_blk hxa rfl) p.d p.os
        clear hba hwb hxa
        have g1:∀ p:Regrown,(grow (redrawn wa p.d) p.os).cell? ⟨b,o + j * 3 + 1,none⟩ = some (.int .i64 y1):=fun p => (r0 _ (HWB.out.trans ((below_regrown wa p.d p.os).mono HWB.out.size))).2.1
        have g2:∀ p:Regrown,(grow (redrawn wa p.d) p.os).cell? ⟨b,o + j * 3 + 2,none⟩ = some (.int .i64 y2):=fun p => (r0 _ (HWB.out.trans ((below_regrown wa p.d p.os).mono HWB.out.size))).2.2
        have e1:0 < i:=by omega
        have e4:(j:Int) < (win1.length:Int):=by omega
        have e5:(0:Int) ≤ (j:Int):=by omega
        clear f1 r0 hij
        by_cases h1:wordB x1 = true
        · by_cases h2:wordB y1 = true
          · by_cases h3:wordB y2 = true
            · have hy1:=of_decide_eq_true h2
              have hy2:=of_decide_eq_true h3
              obtain ⟨m0,m1⟩:=hy1
              obtain ⟨m2,m3⟩:=hy2
              have hsum:=IntWalk.i64_in (y1 + y2) (by omega)
              by_cases h4:x1 < y1 + y2
              · go_wp2_with (rw [← hwa.out])
                (with_reducible refine wp_on hbq (by kernel_rfl) (by kernel_rfl) ?_);(repeat (go_big_quiet_step (fail)));(first | with_reducible refine wpQuiet_nil ?_ | refine wpQuiet_nil ?_);intro wq hbq
                go_wp2_with fail
                (with_reducible refine wp_on hbq (by kernel_rfl) (by kernel_rfl) ?_);(repeat (go_big_quiet_step ((go_at_call 118;exact word_q _ _ _ (by assumption)))));(first | with_reducible refine wpQuiet_nil ?_ | refine wpQuiet_nil ?_);intro wq hbq
                have hwc:=HWB.out.trans (hbq.mono HWB.out.size)
                have HX:=Lib.hid (show winsB (⟨parts,chans,len0,win0,len1,win1⟩:Cfg) 1 len1 win1 16 = true from scan_hit (f:=(fun i => decide (0 < i) && win16 (row win1 (i - 1)) (row win1 i))) hlt (show (decide (0 < i) && win16 (row win1 (i - 1)) (row win1 i)) = true by rw [HIJ.out,row_at E1.out,row_at F1.out];exact (show (decide (0 < i) && (wordB x1 && wordB y1 && wordB y2 && decide (x1 < y1 + y2))) = true by rw [decide_eq_true HI0.out,h1,h2,h3,decide_eq_true h4];rfl)))
                go_wp2
                go_ret
                exact ⟨by rw [HX.out];rfl,HB.out.trans (hwc.mono HB.out.size)⟩
              · have h4d:decide (x1 < y1 + y2) = false:=decide_eq_false h4
                go_wp2_with (rw [← hwa.out])
                (with_reducible refine wp_on hbq (by kernel_rfl) (by kernel_rfl) ?_);(repeat (go_big_quiet_step (fail)));(first | with_reducible refine wpQuiet_nil ?_ | refine wpQuiet_nil ?_);intro wq hbq
                go_wp2_with fail
                (with_reducible refine wp_on hbq (by kernel_rfl) (by kernel_rfl) ?_);(repeat (go_big_quiet_step ((go_at_call 118;exact word_q _ _ _ (by assumption)))));(first | with_reducible refine wpQuiet_nil ?_ | refine wpQuiet_nil ?_);intro wq hbq
                have hwc:=HWB.out.trans (hbq.mono HWB.out.size)
                have HX:=Lib.hid (show scan (i + 1) (fun i => decide (0 < i) && win16 (row win1 (i - 1)) (row win1 i)) = false from scan_next HT.out (show (decide (0 < i) && win16 (row win1 (i - 1)) (row win1 i)) = false by rw [HIJ.out,row_at E1.out,row_at F1.out];exact (show (decide (0 < i) && (wordB x1 && wordB y1 && wordB y2 && decide (x1 < y1 + y2))) = false by rw [decide_eq_true HI0.out,h1,h2,h3,decide_eq_false (show ¬ (x1 < y1 + y2) by omega)];simp)))
                go_wp2
                go_roundw
                case rel => exact ⟨i + 1,by omega,by go_num,HX.out,hwc⟩
                case measure => simp [intOf];omega
            · have h3:wordB y2 = false:=by simpa using h3
              go_wp2_with (rw [← hwa.out])
              (with_reducible refine wp_on hbq (by kernel_rfl) (by kernel_rfl) ?_);(repeat (go_big_quiet_step (fail)));(first | with_reducible refine wpQuiet_nil ?_ | refine wpQuiet_nil ?_);intro wq hbq
              go_wp2_with fail
              (with_reducible refine wp_on hbq (by kernel_rfl) (by kernel_rfl) ?_);(repeat (go_big_quiet_step ((go_at_call 118;exact word_q _ _ _ (by assumption)))));(first | with_reducible refine wpQuiet_nil ?_ | refine wpQuiet_nil ?_);intro wq hbq
              have hwc:=HWB.out.trans (hbq.mono HWB.out.size)
              have HX:=Lib.hid (show scan (i + 1) (fun i => decide (0 < i) && win16 (row win1 (i - 1)) (row win1 i)) = false from scan_next HT.out (show (decide (0 < i) && win16 (row win1 (i - 1)) (row win1 i)) = false by rw [HIJ.out,row_at E1.out,row_at F1.out];exact (show (decide (0 < i) && (wordB x1 && wordB y1 && wordB y2 && decide (x1 < y1 + y2))) = false by rw [decide_eq_true HI0.out,h1,h2,h3];simp)))
              go_wp2
              go_roundw
              case rel => exact ⟨i + 1,by omega,by go_num,HX.out,hwc⟩
              case measure => simp [intOf];omega
          · have h2:wordB y1 = false:=by simpa using h2
            go_wp2_with (rw [← hwa.out])
            (with_reducible refine wp_on hbq (by kernel_rfl) (by kernel_rfl) ?_);(repeat (go_big_quiet_step (fail)));(first | with_reducible refine wpQuiet_nil ?_ | refine wpQuiet_nil ?_);intro wq hbq
            go_wp2_with fail
            (with_reducible refine wp_on hbq (by kernel_rfl) (by kernel_rfl) ?_);(repeat (go_big_quiet_step ((go_at_call 118;exact word_q _ _ _ (by assumption)))));(first | with_reducible refine wpQuiet_nil ?_ | refine wpQuiet_nil ?_);intro wq hbq
            have hwc:=HWB.out.trans (hbq.mono HWB.out.size)
            have HX:=Lib.hid (show scan (i + 1) (fun i => decide (0 < i) && win16 (row win1 (i - 1)) (row win1 i)) = false from scan_next HT.out (show (decide (0 < i) && win16 (row win1 (i - 1)) (row win1 i)) = false by rw [HIJ.out,row_at E1.out,row_at F1.out];exact (show (decide (0 < i) && (wordB x1 && wordB y1 && wordB y2 && decide (x1 < y1 + y2))) = false by rw [decide_eq_true HI0.out,h1,h2];simp)))
            go_wp2
            go_roundw
            case rel => exact ⟨i + 1,by omega,by go_num,HX.out,hwc⟩
            case measure => simp [intOf];omega
        · have h1:wordB x1 = false:=by simpa using h1
          go_wp2_with (rw [← hwa.out])
          (with_reducible refine wp_on hbq (by kernel_rfl) (by kernel_rfl) ?_);(repeat (go_big_quiet_step (fail)));(first | with_reducible refine wpQuiet_nil ?_ | refine wpQuiet_nil ?_);intro wq hbq
          go_wp2_with fail
          (with_reducible refine wp_on hbq (by kernel_rfl) (by kernel_rfl) ?_);(repeat (go_big_quiet_step ((go_at_call 118;exact word_q _ _ _ (by assumption)))));(first | with_reducible refine wpQuiet_nil ?_ | refine wpQuiet_nil ?_);intro wq hbq
          have hwc:=HWB.out.trans (hbq.mono HWB.out.size)
          have HX:=Lib.hid (show scan (i + 1) (fun i => decide (0 < i) && win16 (row win1 (i - 1)) (row win1 i)) = false from scan_next HT.out (show (decide (0 < i) && win16 (row win1 (i - 1)) (row win1 i)) = false by rw [HIJ.out,row_at E1.out,row_at F1.out];exact (show (decide (0 < i) && (wordB x1 && wordB y1 && wordB y2 && decide (x1 < y1 + y2))) = false by rw [decide_eq_true HI0.out,h1];simp)))
          go_wp2
          go_roundw
          case rel => exact ⟨i + 1,by omega,by go_num,HX.out,hwc⟩
          case measure => simp [intOf];omega
    · have HS:=Lib.hid (show winsB (⟨parts,chans,len0,win0,len1,win1⟩:Cfg) 1 len1 win1 16 = false by have h:=HT.out;rw [show i = win1.length by omega] at h;exact h)
      clear HT
      go_wp2
      go_ret
      exact ⟨by rw [HS.out];rfl,HB.out.trans (hbc.mono HB.out.size)⟩
end Go.Proofs.YtheeiklgblcjfaaGreatDoor
end
section
namespace Go.Proofs.YtheeiklgblcjfaaGreatDoor
open Go.RowKit Go.Sort Go.ChangeShapes Go.WideShapes
set_option linter.unusedVariables false
set_option linter.unusedSimpArgs false
theorem window_is (parts chans:List (List Int)) (len0:Int) (win0:List (List Int)) (len1:Int) (win1:List (List Int)) (pa:Option Addr) (pc:Nat) (ca:Option Addr) (cc:Nat) (aa:Option Addr) (ac:Nat) (ba:Option Addr) (bc:Nat) (p:Nat) (b:Bool) (w:World) (hp:RowN [.i64,.i64] w w.heap.size pa parts) (hpw:wfR [.i64,.i64] parts) (hpl:parts.length ≤ 1000000) (hc:RowN [.i64,.i64,.i64,.i64,.i64,.i64,.u32] w w.heap.size ca chans) (hcw:wfR [.i64,.i64,.i64,.i64,.i64,.i64,.u32] chans) (hcl:chans.length ≤ 1000000) (h0:RowN [.i64,.i64,.i64] w w.heap.size aa win0) (h0w:wfR [.i64,.i64,.i64] win0) (h0l:win0.length ≤ 1000000) (h1:RowN [.i64,.i64,.i64] w w.heap.size ba win1) (h1w:wfR [.i64,.i64,.i64] win1) (h1l:win1.length ≤ 1000000) (hpl':p < parts.length) (h:windowB (⟨parts,chans,len0,win0,len1,win1⟩:Cfg) p = b):Calls Tryz.prog 104 #[.agg #[.slice pa parts.length pc,.slice ca chans.length cc,.int .i64 len0,.slice aa win0.length ac,.int .i64 len1,.slice ba win1.length bc],.int .i64 (p:Int)] w fun e w' => e = .returned (.bool b) ∧ Below w.heap.size w w':=by subst h;exact rwindow parts chans len0 win0 len1 win1 pa pc ca cc aa ac ba bc p w hp hpw hpl hc hcw hcl h0 h0w h0l h1 h1w h1l hpl'
set_option maxRecDepth 100000 in
set_option maxHeartbeats 8000000 in
theorem rholds1 (parts chans:List (List Int)) (len0:Int) (win0:List (List Int)) (len1:Int) (win1:List (List Int)) (pa:Option Addr) (pc:Nat) (ca:Option Addr) (cc:Nat) (aa:Option Addr) (ac:Nat) (ba:Option Addr) (bc:Nat) (w:World) (hp:RowN [.i64,.i64] w w.heap.size pa parts) (hpw:wfR [.i64,.i64] parts) (hpl:parts.length ≤ 1000000) (hc:RowN [.i64,.i64,.i64,.i64,.i64,.i64,.u32] w w.heap.size ca chans) (hcw:wfR [.i64,.i64,.i64,.i64,.i64,.i64,.u32] chans) (hcl:chans.length ≤ 1000000) (h0:RowN [.i64,.i64,.i64] w w.heap.size aa win0) (h0w:wfR [.i64,.i64,.i64] win0) (h0l:win0.length ≤ 1000000) (h1:RowN [.i64,.i64,.i64] w w.heap.size ba win1) (h1w:wfR [.i64,.i64,.i64] win1) (h1l:win1.length ≤ 1000000) (hl0:(Lit.int .i64 len0).wf = true) (hl1:(Lit.int .i64 len1).wf = true):Calls Tryz.prog 78 #[.agg #[.slice pa parts.length pc,.slice ca chans.length cc,.int .i64 len0,.slice aa win0.length ac,.int .i64 len1,.slice ba win1.length bc],.int .i64 1] w fun e w' => e = .returned (.bool (holdsB (⟨parts,chans,len0,win0,len1,win1⟩:Cfg) 1)) ∧ Below w.heap.size w w':=by
  by_cases h1:(parts.length:Int) < 1
  · have HX:=Lib.hid (show holdsB (⟨parts,chans,len0,win0,len1,win1⟩:Cfg) 1 = true from (show decide (parts.length < 1 ∨ 6 < parts.length) = true from decide_eq_true (by omega)))
    go_enter Tryz.func78,Tryz.ntmps78
    go_wp2
    go_ret
    exact ⟨by rw [HX.out];rfl,(Below.refl _ _).alloc (Nat.le_refl _) _⟩
  · have h1d:decide ((parts.length:Int) < 1) = false:=decide_eq_false h1
    by_cases h2:(6:Int) < (parts.length:Int)
    · have HX:=Lib.hid (show holdsB (⟨parts,chans,len0,win0,len1,win1⟩:Cfg) 1 = true from (show decide (parts.length < 1 ∨ 6 < parts.length) = true from decide_eq_true (by omega)))
      go_enter Tryz.func78,Tryz.ntmps78
      go_wp2
      go_ret
      exact ⟨by rw [HX.out];rfl,(Below.refl _ _).alloc (Nat.le_refl _) _⟩
    · have h2d:decide ((6:Int) < (parts.length:Int)) = false:=decide_eq_false h2
      have HX:=Lib.hid (show holdsB (⟨parts,chans,len0,win0,len1,win1⟩:Cfg) 1 = false from (show decide (parts.length < 1 ∨ 6 < parts.length) = false from decide_eq_false (by omega)))
      go_enter Tryz.func78,Tryz.ntmps78
      go_wp2
      go_ret
      exact ⟨by rw [HX.out];rfl,(Below.refl _ _).alloc (Nat.le_refl _) _⟩
set_option maxRecDepth 100000 in
set_option maxHeartbeats 8000000 in
theorem rholds2 (parts chans:List (List Int)) (len0:Int) (win0:List (List Int)) (len1:Int) (win1:List (List Int)) (pa:Option Addr) (pc:Nat) (ca:Option Addr) (cc:Nat) (aa:Option Addr) (ac:Nat) (ba:Option Addr) (bc:Nat) (w:World) (hp:RowN [.i64,.i64] w w.heap.size pa parts) (hpw:wfR [.i64,.i64] parts) (hpl:parts.length ≤ 1000000) (hc:RowN [.i64,.i64,.i64,.i64,.i64,.i64,.u32] w w.heap.size ca chans) (hcw:wfR [.i64,.i64,.i64,.i64,.i64,.i64,.u32] chans) (hcl:chans.length ≤ 1000000) (h0:RowN [.i64,.i64,.i64] w w.heap.size aa win0) (h0w:wfR [.i64,.i64,.i64] win0) (h0l:win0.length ≤ 1000000) (h1:RowN [.i64,.i64,.i64] w w.heap.size ba win1) (h1w:wfR [.i64,.i64,.i64] win1) (h1l:win1.length ≤ 1000000) (hl0:(Lit.int .i64 len0).wf = true) (hl1:(Lit.int .i64 len1).wf = true):Calls Tryz.prog 78 #[.agg #[.slice pa parts.length pc,.slice ca chans.length cc,.int .i64 len0,.slice aa win0.length ac,.int .i64 len1,.slice ba win1.length bc],.int .i64 2] w fun e w' => e = .returned (.bool (holdsB (⟨parts,chans,len0,win0,len1,win1⟩:Cfg) 2)) ∧ Below w.heap.size w w':=by
  obtain ⟨W,HW,hB,-,bx⟩:=one_cbox w ⟨parts,chans,len0,win0,len1,win1⟩ ⟨pa,pc,ca,cc,aa,ac,ba,bc⟩ 29
  have HB:=Lib.hid hB
  have hp:=hp.later hB;have hc:=hc.later hB;have h0:=h0.later hB;have h1:=h1.later hB
  clear hB
  go_enter Tryz.func78,Tryz.ntmps78
  go_wp2
  go_loopw [5] (fun ix wr => ∃ i:Nat,i ≤ parts.length ∧ ix = .int .i64 i ∧ scan i (fun i => partBad (⟨parts,chans,len0,win0,len1,win1⟩:Cfg) 2 i) = false ∧ Below W.heap.size W wr) (fun ix _ => parts.length - (intOf ix).toNat)
  case atStart => exact ⟨0,Nat.zero_le _,rfl,rfl,(by rw [← HW.out];exact Below.refl _ _)⟩
  case round =>
    obtain ⟨i,hi,rfl,ht,hbc⟩:=hrel
    have HT:=Lib.hid ht
    obtain ⟨c0,c1,c2,c3,c4,c5⟩:=bx _ hbc
    clear ht
    by_cases hlt:i < parts.length
    · obtain ⟨b,o,y0,y1,e0,_,e1,⟨hw0,hw1⟩,k0⟩:=hp.at2 hpw hlt
      subst e0
      have k0:=k0 _ hbc
      obtain ⟨p0,p1⟩:=k0
      have E1:=Lib.hid e1
      clear e1
      by_cases h1:y0 = 0
      · have h1a:((y0:Int) == 0) = true:=by simp [h1]
        have h1b:((y0:Int) != 0) = false:=by simp [h1]
        have HX:=Lib.hid (show scan (i + 1) (fun i => partBad (⟨parts,chans,len0,win0,len1,win1⟩:Cfg) 2 i) = false from scan_next HT.out (show partBad (⟨parts,chans,len0,win0,len1,win1⟩:Cfg) 2 i = false from (show decide (fld (row parts i) 0 ≠ 0 ∧ fld (row parts i) 0 ≠ 1) = false by rw [row_at E1.out];exact (show decide (y0 ≠ 0 ∧ y0 ≠ 1) = false from decide_eq_false (by omega)))))
        go_wp2
        go_roundw
        case rel => exact ⟨i + 1,by omega,by go_num,HX.out,(hbc.alloc hbc.size _)⟩
        case measure => simp [intOf];omega
      · have h1a:((y0:Int) == 0) = false:=by simp [h1]
        have h1b:((y0:Int) != 0) = true:=by simp [h1]
        by_cases h2:y0 = 1
        · have h2a:((y0:Int) == 1) = true:=by simp [h2]
          have h2b:((y0:Int) != 1) = false:=by simp [h2]
          have HX:=Lib.hid (show scan (i + 1) (fun i => partBad (⟨parts,chans,len0,win0,len1,win1⟩:Cfg) 2 i) = false from scan_next HT.out (show partBad (⟨parts,chans,len0,win0,len1,win1⟩:Cfg) 2 i = false from (show decide (fld (row parts i) 0 ≠ 0 ∧ fld (row parts i) 0 ≠ 1) = false by rw [row_at E1.out];exact (show decide (y0 ≠ 0 ∧ y0 ≠ 1) = false from decide_eq_false (by omega)))))
          go_wp2
          go_roundw
          case rel => exact ⟨i + 1,by omega,by go_num,HX.out,(hbc.alloc hbc.size _)⟩
          case measure => simp [intOf];omega
        · have h2a:((y0:Int) == 1) = false:=by simp [h2]
          have h2b:((y0:Int) != 1) = true:=by simp [h2]
          have HX:=Lib.hid (show holdsB (⟨parts,chans,len0,win0,len1,win1⟩:Cfg) 2 = true from scan_hit (f:=(fun i => partBad (⟨parts,chans,len0,win0,len1,win1⟩:Cfg) 2 i)) hlt (show partBad (⟨parts,chans,len0,win0,len1,win1⟩:Cfg) 2 i = true from (show decide (fld (row parts i) 0 ≠ 0 ∧ fld (row parts i) 0 ≠ 1) = true by rw [row_at E1.out];exact (show decide (y0 ≠ 0 ∧ y0 ≠ 1) = true from decide_eq_true (by omega)))))
          go_wp2
          go_ret
          exact ⟨by rw [HX.out];rfl,HB.out.trans ((hbc.alloc hbc.size _).mono HB.out.size)⟩
    · have HS:=Lib.hid (show holdsB (⟨parts,chans,len0,win0,len1,win1⟩:Cfg) 2 = false by have h:=HT.out;rw [show i = parts.length by omega] at h;exact h)
      clear HT
      go_wp2
      go_ret
      exact ⟨by rw [HS.out];rfl,HB.out.trans (hbc.mono HB.out.size)⟩
set_option maxRecDepth 100000 in
set_option maxHeartbeats 8000000 in
theorem rholds3 (parts chans:List (List Int)) (len0:Int) (win0:List (List Int)) (len1:Int) (win1:List (List Int)) (pa:Option Addr) (pc:Nat) (ca:Option Addr) (cc:Nat) (aa:Option Addr) (ac:Nat) (ba:Option Addr) (bc:Nat) (w:World) (hp:RowN [.i64,.i64] w w.heap.size pa parts) (hpw:wfR [.i64,.i64] parts) (hpl:parts.length ≤ 1000000) (hc:RowN [.i64,.i64,.i64,.i64,.i64,.i64,.u32] w w.heap.size ca chans) (hcw:wfR [.i64,.i64,.i64,.i64,.i64,.i64,.u32] chans) (hcl:chans.length ≤ 1000000) (h0:RowN [.i64,.i64,.i64] w w.heap.size aa win0) (h0w:wfR [.i64,.i64,.i64] win0) (h0l:win0.length ≤ 1000000) (h1:RowN [.i64,.i64,.i64] w w.heap.size ba win1) (h1w:wfR [.i64,.i64,.i64] win1) (h1l:win1.length ≤ 1000000) (hl0:(Lit.int .i64 len0).wf = true) (hl1:(Lit.int .i64 len1).wf = true):Calls Tryz.prog 78 #[.agg #[.slice pa parts.length pc,.slice ca chans.length cc,.int .i64 len0,.slice aa win0.length ac,.int .i64 len1,.slice ba win1.length bc],.int .i64 3] w fun e w' => e = .returned (.bool (holdsB (⟨parts,chans,len0,win0,len1,win1⟩:Cfg) 3)) ∧ Below w.heap.size w w':=by
  obtain ⟨W,HW,hB,-,bx⟩:=one_cbox w ⟨parts,chans,len0,win0,len1,win1⟩ ⟨pa,pc,ca,cc,aa,ac,ba,bc⟩ 29
  have HB:=Lib.hid hB
  have hp:=hp.later hB;have hc:=hc.later hB;have h0:=h0.later hB;have h1:=h1.later hB
  clear hB
  go_enter Tryz.func78,Tryz.ntmps78
  go_wp2
  go_loopw [5] (fun ix wr => ∃ i:Nat,i ≤ parts.length ∧ ix = .int .i64 i ∧ scan i (fun i => partBad (⟨parts,chans,len0,win0,len1,win1⟩:Cfg) 3 i) = false ∧ Below W.heap.size W wr) (fun ix _ => parts.length - (intOf ix).toNat)
  case atStart => exact ⟨0,Nat.zero_le _,rfl,rfl,(by rw [← HW.out];exact Below.refl _ _)⟩
  case round =>
    obtain ⟨i,hi,rfl,ht,hbc⟩:=hrel
    have HT:=Lib.hid ht
    obtain ⟨c0,c1,c2,c3,c4,c5⟩:=bx _ hbc
    clear ht
    by_cases hlt:i < parts.length
    · obtain ⟨b,o,y0,y1,e0,_,e1,⟨hw0,hw1⟩,k0⟩:=hp.at2 hpw hlt
      subst e0
      have k0:=k0 _ hbc
      obtain ⟨p0,p1⟩:=k0
      have E1:=Lib.hid e1
      clear e1
      by_cases h1:y1 < 0
      · have HX:=Lib.hid (show holdsB (⟨parts,chans,len0,win0,len1,win1⟩:Cfg) 3 = true from scan_hit (f:=(fun i => partBad (⟨parts,chans,len0,win0,len1,win1⟩:Cfg) 3 i)) hlt (show partBad (⟨parts,chans,len0,win0,len1,win1⟩:Cfg) 3 i = true from (show decide (fld (row parts i) 1 < 0 ∨ 64 < fld (row parts i) 1) = true by rw [row_at E1.out];exact (show decide (y1 < 0 ∨ 64 < y1) = true from decide_eq_true (by omega)))))
        go_wp2
        go_ret
        exact ⟨by rw [HX.out];rfl,HB.out.trans ((hbc.alloc hbc.size _).mono HB.out.size)⟩
      · have h1d:decide (y1 < 0) = false:=decide_eq_false h1
        by_cases h2:64 < y1
        · have HX:=Lib.hid (show holdsB (⟨parts,chans,len0,win0,len1,win1⟩:Cfg) 3 = true from scan_hit (f:=(fun i => partBad (⟨parts,chans,len0,win0,len1,win1⟩:Cfg) 3 i)) hlt (show partBad (⟨parts,chans,len0,win0,len1,win1⟩:Cfg) 3 i = true from (show decide (fld (row parts i) 1 < 0 ∨ 64 < fld (row parts i) 1) = true by rw [row_at E1.out];exact (show decide (y1 < 0 ∨ 64 < y1) = true from decide_eq_true (by omega)))))
          go_wp2
          go_ret
          exact ⟨by rw [HX.out];rfl,HB.out.trans ((hbc.alloc hbc.size _).mono HB.out.size)⟩
        · have h2d:decide (64 < y1) = false:=decide_eq_false h2
          have HX:=Lib.hid (show scan (i + 1) (fun i => partBad (⟨parts,chans,len0,win0,len1,win1⟩:Cfg) 3 i) = false from scan_next HT.out (show partBad (⟨parts,chans,len0,win0,len1,win1⟩:Cfg) 3 i = false from (show decide (fld (row parts i) 1 < 0 ∨ 64 < fld (row parts i) 1) = false by rw [row_at E1.out];exact (show decide (y1 < 0 ∨ 64 < y1) = false from decide_eq_false (by omega)))))
          go_wp2
          go_roundw
          case rel => exact ⟨i + 1,by omega,by go_num,HX.out,(hbc.alloc hbc.size _)⟩
          case measure => simp [intOf];omega
    · have HS:=Lib.hid (show holdsB (⟨parts,chans,len0,win0,len1,win1⟩:Cfg) 3 = false by have h:=HT.out;rw [show i = parts.length by omega] at h;exact h)
      clear HT
      go_wp2
      go_ret
      exact ⟨by rw [HS.out];rfl,HB.out.trans (hbc.mono HB.out.size)⟩
set_option maxRecDepth 100000 in
set_option maxHeartbeats 8000000 in
theorem rholds4 (parts chans:List (List Int)) (len0:Int) (win0:List (List Int)) (len1:Int) (win1:List (List Int)) (pa:Option Addr) (pc:Nat) (ca:Option Addr) (cc:Nat) (aa:Option Addr) (ac:Nat) (ba:Option Addr) (bc:Nat) (w:World) (hp:RowN [.i64,.i64] w w.heap.size pa parts) (hpw:wfR [.i64,.i64] parts) (hpl:parts.length ≤ 1000000) (hc:RowN [.i64,.i64,.i64,.i64,.i64,.i64,.u32] w w.heap.size ca chans) (hcw:wfR [.i64,.i64,.i64,.i64,.i64,.i64,.u32] chans) (hcl:chans.length ≤ 1000000) (h0:RowN [.i64,.i64,.i64] w w.heap.size aa win0) (h0w:wfR [.i64,.i64,.i64] win0) (h0l:win0.length ≤ 1000000) (h1:RowN [.i64,.i64,.i64] w w.heap.size ba win1) (h1w:wfR [.i64,.i64,.i64] win1) (h1l:win1.length ≤ 1000000) (hl0:(Lit.int .i64 len0).wf = true) (hl1:(Lit.int .i64 len1).wf = true):Calls Tryz.prog 78 #[.agg #[.slice pa parts.length pc,.slice ca chans.length cc,.int .i64 len0,.slice aa win0.length ac,.int .i64 len1,.slice ba win1.length bc],.int .i64 4] w fun e w' => e = .returned (.bool (holdsB (⟨parts,chans,len0,win0,len1,win1⟩:Cfg) 4)) ∧ Below w.heap.size w w':=by
  by_cases h1:(8:Int) < (chans.length:Int)
  · have HX:=Lib.hid (show holdsB (⟨parts,chans,len0,win0,len1,win1⟩:Cfg) 4 = true from (show decide (8 < chans.length) = true from decide_eq_true (by omega)))
    go_enter Tryz.func78,Tryz.ntmps78
    go_wp2
    go_ret
    exact ⟨by rw [HX.out];rfl,(Below.refl _ _).alloc (Nat.le_refl _) _⟩
  · have h1d:decide ((8:Int) < (chans.length:Int)) = false:=decide_eq_false h1
    have HX:=Lib.hid (show holdsB (⟨parts,chans,len0,win0,len1,win1⟩:Cfg) 4 = false from (show decide (8 < chans.length) = false from decide_eq_false (by omega)))
    go_enter Tryz.func78,Tryz.ntmps78
    go_wp2
    go_ret
    exact ⟨by rw [HX.out];rfl,(Below.refl _ _).alloc (Nat.le_refl _) _⟩
set_option maxRecDepth 100000 in
set_option maxHeartbeats 8000000 in
theorem rholds5 (parts chans:List (List Int)) (len0:Int) (win0:List (List Int)) (len1:Int) (win1:List (List Int)) (pa:Option Addr) (pc:Nat) (ca:Option Addr) (cc:Nat) (aa:Option Addr) (ac:Nat) (ba:Option Addr) (bc:Nat) (w:World) (hp:RowN [.i64,.i64] w w.heap.size pa parts) (hpw:wfR [.i64,.i64] parts) (hpl:parts.length ≤ 1000000) (hc:RowN [.i64,.i64,.i64,.i64,.i64,.i64,.u32] w w.heap.size ca chans) (hcw:wfR [.i64,.i64,.i64,.i64,.i64,.i64,.u32] chans) (hcl:chans.length ≤ 1000000) (h0:RowN [.i64,.i64,.i64] w w.heap.size aa win0) (h0w:wfR [.i64,.i64,.i64] win0) (h0l:win0.length ≤ 1000000) (h1:RowN [.i64,.i64,.i64] w w.heap.size ba win1) (h1w:wfR [.i64,.i64,.i64] win1) (h1l:win1.length ≤ 1000000) (hl0:(Lit.int .i64 len0).wf = true) (hl1:(Lit.int .i64 len1).wf = true):Calls Tryz.prog 78 #[.agg #[.slice pa parts.length pc,.slice ca chans.length cc,.int .i64 len0,.slice aa win0.length ac,.int .i64 len1,.slice ba win1.length bc],.int .i64 5] w fun e w' => e = .returned (.bool (holdsB (⟨parts,chans,len0,win0,len1,win1⟩:Cfg) 5)) ∧ Below w.heap.size w w':=by
  obtain ⟨W,HW,hB,-,bx⟩:=one_cbox w ⟨parts,chans,len0,win0,len1,win1⟩ ⟨pa,pc,ca,cc,aa,ac,ba,bc⟩ 29
  have HB:=Lib.hid hB
  have hp:=hp.later hB;have hc:=hc.later hB;have h0:=h0.later hB;have h1:=h1.later hB
  clear hB
  go_enter Tryz.func78,Tryz.ntmps78
  go_wp2_with fail
  rw [← HW.out]
  refine (rchans5 parts chans len0 win0 len1 win1 pa pc ca cc aa ac ba bc _ hp hpw hpl hc hcw hcl h0 h0w h0l h1 h1w h1l).mono ?_
  rintro e w5 ⟨rfl,hb5⟩
  have HX:=Lib.hid (show holdsB (⟨parts,chans,len0,win0,len1,win1⟩:Cfg) 5 = chansB (⟨parts,chans,len0,win0,len1,win1⟩:Cfg) 5 from rfl)
  go_wp2
  go_ret
  exact ⟨by rw [HX.out];rfl,HB.out.trans (hb5.mono HB.out.size)⟩
set_option maxRecDepth 100000 in
set_option maxHeartbeats 8000000 in
theorem rholds6 (parts chans:List (List Int)) (len0:Int) (win0:List (List Int)) (len1:Int) (win1:List (List Int)) (pa:Option Addr) (pc:Nat) (ca:Option Addr) (cc:Nat) (aa:Option Addr) (ac:Nat) (ba:Option Addr) (bc:Nat) (w:World) (hp:RowN [.i64,.i64] w w.heap.size pa parts) (hpw:wfR [.i64,.i64] parts) (hpl:parts.length ≤ 1000000) (hc:RowN [.i64,.i64,.i64,.i64,.i64,.i64,.u32] w w.heap.size ca chans) (hcw:wfR [.i64,.i64,.i64,.i64,.i64,.i64,.u32] chans) (hcl:chans.length ≤ 1000000) (h0:RowN [.i64,.i64,.i64] w w.heap.size aa win0) (h0w:wfR [.i64,.i64,.i64] win0) (h0l:win0.length ≤ 1000000) (h1:RowN [.i64,.i64,.i64] w w.heap.size ba win1) (h1w:wfR [.i64,.i64,.i64] win1) (h1l:win1.length ≤ 1000000) (hl0:(Lit.int .i64 len0).wf = true) (hl1:(Lit.int .i64 len1).wf = true):Calls Tryz.prog 78 #[.agg #[.slice pa parts.length pc,.slice ca chans.length cc,.int .i64 len0,.slice aa win0.length ac,.int .i64 len1,.slice ba win1.length bc],.int .i64 6] w fun e w' => e = .returned (.bool (holdsB (⟨parts,chans,len0,win0,len1,win1⟩:Cfg) 6)) ∧ Below w.heap.size w w':=by
  obtain ⟨W,HW,hB,-,bx⟩:=one_cbox w ⟨parts,chans,len0,win0,len1,win1⟩ ⟨pa,pc,ca,cc,aa,ac,ba,bc⟩ 29
  have HB:=Lib.hid hB
  have hp:=hp.later hB;have hc:=hc.later hB;have h0:=h0.later hB;have h1:=h1.later hB
  clear hB
  go_enter Tryz.func78,Tryz.ntmps78
  go_wp2_with fail
  rw [← HW.out]
  refine (rchans6 parts chans len0 win0 len1 win1 pa pc ca cc aa ac ba bc _ hp hpw hpl hc hcw hcl h0 h0w h0l h1 h1w h1l).mono ?_
  rintro e w5 ⟨rfl,hb5⟩
  have HX:=Lib.hid (show holdsB (⟨parts,chans,len0,win0,len1,win1⟩:Cfg) 6 = chansB (⟨parts,chans,len0,win0,len1,win1⟩:Cfg) 6 from rfl)
  go_wp2
  go_ret
  exact ⟨by rw [HX.out];rfl,HB.out.trans (hb5.mono HB.out.size)⟩
set_option maxRecDepth 100000 in
set_option maxHeartbeats 8000000 in
theorem rholds7 (parts chans:List (List Int)) (len0:Int) (win0:List (List Int)) (len1:Int) (win1:List (List Int)) (pa:Option Addr) (pc:Nat) (ca:Option Addr) (cc:Nat) (aa:Option Addr) (ac:Nat) (ba:Option Addr) (bc:Nat) (w:World) (hp:RowN [.i64,.i64] w w.heap.size pa parts) (hpw:wfR [.i64,.i64] parts) (hpl:parts.length ≤ 1000000) (hc:RowN [.i64,.i64,.i64,.i64,.i64,.i64,.u32] w w.heap.size ca chans) (hcw:wfR [.i64,.i64,.i64,.i64,.i64,.i64,.u32] chans) (hcl:chans.length ≤ 1000000) (h0:RowN [.i64,.i64,.i64] w w.heap.size aa win0) (h0w:wfR [.i64,.i64,.i64] win0) (h0l:win0.length ≤ 1000000) (h1:RowN [.i64,.i64,.i64] w w.heap.size ba win1) (h1w:wfR [.i64,.i64,.i64] win1) (h1l:win1.length ≤ 1000000) (hl0:(Lit.int .i64 len0).wf = true) (hl1:(Lit.int .i64 len1).wf = true):Calls Tryz.prog 78 #[.agg #[.slice pa parts.length pc,.slice ca chans.length cc,.int .i64 len0,.slice aa win0.length ac,.int .i64 len1,.slice ba win1.length bc],.int .i64 7] w fun e w' => e = .returned (.bool (holdsB (⟨parts,chans,len0,win0,len1,win1⟩:Cfg) 7)) ∧ Below w.heap.size w w':=by
  obtain ⟨W,HW,hB,-,bx⟩:=one_cbox w ⟨parts,chans,len0,win0,len1,win1⟩ ⟨pa,pc,ca,cc,aa,ac,ba,bc⟩ 29
  have HB:=Lib.hid hB
  have hp:=hp.later hB;have hc:=hc.later hB;have h0:=h0.later hB;have h1:=h1.later hB
  clear hB
  go_enter Tryz.func78,Tryz.ntmps78
  go_wp2_with fail
  rw [← HW.out]
  refine (rchans7 parts chans len0 win0 len1 win1 pa pc ca cc aa ac ba bc _ hp hpw hpl hc hcw hcl h0 h0w h0l h1 h1w h1l).mono ?_
  rintro e w5 ⟨rfl,hb5⟩
  have HX:=Lib.hid (show holdsB (⟨parts,chans,len0,win0,len1,win1⟩:Cfg) 7 = chansB (⟨parts,chans,len0,win0,len1,win1⟩:Cfg) 7 from rfl)
  go_wp2
  go_ret
  exact ⟨by rw [HX.out];rfl,HB.out.trans (hb5.mono HB.out.size)⟩
set_option maxRecDepth 100000 in
set_option maxHeartbeats 8000000 in
theorem rholds8 (parts chans:List (List Int)) (len0:Int) (win0:List (List Int)) (len1:Int) (win1:List (List Int)) (pa:Option Addr) (pc:Nat) (ca:Option Addr) (cc:Nat) (aa:Option Addr) (ac:Nat) (ba:Option Addr) (bc:Nat) (w:World) (hp:RowN [.i64,.i64] w w.heap.size pa parts) (hpw:wfR [.i64,.i64] parts) (hpl:parts.length ≤ 1000000) (hc:RowN [.i64,.i64,.i64,.i64,.i64,.i64,.u32] w w.heap.size ca chans) (hcw:wfR [.i64,.i64,.i64,.i64,.i64,.i64,.u32] chans) (hcl:chans.length ≤ 1000000) (h0:RowN [.i64,.i64,.i64] w w.heap.size aa win0) (h0w:wfR [.i64,.i64,.i64] win0) (h0l:win0.length ≤ 1000000) (h1:RowN [.i64,.i64,.i64] w w.heap.size ba win1) (h1w:wfR [.i64,.i64,.i64] win1) (h1l:win1.length ≤ 1000000) (hl0:(Lit.int .i64 len0).wf = true) (hl1:(Lit.int .i64 len1).wf = true):Calls Tryz.prog 78 #[.agg #[.slice pa parts.length pc,.slice ca chans.length cc,.int .i64 len0,.slice aa win0.length ac,.int .i64 len1,.slice ba win1.length bc],.int .i64 8] w fun e w' => e = .returned (.bool (holdsB (⟨parts,chans,len0,win0,len1,win1⟩:Cfg) 8)) ∧ Below w.heap.size w w':=by
  obtain ⟨W,HW,hB,-,bx⟩:=one_cbox w ⟨parts,chans,len0,win0,len1,win1⟩ ⟨pa,pc,ca,cc,aa,ac,ba,bc⟩ 29
  have HB:=Lib.hid hB
  have hp:=hp.later hB;have hc:=hc.later hB;have h0:=h0.later hB;have h1:=h1.later hB
  clear hB
  go_enter Tryz.func78,Tryz.ntmps78
  go_wp2_with fail
  rw [← HW.out]
  refine (rchans8 parts chans len0 win0 len1 win1 pa pc ca cc aa ac ba bc _ hp hpw hpl hc hcw hcl h0 h0w h0l h1 h1w h1l).mono ?_
  rintro e w5 ⟨rfl,hb5⟩
  have HX:=Lib.hid (show holdsB (⟨parts,chans,len0,win0,len1,win1⟩:Cfg) 8 = chansB (⟨parts,chans,len0,win0,len1,win1⟩:Cfg) 8 from rfl)
  go_wp2
  go_ret
  exact ⟨by rw [HX.out];rfl,HB.out.trans (hb5.mono HB.out.size)⟩
set_option maxRecDepth 100000 in
set_option maxHeartbeats 8000000 in
theorem rholds9 (parts chans:List (List Int)) (len0:Int) (win0:List (List Int)) (len1:Int) (win1:List (List Int)) (pa:Option Addr) (pc:Nat) (ca:Option Addr) (cc:Nat) (aa:Option Addr) (ac:Nat) (ba:Option Addr) (bc:Nat) (w:World) (hp:RowN [.i64,.i64] w w.heap.size pa parts) (hpw:wfR [.i64,.i64] parts) (hpl:parts.length ≤ 1000000) (hc:RowN [.i64,.i64,.i64,.i64,.i64,.i64,.u32] w w.heap.size ca chans) (hcw:wfR [.i64,.i64,.i64,.i64,.i64,.i64,.u32] chans) (hcl:chans.length ≤ 1000000) (h0:RowN [.i64,.i64,.i64] w w.heap.size aa win0) (h0w:wfR [.i64,.i64,.i64] win0) (h0l:win0.length ≤ 1000000) (h1:RowN [.i64,.i64,.i64] w w.heap.size ba win1) (h1w:wfR [.i64,.i64,.i64] win1) (h1l:win1.length ≤ 1000000) (hl0:(Lit.int .i64 len0).wf = true) (hl1:(Lit.int .i64 len1).wf = true):Calls Tryz.prog 78 #[.agg #[.slice pa parts.length pc,.slice ca chans.length cc,.int .i64 len0,.slice aa win0.length ac,.int .i64 len1,.slice ba win1.length bc],.int .i64 9] w fun e w' => e = .returned (.bool (holdsB (⟨parts,chans,len0,win0,len1,win1⟩:Cfg) 9)) ∧ Below w.heap.size w w':=by
  obtain ⟨W,HW,hB,-,bx⟩:=one_cbox w ⟨parts,chans,len0,win0,len1,win1⟩ ⟨pa,pc,ca,cc,aa,ac,ba,bc⟩ 29
  have HB:=Lib.hid hB
  have hp:=hp.later hB;have hc:=hc.later hB;have h0:=h0.later hB;have h1:=h1.later hB
  clear hB
  go_enter Tryz.func78,Tryz.ntmps78
  go_wp2_with fail
  rw [← HW.out]
  refine (rchans9 parts chans len0 win0 len1 win1 pa pc ca cc aa ac ba bc _ hp hpw hpl hc hcw hcl h0 h0w h0l h1 h1w h1l).mono ?_
  rintro e w5 ⟨rfl,hb5⟩
  have HX:=Lib.hid (show holdsB (⟨parts,chans,len0,win0,len1,win1⟩:Cfg) 9 = chansB (⟨parts,chans,len0,win0,len1,win1⟩:Cfg) 9 from rfl)
  go_wp2
  go_ret
  exact ⟨by rw [HX.out];rfl,HB.out.trans (hb5.mono HB.out.size)⟩
set_option maxRecDepth 100000 in
set_option maxHeartbeats 8000000 in
theorem rholds10 (parts chans:List (List Int)) (len0:Int) (win0:List (List Int)) (len1:Int) (win1:List (List Int)) (pa:Option Addr) (pc:Nat) (ca:Option Addr) (cc:Nat) (aa:Option Addr) (ac:Nat) (ba:Option Addr) (bc:Nat) (w:World) (hp:RowN [.i64,.i64] w w.heap.size pa parts) (hpw:wfR [.i64,.i64] parts) (hpl:parts.length ≤ 1000000) (hc:RowN [.i64,.i64,.i64,.i64,.i64,.i64,.u32] w w.heap.size ca chans) (hcw:wfR [.i64,.i64,.i64,.i64,.i64,.i64,.u32] chans) (hcl:chans.length ≤ 1000000) (h0:RowN [.i64,.i64,.i64] w w.heap.size aa win0) (h0w:wfR [.i64,.i64,.i64] win0) (h0l:win0.length ≤ 1000000) (h1:RowN [.i64,.i64,.i64] w w.heap.size ba win1) (h1w:wfR [.i64,.i64,.i64] win1) (h1l:win1.length ≤ 1000000) (hl0:(Lit.int .i64 len0).wf = true) (hl1:(Lit.int .i64 len1).wf = true):Calls Tryz.prog 78 #[.agg #[.slice pa parts.length pc,.slice ca chans.length cc,.int .i64 len0,.slice aa win0.length ac,.int .i64 len1,.slice ba win1.length bc],.int .i64 10] w fun e w' => e = .returned (.bool (holdsB (⟨parts,chans,len0,win0,len1,win1⟩:Cfg) 10)) ∧ Below w.heap.size w w':=by
  obtain ⟨W,HW,hB,-,bx⟩:=one_cbox w ⟨parts,chans,len0,win0,len1,win1⟩ ⟨pa,pc,ca,cc,aa,ac,ba,bc⟩ 29
  have HB:=Lib.hid hB
  have hp:=hp.later hB;have hc:=hc.later hB;have h0:=h0.later hB;have h1:=h1.later hB
  clear hB
  go_enter Tryz.func78,Tryz.ntmps78
  go_wp2_with fail
  rw [← HW.out]
  refine (rchans10 parts chans len0 win0 len1 win1 pa pc ca cc aa ac ba bc _ hp hpw hpl hc hcw hcl h0 h0w h0l h1 h1w h1l).mono ?_
  rintro e w5 ⟨rfl,hb5⟩
  have HX:=Lib.hid (show holdsB (⟨parts,chans,len0,win0,len1,win1⟩:Cfg) 10 = chansB (⟨parts,chans,len0,win0,len1,win1⟩:Cfg) 10 from rfl)
  go_wp2
  go_ret
  exact ⟨by rw [HX.out];rfl,HB.out.trans (hb5.mono HB.out.size)⟩
set_option maxRecDepth 100000 in
set_option maxHeartbeats 8000000 in
theorem rholds11 (parts chans:List (List Int)) (len0:Int) (win0:List (List Int)) (len1:Int) (win1:List (List Int)) (pa:Option Addr) (pc:Nat) (ca:Option Addr) (cc:Nat) (aa:Option Addr) (ac:Nat) (ba:Option Addr) (bc:Nat) (w:World) (hp:RowN [.i64,.i64] w w.heap.size pa parts) (hpw:wfR [.i64,.i64] parts) (hpl:parts.length ≤ 1000000) (hc:RowN [.i64,.i64,.i64,.i64,.i64,.i64,.u32] w w.heap.size ca chans) (hcw:wfR [.i64,.i64,.i64,.i64,.i64,.i64,.u32] chans) (hcl:chans.length ≤ 1000000) (h0:RowN [.i64,.i64,.i64] w w.heap.size aa win0) (h0w:wfR [.i64,.i64,.i64] win0) (h0l:win0.length ≤ 1000000) (h1:RowN [.i64,.i64,.i64] w w.heap.size ba win1) (h1w:wfR [.i64,.i64,.i64] win1) (h1l:win1.length ≤ 1000000) (hl0:(Lit.int .i64 len0).wf = true) (hl1:(Lit.int .i64 len1).wf = true):Calls Tryz.prog 78 #[.agg #[.slice pa parts.length pc,.slice ca chans.length cc,.int .i64 len0,.slice aa win0.length ac,.int .i64 len1,.slice ba win1.length bc],.int .i64 11] w fun e w' => e = .returned (.bool (holdsB (⟨parts,chans,len0,win0,len1,win1⟩:Cfg) 11)) ∧ Below w.heap.size w w':=by
  obtain ⟨W,HW,hB,-,bx⟩:=one_cbox w ⟨parts,chans,len0,win0,len1,win1⟩ ⟨pa,pc,ca,cc,aa,ac,ba,bc⟩ 29
  have HB:=Lib.hid hB
  have hp:=hp.later hB;have hc:=hc.later hB;have h0:=h0.later hB;have h1:=h1.later hB
  clear hB
  go_enter Tryz.func78,Tryz.ntmps78
  go_wp2_with fail
  rw [← HW.out]
  refine (rchans11 parts chans len0 win0 len1 win1 pa pc ca cc aa ac ba bc _ hp hpw hpl hc hcw hcl h0 h0w h0l h1 h1w h1l).mono ?_
  rintro e w5 ⟨rfl,hb5⟩
  have HX:=Lib.hid (show holdsB (⟨parts,chans,len0,win0,len1,win1⟩:Cfg) 11 = chansB (⟨parts,chans,len0,win0,len1,win1⟩:Cfg) 11 from rfl)
  go_wp2
  go_ret
  exact ⟨by rw [HX.out];rfl,HB.out.trans (hb5.mono HB.out.size)⟩
set_option maxRecDepth 100000 in
set_option maxHeartbeats 8000000 in
theorem rholds12 (parts chans:List (List Int)) (len0:Int) (win0:List (List Int)) (len1:Int) (win1:List (List Int)) (pa:Option Addr) (pc:Nat) (ca:Option Addr) (cc:Nat) (aa:Option Addr) (ac:Nat) (ba:Option Addr) (bc:Nat) (w:World) (hp:RowN [.i64,.i64] w w.heap.size pa parts) (hpw:wfR [.i64,.i64] parts) (hpl:parts.length ≤ 1000000) (hc:RowN [.i64,.i64,.i64,.i64,.i64,.i64,.u32] w w.heap.size ca chans) (hcw:wfR [.i64,.i64,.i64,.i64,.i64,.i64,.u32] chans) (hcl:chans.length ≤ 1000000) (h0:RowN [.i64,.i64,.i64] w w.heap.size aa win0) (h0w:wfR [.i64,.i64,.i64] win0) (h0l:win0.length ≤ 1000000) (h1:RowN [.i64,.i64,.i64] w w.heap.size ba win1) (h1w:wfR [.i64,.i64,.i64] win1) (h1l:win1.length ≤ 1000000) (hl0:(Lit.int .i64 len0).wf = true) (hl1:(Lit.int .i64 len1).wf = true):Calls Tryz.prog 78 #[.agg #[.slice pa parts.length pc,.slice ca chans.length cc,.int .i64 len0,.slice aa win0.length ac,.int .i64 len1,.slice ba win1.length bc],.int .i64 12] w fun e w' => e = .returned (.bool (holdsB (⟨parts,chans,len0,win0,len1,win1⟩:Cfg) 12)) ∧ Below w.heap.size w w':=by
  obtain ⟨W,HW,hB,-,bx⟩:=one_cbox w ⟨parts,chans,len0,win0,len1,win1⟩ ⟨pa,pc,ca,cc,aa,ac,ba,bc⟩ 29
  have HB:=Lib.hid hB
  have hp:=hp.later hB;have hc:=hc.later hB;have h0:=h0.later hB;have h1:=h1.later hB
  clear hB
  cases hw0':winsB (⟨parts,chans,len0,win0,len1,win1⟩:Cfg) 0 len0 win0 12 with
  | true =>
    have HX:=Lib.hid (show holdsB (⟨parts,chans,len0,win0,len1,win1⟩:Cfg) 12 = true from (show (winsB (⟨parts,chans,len0,win0,len1,win1⟩:Cfg) 0 len0 win0 12 || winsB (⟨parts,chans,len0,win0,len1,win1⟩:Cfg) 1 len1 win1 12) = true by rw [hw0'];rfl))
    have HC:=Lib.hid (rwins0_12 parts chans len0 win0 len1 win1 pa pc ca cc aa ac ba bc W)
    rw [hw0'] at HC
    clear hw0'
    go_enter Tryz.func78,Tryz.ntmps78
    go_wp2_with fail
    rw [← HW.out]
    refine HC.out.mono ?_
    rintro e w5 ⟨rfl,hb5⟩
    go_wp2
    go_ret
    exact ⟨by rw [HX.out];rfl,HB.out.trans (hb5.mono HB.out.size)⟩
  | false =>
    have HX:=Lib.hid (show holdsB (⟨parts,chans,len0,win0,len1,win1⟩:Cfg) 12 = winsB (⟨parts,chans,len0,win0,len1,win1⟩:Cfg) 1 len1 win1 12 from (show (winsB (⟨parts,chans,len0,win0,len1,win1⟩:Cfg) 0 len0 win0 12 || winsB (⟨parts,chans,len0,win0,len1,win1⟩:Cfg) 1 len1 win1 12) = winsB (⟨parts,chans,len0,win0,len1,win1⟩:Cfg) 1 len1 win1 12 by rw [hw0'];rfl))
    have HC:=Lib.hid (rwins0_12 parts chans len0 win0 len1 win1 pa pc ca cc aa ac ba bc W)
    rw [hw0'] at HC
    clear hw0'
    go_enter Tryz.func78,Tryz.ntmps78
    go_wp2_with fail
    rw [← HW.out]
    refine HC.out.mono ?_
    rintro e w5 ⟨rfl,hb5⟩
    obtain ⟨c0,c1,c2,c3,c4,c5⟩:=bx _ hb5
    have hbw:=hb5
    go_wp2_with fail
    refine (rwins1_12 parts chans len0 win0 len1 win1 pa pc ca cc aa ac ba bc w5).mono ?_
    rintro e w6 ⟨rfl,hb6⟩
    go_wp2
    go_ret
    exact ⟨by rw [HX.out];rfl,HB.out.trans ((hbw.trans (hb6.mono hbw.size)).mono HB.out.size)⟩
set_option maxRecDepth 100000 in
set_option maxHeartbeats 8000000 in
theorem rholds13 (parts chans:List (List Int)) (len0:Int) (win0:List (List Int)) (len1:Int) (win1:List (List Int)) (pa:Option Addr) (pc:Nat) (ca:Option Addr) (cc:Nat) (aa:Option Addr) (ac:Nat) (ba:Option Addr) (bc:Nat) (w:World) (hp:RowN [.i64,.i64] w w.heap.size pa parts) (hpw:wfR [.i64,.i64] parts) (hpl:parts.length ≤ 1000000) (hc:RowN [.i64,.i64,.i64,.i64,.i64,.i64,.u32] w w.heap.size ca chans) (hcw:wfR [.i64,.i64,.i64,.i64,.i64,.i64,.u32] chans) (hcl:chans.length ≤ 1000000) (h0:RowN [.i64,.i64,.i64] w w.heap.size aa win0) (h0w:wfR [.i64,.i64,.i64] win0) (h0l:win0.length ≤ 1000000) (h1:RowN [.i64,.i64,.i64] w w.heap.size ba win1) (h1w:wfR [.i64,.i64,.i64] win1) (h1l:win1.length ≤ 1000000) (hl0:(Lit.int .i64 len0).wf = true) (hl1:(Lit.int .i64 len1).wf = true):Calls Tryz.prog 78 #[.agg #[.slice pa parts.length pc,.slice ca chans.length cc,.int .i64 len0,.slice aa win0.length ac,.int .i64 len1,.slice ba win1.length bc],.int .i64 13] w fun e w' => e = .returned (.bool (holdsB (⟨parts,chans,len0,win0,len1,win1⟩:Cfg) 13)) ∧ Below w.heap.size w w':=by
  obtain ⟨W,HW,hB,-,bx⟩:=one_cbox w ⟨parts,chans,len0,win0,len1,win1⟩ ⟨pa,pc,ca,cc,aa,ac,ba,bc⟩ 29
  have HB:=Lib.hid hB
  have hp:=hp.later hB;have hc:=hc.later hB;have h0:=h0.later hB;have h1:=h1.later hB
  clear hB
  cases hw0':winsB (⟨parts,chans,len0,win0,len1,win1⟩:Cfg) 0 len0 win0 13 with
  | true =>
    have HX:=Lib.hid (show holdsB (⟨parts,chans,len0,win0,len1,win1⟩:Cfg) 13 = true from (show (winsB (⟨parts,chans,len0,win0,len1,win1⟩:Cfg) 0 len0 win0 13 || winsB (⟨parts,chans,len0,win0,len1,win1⟩:Cfg) 1 len1 win1 13) = true by rw [hw0'];rfl))
    have HC:=Lib.hid (rwins0_13 parts chans len0 win0 len1 win1 pa pc ca cc aa ac ba bc W)
    rw [hw0'] at HC
    clear hw0'
    go_enter Tryz.func78,Tryz.ntmps78
    go_wp2_with fail
    rw [← HW.out]
    refine HC.out.mono ?_
    rintro e w5 ⟨rfl,hb5⟩
    go_wp2
    go_ret
    exact ⟨by rw [HX.out];rfl,HB.out.trans (hb5.mono HB.out.size)⟩
  | false =>
    have HX:=Lib.hid (show holdsB (⟨parts,chans,len0,win0,len1,win1⟩:Cfg) 13 = winsB (⟨parts,chans,len0,win0,len1,win1⟩:Cfg) 1 len1 win1 13 from (show (winsB (⟨parts,chans,len0,win0,len1,win1⟩:Cfg) 0 len0 win0 13 || winsB (⟨parts,chans,len0,win0,len1,win1⟩:Cfg) 1 len1 win1 13) = winsB (⟨parts,chans,len0,win0,len1,win1⟩:Cfg) 1 len1 win1 13 by rw [hw0'];rfl))
    have HC:=Lib.hid (rwins0_13 parts chans len0 win0 len1 win1 pa pc ca cc aa ac ba bc W)
    rw [hw0'] at HC
    clear hw0'
    go_enter Tryz.func78,Tryz.ntmps78
    go_wp2_with fail
    rw [← HW.out]
    refine HC.out.mono ?_
    rintro e w5 ⟨rfl,hb5⟩
    obtain ⟨c0,c1,c2,c3,c4,c5⟩:=bx _ hb5
    have hbw:=hb5
    go_wp2_with fail
    refine (rwins1_13 parts chans len0 win0 len1 win1 pa pc ca cc aa ac ba bc w5).mono ?_
    rintro e w6 ⟨rfl,hb6⟩
    go_wp2
    go_ret
    exact ⟨by rw [HX.out];rfl,HB.out.trans ((hbw.trans (hb6.mono hbw.size)).mono HB.out.size)⟩
set_option maxRecDepth 100000 in
set_option maxHeartbeats 8000000 in
theorem rholds14 (parts chans:List (List Int)) (len0:Int) (win0:List (List Int)) (len1:Int) (win1:List (List Int)) (pa:Option Addr) (pc:Nat) (ca:Option Addr) (cc:Nat) (aa:Option Addr) (ac:Nat) (ba:Option Addr) (bc:Nat) (w:World) (hp:RowN [.i64,.i64] w w.heap.size pa parts) (hpw:wfR [.i64,.i64] parts) (hpl:parts.length ≤ 1000000) (hc:RowN [.i64,.i64,.i64,.i64,.i64,.i64,.u32] w w.heap.size ca chans) (hcw:wfR [.i64,.i64,.i64,.i64,.i64,.i64,.u32] chans) (hcl:chans.length ≤ 1000000) (h0:RowN [.i64,.i64,.i64] w w.heap.size aa win0) (h0w:wfR [.i64,.i64,.i64] win0) (h0l:win0.length ≤ 1000000) (h1:RowN [.i64,.i64,.i64] w w.heap.size ba win1) (h1w:wfR [.i64,.i64,.i64] win1) (h1l:win1.length ≤ 1000000) (hl0:(Lit.int .i64 len0).wf = true) (hl1:(Lit.int .i64 len1).wf = true):Calls Tryz.prog 78 #[.agg #[.slice pa parts.length pc,.slice ca chans.length cc,.int .i64 len0,.slice aa win0.length ac,.int .i64 len1,.slice ba win1.length bc],.int .i64 14] w fun e w' => e = .returned (.bool (holdsB (⟨parts,chans,len0,win0,len1,win1⟩:Cfg) 14)) ∧ Below w.heap.size w w':=by
  obtain ⟨W,HW,hB,-,bx⟩:=one_cbox w ⟨parts,chans,len0,win0,len1,win1⟩ ⟨pa,pc,ca,cc,aa,ac,ba,bc⟩ 29
  have HB:=Lib.hid hB
  have hp:=hp.later hB;have hc:=hc.later hB;have h0:=h0.later hB;have h1:=h1.later hB
  clear hB
  cases hw0':winsB (⟨parts,chans,len0,win0,len1,win1⟩:Cfg) 0 len0 win0 14 with
  | true =>
    have HX:=Lib.hid (show holdsB (⟨parts,chans,len0,win0,len1,win1⟩:Cfg) 14 = true from (show (winsB (⟨parts,chans,len0,win0,len1,win1⟩:Cfg) 0 len0 win0 14 || winsB (⟨parts,chans,len0,win0,len1,win1⟩:Cfg) 1 len1 win1 14) = true by rw [hw0'];rfl))
    have HC:=Lib.hid (rwins0_14 parts chans len0 win0 len1 win1 pa pc ca cc aa ac ba bc W hp hpw hpl hc hcw hcl h0 h0w h0l h1 h1w h1l)
    rw [hw0'] at HC
    clear hw0'
    go_enter Tryz.func78,Tryz.ntmps78
    go_wp2_with fail
    rw [← HW.out]
    refine HC.out.mono ?_
    rintro e w5 ⟨rfl,hb5⟩
    go_wp2
    go_ret
    exact ⟨by rw [HX.out];rfl,HB.out.trans (hb5.mono HB.out.size)⟩
  | false =>
    have HX:=Lib.hid (show holdsB (⟨parts,chans,len0,win0,len1,win1⟩:Cfg) 14 = winsB (⟨parts,chans,len0,win0,len1,win1⟩:Cfg) 1 len1 win1 14 from (show (winsB (⟨parts,chans,len0,win0,len1,win1⟩:Cfg) 0 len0 win0 14 || winsB (⟨parts,chans,len0,win0,len1,win1⟩:Cfg) 1 len1 win1 14) = winsB (⟨parts,chans,len0,win0,len1,win1⟩:Cfg) 1 len1 win1 14 by rw [hw0'];rfl))
    have HC:=Lib.hid (rwins0_14 parts chans len0 win0 len1 win1 pa pc ca cc aa ac ba bc W hp hpw hpl hc hcw hcl h0 h0w h0l h1 h1w h1l)
    rw [hw0'] at HC
    clear hw0'
    go_enter Tryz.func78,Tryz.ntmps78
    go_wp2_with fail
    rw [← HW.out]
    refine HC.out.mono ?_
    rintro e w5 ⟨rfl,hb5⟩
    obtain ⟨c0,c1,c2,c3,c4,c5⟩:=bx _ hb5
    have hbw:=hb5
    go_wp2_with fail
    refine (rwins1_14 parts chans len0 win0 len1 win1 pa pc ca cc aa ac ba bc w5 (hp.later hb5) hpw hpl (hc.later hb5) hcw hcl (h0.later hb5) h0w h0l (h1.later hb5) h1w h1l).mono ?_
    rintro e w6 ⟨rfl,hb6⟩
    go_wp2
    go_ret
    exact ⟨by rw [HX.out];rfl,HB.out.trans ((hbw.trans (hb6.mono hbw.size)).mono HB.out.size)⟩
set_option maxRecDepth 100000 in
set_option maxHeartbeats 8000000 in
theorem rholds15 (parts chans:List (List Int)) (len0:Int) (win0:List (List Int)) (len1:Int) (win1:List (List Int)) (pa:Option Addr) (pc:Nat) (ca:Option Addr) (cc:Nat) (aa:Option Addr) (ac:Nat) (ba:Option Addr) (bc:Nat) (w:World) (hp:RowN [.i64,.i64] w w.heap.size pa parts) (hpw:wfR [.i64,.i64] parts) (hpl:parts.length ≤ 1000000) (hc:RowN [.i64,.i64,.i64,.i64,.i64,.i64,.u32] w w.heap.size ca chans) (hcw:wfR [.i64,.i64,.i64,.i64,.i64,.i64,.u32] chans) (hcl:chans.length ≤ 1000000) (h0:RowN [.i64,.i64,.i64] w w.heap.size aa win0) (h0w:wfR [.i64,.i64,.i64] win0) (h0l:win0.length ≤ 1000000) (h1:RowN [.i64,.i64,.i64] w w.heap.size ba win1) (h1w:wfR [.i64,.i64,.i64] win1) (h1l:win1.length ≤ 1000000) (hl0:(Lit.int .i64 len0).wf = true) (hl1:(Lit.int .i64 len1).wf = true):Calls Tryz.prog 78 #[.agg #[.slice pa parts.length pc,.slice ca chans.length cc,.int .i64 len0,.slice aa win0.length ac,.int .i64 len1,.slice ba win1.length bc],.int .i64 15] w fun e w' => e = .returned (.bool (holdsB (⟨parts,chans,len0,win0,len1,win1⟩:Cfg) 15)) ∧ Below w.heap.size w w':=by
  obtain ⟨W,HW,hB,-,bx⟩:=one_cbox w ⟨parts,chans,len0,win0,len1,win1⟩ ⟨pa,pc,ca,cc,aa,ac,ba,bc⟩ 29
  have HB:=Lib.hid hB
  have hp:=hp.later hB;have hc:=hc.later hB;have h0:=h0.later hB;have h1:=h1.later hB
  clear hB
  cases hw0':winsB (⟨parts,chans,len0,win0,len1,win1⟩:Cfg) 0 len0 win0 15 with
  | true =>
    have HX:=Lib.hid (show holdsB (⟨parts,chans,len0,win0,len1,win1⟩:Cfg) 15 = true from (show (winsB (⟨parts,chans,len0,win0,len1,win1⟩:Cfg) 0 len0 win0 15 || winsB (⟨parts,chans,len0,win0,len1,win1⟩:Cfg) 1 len1 win1 15) = true by rw [hw0'];rfl))
    have HC:=Lib.hid (rwins0_15 parts chans len0 win0 len1 win1 pa pc ca cc aa ac ba bc W hp hpw hpl hc hcw hcl h0 h0w h0l h1 h1w h1l hl0)
    rw [hw0'] at HC
    clear hw0'
    go_enter Tryz.func78,Tryz.ntmps78
    go_wp2_with fail
    rw [← HW.out]
    refine HC.out.mono ?_
    rintro e w5 ⟨rfl,hb5⟩
    go_wp2
    go_ret
    exact ⟨by rw [HX.out];rfl,HB.out.trans (hb5.mono HB.out.size)⟩
  | false =>
    have HX:=Lib.hid (show holdsB (⟨parts,chans,len0,win0,len1,win1⟩:Cfg) 15 = winsB (⟨parts,chans,len0,win0,len1,win1⟩:Cfg) 1 len1 win1 15 from (show (winsB (⟨parts,chans,len0,win0,len1,win1⟩:Cfg) 0 len0 win0 15 || winsB (⟨parts,chans,len0,win0,len1,win1⟩:Cfg) 1 len1 win1 15) = winsB (⟨parts,chans,len0,win0,len1,win1⟩:Cfg) 1 len1 win1 15 by rw [hw0'];rfl))
    have HC:=Lib.hid (rwins0_15 parts chans len0 win0 len1 win1 pa pc ca cc aa ac ba bc W hp hpw hpl hc hcw hcl h0 h0w h0l h1 h1w h1l hl0)
    rw [hw0'] at HC
    clear hw0'
    go_enter Tryz.func78,Tryz.ntmps78
    go_wp2_with fail
    rw [← HW.out]
    refine HC.out.mono ?_
    rintro e w5 ⟨rfl,hb5⟩
    obtain ⟨c0,c1,c2,c3,c4,c5⟩:=bx _ hb5
    have hbw:=hb5
    go_wp2_with fail
    refine (rwins1_15 parts chans len0 win0 len1 win1 pa pc ca cc aa ac ba bc w5 (hp.later hb5) hpw hpl (hc.later hb5) hcw hcl (h0.later hb5) h0w h0l (h1.later hb5) h1w h1l hl1).mono ?_
    rintro e w6 ⟨rfl,hb6⟩
    go_wp2
    go_ret
    exact ⟨by rw [HX.out];rfl,HB.out.trans ((hbw.trans (hb6.mono hbw.size)).mono HB.out.size)⟩
set_option maxRecDepth 100000 in
set_option maxHeartbeats 8000000 in
theorem rholds16 (parts chans:List (List Int)) (len0:Int) (win0:List (List Int)) (len1:Int) (win1:List (List Int)) (pa:Option Addr) (pc:Nat) (ca:Option Addr) (cc:Nat) (aa:Option Addr) (ac:Nat) (ba:Option Addr) (bc:Nat) (w:World) (hp:RowN [.i64,.i64] w w.heap.size pa parts) (hpw:wfR [.i64,.i64] parts) (hpl:parts.length ≤ 1000000) (hc:RowN [.i64,.i64,.i64,.i64,.i64,.i64,.u32] w w.heap.size ca chans) (hcw:wfR [.i64,.i64,.i64,.i64,.i64,.i64,.u32] chans) (hcl:chans.length ≤ 1000000) (h0:RowN [.i64,.i64,.i64] w w.heap.size aa win0) (h0w:wfR [.i64,.i64,.i64] win0) (h0l:win0.length ≤ 1000000) (h1:RowN [.i64,.i64,.i64] w w.heap.size ba win1) (h1w:wfR [.i64,.i64,.i64] win1) (h1l:win1.length ≤ 1000000) (hl0:(Lit.int .i64 len0).wf = true) (hl1:(Lit.int .i64 len1).wf = true):Calls Tryz.prog 78 #[.agg #[.slice pa parts.length pc,.slice ca chans.length cc,.int .i64 len0,.slice aa win0.length ac,.int .i64 len1,.slice ba win1.length bc],.int .i64 16] w fun e w' => e = .returned (.bool (holdsB (⟨parts,chans,len0,win0,len1,win1⟩:Cfg) 16)) ∧ Below w.heap.size w w':=by
  obtain ⟨W,HW,hB,-,bx⟩:=one_cbox w ⟨parts,chans,len0,win0,len1,win1⟩ ⟨pa,pc,ca,cc,aa,ac,ba,bc⟩ 29
  have HB:=Lib.hid hB
  have hp:=hp.later hB;have hc:=hc.later hB;have h0:=h0.later hB;have h1:=h1.later hB
  clear hB
  cases hw0':winsB (⟨parts,chans,len0,win0,len1,win1⟩:Cfg) 0 len0 win0 16 with
  | true =>
    have HX:=Lib.hid (show holdsB (⟨parts,chans,len0,win0,len1,win1⟩:Cfg) 16 = true from (show (winsB (⟨parts,chans,len0,win0,len1,win1⟩:Cfg) 0 len0 win0 16 || winsB (⟨parts,chans,len0,win0,len1,win1⟩:Cfg) 1 len1 win1 16) = true by rw [hw0'];rfl))
    have HC:=Lib.hid (rwins0_16 parts chans len0 win0 len1 win1 pa pc ca cc aa ac ba bc W hp hpw hpl hc hcw hcl h0 h0w h0l h1 h1w h1l)
    rw [hw0'] at HC
    clear hw0'
    go_enter Tryz.func78,Tryz.ntmps78
    go_wp2_with fail
    rw [← HW.out]
    refine HC.out.mono ?_
    rintro e w5 ⟨rfl,hb5⟩
    go_wp2
    go_ret
    exact ⟨by rw [HX.out];rfl,HB.out.trans (hb5.mono HB.out.size)⟩
  | false =>
    have HX:=Lib.hid (show holdsB (⟨parts,chans,len0,win0,len1,win1⟩:Cfg) 16 = winsB (⟨parts,chans,len0,win0,len1,win1⟩:Cfg) 1 len1 win1 16 from (show (winsB (⟨parts,chans,len0,win0,len1,win1⟩:Cfg) 0 len0 win0 16 || winsB (⟨parts,chans,len0,win0,len1,win1⟩:Cfg) 1 len1 win1 16) = winsB (⟨parts,chans,len0,win0,len1,win1⟩:Cfg) 1 len1 win1 16 by rw [hw0'];rfl))
    have HC:=Lib.hid (rwins0_16 parts chans len0 win0 len1 win1 pa pc ca cc aa ac ba bc W hp hpw hpl hc hcw hcl h0 h0w h0l h1 h1w h1l)
    rw [hw0'] at HC
    clear hw0'
    go_enter Tryz.func78,Tryz.ntmps78
    go_wp2_with fail
    rw [← HW.out]
    refine HC.out.mono ?_
    rintro e w5 ⟨rfl,hb5⟩
    obtain ⟨c0,c1,c2,c3,c4,c5⟩:=bx _ hb5
    have hbw:=hb5
    go_wp2_with fail
    refine (rwins1_16 parts chans len0 win0 len1 win1 pa pc ca cc aa ac ba bc w5 (hp.later hb5) hpw hpl (hc.later hb5) hcw hcl (h0.later hb5) h0w h0l (h1.later hb5) h1w h1l).mono ?_
    rintro e w6 ⟨rfl,hb6⟩
    go_wp2
    go_ret
    exact ⟨by rw [HX.out];rfl,HB.out.trans ((hbw.trans (hb6.mono hbw.size)).mono HB.out.size)⟩
set_option maxRecDepth 100000 in
set_option maxHeartbeats 8000000 in
theorem rholds17 (parts chans:List (List Int)) (len0:Int) (win0:List (List Int)) (len1:Int) (win1:List (List Int)) (pa:Option Addr) (pc:Nat) (ca:Option Addr) (cc:Nat) (aa:Option Addr) (ac:Nat) (ba:Option Addr) (bc:Nat) (w:World) (hp:RowN [.i64,.i64] w w.heap.size pa parts) (hpw:wfR [.i64,.i64] parts) (hpl:parts.length ≤ 1000000) (hc:RowN [.i64,.i64,.i64,.i64,.i64,.i64,.u32] w w.heap.size ca chans) (hcw:wfR [.i64,.i64,.i64,.i64,.i64,.i64,.u32] chans) (hcl:chans.length ≤ 1000000) (h0:RowN [.i64,.i64,.i64] w w.heap.size aa win0) (h0w:wfR [.i64,.i64,.i64] win0) (h0l:win0.length ≤ 1000000) (h1:RowN [.i64,.i64,.i64] w w.heap.size ba win1) (h1w:wfR [.i64,.i64,.i64] win1) (h1l:win1.length ≤ 1000000) (hl0:(Lit.int .i64 len0).wf = true) (hl1:(Lit.int .i64 len1).wf = true):Calls Tryz.prog 78 #[.agg #[.slice pa parts.length pc,.slice ca chans.length cc,.int .i64 len0,.slice aa win0.length ac,.int .i64 len1,.slice ba win1.length bc],.int .i64 17] w fun e w' => e = .returned (.bool (holdsB (⟨parts,chans,len0,win0,len1,win1⟩:Cfg) 17)) ∧ Below w.heap.size w w':=by
  obtain ⟨W,HW,hB,-,bx⟩:=one_cbox w ⟨parts,chans,len0,win0,len1,win1⟩ ⟨pa,pc,ca,cc,aa,ac,ba,bc⟩ 29
  have HB:=Lib.hid hB
  have hp:=hp.later hB;have hc:=hc.later hB;have h0:=h0.later hB;have h1:=h1.later hB
  clear hB
  go_enter Tryz.func78,Tryz.ntmps78
  go_wp2
  go_loopw [5] (fun ix wr => ∃ i:Nat,i ≤ parts.length ∧ ix = .int .i64 i ∧ scan i (fun i => partBad (⟨parts,chans,len0,win0,len1,win1⟩:Cfg) 17 i) = false ∧ Below W.heap.size W wr) (fun ix _ => parts.length - (intOf ix).toNat)
  case atStart => exact ⟨0,Nat.zero_le _,rfl,rfl,(by rw [← HW.out];exact Below.refl _ _)⟩
  case round =>
    obtain ⟨i,hi,rfl,ht,hbc⟩:=hrel
    have HT:=Lib.hid ht
    obtain ⟨c0,c1,c2,c3,c4,c5⟩:=bx _ hbc
    clear ht
    by_cases hlt:i < parts.length
    · obtain ⟨b,o,y0,y1,e0,_,e1,⟨hw0,hw1⟩,k0⟩:=hp.at2 hpw hlt
      subst e0
      have k0:=k0 _ hbc
      obtain ⟨p0,p1⟩:=k0
      have E1:=Lib.hid e1
      clear e1
      obtain ⟨wa,hwa⟩:∃ u,Hid (u = wr.alloc (.cells #[.int .i64 y0,.int .i64 y1] 131)):=⟨_,rfl⟩
      have hba:Below wr.heap.size wr wa:=by rw [hwa.out];exact (Below.refl _ _).alloc (Nat.le_refl _) _
      have hxa:wa.heap[wr.heap.size]? = some (.cells #[.int .i64 y0,.int .i64 y1] 131 (0,0)):=by rw [hwa.out];exact heap_alloc_new _ _
      have hwb:=hbc.trans (hba.mono hbc.size)
      have hla:wr.heap.size < wa.heap.size:=(Array.getElem?_eq_some_iff.1 hxa).1
      obtain ⟨a0,a1,a2,a3,a4,a5⟩:=bx _ hwb
      have HWB:=Lib.hid hwb
      clear hwb hba hxa
      cases hwi:windowB (⟨parts,chans,len0,win0,len1,win1⟩:Cfg) i with
      | true =>
        have HWI:=Lib.hid hwi
        clear hwi
        go_wp2_with (rw [← hwa.out])
        refine (window_is parts chans len0 win0 len1 win1 (some ⟨b,o,none⟩) pc ca cc aa ac ba bc i true _ (hp.later HWB.out) hpw hpl (hc.later HWB.out) hcw hcl (h0.later HWB.out) h0w h0l (h1.later HWB.out) h1w h1l hlt HWI.out).mono ?_
        rintro e w5 ⟨rfl,hb5⟩
        have hwc:=HWB.out.trans (hb5.mono HWB.out.size)
        have HX:=Lib.hid (show scan (i + 1) (fun i => partBad (⟨parts,chans,len0,win0,len1,win1⟩:Cfg) 17 i) = false from scan_next HT.out (show partBad (⟨parts,chans,len0,win0,len1,win1⟩:Cfg) 17 i = false from (show (!windowB (⟨parts,chans,len0,win0,len1,win1⟩:Cfg) i) = false by rw [HWI.out];rfl)))
        go_wp2
        go_roundw
        case rel => exact ⟨i + 1,by omega,by go_num,HX.out,hwc⟩
        case measure => simp [intOf];omega
      | false =>
        have HWI:=Lib.hid hwi
        clear hwi
        go_wp2_with (rw [← hwa.out])
        refine (window_is parts chans len0 win0 len1 win1 (some ⟨b,o,none⟩) pc ca cc aa ac ba bc i false _ (hp.later HWB.out) hpw hpl (hc.later HWB.out) hcw hcl (h0.later HWB.out) h0w h0l (h1.later HWB.out) h1w h1l hlt HWI.out).mono ?_
        rintro e w5 ⟨rfl,hb5⟩
        have hwc:=HWB.out.trans (hb5.mono HWB.out.size)
        have HX:=Lib.hid (show holdsB (⟨parts,chans,len0,win0,len1,win1⟩:Cfg) 17 = true from scan_hit (f:=(fun i => partBad (⟨parts,chans,len0,win0,len1,win1⟩:Cfg) 17 i)) hlt (show partBad (⟨parts,chans,len0,win0,len1,win1⟩:Cfg) 17 i = true from (show (!windowB (⟨parts,chans,len0,win0,len1,win1⟩:Cfg) i) = true by rw [HWI.out];rfl)))
        go_wp2
        go_ret
        exact ⟨by rw [HX.out];rfl,HB.out.trans (hwc.mono HB.out.size)⟩
    · have HS:=Lib.hid (show holdsB (⟨parts,chans,len0,win0,len1,win1⟩:Cfg) 17 = false by have h:=HT.out;rw [show i = parts.length by omega] at h;exact h)
      clear HT
      go_wp2
      go_ret
      exact ⟨by rw [HS.out];rfl,HB.out.trans (hbc.mono HB.out.size)⟩
theorem rholds_lo (parts chans:List (List Int)) (len0:Int) (win0:List (List Int)) (len1:Int) (win1:List (List Int)) (pa:Option Addr) (pc:Nat) (ca:Option Addr) (cc:Nat) (aa:Option Addr) (ac:Nat) (ba:Option Addr) (bc:Nat) (k:Int) (w:World) (hk:k < 1):Calls Tryz.prog 78 #[.agg #[.slice pa parts.length pc,.slice ca chans.length cc,.int .i64 len0,.slice aa win0.length ac,.int .i64 len1,.slice ba win1.length bc],.int .i64 k] w fun e w' => e = .returned (.bool (holdsB (⟨parts,chans,len0,win0,len1,win1⟩:Cfg) k)) ∧ Below w.heap.size w w':=by
  have HX:=Lib.hid (show holdsB (⟨parts,chans,len0,win0,len1,win1⟩:Cfg) k = false by unfold holdsB;rw [if_neg (by omega),if_neg (by omega),if_neg (by omega),if_neg (by omega),if_neg (by omega)])
  have a1:(k == 1) = false:=by simp;omega
  have b1:(k != 1) = true:=by simp;omega
  have a2:(k == 2) = false:=by simp;omega
  have b2:(k != 2) = true:=by simp;omega
  have a3:(k == 3) = false:=by simp;omega
  have b3:(k != 3) = true:=by simp;omega
  have a4:(k == 4) = false:=by simp;omega
  have b4:(k != 4) = true:=by simp;omega
  have a17:(k == 17) = false:=by simp;omega
  have b17:(k != 17) = true:=by simp;omega
  have u1:¬ (5 ≤ k):=by omega
  have u1d:decide (5 ≤ k) = false:=decide_eq_false u1
  have u2:¬ (12 ≤ k):=by omega
  have u2d:decide (12 ≤ k) = false:=decide_eq_false u2
  go_enter Tryz.func78,Tryz.ntmps78
  go_wp2
  go_ret
  exact ⟨by rw [HX.out];rfl,(Below.refl _ _).alloc (Nat.le_refl _) _⟩
theorem rholds_hi (parts chans:List (List Int)) (len0:Int) (win0:List (List Int)) (len1:Int) (win1:List (List Int)) (pa:Option Addr) (pc:Nat) (ca:Option Addr) (cc:Nat) (aa:Option Addr) (ac:Nat) (ba:Option Addr) (bc:Nat) (k:Int) (w:World) (hk:17 < k):Calls Tryz.prog 78 #[.agg #[.slice pa parts.length pc,.slice ca chans.length cc,.int .i64 len0,.slice aa win0.length ac,.int .i64 len1,.slice ba win1.length bc],.int .i64 k] w fun e w' => e = .returned (.bool (holdsB (⟨parts,chans,len0,win0,len1,win1⟩:Cfg) k)) ∧ Below w.heap.size w w':=by
  have HX:=Lib.hid (show holdsB (⟨parts,chans,len0,win0,len1,win1⟩:Cfg) k = false by unfold holdsB;rw [if_neg (by omega),if_neg (by omega),if_neg (by omega),if_neg (by omega),if_neg (by omega)])
  have a1:(k == 1) = false:=by simp;omega
  have b1:(k != 1) = true:=by simp;omega
  have a2:(k == 2) = false:=by simp;omega
  have b2:(k != 2) = true:=by simp;omega
  have a3:(k == 3) = false:=by simp;omega
  have b3:(k != 3) = true:=by simp;omega
  have a4:(k == 4) = false:=by simp;omega
  have b4:(k != 4) = true:=by simp;omega
  have a17:(k == 17) = false:=by simp;omega
  have b17:(k != 17) = true:=by simp;omega
  have u1:5 ≤ k:=by omega
  have u3:¬ (k ≤ 11):=by omega
  have u3d:decide (k ≤ 11) = false:=decide_eq_false u3
  have u2:12 ≤ k:=by omega
  have u4:¬ (k ≤ 16):=by omega
  have u4d:decide (k ≤ 16) = false:=decide_eq_false u4
  go_enter Tryz.func78,Tryz.ntmps78
  go_wp2
  go_ret
  exact ⟨by rw [HX.out];rfl,(Below.refl _ _).alloc (Nat.le_refl _) _⟩
theorem rholds_b (c:Cfg) (x:CfgAt) (k:Int) (w:World) (hx:CfgIn w w.heap.size c x) (wx:CfgWf c) (lx:c.parts.length ≤ 1000000 ∧ c.chans.length ≤ 1000000 ∧ c.win0.length ≤ 1000000 ∧ c.win1.length ≤ 1000000):Calls Tryz.prog 78 #[.agg (cfgCells c x),.int .i64 k] w fun e w' => e = .returned (.bool (holdsB c k)) ∧ Below w.heap.size w w':=by
  obtain ⟨parts,chans,len0,win0,len1,win1⟩:=c
  obtain ⟨pa,pc,ca,cc,aa,ac,ba,bc⟩:=x
  by_cases hlo:k < 1
  · exact rholds_lo parts chans len0 win0 len1 win1 pa pc ca cc aa ac ba bc k w hlo
  by_cases hhi:17 < k
  · exact rholds_hi parts chans len0 win0 len1 win1 pa pc ca cc aa ac ba bc k w hhi
  have hk:k = 1 ∨ k = 2 ∨ k = 3 ∨ k = 4 ∨ k = 5 ∨ k = 6 ∨ k = 7 ∨ k = 8 ∨ k = 9 ∨ k = 10 ∨ k = 11 ∨ k = 12 ∨ k = 13 ∨ k = 14 ∨ k = 15 ∨ k = 16 ∨ k = 17:=by omega
  rcases hk with rfl | rfl | rfl | rfl | rfl | rfl | rfl | rfl | rfl | rfl | rfl | rfl | rfl | rfl | rfl | rfl | rfl
  · exact rholds1 parts chans len0 win0 len1 win1 pa pc ca cc aa ac ba bc w hx.rp wx.wp lx.1 hx.rc wx.wc lx.2.1 hx.ra wx.wa lx.2.2.1 hx.rb wx.wb lx.2.2.2 wx.w0 wx.w1
  · exact rholds2 parts chans len0 win0 len1 win1 pa pc ca cc aa ac ba bc w hx.rp wx.wp lx.1 hx.rc wx.wc lx.2.1 hx.ra wx.wa lx.2.2.1 hx.rb wx.wb lx.2.2.2 wx.w0 wx.w1
  · exact rholds3 parts chans len0 win0 len1 win1 pa pc ca cc aa ac ba bc w hx.rp wx.wp lx.1 hx.rc wx.wc lx.2.1 hx.ra wx.wa lx.2.2.1 hx.rb wx.wb lx.2.2.2 wx.w0 wx.w1
  · exact rholds4 parts chans len0 win0 len1 win1 pa pc ca cc aa ac ba bc w hx.rp wx.wp lx.1 hx.rc wx.wc lx.2.1 hx.ra wx.wa lx.2.2.1 hx.rb wx.wb lx.2.2.2 wx.w0 wx.w1
  · exact rholds5 parts chans len0 win0 len1 win1 pa pc ca cc aa ac ba bc w hx.rp wx.wp lx.1 hx.rc wx.wc lx.2.1 hx.ra wx.wa lx.2.2.1 hx.rb wx.wb lx.2.2.2 wx.w0 wx.w1
  · exact rholds6 parts chans len0 win0 len1 win1 pa pc ca cc aa ac ba bc w hx.rp wx.wp lx.1 hx.rc wx.wc lx.2.1 hx.ra wx.wa lx.2.2.1 hx.rb wx.wb lx.2.2.2 wx.w0 wx.w1
  · exact rholds7 parts chans len0 win0 len1 win1 pa pc ca cc aa ac ba bc w hx.rp wx.wp lx.1 hx.rc wx.wc lx.2.1 hx.ra wx.wa lx.2.2.1 hx.rb wx.wb lx.2.2.2 wx.w0 wx.w1
  · exact rholds8 parts chans len0 win0 len1 win1 pa pc ca cc aa ac ba bc w hx.rp wx.wp lx.1 hx.rc wx.wc lx.2.1 hx.ra wx.wa lx.2.2.1 hx.rb wx.wb lx.2.2.2 wx.w0 wx.w1
  · exact rholds9 parts chans len0 win0 len1 win1 pa pc ca cc aa ac ba bc w hx.rp wx.wp lx.1 hx.rc wx.wc lx.2.1 hx.ra wx.wa lx.2.2.1 hx.rb wx.wb lx.2.2.2 wx.w0 wx.w1
  · exact rholds10 parts chans len0 win0 len1 win1 pa pc ca cc aa ac ba bc w hx.rp wx.wp lx.1 hx.rc wx.wc lx.2.1 hx.ra wx.wa lx.2.2.1 hx.rb wx.wb lx.2.2.2 wx.w0 wx.w1
  · exact rholds11 parts chans len0 win0 len1 win1 pa pc ca cc aa ac ba bc w hx.rp wx.wp lx.1 hx.rc wx.wc lx.2.1 hx.ra wx.wa lx.2.2.1 hx.rb wx.wb lx.2.2.2 wx.w0 wx.w1
  · exact rholds12 parts chans len0 win0 len1 win1 pa pc ca cc aa ac ba bc w hx.rp wx.wp lx.1 hx.rc wx.wc lx.2.1 hx.ra wx.wa lx.2.2.1 hx.rb wx.wb lx.2.2.2 wx.w0 wx.w1
  · exact rholds13 parts chans len0 win0 len1 win1 pa pc ca cc aa ac ba bc w hx.rp wx.wp lx.1 hx.rc wx.wc lx.2.1 hx.ra wx.wa lx.2.2.1 hx.rb wx.wb lx.2.2.2 wx.w0 wx.w1
  · exact rholds14 parts chans len0 win0 len1 win1 pa pc ca cc aa ac ba bc w hx.rp wx.wp lx.1 hx.rc wx.wc lx.2.1 hx.ra wx.wa lx.2.2.1 hx.rb wx.wb lx.2.2.2 wx.w0 wx.w1
  · exact rholds15 parts chans len0 win0 len1 win1 pa pc ca cc aa ac ba bc w hx.rp wx.wp lx.1 hx.rc wx.wc lx.2.1 hx.ra wx.wa lx.2.2.1 hx.rb wx.wb lx.2.2.2 wx.w0 wx.w1
  · exact rholds16 parts chans len0 win0 len1 win1 pa pc ca cc aa ac ba bc w hx.rp wx.wp lx.1 hx.rc wx.wc lx.2.1 hx.ra wx.wa lx.2.2.1 hx.rb wx.wb lx.2.2.2 wx.w0 wx.w1
  · exact rholds17 parts chans len0 win0 len1 win1 pa pc ca cc aa ac ba bc w hx.rp wx.wp lx.1 hx.rc wx.wc lx.2.1 hx.ra wx.wa lx.2.2.1 hx.rb wx.wb lx.2.2.2 wx.w0 wx.w1
end Go.Proofs.YtheeiklgblcjfaaGreatDoor
end
section
namespace Go.Proofs.YtheeiklgblcjfaaGreatDoor
open Go.RowKit Go.Sort Go.ChangeShapes Go.WideShapes
set_option linter.unusedVariables false
set_option linter.unusedSimpArgs false
theorem holds_is (c:Cfg) (x:CfgAt) (k:Int) (b:Bool) (w:World) (hx:CfgIn w w.heap.size c x) (wx:CfgWf c) (lx:CfgFew c) (h:holdsB c k = b):Calls Tryz.prog 78 #[.agg (cfgCells c x),.int .i64 k] w fun e w' => e = .returned (.bool b) ∧ Below w.heap.size w w':=by subst h;exact rholds_b c x k w hx wx lx
theorem allB_len (c:Cfg) (n:Nat):(allB c n).length ≤ n:=by
  unfold allB
  refine Nat.le_trans (List.length_filter_le _ _) ?_
  simp
set_option maxRecDepth 100000 in
set_option maxHeartbeats 4000000 in
theorem rall_b (c:Cfg) (x:CfgAt) (w:World) (hx:CfgIn w w.heap.size c x) (wx:CfgWf c) (lx:CfgFew c):Calls Tryz.prog 52 #[.agg (cfgCells c x)] w (GivesNums w (allB c 17)):=by
  obtain ⟨W,HW,hB,-,bx⟩:=one_cbox w c x 29
  have hx:=hx.later hB
  have HB:=Lib.hid hB
  obtain ⟨i0,hi,hz0,hz1,hz2⟩:=info_parts Tryz.infoI
  simp only [cfgCells]
  clear hB
  go_enter Tryz.func52,Tryz.ntmps52
  go_wp2
  go_loopw [3,4] (fun v ix wr => ∃ (i:Nat) (k:Int),k = (i:Int) + 1 ∧ i ≤ 17 ∧ ix = .int .i64 k ∧ OwnsOff wr W.heap.size 3 1 v (allB c i).length (icells (allB c i)) ∧ Below W.heap.size W wr) (fun _ ix _ => (18 - intOf ix).toNat)
  case atStart => exact ⟨0,1,rfl,by omega,rfl,OwnsOff.nil _ _ _ _,(by rw [← HW.out];exact Below.refl _ _)⟩
  case round =>
    obtain ⟨i,k,hk,hi17,rfl,hown,hbc⟩:=hrel
    obtain ⟨c0,c1,c2,c3,c4,c5⟩:=bx _ hbc
    have hk1:1 ≤ k:=by omega
    have hk2:k ≤ 18:=by omega
    have hll:=allB_len c i
    have HN:=allB_next c i
    rw [← hk] at HN
    obtain ⟨ys,hys⟩:∃ ys,allB c i = ys:=⟨_,rfl⟩
    have HYS:=Lib.hid hys
    rw [hys] at hown hll HN
    have HK:=Lib.hid hk
    clear hys
    by_cases hlt:k ≤ 17
    · have hx1:=hx.later hbc
      clear hk
      cases hh:holdsB c k with
      | true =>
        have HH:=Lib.hid hh
        have HN:=Lib.hid (show allB c (i + 1) = ys ++ [k] by rw [HN,if_pos hh])
        clear hh
        go_wp2_with fail
        refine (holds_is c x k true _ hx1 wx lx HH.out).mono ?_
        rintro e w5 ⟨rfl,hb5⟩
        have hwc:=hbc.trans (hb5.mono hbc.size)
        have hown5:=hown.keptB hb5
        clear hown hb5 hbc hx1 c0 c1 c2 c3 c4 c5
        go_wp2_with (at_builtin;refine wpList_append_off _ rfl _ _ 55 rfl W.heap.size 3 i0 (.int .i64 0) 1 8 Tryz.underlying55 hi hz0 hz1 hz2 rfl (by decide) _ _ _ rfl (hown5.keptB ((Below.refl _ _).alloc (Nat.le_refl _) _)) ⟨w5.heap.size,0,none⟩ 1 1 [.int .i64 k] rfl rfl (news_new _ _ _) (by simp [Value.oneCell']) (by unfold maxLen;omega) (by omega) (by have:=hwc.size;simp;omega) ?_)
        intro v' w6 hown' hgrow _
        have hb6:=Lib.hid ((hwc.alloc hwc.size _).grown hgrow (by have:=hwc.size;simp;omega) (fun i e => (hown5.lt i e).1))
        have hown3:OwnsOff w6 W.heap.size 3 1 v' (ys ++ [k]).length (icells (ys ++ [k])):=by rw [List.length_append,icells_app];exact hown'
        have H3:=Lib.hid hown3
        clear hown' hgrow hown3 hown5
        go_wp2
        go_roundw
        case rel => exact ⟨i + 1,k + 1,by have:=HK.out;omega,by have:=HK.out;omega,rfl,by rw [HN.out];exact H3.out,hb6.out⟩
        case measure => simp [intOf];omega
      | false =>
        have HH:=Lib.hid hh
        have HN:=Lib.hid (show allB c (i + 1) = ys by rw [HN,hh];simp)
        clear hh
        go_wp2_with fail
        refine (holds_is c x k false _ hx1 wx lx HH.out).mono ?_
        rintro e w5 ⟨rfl,hb5⟩
        have hwc:=Lib.hid (hbc.trans (hb5.mono hbc.size))
        have H3:=Lib.hid (hown.keptB hb5)
        clear hown hb5 hbc hx1 c0 c1 c2 c3 c4 c5
        go_wp2
        go_roundw
        case rel => exact ⟨i + 1,k + 1,by have:=HK.out;omega,by have:=HK.out;omega,rfl,by rw [HN.out];exact H3.out,hwc.out⟩
        case measure => simp [intOf];omega
    · have HE:=Lib.hid (show allB c 17 = ys by rw [← HYS.out,show i = 17 by omega])
      have H3:=Lib.hid hown
      clear hk hown
      go_wp2
      go_ret
      exact ⟨_,rfl,by rw [HE.out];exact H3.out.mono HB.out.size,HB.out.trans (hbc.mono HB.out.size)⟩
/-- At most so many rows of each kind. -/
def cfgLe (n:Nat) (c:Cfg):Bool:=decide (c.parts.length ≤ n ∧ c.chans.length ≤ n ∧ c.win0.length ≤ n ∧ c.win1.length ≤ n)
theorem cfgLe_few {n:Nat} {c:Cfg} (h:cfgLe n c = true) (hn:n ≤ 1000000):CfgFew c:=by
  obtain ⟨a,b,d,e⟩:=of_decide_eq_true h
  exact ⟨by omega,by omega,by omega,by omega⟩
theorem great_plain (parts chans:List (List Int)) (len0:Int) (win0:List (List Int)) (len1:Int) (win1:List (List Int)) (pa:Option Addr) (pc:Nat) (ca:Option Addr) (cc:Nat) (aa:Option Addr) (ac:Nat) (ba:Option Addr) (bc:Nat) (w:World):Calls Tryz.prog 24 #[.agg #[.slice pa parts.length pc,.slice ca chans.length cc,.int .i64 len0,.slice aa win0.length ac,.int .i64 len1,.slice ba win1.length bc]] w fun e w' => e = .returned (.bool (!cfgLe 100 (⟨parts,chans,len0,win0,len1,win1⟩:Cfg))) ∧ Below w.heap.size w w':=by
  by_cases g0:parts.length ≤ 100
  · have f0:¬ ((100:Int) < (parts.length:Int)):=by omega
    have e0:(parts.length:Int) ≤ 100:=by omega
    by_cases g1:chans.length ≤ 100
    · have f1:¬ ((100:Int) < (chans.length:Int)):=by omega
      have e1:(chans.length:Int) ≤ 100:=by omega
      by_cases g2:win0.length ≤ 100
      · have f2:¬ ((100:Int) < (win0.length:Int)):=by omega
        have e2:(win0.length:Int) ≤ 100:=by omega
        by_cases g3:win1.length ≤ 100
        · have f3:¬ ((100:Int) < (win1.length:Int)):=by omega
          have e3:(win1.length:Int) ≤ 100:=by omega
          have HR:=Lib.hid (show cfgLe 100 (⟨parts,chans,len0,win0,len1,win1⟩:Cfg) = true from decide_eq_true ⟨g0,g1,g2,g3⟩)
          go_enter Tryz.func24,Tryz.ntmps24
          go_wp2
          go_ret
          exact ⟨by rw [HR.out];rfl,(Below.refl _ _).alloc (Nat.le_refl _) _⟩
        · have f3:((100:Int) < (win1.length:Int)):=by omega
          have e3:¬ ((win1.length:Int) ≤ 100):=by omega
          have HR:=Lib.hid (show cfgLe 100 (⟨parts,chans,len0,win0,len1,win1⟩:Cfg) = false from decide_eq_false (fun h => g3 h.2.2.2))
          go_enter Tryz.func24,Tryz.ntmps24
          go_wp2
          go_ret
          exact ⟨by rw [HR.out];rfl,(Below.refl _ _).alloc (Nat.le_refl _) _⟩
      · have f2:((100:Int) < (win0.length:Int)):=by omega
        have e2:¬ ((win0.length:Int) ≤ 100):=by omega
        have HR:=Lib.hid (show cfgLe 100 (⟨parts,chans,len0,win0,len1,win1⟩:Cfg) = false from decide_eq_false (fun h => g2 h.2.2.1))
        go_enter Tryz.func24,Tryz.ntmps24
        go_wp2
        go_ret
        exact ⟨by rw [HR.out];rfl,(Below.refl _ _).alloc (Nat.le_refl _) _⟩
    · have f1:((100:Int) < (chans.length:Int)):=by omega
      have e1:¬ ((chans.length:Int) ≤ 100):=by omega
      have HR:=Lib.hid (show cfgLe 100 (⟨parts,chans,len0,win0,len1,win1⟩:Cfg) = false from decide_eq_false (fun h => g1 h.2.1))
      go_enter Tryz.func24,Tryz.ntmps24
      go_wp2
      go_ret
      exact ⟨by rw [HR.out];rfl,(Below.refl _ _).alloc (Nat.le_refl _) _⟩
  · have f0:((100:Int) < (parts.length:Int)):=by omega
    have e0:¬ ((parts.length:Int) ≤ 100):=by omega
    have HR:=Lib.hid (show cfgLe 100 (⟨parts,chans,len0,win0,len1,win1⟩:Cfg) = false from decide_eq_false (fun h => g0 h.1))
    go_enter Tryz.func24,Tryz.ntmps24
    go_wp2
    go_ret
    exact ⟨by rw [HR.out];rfl,(Below.refl _ _).alloc (Nat.le_refl _) _⟩
theorem great_is (c:Cfg) (x:CfgAt) (b:Bool) (w:World) (h:(!cfgLe 100 c) = b):Calls Tryz.prog 24 #[.agg (cfgCells c x)] w fun e w' => e = .returned (.bool b) ∧ Below w.heap.size w w':=by
  subst h
  obtain ⟨parts,chans,len0,win0,len1,win1⟩:=c
  obtain ⟨pa,pc,ca,cc,aa,ac,ba,bc⟩:=x
  exact great_plain parts chans len0 win0 len1 win1 pa pc ca cc aa ac ba bc w
end Go.Proofs.YtheeiklgblcjfaaGreatDoor
end
section
namespace Go.Proofs.YtheeiklgblcjfaaGreatDoor
open Go.RowKit Go.Sort Go.ChangeShapes Go.WideShapes
set_option linter.unusedVariables false
set_option linter.unusedSimpArgs false
theorem racc_b (c:Cfg) (x:CfgAt) (q:Bool) (w:World) (hx:CfgIn w w.heap.size c x) (wx:CfgWf c) (lx:CfgFew c) (hq:acceptsB c = q):Calls Tryz.prog 25 #[.agg (cfgCells c x)] w fun e w' => e = .returned (.bool q) ∧ Below w.heap.size w w':=by
  obtain ⟨W,HW,hB,-,bx⟩:=one_cbox w c x 29
  have hx:=hx.later hB
  obtain ⟨c0,c1,c2,c3,c4,c5⟩:=bx _ (Below.refl _ _)
  have HB:=Lib.hid hB
  have hF:=rall_b c x W hx wx lx
  have hl:=allB_len c 17
  obtain ⟨ds,hds⟩:∃ ds,allB c 17 = ds:=⟨_,rfl⟩
  have hdq:((ds.length:Int) == 0) = q:=by
    rw [← hq,← hds]
    unfold acceptsB
    rw [Bool.eq_iff_iff]
    simp
  rw [hds] at hF hl
  simp only [cfgCells]
  clear hB hds hq
  go_enter Tryz.func25,Tryz.ntmps25
  go_wp2_with (rw [← HW.out])
  refine hF.mono ?_
  rintro e w5 ⟨v,rfl,hown,hb5⟩
  obtain ⟨A',c',rfl,_⟩:=hown.slice
  have HF:=Lib.hid (HB.out.trans (hb5.mono HB.out.size))
  clear hF hb5 hown
  go_wp2
  go_ret
  exact ⟨rfl,HF.out⟩
end Go.Proofs.YtheeiklgblcjfaaGreatDoor
end
