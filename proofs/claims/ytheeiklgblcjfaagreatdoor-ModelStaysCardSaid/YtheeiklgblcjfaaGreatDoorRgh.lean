/- Texts of the ring, joined, what is used of them. No condition but those in the statements. -/
import Derived.BigQuiet
import Derived.BigRegion
import Derived.IntWalk
import Derived.OpenShut
import Derived.Test.YtheeiklgblcjfaaGreatDoorRSmA
section
namespace Go.Proofs.YtheeiklgblcjfaaGreatDoor
open Go.RowKit Go.Sort Go.ChangeShapes Go.WideShapes
set_option linter.unusedVariables false
set_option linter.unusedSimpArgs false
/-- Has a frame the defect 12,13,15 or 16? -/
def frameB (k:Int) (len:Int) (win:List (List Int)):Bool:=
  if k = 12 then decide (len < 1 ∨ 64 < len) else if k = 13 then decide (16 < win.length) else if k = 15 then scan win.length (fun i => win15 len (row win i))
  else scan win.length (fun i => decide (0 < i) && win16 (row win (i - 1)) (row win i))
theorem fbox_new (w:World) (len:Int) (A:Option Addr) (n c:Nat) (t:TypeId):∃ W,Hid (W = w.alloc (.cells #[.int .i64 len,.slice A n c] t)) ∧ Below w.heap.size w W ∧ w.heap.size < W.heap.size ∧
    (∀ w',Below W.heap.size W w' → w'.cell? ⟨w.heap.size,0,none⟩ = some (.int .i64 len) ∧ w'.cell? ⟨w.heap.size,1,none⟩ = some (.slice A n c)):=by
  refine ⟨_,rfl,(Below.refl _ _).alloc (Nat.le_refl _) _,by simp,fun w' hb => ?_⟩
  have h:∀ o v,(w.alloc (.cells #[.int .i64 len,.slice A n c] t)).cell? ⟨w.heap.size,o,none⟩ = some v → w'.cell? ⟨w.heap.size,o,none⟩ = some v:=fun o v h => (hb.cell (p:=⟨w.heap.size,o,none⟩) (by simp)).trans h
  exact ⟨h 0 _ (cell_blk (heap_alloc_new w _) rfl),h 1 _ (cell_blk (heap_alloc_new w _) rfl)⟩
set_option maxRecDepth 100000 in
set_option maxHeartbeats 4000000 in
theorem frame12_b (len:Int) (win:List (List Int)) (A:Option Addr) (c:Nat) (w:World) (hr:RowN [.i64,.i64,.i64] w w.heap.size A win) (wl:wfR [.i64,.i64,.i64] win) (hl:win.length ≤ 1000000) (hlen:(Lit.int .i64 len).wf = true):Calls Tryz.prog 145 #[.agg #[.int .i64 len,.slice A win.length c]] w fun e w' => e = .returned (.bool (frameB 12 len win)) ∧ Below w.heap.size w w':=by
  by_cases h1:decide (1 ≤ len ∧ len ≤ 64) = true
  · have HG:=Lib.hid (of_decide_eq_true h1)
    have HX:=Lib.hid (show frameB 12 len win = false from (show decide (len < 1 ∨ 64 < len) = false from decide_eq_false (by have:=HG.out;omega)))
    go_enter Tryz.func145,Tryz.ntmps145
    go_wp2_with (first | (go_at_call 130;((with_reducible refine (within_is _ _ _ _ _ (by assumption)).mono ?_);rintro e w5 ⟨rfl,rfl⟩)))
    go_ret
    exact ⟨by rw [HX.out];rfl,(Below.refl _ _).alloc (Nat.le_refl _) _⟩
  · have h1:decide (1 ≤ len ∧ len ≤ 64) = false:=by simpa using h1
    have HG:=Lib.hid (of_decide_eq_false h1)
    have HX:=Lib.hid (show frameB 12 len win = true from (show decide (len < 1 ∨ 64 < len) = true from decide_eq_true (by have:=HG.out;omega)))
    go_enter Tryz.func145,Tryz.ntmps145
    go_wp2_with (first | (go_at_call 130;((with_reducible refine (within_is _ _ _ _ _ (by assumption)).mono ?_);rintro e w5 ⟨rfl,rfl⟩)))
    go_ret
    exact ⟨by rw [HX.out];rfl,(Below.refl _ _).alloc (Nat.le_refl _) _⟩
set_option maxRecDepth 100000 in
set_option maxHeartbeats 4000000 in
theorem frame13_b (len:Int) (win:List (List Int)) (A:Option Addr) (c:Nat) (w:World) (hr:RowN [.i64,.i64,.i64] w w.heap.size A win) (wl:wfR [.i64,.i64,.i64] win) (hl:win.length ≤ 1000000) (hlen:(Lit.int .i64 len).wf = true):Calls Tryz.prog 146 #[.agg #[.int .i64 len,.slice A win.length c]] w fun e w' => e = .returned (.bool (frameB 13 len win)) ∧ Below w.heap.size w w':=by
  by_cases h1:(16:Int) < (win.length:Int)
  · have HX:=Lib.hid (show frameB 13 len win = true from (show decide (16 < win.length) = true from decide_eq_true (by omega)))
    go_enter Tryz.func146,Tryz.ntmps146
    go_wp2
    go_ret
    exact ⟨by rw [HX.out];rfl,(Below.refl _ _).alloc (Nat.le_refl _) _⟩
  · have h1d:decide ((16:Int) < (win.length:Int)) = false:=decide_eq_false h1
    have HX:=Lib.hid (show frameB 13 len win = false from (show decide (16 < win.length) = false from decide_eq_false (by omega)))
    go_enter Tryz.func146,Tryz.ntmps146
    go_wp2
    go_ret
    exact ⟨by rw [HX.out];rfl,(Below.refl _ _).alloc (Nat.le_refl _) _⟩
set_option maxRecDepth 100000 in
set_option maxHeartbeats 4000000 in
theorem frame15_b (len:Int) (win:List (List Int)) (A:Option Addr) (c:Nat) (w:World) (hr:RowN [.i64,.i64,.i64] w w.heap.size A win) (wl:wfR [.i64,.i64,.i64] win) (hl:win.length ≤ 1000000) (hlen:(Lit.int .i64 len).wf = true):Calls Tryz.prog 148 #[.agg #[.int .i64 len,.slice A win.length c]] w fun e w' => e = .returned (.bool (frameB 15 len win)) ∧ Below w.heap.size w w':=by
  obtain ⟨W,HW,hB,hWs,bx⟩:=fbox_new w len A win.length c 26
  have HB:=Lib.hid hB
  have hr:=(hr.below hB).more hB.size
  obtain ⟨u0,u1⟩:=bounds_i64 hlen
  clear hB
  go_enter Tryz.func148,Tryz.ntmps148
  go_wp2
  go_loopw [8] (fun ix wr => ∃ i:Nat,i ≤ win.length ∧ ix = .int .i64 i ∧ scan i (fun i => win15 len (row win i)) = false ∧ Below W.heap.size W wr) (fun ix _ => win.length - (intOf ix).toNat)
  case atStart => exact ⟨0,Nat.zero_le _,rfl,rfl,(by rw [← HW.out];exact Below.refl _ _)⟩
  case round =>
    obtain ⟨i,hi,rfl,ht,hbc⟩:=hrel
    have HT:=Lib.hid ht
    obtain ⟨c0,c1⟩:=bx _ hbc
    clear ht
    by_cases hlt:i < win.length
    · obtain ⟨b,o,x0,x1,x2,e0,_,e1,⟨hw0,hw1,hw2⟩,k0⟩:=hr.at3 wl hlt
      subst e0
      have k0:=k0 _ hbc
      obtain ⟨p0,k0⟩:=k0
      obtain ⟨p1,p2⟩:=k0
      have E1:=Lib.hid e1
      obtain ⟨s0,s1⟩:=bounds_i64 hw1
      obtain ⟨t0,t1⟩:=bounds_i64 hw2
      obtain ⟨c2,c3⟩:=bx _ (hbc.alloc hbc.size (.cells #[.int .i64 x0,.int .i64 x1,.int .i64 x2] 133))
      clear e1
      by_cases h1:x1 < 0
      · have HX:=Lib.hid (show frameB 15 len win = true from scan_hit (f:=(fun i => win15 len (row win i))) hlt (show win15 len (row win i) = true by rw [row_at E1.out];exact (show decide (x1 < 0 ∨ x2 < 1 ∨ len < x1 ∨ len - x1 < x2) = true from decide_eq_true (by omega))))
        go_wp2
        go_ret
        exact ⟨by rw [HX.out];rfl,HB.out.trans ((hbc.alloc hbc.size _).mono HB.out.size)⟩
      · have h1d:decide (x1 < 0) = false:=decide_eq_false h1
        by_cases h2:x2 < 1
        · have HX:=Lib.hid (show frameB 15 len win = true from scan_hit (f:=(fun i => win15 len (row win i))) hlt (show win15 len (row win i) = true by rw [row_at E1.out];exact (show decide (x1 < 0 ∨ x2 < 1 ∨ len < x1 ∨ len - x1 < x2) = true from decide_eq_true (by omega))))
          go_wp2
          go_ret
          exact ⟨by rw [HX.out];rfl,HB.out.trans ((hbc.alloc hbc.size _).mono HB.out.size)⟩
        · have h2d:decide (x2 < 1) = false:=decide_eq_false h2
          by_cases h3:len < x1
          · have HX:=Lib.hid (show frameB 15 len win = true from scan_hit (f:=(fun i => win15 len (row win i))) hlt (show win15 len (row win i) = true by rw [row_at E1.out];exact (show decide (x1 < 0 ∨ x2 < 1 ∨ len < x1 ∨ len - x1 < x2) = true from decide_eq_true (by omega))))
            go_wp2
            go_ret
            exact ⟨by rw [HX.out];rfl,HB.out.trans ((hbc.alloc hbc.size _).mono HB.out.size)⟩
          · have h3d:decide (len < x1) = false:=decide_eq_false h3
            by_cases h4:len - x1 < x2
            · have HX:=Lib.hid (show frameB 15 len win = true from scan_hit (f:=(fun i => win15 len (row win i))) hlt (show win15 len (row win i) = true by rw [row_at E1.out];exact (show decide (x1 < 0 ∨ x2 < 1 ∨ len < x1 ∨ len - x1 < x2) = true from decide_eq_true (by omega))))
              go_wp2
              go_ret
              exact ⟨by rw [HX.out];rfl,HB.out.trans ((hbc.alloc hbc.size _).mono HB.out.size)⟩
            · have h4d:decide (len - x1 < x2) = false:=decide_eq_false h4
              have HX:=Lib.hid (show scan (i + 1) (fun i => win15 len (row win i)) = false from scan_next HT.out (show win15 len (row win i) = false by rw [row_at E1.out];exact (show decide (x1 < 0 ∨ x2 < 1 ∨ len < x1 ∨ len - x1 < x2) = false from decide_eq_false (by omega))))
              go_wp2
              go_roundw
              case rel => exact ⟨i + 1,by omega,by go_num,HX.out,hbc.alloc hbc.size _⟩
              case measure => simp [intOf];omega
    · have HS:=Lib.hid (show frameB 15 len win = false by have h:=HT.out;rw [show i = win.length by omega] at h;exact h)
      clear HT
      go_wp2
      go_ret
      exact ⟨by rw [HS.out];rfl,HB.out.trans (hbc.mono HB.out.size)⟩
end Go.Proofs.YtheeiklgblcjfaaGreatDoor
end
section
namespace Go.Proofs.YtheeiklgblcjfaaGreatDoor
open Go.RowKit Go.Sort Go.ChangeShapes Go.WideShapes
set_option linter.unusedVariables false
set_option linter.unusedSimpArgs false
theorem fit_b (n:Int) (w:World) (h1:-9223372036854775808 ≤ n) (h2:n ≤ 9223372036854775807) :
    Calls Tryz.prog 158 #[.int .i64 n] w fun e w' => e = .returned (.bool (wordB n)) ∧ w = w':=by
  by_cases h0:0 ≤ n
  · by_cases h3:n ≤ 4294967295
    · go_enter Tryz.func158,Tryz.ntmps158
      go_wp2
      go_ret
      exact ⟨by simp [wordB,h0,h3],rfl⟩
    · go_enter Tryz.func158,Tryz.ntmps158
      go_wp2
      go_ret
      exact ⟨by simp [wordB,h0,h3],rfl⟩
  · have e:¬ (IntKind.u64.wrap n ≤ 4294967295):=by rw [IntKind.wrap_u64];omega
    have e2:wordB n = false:=by unfold wordB;exact decide_eq_false (fun h => h0 h.1)
    rw [e2]
    go_enter Tryz.func158,Tryz.ntmps158
    go_wp2
    go_ret
    exact ⟨rfl,rfl⟩
theorem fit_is (n:Int) (b:Bool) (w:World) (h1:-9223372036854775808 ≤ n) (h2:n ≤ 9223372036854775807) (h:wordB n = b):Calls Tryz.prog 158 #[.int .i64 n] w fun e w' => e = .returned (.bool b) ∧ w = w':=by subst h;exact fit_b n w h1 h2
set_option maxRecDepth 100000 in
set_option maxHeartbeats 4000000 in
theorem frame16_b (len:Int) (win:List (List Int)) (A:Option Addr) (c:Nat) (w:World) (hr:RowN [.i64,.i64,.i64] w w.heap.size A win) (wl:wfR [.i64,.i64,.i64] win) (hl:win.length ≤ 1000000) (hlen:(Lit.int .i64 len).wf = true):Calls Tryz.prog 149 #[.agg #[.int .i64 len,.slice A win.length c]] w fun e w' => e = .returned (.bool (frameB 16 len win)) ∧ Below w.heap.size w w':=by
  obtain ⟨W,HW,hB,hWs,bx⟩:=fbox_new w len A win.length c 26
  have HB:=Lib.hid hB
  have hr:=(hr.below hB).more hB.size
  clear hB
  go_enter Tryz.func149,Tryz.ntmps149
  go_wp2
  go_loopw [3] (fun ix wr => ∃ j:Nat,j ≤ win.length ∧ ix = .int .i64 ((j:Int) + 1) ∧ scan (j + 1) (fun i => decide (0 < i) && win16 (row win (i - 1)) (row win i)) = false ∧ Below W.heap.size W wr) (fun ix _ => win.length + 1 - (intOf ix).toNat)
  case atStart => exact ⟨0,Nat.zero_le _,rfl,rfl,(by rw [← HW.out];exact Below.refl _ _)⟩
  case round =>
    obtain ⟨j,hj,rfl,ht,hbc⟩:=hrel
    have HT:=Lib.hid ht
    obtain ⟨c0,c1⟩:=bx _ hbc
    clear ht
    by_cases hlt:j + 1 < win.length
    · have hlt0:j < win.length:=by omega
      obtain ⟨b,o,x0,x1,x2,e0,hbw,e1,⟨hw0,hw1,hw2⟩,k0⟩:=hr.at3 wl hlt
      obtain ⟨b',o',y0,y1,y2,e0',_,f1,⟨hv0,hv1,hv2⟩,r0⟩:=hr.at3 wl hlt0
      subst e0
      cases e0'
      have k0:=k0 _ hbc
      have r0:=r0 _ hbc
      obtain ⟨p0,k0⟩:=k0
      obtain ⟨p1,p2⟩:=k0
      obtain ⟨q0,q1,q2⟩:=r0
      have E1:=Lib.hid e1;have F1:=Lib.hid f1
      obtain ⟨s0,s1⟩:=bounds_i64 hw1
      obtain ⟨t0,t1⟩:=bounds_i64 hv1
      obtain ⟨m0,m1⟩:=bounds_i64 hv2
      have g1:(j:Int) + 1 < (win.length:Int):=by omega
      have g2:(j:Int) < (win.length:Int):=by omega
      have g3:(0:Int) ≤ (j:Int):=by omega
      have g4:(0:Int) ≤ (j:Int) + 1:=by omega
      have hbl:b < wr.heap.size:=Nat.lt_of_lt_of_le hbw hbc.size
      have hwl:w.heap.size < wr.heap.size:=Nat.lt_of_lt_of_le hWs hbc.size
      clear e1 f1
      clear k0 r0
      go_wp2
      go_region
      obtain ⟨wa,hwa⟩:∃ u,Hid (u = (wr.alloc (.cells #[.int .i64 y0,.int .i64 y1,.int .i64 y2] 133)).drew):=⟨_,rfl⟩
      have hba:Below wr.heap.size wr wa:=by rw [hwa.out];exact ((Below.refl _ _).alloc (Nat.le_refl _) _).drew
      have hxa:wa.heap[wr.heap.size]? = some (.cells #[.int .i64 y0,.int .i64 y1,.int .i64 y2] 133 (0,0)):=by rw [hwa.out];exact heap_alloc_new _ _
      have HWB:=Lib.hid (hbc.trans (hba.mono hbc.size))
      have a0:=cell_blk hxa (i:=0) rfl
      have a1:=cell_blk hxa (i:=1) rfl
      have a2:=cell_blk hxa (i:=2) rfl
      rw [← hwa.out]
      clear hba hxa p0 p1 p2 q0 q1 q2 c0 c1 bx hr hbc
      by_cases h1:wordB y1 = true
      · by_cases h2:wordB y2 = true
        · by_cases h3:wordB x1 = true
          · have hy1:=of_decide_eq_true h1
            have hy2:=of_decide_eq_true h2
            have hy3:=of_decide_eq_true h3
            obtain ⟨m2,m3⟩:=hy1
            obtain ⟨m4,m5⟩:=hy2
            obtain ⟨m6,m7⟩:=hy3
            have hsub:=IntWalk.i64_in (x1 - y1) (by omega)
            by_cases h4:x1 - y1 < y2
            · have HX:=Lib.hid (show frameB 16 len win = true from scan_hit (f:=(fun i => decide (0 < i) && win16 (row win (i - 1)) (row win i))) hlt (show (decide (0 < j + 1) && win16 (row win (j + 1 - 1)) (row win (j + 1))) = true by rw [Nat.add_sub_cancel,row_at E1.out,row_at F1.out];exact (show (decide (0 < j + 1) && (wordB x1 && wordB y1 && wordB y2 && decide (x1 < y1 + y2))) = true by rw [decide_eq_true (show 0 < j + 1 by omega),h1,h2,h3,decide_eq_true (show (x1 < y1 + y2) by omega)];simp)))
              go_wp2_with (go_at_call 158;((with_reducible refine (fit_is _ _ _ (by assumption) (by assumption) (by assumption)).mono ?_);rintro e w5 ⟨rfl,rfl⟩))
              go_ret
              exact ⟨by rw [HX.out];rfl,HB.out.trans (HWB.out.mono HB.out.size)⟩
            · have h4d:decide (x1 - y1 < y2) = false:=decide_eq_false h4
              have HX:=Lib.hid (show scan (j + 1 + 1) (fun i => decide (0 < i) && win16 (row win (i - 1)) (row win i)) = false from scan_next HT.out (show (decide (0 < j + 1) && win16 (row win (j + 1 - 1)) (row win (j + 1))) = false by rw [Nat.add_sub_cancel,row_at E1.out,row_at F1.out];exact (show (decide (0 < j + 1) && (wordB x1 && wordB y1 && wordB y2 && decide (x1 < y1 + y2))) = false by rw [decide_eq_true (show 0 < j + 1 by omega),h1,h2,h3,decide_eq_false (show ¬ (x1 < y1 + y2) by omega)];simp)))
              go_wp2_with (go_at_call 158;((with_reducible refine (fit_is _ _ _ (by assumption) (by assumption) (by assumption)).mono ?_);rintro e w5 ⟨rfl,rfl⟩))
              go_roundw
              case rel => exact ⟨j + 1,by omega,by go_num,HX.out,HWB.out⟩
              case measure => simp [intOf];omega
          · have h3:wordB x1 = false:=by simpa using h3
            have HX:=Lib.hid (show scan (j + 1 + 1) (fun i => decide (0 < i) && win16 (row win (i - 1)) (row win i)) = false from scan_next HT.out (show (decide (0 < j + 1) && win16 (row win (j + 1 - 1)) (row win (j + 1))) = false by rw [Nat.add_sub_cancel,row_at E1.out,row_at F1.out];exact (show (decide (0 < j + 1) && (wordB x1 && wordB y1 && wordB y2 && decide (x1 < y1 + y2))) = false by rw [decide_eq_true (show 0 < j + 1 by omega),h1,h2,h3];simp)))
            go_wp2_with (go_at_call 158;((with_reducible refine (fit_is _ _ _ (by assumption) (by assumption) (by assumption)).mono ?_);rintro e w5 ⟨rfl,rfl⟩))
            go_roundw
            case rel => exact ⟨j + 1,by omega,by go_num,HX.out,HWB.out⟩
            case measure => simp [intOf];omega
        · have h2:wordB y2 = false:=by simpa using h2
          have HX:=Lib.hid (show scan (j + 1 + 1) (fun i => decide (0 < i) && win16 (row win (i - 1)) (row win i)) = false from scan_next HT.out (show (decide (0 < j + 1) && win16 (row win (j + 1 - 1)) (row win (j + 1))) = false by rw [Nat.add_sub_cancel,row_at E1.out,row_at F1.out];exact (show (decide (0 < j + 1) && (wordB x1 && wordB y1 && wordB y2 && decide (x1 < y1 + y2))) = false by rw [decide_eq_true (show 0 < j + 1 by omega),h1,h2];simp)))
          go_wp2_with (go_at_call 158;((with_reducible refine (fit_is _ _ _ (by assumption) (by assumption) (by assumption)).mono ?_);rintro e w5 ⟨rfl,rfl⟩))
          go_roundw
          case rel => exact ⟨j + 1,by omega,by go_num,HX.out,HWB.out⟩
          case measure => simp [intOf];omega
      · have h1:wordB y1 = false:=by simpa using h1
        have HX:=Lib.hid (show scan (j + 1 + 1) (fun i => decide (0 < i) && win16 (row win (i - 1)) (row win i)) = false from scan_next HT.out (show (decide (0 < j + 1) && win16 (row win (j + 1 - 1)) (row win (j + 1))) = false by rw [Nat.add_sub_cancel,row_at E1.out,row_at F1.out];exact (show (decide (0 < j + 1) && (wordB x1 && wordB y1 && wordB y2 && decide (x1 < y1 + y2))) = false by rw [decide_eq_true (show 0 < j + 1 by omega),h1];simp)))
        go_wp2_with (go_at_call 158;((with_reducible refine (fit_is _ _ _ (by assumption) (by assumption) (by assumption)).mono ?_);rintro e w5 ⟨rfl,rfl⟩))
        go_roundw
        case rel => exact ⟨j + 1,by omega,by go_num,HX.out,HWB.out⟩
        case measure => simp [intOf];omega
    · have HS:=Lib.hid (show frameB 16 len win = false from scan_false.2 (fun i hi => scan_false.1 HT.out i (by omega)))
      have g1:¬ (j:Int) + 1 < (win.length:Int):=by omega
      clear HT
      go_wp2
      go_ret
      exact ⟨by rw [HS.out];rfl,HB.out.trans (hbc.mono HB.out.size)⟩
end Go.Proofs.YtheeiklgblcjfaaGreatDoor
end
section
namespace Go.Proofs.YtheeiklgblcjfaaGreatDoor
open Go.RowKit Go.Sort Go.ChangeShapes Go.WideShapes
set_option linter.unusedVariables false
set_option linter.unusedSimpArgs false
theorem frame12_is (len:Int) (win:List (List Int)) (A:Option Addr) (c:Nat) (q:Bool) (w:World) (hr:RowN [.i64,.i64,.i64] w w.heap.size A win) (wl:wfR [.i64,.i64,.i64] win) (hl:win.length ≤ 1000000) (hlen:(Lit.int .i64 len).wf = true) (h:frameB 12 len win = q):Calls Tryz.prog 145 #[.agg #[.int .i64 len,.slice A win.length c]] w fun e w' => e = .returned (.bool q) ∧ Below w.heap.size w w':=by subst h;exact frame12_b len win A c w hr wl hl hlen
set_option maxRecDepth 100000 in
set_option maxHeartbeats 4000000 in
theorem row12_b (parts chans:List (List Int)) (len0:Int) (win0:List (List Int)) (len1:Int) (win1:List (List Int)) (pa:Option Addr) (pc:Nat) (ca:Option Addr) (cc:Nat) (aa:Option Addr) (ac:Nat) (ba:Option Addr) (bc:Nat) (B:Nat) (w:World) (hp:RowN [.i64,.i64] w w.heap.size pa parts) (hpw:wfR [.i64,.i64] parts) (hpl:parts.length ≤ 1000000) (hc:RowN [.i64,.i64,.i64,.i64,.i64,.i64,.u32] w w.heap.size ca chans) (hcw:wfR [.i64,.i64,.i64,.i64,.i64,.i64,.u32] chans) (hcl:chans.length ≤ 1000000) (h0:RowN [.i64,.i64,.i64] w w.heap.size aa win0) (h0w:wfR [.i64,.i64,.i64] win0) (h0l:win0.length ≤ 1000000) (h1:RowN [.i64,.i64,.i64] w w.heap.size ba win1) (h1w:wfR [.i64,.i64,.i64] win1) (h1l:win1.length ≤ 1000000) (hl0:(Lit.int .i64 len0).wf = true) (hl1:(Lit.int .i64 len1).wf = true) (hB:w.cell? ⟨B,0,none⟩ = some (.func (.func 145) #[] #[])) :
    Calls Tryz.prog 157 #[.agg #[.slice pa parts.length pc,.slice ca chans.length cc,.int .i64 len0,.slice aa win0.length ac,.int .i64 len1,.slice ba win1.length bc],.pointer (some ⟨B,0,none⟩)] w fun e w' => e = .returned (.bool (holdsP (⟨parts,chans,len0,win0,len1,win1⟩:Cfg) 12)) ∧ Below w.heap.size w w':=by
  have hBw:B < w.heap.size:=World.block_lt_of_cell? w _ hB
  have hval:holdsP (⟨parts,chans,len0,win0,len1,win1⟩:Cfg) 12 = (frameB 12 len0 win0 || frameB 12 len1 win1):=by simp [holdsP,holdsB,winsB,frameB]
  obtain ⟨W,HW,hB_,-,bx⟩:=one_cbox w ⟨parts,chans,len0,win0,len1,win1⟩ ⟨pa,pc,ca,cc,aa,ac,ba,bc⟩ 29
  have HBx:=hB_
  have hp:=hp.later hB_;have hc:=hc.later hB_;have h0:=h0.later hB_;have h1:=h1.later hB_
  have HB:=Lib.hid hB_
  have cB:W.cell? ⟨B,0,none⟩ = some (.func (.func 145) #[] #[]):=(hB_.cell (p:=⟨B,0,none⟩) hBw).trans hB
  have hBW:B < W.heap.size:=Nat.lt_of_lt_of_le hBw hB_.size
  obtain ⟨c0,c1,c2,c3,c4,c5⟩:=bx _ (Below.refl _ _)
  clear hB_ HBx
  cases hq:frameB 12 len0 win0 with
  | true =>
    have HX:=Lib.hid (show holdsP (⟨parts,chans,len0,win0,len1,win1⟩:Cfg) 12 = true by rw [hval,hq];rfl)
    have HQ:=Lib.hid hq
    clear hval hq
    go_enter Tryz.func157,Tryz.ntmps157
    go_wp2_with (rw [← HW.out])
    refine (frame12_is len0 win0 aa ac true W h0 h0w h0l hl0 HQ.out).mono ?_
    rintro e w5 ⟨rfl,hb5⟩
    go_wp2
    go_ret
    exact ⟨by rw [HX.out];rfl,HB.out.trans (hb5.mono HB.out.size)⟩
  | false =>
    cases hq1:frameB 12 len1 win1 with
    | true =>
      have HX:=Lib.hid (show holdsP (⟨parts,chans,len0,win0,len1,win1⟩:Cfg) 12 = true by rw [hval,hq,hq1];rfl)
      have HQ:=Lib.hid hq;have HQ1:=Lib.hid hq1
      clear hval hq hq1
      go_enter Tryz.func157,Tryz.ntmps157
      go_wp2_with (rw [← HW.out])
      refine (frame12_is len0 win0 aa ac false W h0 h0w h0l hl0 HQ.out).mono ?_
      rintro e w5 ⟨rfl,hb5⟩
      have h1:=h1.later hb5
      have cB:=(hb5.cell (p:=⟨B,0,none⟩) hBW).trans cB
      obtain ⟨d0,d1,d2,d3,d4,d5⟩:=bx _ hb5
      clear c0 c1 c2 c3 c4 c5
      go_wp2_with fail
      refine (frame12_is len1 win1 ba bc true w5 h1 h1w h1l hl1 HQ1.out).mono ?_
      rintro e w6 ⟨rfl,hb6⟩
      go_wp2
      go_ret
      exact ⟨by rw [HX.out];rfl,HB.out.trans ((hb5.trans (hb6.mono hb5.size)).mono HB.out.size)⟩
    | false =>
      have HX:=Lib.hid (show holdsP (⟨parts,chans,len0,win0,len1,win1⟩:Cfg) 12 = false by rw [hval,hq,hq1];rfl)
      have HQ:=Lib.hid hq;have HQ1:=Lib.hid hq1
      clear hval hq hq1
      go_enter Tryz.func157,Tryz.ntmps157
      go_wp2_with (rw [← HW.out])
      refine (frame12_is len0 win0 aa ac false W h0 h0w h0l hl0 HQ.out).mono ?_
      rintro e w5 ⟨rfl,hb5⟩
      have h1:=h1.later hb5
      have cB:=(hb5.cell (p:=⟨B,0,none⟩) hBW).trans cB
      obtain ⟨d0,d1,d2,d3,d4,d5⟩:=bx _ hb5
      clear c0 c1 c2 c3 c4 c5
      go_wp2_with fail
      refine (frame12_is len1 win1 ba bc false w5 h1 h1w h1l hl1 HQ1.out).mono ?_
      rintro e w6 ⟨rfl,hb6⟩
      go_wp2
      go_ret
      exact ⟨by rw [HX.out];rfl,HB.out.trans ((hb5.trans (hb6.mono hb5.size)).mono HB.out.size)⟩
theorem frame13_is (len:Int) (win:List (List Int)) (A:Option Addr) (c:Nat) (q:Bool) (w:World) (hr:RowN [.i64,.i64,.i64] w w.heap.size A win) (wl:wfR [.i64,.i64,.i64] win) (hl:win.length ≤ 1000000) (hlen:(Lit.int .i64 len).wf = true) (h:frameB 13 len win = q):Calls Tryz.prog 146 #[.agg #[.int .i64 len,.slice A win.length c]] w fun e w' => e = .returned (.bool q) ∧ Below w.heap.size w w':=by subst h;exact frame13_b len win A c w hr wl hl hlen
set_option maxRecDepth 100000 in
set_option maxHeartbeats 4000000 in
theorem row13_b (parts chans:List (List Int)) (len0:Int) (win0:List (List Int)) (len1:Int) (win1:List (List Int)) (pa:Option Addr) (pc:Nat) (ca:Option Addr) (cc:Nat) (aa:Option Addr) (ac:Nat) (ba:Option Addr) (bc:Nat) (B:Nat) (w:World) (hp:RowN [.i64,.i64] w w.heap.size pa parts) (hpw:wfR [.i64,.i64] parts) (hpl:parts.length ≤ 1000000) (hc:RowN [.i64,.i64,.i64,.i64,.i64,.i64,.u32] w w.heap.size ca chans) (hcw:wfR [.i64,.i64,.i64,.i64,.i64,.i64,.u32] chans) (hcl:chans.length ≤ 1000000) (h0:RowN [.i64,.i64,.i64] w w.heap.size aa win0) (h0w:wfR [.i64,.i64,.i64] win0) (h0l:win0.length ≤ 1000000) (h1:RowN [.i64,.i64,.i64] w w.heap.size ba win1) (h1w:wfR [.i64,.i64,.i64] win1) (h1l:win1.length ≤ 1000000) (hl0:(Lit.int .i64 len0).wf = true) (hl1:(Lit.int .i64 len1).wf = true) (hB:w.cell? ⟨B,0,none⟩ = some (.func (.func 146) #[] #[])) :
    Calls Tryz.prog 157 #[.agg #[.slice pa parts.length pc,.slice ca chans.length cc,.int .i64 len0,.slice aa win0.length ac,.int .i64 len1,.slice ba win1.length bc],.pointer (some ⟨B,0,none⟩)] w fun e w' => e = .returned (.bool (holdsP (⟨parts,chans,len0,win0,len1,win1⟩:Cfg) 13)) ∧ Below w.heap.size w w':=by
  have hBw:B < w.heap.size:=World.block_lt_of_cell? w _ hB
  have hval:holdsP (⟨parts,chans,len0,win0,len1,win1⟩:Cfg) 13 = (frameB 13 len0 win0 || frameB 13 len1 win1):=by simp [holdsP,holdsB,winsB,frameB]
  obtain ⟨W,HW,hB_,-,bx⟩:=one_cbox w ⟨parts,chans,len0,win0,len1,win1⟩ ⟨pa,pc,ca,cc,aa,ac,ba,bc⟩ 29
  have HBx:=hB_
  have hp:=hp.later hB_;have hc:=hc.later hB_;have h0:=h0.later hB_;have h1:=h1.later hB_
  have HB:=Lib.hid hB_
  have cB:W.cell? ⟨B,0,none⟩ = some (.func (.func 146) #[] #[]):=(hB_.cell (p:=⟨B,0,none⟩) hBw).trans hB
  have hBW:B < W.heap.size:=Nat.lt_of_lt_of_le hBw hB_.size
  obtain ⟨c0,c1,c2,c3,c4,c5⟩:=bx _ (Below.refl _ _)
  clear hB_ HBx
  cases hq:frameB 13 len0 win0 with
  | true =>
    have HX:=Lib.hid (show holdsP (⟨parts,chans,len0,win0,len1,win1⟩:Cfg) 13 = true by rw [hval,hq];rfl)
    have HQ:=Lib.hid hq
    clear hval hq
    go_enter Tryz.func157,Tryz.ntmps157
    go_wp2_with (rw [← HW.out])
    refine (frame13_is len0 win0 aa ac true W h0 h0w h0l hl0 HQ.out).mono ?_
    rintro e w5 ⟨rfl,hb5⟩
    go_wp2
    go_ret
    exact ⟨by rw [HX.out];rfl,HB.out.trans (hb5.mono HB.out.size)⟩
  | false =>
    cases hq1:frameB 13 len1 win1 with
    | true =>
      have HX:=Lib.hid (show holdsP (⟨parts,chans,len0,win0,len1,win1⟩:Cfg) 13 = true by rw [hval,hq,hq1];rfl)
      have HQ:=Lib.hid hq;have HQ1:=Lib.hid hq1
      clear hval hq hq1
      go_enter Tryz.func157,Tryz.ntmps157
      go_wp2_with (rw [← HW.out])
      refine (frame13_is len0 win0 aa ac false W h0 h0w h0l hl0 HQ.out).mono ?_
      rintro e w5 ⟨rfl,hb5⟩
      have h1:=h1.later hb5
      have cB:=(hb5.cell (p:=⟨B,0,none⟩) hBW).trans cB
      obtain ⟨d0,d1,d2,d3,d4,d5⟩:=bx _ hb5
      clear c0 c1 c2 c3 c4 c5
      go_wp2_with fail
      refine (frame13_is len1 win1 ba bc true w5 h1 h1w h1l hl1 HQ1.out).mono ?_
      rintro e w6 ⟨rfl,hb6⟩
      go_wp2
      go_ret
      exact ⟨by rw [HX.out];rfl,HB.out.trans ((hb5.trans (hb6.mono hb5.size)).mono HB.out.size)⟩
    | false =>
      have HX:=Lib.hid (show holdsP (⟨parts,chans,len0,win0,len1,win1⟩:Cfg) 13 = false by rw [hval,hq,hq1];rfl)
      have HQ:=Lib.hid hq;have HQ1:=Lib.hid hq1
      clear hval hq hq1
      go_enter Tryz.func157,Tryz.ntmps157
      go_wp2_with (rw [← HW.out])
      refine (frame13_is len0 win0 aa ac false W h0 h0w h0l hl0 HQ.out).mono ?_
      rintro e w5 ⟨rfl,hb5⟩
      have h1:=h1.later hb5
      have cB:=(hb5.cell (p:=⟨B,0,none⟩) hBW).trans cB
      obtain ⟨d0,d1,d2,d3,d4,d5⟩:=bx _ hb5
      clear c0 c1 c2 c3 c4 c5
      go_wp2_with fail
      refine (frame13_is len1 win1 ba bc false w5 h1 h1w h1l hl1 HQ1.out).mono ?_
      rintro e w6 ⟨rfl,hb6⟩
      go_wp2
      go_ret
      exact ⟨by rw [HX.out];rfl,HB.out.trans ((hb5.trans (hb6.mono hb5.size)).mono HB.out.size)⟩
theorem frame15_is (len:Int) (win:List (List Int)) (A:Option Addr) (c:Nat) (q:Bool) (w:World) (hr:RowN [.i64,.i64,.i64] w w.heap.size A win) (wl:wfR [.i64,.i64,.i64] win) (hl:win.length ≤ 1000000) (hlen:(Lit.int .i64 len).wf = true) (h:frameB 15 len win = q):Calls Tryz.prog 148 #[.agg #[.int .i64 len,.slice A win.length c]] w fun e w' => e = .returned (.bool q) ∧ Below w.heap.size w w':=by subst h;exact frame15_b len win A c w hr wl hl hlen
set_option maxRecDepth 100000 in
set_option maxHeartbeats 4000000 in
theorem row15_b (parts chans:List (List Int)) (len0:Int) (win0:List (List Int)) (len1:Int) (win1:List (List Int)) (pa:Option Addr) (pc:Nat) (ca:Option Addr) (cc:Nat) (aa:Option Addr) (ac:Nat) (ba:Option Addr) (bc:Nat) (B:Nat) (w:World) (hp:RowN [.i64,.i64] w w.heap.size pa parts) (hpw:wfR [.i64,.i64] parts) (hpl:parts.length ≤ 1000000) (hc:RowN [.i64,.i64,.i64,.i64,.i64,.i64,.u32] w w.heap.size ca chans) (hcw:wfR [.i64,.i64,.i64,.i64,.i64,.i64,.u32] chans) (hcl:chans.length ≤ 1000000) (h0:RowN [.i64,.i64,.i64] w w.heap.size aa win0) (h0w:wfR [.i64,.i64,.i64] win0) (h0l:win0.length ≤ 1000000) (h1:RowN [.i64,.i64,.i64] w w.heap.size ba win1) (h1w:wfR [.i64,.i64,.i64] win1) (h1l:win1.length ≤ 1000000) (hl0:(Lit.int .i64 len0).wf = true) (hl1:(Lit.int .i64 len1).wf = true) (hB:w.cell? ⟨B,0,none⟩ = some (.func (.func 148) #[] #[])) :
    Calls Tryz.prog 157 #[.agg #[.slice pa parts.length pc,.slice ca chans.length cc,.int .i64 len0,.slice aa win0.length ac,.int .i64 len1,.slice ba win1.length bc],.pointer (some ⟨B,0,none⟩)] w fun e w' => e = .returned (.bool (holdsP (⟨parts,chans,len0,win0,len1,win1⟩:Cfg) 15)) ∧ Below w.heap.size w w':=by
  have hBw:B < w.heap.size:=World.block_lt_of_cell? w _ hB
  have hval:holdsP (⟨parts,chans,len0,win0,len1,win1⟩:Cfg) 15 = (frameB 15 len0 win0 || frameB 15 len1 win1):=by simp [holdsP,holdsB,winsB,frameB]
  obtain ⟨W,HW,hB_,-,bx⟩:=one_cbox w ⟨parts,chans,len0,win0,len1,win1⟩ ⟨pa,pc,ca,cc,aa,ac,ba,bc⟩ 29
  have HBx:=hB_
  have hp:=hp.later hB_;have hc:=hc.later hB_;have h0:=h0.later hB_;have h1:=h1.later hB_
  have HB:=Lib.hid hB_
  have cB:W.cell? ⟨B,0,none⟩ = some (.func (.func 148) #[] #[]):=(hB_.cell (p:=⟨B,0,none⟩) hBw).trans hB
  have hBW:B < W.heap.size:=Nat.lt_of_lt_of_le hBw hB_.size
  obtain ⟨c0,c1,c2,c3,c4,c5⟩:=bx _ (Below.refl _ _)
  clear hB_ HBx
  cases hq:frameB 15 len0 win0 with
  | true =>
    have HX:=Lib.hid (show holdsP (⟨parts,chans,len0,win0,len1,win1⟩:Cfg) 15 = true by rw [hval,hq];rfl)
    have HQ:=Lib.hid hq
    clear hval hq
    go_enter Tryz.func157,Tryz.ntmps157
    go_wp2_with (rw [← HW.out])
    refine (frame15_is len0 win0 aa ac true W h0 h0w h0l hl0 HQ.out).mono ?_
    rintro e w5 ⟨rfl,hb5⟩
    go_wp2
    go_ret
    exact ⟨by rw [HX.out];rfl,HB.out.trans (hb5.mono HB.out.size)⟩
  | false =>
    cases hq1:frameB 15 len1 win1 with
    | true =>
      have HX:=Lib.hid (show holdsP (⟨parts,chans,len0,win0,len1,win1⟩:Cfg) 15 = true by rw [hval,hq,hq1];rfl)
      have HQ:=Lib.hid hq;have HQ1:=Lib.hid hq1
      clear hval hq hq1
      go_enter Tryz.func157,Tryz.ntmps157
      go_wp2_with (rw [← HW.out])
      refine (frame15_is len0 win0 aa ac false W h0 h0w h0l hl0 HQ.out).mono ?_
      rintro e w5 ⟨rfl,hb5⟩
      have h1:=h1.later hb5
      have cB:=(hb5.cell (p:=⟨B,0,none⟩) hBW).trans cB
      obtain ⟨d0,d1,d2,d3,d4,d5⟩:=bx _ hb5
      clear c0 c1 c2 c3 c4 c5
      go_wp2_with fail
      refine (frame15_is len1 win1 ba bc true w5 h1 h1w h1l hl1 HQ1.out).mono ?_
      rintro e w6 ⟨rfl,hb6⟩
      go_wp2
      go_ret
      exact ⟨by rw [HX.out];rfl,HB.out.trans ((hb5.trans (hb6.mono hb5.size)).mono HB.out.size)⟩
    | false =>
      have HX:=Lib.hid (show holdsP (⟨parts,chans,len0,win0,len1,win1⟩:Cfg) 15 = false by rw [hval,hq,hq1];rfl)
      have HQ:=Lib.hid hq;have HQ1:=Lib.hid hq1
      clear hval hq hq1
      go_enter Tryz.func157,Tryz.ntmps157
      go_wp2_with (rw [← HW.out])
      refine (frame15_is len0 win0 aa ac false W h0 h0w h0l hl0 HQ.out).mono ?_
      rintro e w5 ⟨rfl,hb5⟩
      have h1:=h1.later hb5
      have cB:=(hb5.cell (p:=⟨B,0,none⟩) hBW).trans cB
      obtain ⟨d0,d1,d2,d3,d4,d5⟩:=bx _ hb5
      clear c0 c1 c2 c3 c4 c5
      go_wp2_with fail
      refine (frame15_is len1 win1 ba bc false w5 h1 h1w h1l hl1 HQ1.out).mono ?_
      rintro e w6 ⟨rfl,hb6⟩
      go_wp2
      go_ret
      exact ⟨by rw [HX.out];rfl,HB.out.trans ((hb5.trans (hb6.mono hb5.size)).mono HB.out.size)⟩
theorem frame16_is (len:Int) (win:List (List Int)) (A:Option Addr) (c:Nat) (q:Bool) (w:World) (hr:RowN [.i64,.i64,.i64] w w.heap.size A win) (wl:wfR [.i64,.i64,.i64] win) (hl:win.length ≤ 1000000) (hlen:(Lit.int .i64 len).wf = true) (h:frameB 16 len win = q):Calls Tryz.prog 149 #[.agg #[.int .i64 len,.slice A win.length c]] w fun e w' => e = .returned (.bool q) ∧ Below w.heap.size w w':=by subst h;exact frame16_b len win A c w hr wl hl hlen
set_option maxRecDepth 100000 in
set_option maxHeartbeats 4000000 in
theorem row16_b (parts chans:List (List Int)) (len0:Int) (win0:List (List Int)) (len1:Int) (win1:List (List Int)) (pa:Option Addr) (pc:Nat) (ca:Option Addr) (cc:Nat) (aa:Option Addr) (ac:Nat) (ba:Option Addr) (bc:Nat) (B:Nat) (w:World) (hp:RowN [.i64,.i64] w w.heap.size pa parts) (hpw:wfR [.i64,.i64] parts) (hpl:parts.length ≤ 1000000) (hc:RowN [.i64,.i64,.i64,.i64,.i64,.i64,.u32] w w.heap.size ca chans) (hcw:wfR [.i64,.i64,.i64,.i64,.i64,.i64,.u32] chans) (hcl:chans.length ≤ 1000000) (h0:RowN [.i64,.i64,.i64] w w.heap.size aa win0) (h0w:wfR [.i64,.i64,.i64] win0) (h0l:win0.length ≤ 1000000) (h1:RowN [.i64,.i64,.i64] w w.heap.size ba win1) (h1w:wfR [.i64,.i64,.i64] win1) (h1l:win1.length ≤ 1000000) (hl0:(Lit.int .i64 len0).wf = true) (hl1:(Lit.int .i64 len1).wf = true) (hB:w.cell? ⟨B,0,none⟩ = some (.func (.func 149) #[] #[])) :
    Calls Tryz.prog 157 #[.agg #[.slice pa parts.length pc,.slice ca chans.length cc,.int .i64 len0,.slice aa win0.length ac,.int .i64 len1,.slice ba win1.length bc],.pointer (some ⟨B,0,none⟩)] w fun e w' => e = .returned (.bool (holdsP (⟨parts,chans,len0,win0,len1,win1⟩:Cfg) 16)) ∧ Below w.heap.size w w':=by
  have hBw:B < w.heap.size:=World.block_lt_of_cell? w _ hB
  have hval:holdsP (⟨parts,chans,len0,win0,len1,win1⟩:Cfg) 16 = (frameB 16 len0 win0 || frameB 16 len1 win1):=by simp [holdsP,holdsB,winsB,frameB]
  obtain ⟨W,HW,hB_,-,bx⟩:=one_cbox w ⟨parts,chans,len0,win0,len1,win1⟩ ⟨pa,pc,ca,cc,aa,ac,ba,bc⟩ 29
  have HBx:=hB_
  have hp:=hp.later hB_;have hc:=hc.later hB_;have h0:=h0.later hB_;have h1:=h1.later hB_
  have HB:=Lib.hid hB_
  have cB:W.cell? ⟨B,0,none⟩ = some (.func (.func 149) #[] #[]):=(hB_.cell (p:=⟨B,0,none⟩) hBw).trans hB
  have hBW:B < W.heap.size:=Nat.lt_of_lt_of_le hBw hB_.size
  obtain ⟨c0,c1,c2,c3,c4,c5⟩:=bx _ (Below.refl _ _)
  clear hB_ HBx
  cases hq:frameB 16 len0 win0 with
  | true =>
    have HX:=Lib.hid (show holdsP (⟨parts,chans,len0,win0,len1,win1⟩:Cfg) 16 = true by rw [hval,hq];rfl)
    have HQ:=Lib.hid hq
    clear hval hq
    go_enter Tryz.func157,Tryz.ntmps157
    go_wp2_with (rw [← HW.out])
    refine (frame16_is len0 win0 aa ac true W h0 h0w h0l hl0 HQ.out).mono ?_
    rintro e w5 ⟨rfl,hb5⟩
    go_wp2
    go_ret
    exact ⟨by rw [HX.out];rfl,HB.out.trans (hb5.mono HB.out.size)⟩
  | false =>
    cases hq1:frameB 16 len1 win1 with
    | true =>
      have HX:=Lib.hid (show holdsP (⟨parts,chans,len0,win0,len1,win1⟩:Cfg) 16 = true by rw [hval,hq,hq1];rfl)
      have HQ:=Lib.hid hq;have HQ1:=Lib.hid hq1
      clear hval hq hq1
      go_enter Tryz.func157,Tryz.ntmps157
      go_wp2_with (rw [← HW.out])
      refine (frame16_is len0 win0 aa ac false W h0 h0w h0l hl0 HQ.out).mono ?_
      rintro e w5 ⟨rfl,hb5⟩
      have h1:=h1.later hb5
      have cB:=(hb5.cell (p:=⟨B,0,none⟩) hBW).trans cB
      obtain ⟨d0,d1,d2,d3,d4,d5⟩:=bx _ hb5
      clear c0 c1 c2 c3 c4 c5
      go_wp2_with fail
      refine (frame16_is len1 win1 ba bc true w5 h1 h1w h1l hl1 HQ1.out).mono ?_
      rintro e w6 ⟨rfl,hb6⟩
      go_wp2
      go_ret
      exact ⟨by rw [HX.out];rfl,HB.out.trans ((hb5.trans (hb6.mono hb5.size)).mono HB.out.size)⟩
    | false =>
      have HX:=Lib.hid (show holdsP (⟨parts,chans,len0,win0,len1,win1⟩:Cfg) 16 = false by rw [hval,hq,hq1];rfl)
      have HQ:=Lib.hid hq;have HQ1:=Lib.hid hq1
      clear hval hq hq1
      go_enter Tryz.func157,Tryz.ntmps157
      go_wp2_with (rw [← HW.out])
      refine (frame16_is len0 win0 aa ac false W h0 h0w h0l hl0 HQ.out).mono ?_
      rintro e w5 ⟨rfl,hb5⟩
      have h1:=h1.later hb5
      have cB:=(hb5.cell (p:=⟨B,0,none⟩) hBW).trans cB
      obtain ⟨d0,d1,d2,d3,d4,d5⟩:=bx _ hb5
      clear c0 c1 c2 c3 c4 c5
      go_wp2_with fail
      refine (frame16_is len1 win1 ba bc false w5 h1 h1w h1l hl1 HQ1.out).mono ?_
      rintro e w6 ⟨rfl,hb6⟩
      go_wp2
      go_ret
      exact ⟨by rw [HX.out];rfl,HB.out.trans ((hb5.trans (hb6.mono hb5.size)).mono HB.out.size)⟩
end Go.Proofs.YtheeiklgblcjfaaGreatDoor
end
