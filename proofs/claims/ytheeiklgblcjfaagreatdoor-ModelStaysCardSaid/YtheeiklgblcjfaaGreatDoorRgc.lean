/- Texts of the ring, joined, what is used of them. No condition but those in the statements. -/
import Derived.Test.YtheeiklgblcjfaaGreatDoorProg
import Derived.BigQuiet
import Derived.IntWalk
import Derived.Test.YtheeiklgblcjfaaGreatDoorRgb
section
namespace Go.Proofs.YtheeiklgblcjfaaGreatDoor
open Go.RowKit Go.Sort
set_option linter.unusedVariables false
set_option linter.unusedSimpArgs false
theorem word_b (n:Int) (w:World):Calls Tryz.prog 118 #[.int .i64 n] w fun e w' => e = .returned (.bool (wordB n)) ∧ w = w':=by
  by_cases h0:0 ≤ n
  · by_cases h3:n ≤ 4294967295
    · go_enter Tryz.func118,Tryz.ntmps118
      go_wp2
      go_ret
      exact ⟨by simp [wordB,h0,h3],rfl⟩
    · go_enter Tryz.func118,Tryz.ntmps118
      go_wp2
      go_ret
      exact ⟨by simp [wordB,h0,h3],rfl⟩
  · have e2:wordB n = false:=by unfold wordB;exact decide_eq_false (fun h => h0 h.1)
    rw [e2]
    have e:decide (0 ≤ n) = false:=decide_eq_false h0
    go_enter Tryz.func118,Tryz.ntmps118
    go_wp2
    go_ret
    exact ⟨rfl,rfl⟩
theorem part_plain (parts chans:List (List Int)) (len0:Int) (win0:List (List Int)) (len1:Int) (win1:List (List Int)) (pa:Option Addr) (pc:Nat) (ca:Option Addr) (cc:Nat) (aa:Option Addr) (ac:Nat) (ba:Option Addr) (bc:Nat) (p:Int) (w:World):Calls Tryz.prog 117 #[.agg #[.slice pa parts.length pc,.slice ca chans.length cc,.int .i64 len0,.slice aa win0.length ac,.int .i64 len1,.slice ba win1.length bc],.int .i64 p] w fun e w' => e = .returned (.bool (partB (⟨parts,chans,len0,win0,len1,win1⟩:Cfg) p)) ∧ Below w.heap.size w w':=by
  by_cases h1:0 ≤ p
  · by_cases h2:p < (parts.length:Int)
    · have HX:=Lib.hid (show partB (⟨parts,chans,len0,win0,len1,win1⟩:Cfg) p = true from decide_eq_true ⟨h1,h2⟩)
      go_enter Tryz.func117,Tryz.ntmps117
      go_wp2
      go_ret
      exact ⟨by rw [HX.out];rfl,(Below.refl _ _).alloc (Nat.le_refl _) _⟩
    · have h2d:decide (p < (parts.length:Int)) = false:=decide_eq_false h2
      have HX:=Lib.hid (show partB (⟨parts,chans,len0,win0,len1,win1⟩:Cfg) p = false from decide_eq_false (fun h => h2 h.2))
      go_enter Tryz.func117,Tryz.ntmps117
      go_wp2
      go_ret
      exact ⟨by rw [HX.out];rfl,(Below.refl _ _).alloc (Nat.le_refl _) _⟩
  · have h1d:decide (0 ≤ p) = false:=decide_eq_false h1
    have HX:=Lib.hid (show partB (⟨parts,chans,len0,win0,len1,win1⟩:Cfg) p = false from decide_eq_false (fun h => h1 h.1))
    go_enter Tryz.func117,Tryz.ntmps117
    go_wp2
    go_ret
    exact ⟨by rw [HX.out];rfl,(Below.refl _ _).alloc (Nat.le_refl _) _⟩
theorem part_is (parts chans:List (List Int)) (len0:Int) (win0:List (List Int)) (len1:Int) (win1:List (List Int)) (pa:Option Addr) (pc:Nat) (ca:Option Addr) (cc:Nat) (aa:Option Addr) (ac:Nat) (ba:Option Addr) (bc:Nat) (p:Int) (b:Bool) (w:World) (h:partB (⟨parts,chans,len0,win0,len1,win1⟩:Cfg) p = b):Calls Tryz.prog 117 #[.agg #[.slice pa parts.length pc,.slice ca chans.length cc,.int .i64 len0,.slice aa win0.length ac,.int .i64 len1,.slice ba win1.length bc],.int .i64 p] w fun e w' => e = .returned (.bool b) ∧ Below w.heap.size w w':=by subst h;exact part_plain parts chans len0 win0 len1 win1 pa pc ca cc aa ac ba bc p w
end Go.Proofs.YtheeiklgblcjfaaGreatDoor
end
section
namespace Go.Proofs.YtheeiklgblcjfaaGreatDoor
open Go.RowKit Go.Sort Go.ChangeShapes Go.WideShapes
set_option linter.unusedVariables false
set_option linter.unusedSimpArgs false
set_option maxRecDepth 100000 in
set_option maxHeartbeats 8000000 in
theorem rwindow (parts chans:List (List Int)) (len0:Int) (win0:List (List Int)) (len1:Int) (win1:List (List Int)) (pa:Option Addr) (pc:Nat) (ca:Option Addr) (cc:Nat) (aa:Option Addr) (ac:Nat) (ba:Option Addr) (bc:Nat) (p:Nat) (w:World) (hp:RowN [.i64,.i64] w w.heap.size pa parts) (hpw:wfR [.i64,.i64] parts) (hpl:parts.length ≤ 1000000) (hc:RowN [.i64,.i64,.i64,.i64,.i64,.i64,.u32] w w.heap.size ca chans) (hcw:wfR [.i64,.i64,.i64,.i64,.i64,.i64,.u32] chans) (hcl:chans.length ≤ 1000000) (h0:RowN [.i64,.i64,.i64] w w.heap.size aa win0) (h0w:wfR [.i64,.i64,.i64] win0) (h0l:win0.length ≤ 1000000) (h1:RowN [.i64,.i64,.i64] w w.heap.size ba win1) (h1w:wfR [.i64,.i64,.i64] win1) (h1l:win1.length ≤ 1000000) (hpl':p < parts.length):Calls Tryz.prog 104 #[.agg #[.slice pa parts.length pc,.slice ca chans.length cc,.int .i64 len0,.slice aa win0.length ac,.int .i64 len1,.slice ba win1.length bc],.int .i64 (p:Int)] w fun e w' => e = .returned (.bool (windowB (⟨parts,chans,len0,win0,len1,win1⟩:Cfg) p)) ∧ Below w.heap.size w w':=by
  obtain ⟨W,HW,hB,-,bx⟩:=one_cbox w ⟨parts,chans,len0,win0,len1,win1⟩ ⟨pa,pc,ca,cc,aa,ac,ba,bc⟩ 29
  have HB:=Lib.hid hB
  have hp:=hp.later hB;have hc:=hc.later hB;have h0:=h0.later hB;have h1:=h1.later hB
  clear hB
  obtain ⟨c0,c1,c2,c3,c4,c5⟩:=bx _ (Below.refl _ _)
  obtain ⟨bp,op,y0,y1,f0,_,f1,_,r0⟩:=hp.at2 hpw hpl'
  obtain ⟨r1,r2⟩:=r0 _ (Below.refl _ _)
  have F1:=Lib.hid f1
  have hj1:(0:Int) ≤ (p:Int):=by omega
  have hj2:(p:Int) < (parts.length:Int):=by omega
  clear f1 r0
  subst f0
  by_cases n0:y0 = 0
  · subst n0
    have HWN:=Lib.hid (show windowB (⟨parts,chans,len0,win0,len1,win1⟩:Cfg) p = scan win0.length (fun i => decide (fld (row win0 i) 0 = (p:Int))) by unfold windowB;rw [show fld (row (⟨parts,chans,len0,win0,len1,win1⟩:Cfg).parts p) 0 = 0 by rw [show row (⟨parts,chans,len0,win0,len1,win1⟩:Cfg).parts p = [0,y1] from row_at F1.out];rfl,if_pos rfl])
    rw [HW.out] at c0 c1 c2 c3 c4 c5 r1 r2
    go_enter Tryz.func104,Tryz.ntmps104
    go_wp2
    clear c0 c1 c2 c3 c4 c5 r1 r2
    go_loopw [6] (fun ix wr => ∃ i:Nat,i ≤ win0.length ∧ ix = .int .i64 i ∧ scan i (fun i => decide (fld (row win0 i) 0 = (p:Int))) = false ∧ Below W.heap.size W wr) (fun ix _ => win0.length - (intOf ix).toNat)
    case atStart => exact ⟨0,Nat.zero_le _,rfl,rfl,(by rw [← HW.out];exact Below.refl _ _)⟩
    case round =>
      obtain ⟨i,hi,rfl,ht,hbc⟩:=hrel
      have HT:=Lib.hid ht
      clear ht
      by_cases hlt:i < win0.length
      · obtain ⟨b,o,x0,x1,x2,e0,_,e1,⟨hw0,hw1,hw2⟩,k0⟩:=h0.at3 h0w hlt
        subst e0
        have k0:=k0 _ hbc
        obtain ⟨p0,k0⟩:=k0
        obtain ⟨p1,p2⟩:=k0
        have E1:=Lib.hid e1
        clear e1
        by_cases h1:x0 = (p:Int)
        · have h1a:((x0:Int) == (p:Int)) = true:=by simp [h1]
          have h1b:((x0:Int) != (p:Int)) = false:=by simp [h1]
          have HX:=Lib.hid (show windowB (⟨parts,chans,len0,win0,len1,win1⟩:Cfg) p = true from HWN.out.trans (scan_hit (f:=(fun i => decide (fld (row win0 i) 0 = (p:Int)))) hlt (show decide (fld (row win0 i) 0 = (p:Int)) = true by rw [row_at E1.out];exact decide_eq_true h1)))
          go_wp2
          go_ret
          exact ⟨by rw [HX.out];rfl,HB.out.trans (hbc.mono HB.out.size)⟩
        · have h1a:((x0:Int) == (p:Int)) = false:=by simp [h1]
          have h1b:((x0:Int) != (p:Int)) = true:=by simp [h1]
          have HX:=Lib.hid (show scan (i + 1) (fun i => decide (fld (row win0 i) 0 = (p:Int))) = false from scan_next HT.out (show decide (fld (row win0 i) 0 = (p:Int)) = false by rw [row_at E1.out];exact decide_eq_false h1))
          go_wp2
          go_roundw
          case rel => exact ⟨i + 1,by omega,by go_num,HX.out,hbc⟩
          case measure => simp [intOf];omega
      · have HS:=Lib.hid (show windowB (⟨parts,chans,len0,win0,len1,win1⟩:Cfg) p = false by have h:=HT.out;rw [show i = win0.length by omega] at h;exact HWN.out.trans h)
        clear HT
        go_wp2
        go_ret
        exact ⟨by rw [HS.out];rfl,HB.out.trans (hbc.mono HB.out.size)⟩
  by_cases n1:y0 = 1
  · subst n1
    have HWN:=Lib.hid (show windowB (⟨parts,chans,len0,win0,len1,win1⟩:Cfg) p = scan win1.length (fun i => decide (fld (row win1 i) 0 = (p:Int))) by unfold windowB;rw [show fld (row (⟨parts,chans,len0,win0,len1,win1⟩:Cfg).parts p) 0 = 1 by rw [show row (⟨parts,chans,len0,win0,len1,win1⟩:Cfg).parts p = [1,y1] from row_at F1.out];rfl,if_neg (by decide),if_pos rfl])
    rw [HW.out] at c0 c1 c2 c3 c4 c5 r1 r2
    go_enter Tryz.func104,Tryz.ntmps104
    go_wp2
    clear c0 c1 c2 c3 c4 c5 r1 r2
    go_loopw [6] (fun ix wr => ∃ i:Nat,i ≤ win1.length ∧ ix = .int .i64 i ∧ scan i (fun i => decide (fld (row win1 i) 0 = (p:Int))) = false ∧ Below W.heap.size W wr) (fun ix _ => win1.length - (intOf ix).toNat)
    case atStart => exact ⟨0,Nat.zero_le _,rfl,rfl,(by rw [← HW.out];exact Below.refl _ _)⟩
    case round =>
      obtain ⟨i,hi,rfl,ht,hbc⟩:=hrel
      have HT:=Lib.hid ht
      clear ht
      by_cases hlt:i < win1.length
      · obtain ⟨b,o,x0,x1,x2,e0,_,e1,⟨hw0,hw1,hw2⟩,k0⟩:=h1.at3 h1w hlt
        subst e0
        have k0:=k0 _ hbc
        obtain ⟨p0,k0⟩:=k0
        obtain ⟨p1,p2⟩:=k0
        have E1:=Lib.hid e1
        clear e1
        by_cases h1:x0 = (p:Int)
        · have h1a:((x0:Int) == (p:Int)) = true:=by simp [h1]
          have h1b:((x0:Int) != (p:Int)) = false:=by simp [h1]
          have HX:=Lib.hid (show windowB (⟨parts,chans,len0,win0,len1,win1⟩:Cfg) p = true from HWN.out.trans (scan_hit (f:=(fun i => decide (fld (row win1 i) 0 = (p:Int)))) hlt (show decide (fld (row win1 i) 0 = (p:Int)) = true by rw [row_at E1.out];exact decide_eq_true h1)))
          go_wp2
          go_ret
          exact ⟨by rw [HX.out];rfl,HB.out.trans (hbc.mono HB.out.size)⟩
        · have h1a:((x0:Int) == (p:Int)) = false:=by simp [h1]
          have h1b:((x0:Int) != (p:Int)) = true:=by simp [h1]
          have HX:=Lib.hid (show scan (i + 1) (fun i => decide (fld (row win1 i) 0 = (p:Int))) = false from scan_next HT.out (show decide (fld (row win1 i) 0 = (p:Int)) = false by rw [row_at E1.out];exact decide_eq_false h1))
          go_wp2
          go_roundw
          case rel => exact ⟨i + 1,by omega,by go_num,HX.out,hbc⟩
          case measure => simp [intOf];omega
      · have HS:=Lib.hid (show windowB (⟨parts,chans,len0,win0,len1,win1⟩:Cfg) p = false by have h:=HT.out;rw [show i = win1.length by omega] at h;exact HWN.out.trans h)
        clear HT
        go_wp2
        go_ret
        exact ⟨by rw [HS.out];rfl,HB.out.trans (hbc.mono HB.out.size)⟩
  · have HX:=Lib.hid (show windowB (⟨parts,chans,len0,win0,len1,win1⟩:Cfg) p = false by unfold windowB;rw [show fld (row (⟨parts,chans,len0,win0,len1,win1⟩:Cfg).parts p) 0 = y0 by rw [show row (⟨parts,chans,len0,win0,len1,win1⟩:Cfg).parts p = [y0,y1] from row_at F1.out];rfl,if_neg n0,if_neg n1])
    have n0a:(y0 == 0) = false:=by simpa using n0
    have n0b:(y0 != 0) = true:=by simpa using n0
    have n1a:(y0 == 1) = false:=by simpa using n1
    have n1b:(y0 != 1) = true:=by simpa using n1
    rw [HW.out] at c0 c1 c2 c3 c4 c5 r1 r2
    go_enter Tryz.func104,Tryz.ntmps104
    go_wp2
    go_ret
    exact ⟨by rw [HX.out];rfl,(Below.refl _ _).alloc (Nat.le_refl _) _⟩
end Go.Proofs.YtheeiklgblcjfaaGreatDoor
namespace Go.Proofs.YtheeiklgblcjfaaGreatDoor
open Go.RowKit Go.Sort
set_option linter.unusedVariables false
set_option linter.unusedSimpArgs false
theorem rwins0_12 (parts chans:List (List Int)) (len0:Int) (win0:List (List Int)) (len1:Int) (win1:List (List Int)) (pa:Option Addr) (pc:Nat) (ca:Option Addr) (cc:Nat) (aa:Option Addr) (ac:Nat) (ba:Option Addr) (bc:Nat) (w:World):Calls Tryz.prog 106 #[.agg #[.slice pa parts.length pc,.slice ca chans.length cc,.int .i64 len0,.slice aa win0.length ac,.int .i64 len1,.slice ba win1.length bc],.int .i64 0,.int .i64 12] w fun e w' => e = .returned (.bool (winsB (⟨parts,chans,len0,win0,len1,win1⟩:Cfg) 0 len0 win0 12)) ∧ Below w.heap.size w w':=by
  by_cases h1:len0 < 1
  · have HX:=Lib.hid (show winsB (⟨parts,chans,len0,win0,len1,win1⟩:Cfg) 0 len0 win0 12 = true from (show decide (len0 < 1 ∨ 64 < len0) = true from decide_eq_true (by omega)))
    go_enter Tryz.func106,Tryz.ntmps106
    go_wp2
    go_ret
    exact ⟨by rw [HX.out];rfl,(Below.refl _ _).alloc (Nat.le_refl _) _⟩
  · have h1d:decide (len0 < 1) = false:=decide_eq_false h1
    by_cases h2:64 < len0
    · have HX:=Lib.hid (show winsB (⟨parts,chans,len0,win0,len1,win1⟩:Cfg) 0 len0 win0 12 = true from (show decide (len0 < 1 ∨ 64 < len0) = true from decide_eq_true (by omega)))
      go_enter Tryz.func106,Tryz.ntmps106
      go_wp2
      go_ret
      exact ⟨by rw [HX.out];rfl,(Below.refl _ _).alloc (Nat.le_refl _) _⟩
    · have h2d:decide (64 < len0) = false:=decide_eq_false h2
      have HX:=Lib.hid (show winsB (⟨parts,chans,len0,win0,len1,win1⟩:Cfg) 0 len0 win0 12 = false from (show decide (len0 < 1 ∨ 64 < len0) = false from decide_eq_false (by omega)))
      go_enter Tryz.func106,Tryz.ntmps106
      go_wp2
      go_ret
      exact ⟨by rw [HX.out];rfl,(Below.refl _ _).alloc (Nat.le_refl _) _⟩
theorem rwins0_13 (parts chans:List (List Int)) (len0:Int) (win0:List (List Int)) (len1:Int) (win1:List (List Int)) (pa:Option Addr) (pc:Nat) (ca:Option Addr) (cc:Nat) (aa:Option Addr) (ac:Nat) (ba:Option Addr) (bc:Nat) (w:World):Calls Tryz.prog 106 #[.agg #[.slice pa parts.length pc,.slice ca chans.length cc,.int .i64 len0,.slice aa win0.length ac,.int .i64 len1,.slice ba win1.length bc],.int .i64 0,.int .i64 13] w fun e w' => e = .returned (.bool (winsB (⟨parts,chans,len0,win0,len1,win1⟩:Cfg) 0 len0 win0 13)) ∧ Below w.heap.size w w':=by
  by_cases h1:(16:Int) < (win0.length:Int)
  · have HX:=Lib.hid (show winsB (⟨parts,chans,len0,win0,len1,win1⟩:Cfg) 0 len0 win0 13 = true from (show decide (16 < win0.length) = true from decide_eq_true (by omega)))
    go_enter Tryz.func106,Tryz.ntmps106
    go_wp2
    go_ret
    exact ⟨by rw [HX.out];rfl,(Below.refl _ _).alloc (Nat.le_refl _) _⟩
  · have h1d:decide ((16:Int) < (win0.length:Int)) = false:=decide_eq_false h1
    have HX:=Lib.hid (show winsB (⟨parts,chans,len0,win0,len1,win1⟩:Cfg) 0 len0 win0 13 = false from (show decide (16 < win0.length) = false from decide_eq_false (by omega)))
    go_enter Tryz.func106,Tryz.ntmps106
    go_wp2
    go_ret
    exact ⟨by rw [HX.out];rfl,(Below.refl _ _).alloc (Nat.le_refl _) _⟩
theorem rwins1_12 (parts chans:List (List Int)) (len0:Int) (win0:List (List Int)) (len1:Int) (win1:List (List Int)) (pa:Option Addr) (pc:Nat) (ca:Option Addr) (cc:Nat) (aa:Option Addr) (ac:Nat) (ba:Option Addr) (bc:Nat) (w:World):Calls Tryz.prog 106 #[.agg #[.slice pa parts.length pc,.slice ca chans.length cc,.int .i64 len0,.slice aa win0.length ac,.int .i64 len1,.slice ba win1.length bc],.int .i64 1,.int .i64 12] w fun e w' => e = .returned (.bool (winsB (⟨parts,chans,len0,win0,len1,win1⟩:Cfg) 1 len1 win1 12)) ∧ Below w.heap.size w w':=by
  by_cases h1:len1 < 1
  · have HX:=Lib.hid (show winsB (⟨parts,chans,len0,win0,len1,win1⟩:Cfg) 1 len1 win1 12 = true from (show decide (len1 < 1 ∨ 64 < len1) = true from decide_eq_true (by omega)))
    go_enter Tryz.func106,Tryz.ntmps106
    go_wp2
    go_ret
    exact ⟨by rw [HX.out];rfl,(Below.refl _ _).alloc (Nat.le_refl _) _⟩
  · have h1d:decide (len1 < 1) = false:=decide_eq_false h1
    by_cases h2:64 < len1
    · have HX:=Lib.hid (show winsB (⟨parts,chans,len0,win0,len1,win1⟩:Cfg) 1 len1 win1 12 = true from (show decide (len1 < 1 ∨ 64 < len1) = true from decide_eq_true (by omega)))
      go_enter Tryz.func106,Tryz.ntmps106
      go_wp2
      go_ret
      exact ⟨by rw [HX.out];rfl,(Below.refl _ _).alloc (Nat.le_refl _) _⟩
    · have h2d:decide (64 < len1) = false:=decide_eq_false h2
      have HX:=Lib.hid (show winsB (⟨parts,chans,len0,win0,len1,win1⟩:Cfg) 1 len1 win1 12 = false from (show decide (len1 < 1 ∨ 64 < len1) = false from decide_eq_false (by omega)))
      go_enter Tryz.func106,Tryz.ntmps106
      go_wp2
      go_ret
      exact ⟨by rw [HX.out];rfl,(Below.refl _ _).alloc (Nat.le_refl _) _⟩
theorem rwins1_13 (parts chans:List (List Int)) (len0:Int) (win0:List (List Int)) (len1:Int) (win1:List (List Int)) (pa:Option Addr) (pc:Nat) (ca:Option Addr) (cc:Nat) (aa:Option Addr) (ac:Nat) (ba:Option Addr) (bc:Nat) (w:World):Calls Tryz.prog 106 #[.agg #[.slice pa parts.length pc,.slice ca chans.length cc,.int .i64 len0,.slice aa win0.length ac,.int .i64 len1,.slice ba win1.length bc],.int .i64 1,.int .i64 13] w fun e w' => e = .returned (.bool (winsB (⟨parts,chans,len0,win0,len1,win1⟩:Cfg) 1 len1 win1 13)) ∧ Below w.heap.size w w':=by
  by_cases h1:(16:Int) < (win1.length:Int)
  · have HX:=Lib.hid (show winsB (⟨parts,chans,len0,win0,len1,win1⟩:Cfg) 1 len1 win1 13 = true from (show decide (16 < win1.length) = true from decide_eq_true (by omega)))
    go_enter Tryz.func106,Tryz.ntmps106
    go_wp2
    go_ret
    exact ⟨by rw [HX.out];rfl,(Below.refl _ _).alloc (Nat.le_refl _) _⟩
  · have h1d:decide ((16:Int) < (win1.length:Int)) = false:=decide_eq_false h1
    have HX:=Lib.hid (show winsB (⟨parts,chans,len0,win0,len1,win1⟩:Cfg) 1 len1 win1 13 = false from (show decide (16 < win1.length) = false from decide_eq_false (by omega)))
    go_enter Tryz.func106,Tryz.ntmps106
    go_wp2
    go_ret
    exact ⟨by rw [HX.out];rfl,(Below.refl _ _).alloc (Nat.le_refl _) _⟩
end Go.Proofs.YtheeiklgblcjfaaGreatDoor
namespace Go.Proofs.YtheeiklgblcjfaaGreatDoor
open Go.RowKit Go.Sort Go.ChangeShapes Go.WideShapes
set_option linter.unusedVariables false
set_option linter.unusedSimpArgs false
set_option maxRecDepth 100000 in
set_option maxHeartbeats 8000000 in
theorem rwins0_14 (parts chans:List (List Int)) (len0:Int) (win0:List (List Int)) (len1:Int) (win1:List (List Int)) (pa:Option Addr) (pc:Nat) (ca:Option Addr) (cc:Nat) (aa:Option Addr) (ac:Nat) (ba:Option Addr) (bc:Nat) (w:World) (hp:RowN [.i64,.i64] w w.heap.size pa parts) (hpw:wfR [.i64,.i64] parts) (hpl:parts.length ≤ 1000000) (hc:RowN [.i64,.i64,.i64,.i64,.i64,.i64,.u32] w w.heap.size ca chans) (hcw:wfR [.i64,.i64,.i64,.i64,.i64,.i64,.u32] chans) (hcl:chans.length ≤ 1000000) (h0:RowN [.i64,.i64,.i64] w w.heap.size aa win0) (h0w:wfR [.i64,.i64,.i64] win0) (h0l:win0.length ≤ 1000000) (h1:RowN [.i64,.i64,.i64] w w.heap.size ba win1) (h1w:wfR [.i64,.i64,.i64] win1) (h1l:win1.length ≤ 1000000):Calls Tryz.prog 106 #[.agg #[.slice pa parts.length pc,.slice ca chans.length cc,.int .i64 len0,.slice aa win0.length ac,.int .i64 len1,.slice ba win1.length bc],.int .i64 0,.int .i64 14] w fun e w' => e = .returned (.bool (winsB (⟨parts,chans,len0,win0,len1,win1⟩:Cfg) 0 len0 win0 14)) ∧ Below w.heap.size w w':=by
  obtain ⟨W,HW,hB,-,bx⟩:=one_cbox w ⟨parts,chans,len0,win0,len1,win1⟩ ⟨pa,pc,ca,cc,aa,ac,ba,bc⟩ 29
  have HB:=Lib.hid hB
  have hp:=hp.later hB;have hc:=hc.later hB;have h0:=h0.later hB;have h1:=h1.later hB
  clear hB
  go_enter Tryz.func106,Tryz.ntmps106
  go_wp2
  go_loopw [8] (fun ix wr => ∃ i:Nat,i ≤ win0.length ∧ ix = .int .i64 i ∧ scan i (fun i => win14 (⟨parts,chans,len0,win0,len1,win1⟩:Cfg) 0 (row win0 i)) = false ∧ Below W.heap.size W wr) (fun ix _ => win0.length - (intOf ix).toNat)
  case atStart => exact ⟨0,Nat.zero_le _,rfl,rfl,(by rw [← HW.out];exact Below.refl _ _)⟩
  case round =>
    obtain ⟨i,hi,rfl,ht,hbc⟩:=hrel
    have HT:=Lib.hid ht
    obtain ⟨c0,c1,c2,c3,c4,c5⟩:=bx _ hbc
    clear ht
    by_cases hlt:i < win0.length
    · obtain ⟨b,o,x0,x1,x2,e0,_,e1,⟨hw0,hw1,hw2⟩,k0⟩:=h0.at3 h0w hlt
      subst e0
      have k0:=k0 _ hbc
      obtain ⟨p0,k0⟩:=k0
      obtain ⟨p1,p2⟩:=k0
      have E1:=Lib.hid e1
      clear e1
      obtain ⟨wa,hwa⟩:∃ u,Hid (u = wr.alloc (.cells #[.int .i64 x0,.int .i64 x1,.int .i64 x2] 133)):=⟨_,rfl⟩
      have hba:Below wr.heap.size wr wa:=by rw [hwa.out];exact (Below.refl _ _).alloc (Nat.le_refl _) _
      have hxa:wa.heap[wr.heap.size]? = some (.cells #[.int .i64 x0,.int .i64 x1,.int .i64 x2] 133 (0,0)):=by rw [hwa.out];exact heap_alloc_new _ _
      have hwb:=hbc.trans (hba.mono hbc.size)
      have hla:wr.heap.size < wa.heap.size:=(Array.getElem?_eq_some_iff.1 hxa).1
      obtain ⟨a0,a1,a2,a3,a4,a5⟩:=bx _ hwb
      have q0:=cell_blk hxa (i:=0) rfl
      have HWB:=Lib.hid hwb
      clear hwb hba
      by_cases hA:partB (⟨parts,chans,len0,win0,len1,win1⟩:Cfg) x0 = true
      · have hA':0 ≤ x0 ∧ x0 < (parts.length:Int):=of_decide_eq_true hA
        have HA:=Lib.hid hA
        clear hA
        obtain ⟨j,rfl⟩:=Int.eq_ofNat_of_zero_le hA'.1
        have hj:j < parts.length:=by have:=hA'.2;omega
        go_wp2_with (rw [← hwa.out])
        refine (part_is parts chans len0 win0 len1 win1 pa pc ca cc (some ⟨b,o,none⟩) ac ba bc (j:Int) true _ HA.out).mono ?_
        rintro e w5 ⟨rfl,hb5⟩
        have hxb:=(hb5.block _ hla).trans hxa
        have hw5:=HWB.out.trans (hb5.mono HWB.out.size)
        obtain ⟨b0,b1,b2,b3,b4,b5⟩:=bx _ hw5
        have q2:=cell_blk hxb (i:=0) rfl
        obtain ⟨bp,op,y0,y1,f0,_,f1,_,r0⟩:=hp.at2 hpw hj
        obtain ⟨r1,r2⟩:=r0 _ hw5
        have F1:=Lib.hid f1
        have HW5:=Lib.hid hw5
        have hj1:(0:Int) ≤ (j:Int):=by omega
        have hj2:(j:Int) < (parts.length:Int):=by omega
        clear f1 r0 hw5 hxb hb5 a0 a1 a2 a3 a4 a5 q0 hA'
        subst f0
        by_cases h1:y0 = 0
        · have h1a:((y0:Int) == 0) = true:=by simp [h1]
          have h1b:((y0:Int) != 0) = false:=by simp [h1]
          have hbq:=Below.refl w5.heap.size w5
          go_wp2_with fail
          (with_reducible refine wp_on hbq (by kernel_rfl) (by kernel_rfl) ?_);(repeat (go_big_quiet_step (fail)));(first | with_reducible refine wpQuiet_nil ?_ | refine wpQuiet_nil ?_);intro wq hbq
          go_wp2_with fail
          (with_reducible refine wp_on hbq (by kernel_rfl) (by kernel_rfl) ?_);(repeat (go_big_quiet_step (fail)));(first | with_reducible refine wpQuiet_nil ?_ | refine wpQuiet_nil ?_);intro wq hbq
          have hwc:=HW5.out.trans (hbq.mono HW5.out.size)
          have HX:=Lib.hid (show scan (i + 1) (fun i => win14 (⟨parts,chans,len0,win0,len1,win1⟩:Cfg) 0 (row win0 i)) = false from scan_next HT.out (show win14 (⟨parts,chans,len0,win0,len1,win1⟩:Cfg) 0 (row win0 i) = false by rw [row_at E1.out];rw [win14,show partB (⟨parts,chans,len0,win0,len1,win1⟩:Cfg) (fld [(j:Int),x1,x2] 0) = true from HA.out,show row (⟨parts,chans,len0,win0,len1,win1⟩:Cfg).parts (fld [(j:Int),x1,x2] 0).toNat = [y0,y1] from row_at F1.out];exact (show decide (y0 ≠ 0) = false from decide_eq_false (fun h => h h1))))
          go_wp2
          go_roundw
          case rel => exact ⟨i + 1,by omega,by go_num,HX.out,hwc⟩
          case measure => simp [intOf];omega
        · have h1a:((y0:Int) == 0) = false:=by simp [h1]
          have h1b:((y0:Int) != 0) = true:=by simp [h1]
          have HX:=Lib.hid (show winsB (⟨parts,chans,len0,win0,len1,win1⟩:Cfg) 0 len0 win0 14 = true from scan_hit (f:=(fun i => win14 (⟨parts,chans,len0,win0,len1,win1⟩:Cfg) 0 (row win0 i))) hlt (show win14 (⟨parts,chans,len0,win0,len1,win1⟩:Cfg) 0 (row win0 i) = true by rw [row_at E1.out];rw [win14,show partB (⟨parts,chans,len0,win0,len1,win1⟩:Cfg) (fld [(j:Int),x1,x2] 0) = true from HA.out,show row (⟨parts,chans,len0,win0,len1,win1⟩:Cfg).parts (fld [(j:Int),x1,x2] 0).toNat = [y0,y1] from row_at F1.out];exact (show decide (y0 ≠ 0) = true from decide_eq_true h1)))
          go_wp2
          go_ret
          exact ⟨by rw [HX.out];rfl,HB.out.trans (HW5.out.mono HB.out.size)⟩
      · have hA:partB (⟨parts,chans,len0,win0,len1,win1⟩:Cfg) x0 = false:=by simpa using hA
        have HA:=Lib.hid hA
        clear hA
        go_wp2_with (rw [← hwa.out])
        refine (part_is parts chans len0 win0 len1 win1 pa pc ca cc (some ⟨b,o,none⟩) ac ba bc x0 false _ HA.out).mono ?_
        rintro e w5 ⟨rfl,hb5⟩
        have hbc:=HWB.out.trans (hb5.mono HWB.out.size)
        have HX:=Lib.hid (show winsB (⟨parts,chans,len0,win0,len1,win1⟩:Cfg) 0 len0 win0 14 = true from scan_hit (f:=(fun i => win14 (⟨parts,chans,len0,win0,len1,win1⟩:Cfg) 0 (row win0 i))) hlt (show win14 (⟨parts,chans,len0,win0,len1,win1⟩:Cfg) 0 (row win0 i) = true by rw [row_at E1.out];rw [win14,show partB (⟨parts,chans,len0,win0,len1,win1⟩:Cfg) (fld [x0,x1,x2] 0) = false from HA.out];rfl))
        go_wp2
        go_ret
        exact ⟨by rw [HX.out];rfl,HB.out.trans (hbc.mono HB.out.size)⟩
    · have HS:=Lib.hid (show winsB (⟨parts,chans,len0,win0,len1,win1⟩:Cfg) 0 len0 win0 14 = false by have h:=HT.out;rw [show i = win0.length by omega] at h;exact h)
      clear HT
      go_wp2
      go_ret
      exact ⟨by rw [HS.out];rfl,HB.out.trans (hbc.mono HB.out.size)⟩
set_option maxRecDepth 100000 in
set_option maxHeartbeats 8000000 in
theorem rwins1_14 (parts chans:List (List Int)) (len0:Int) (win0:List (List Int)) (len1:Int) (win1:List (List Int)) (pa:Option Addr) (pc:Nat) (ca:Option Addr) (cc:Nat) (aa:Option Addr) (ac:Nat) (ba:Option Addr) (bc:Nat) (w:World) (hp:RowN [.i64,.i64] w w.heap.size pa parts) (hpw:wfR [.i64,.i64] parts) (hpl:parts.length ≤ 1000000) (hc:RowN [.i64,.i64,.i64,.i64,.i64,.i64,.u32] w w.heap.size ca chans) (hcw:wfR [.i64,.i64,.i64,.i64,.i64,.i64,.u32] chans) (hcl:chans.length ≤ 1000000) (h0:RowN [.i64,.i64,.i64] w w.heap.size aa win0) (h0w:wfR [.i64,.i64,.i64] win0) (h0l:win0.length ≤ 1000000) (h1:RowN [.i64,.i64,.i64] w w.heap.size ba win1) (h1w:wfR [.i64,.i64,.i64] win1) (h1l:win1.length ≤ 1000000):Calls Tryz.prog 106 #[.agg #[.slice pa parts.length pc,.slice ca chans.length cc,.int .i64 len0,.slice aa win0.length ac,.int .i64 len1,.slice ba win1.length bc],.int .i64 1,.int .i64 14] w fun e w' => e = .returned (.bool (winsB (⟨parts,chans,len0,win0,len1,win1⟩:Cfg) 1 len1 win1 14)) ∧ Below w.heap.size w w':=by
  obtain ⟨W,HW,hB,-,bx⟩:=one_cbox w ⟨parts,chans,len0,win0,len1,win1⟩ ⟨pa,pc,ca,cc,aa,ac,ba,bc⟩ 29
  have HB:=Lib.hid hB
  have hp:=hp.later hB;have hc:=hc.later hB;have h0:=h0.later hB;have h1:=h1.later hB
  clear hB
  go_enter Tryz.func106,Tryz.ntmps106
  go_wp2
  go_loopw [8] (fun ix wr => ∃ i:Nat,i ≤ win1.length ∧ ix = .int .i64 i ∧ scan i (fun i => win14 (⟨parts,chans,len0,win0,len1,win1⟩:Cfg) 1 (row win1 i)) = false ∧ Below W.heap.size W wr) (fun ix _ => win1.length - (intOf ix).toNat)
  case atStart => exact ⟨0,Nat.zero_le _,rfl,rfl,(by rw [← HW.out];exact Below.refl _ _)⟩
  case round =>
    obtain ⟨i,hi,rfl,ht,hbc⟩:=hrel
    have HT:=Lib.hid ht
    obtain ⟨c0,c1,c2,c3,c4,c5⟩:=bx _ hbc
    clear ht
    by_cases hlt:i < win1.length
    · obtain ⟨b,o,x0,x1,x2,e0,_,e1,⟨hw0,hw1,hw2⟩,k0⟩:=h1.at3 h1w hlt
      subst e0
      have k0:=k0 _ hbc
      obtain ⟨p0,k0⟩:=k0
      obtain ⟨p1,p2⟩:=k0
      have E1:=Lib.hid e1
      clear e1
      obtain ⟨wa,hwa⟩:∃ u,Hid (u = wr.alloc (.cells #[.int .i64 x0,.int .i64 x1,.int .i64 x2] 133)):=⟨_,rfl⟩
      have hba:Below wr.heap.size wr wa:=by rw [hwa.out];exact (Below.refl _ _).alloc (Nat.le_refl _) _
      have hxa:wa.heap[wr.heap.size]? = some (.cells #[.int .i64 x0,.int .i64 x1,.int .i64 x2] 133 (0,0)):=by rw [hwa.out];exact heap_alloc_new _ _
      have hwb:=hbc.trans (hba.mono hbc.size)
      have hla:wr.heap.size < wa.heap.size:=(Array.getElem?_eq_some_iff.1 hxa).1
      obtain ⟨a0,a1,a2,a3,a4,a5⟩:=bx _ hwb
      have q0:=cell_blk hxa (i:=0) rfl
      have HWB:=Lib.hid hwb
      clear hwb hba
      by_cases hA:partB (⟨parts,chans,len0,win0,len1,win1⟩:Cfg) x0 = true
      · have hA':0 ≤ x0 ∧ x0 < (parts.length:Int):=of_decide_eq_true hA
        have HA:=Lib.hid hA
        clear hA
        obtain ⟨j,rfl⟩:=Int.eq_ofNat_of_zero_le hA'.1
        have hj:j < parts.length:=by have:=hA'.2;omega
        go_wp2_with (rw [← hwa.out])
        refine (part_is parts chans len0 win0 len1 win1 pa pc ca cc aa ac (some ⟨b,o,none⟩) bc (j:Int) true _ HA.out).mono ?_
        rintro e w5 ⟨rfl,hb5⟩
        have hxb:=(hb5.block _ hla).trans hxa
        have hw5:=HWB.out.trans (hb5.mono HWB.out.size)
        obtain ⟨b0,b1,b2,b3,b4,b5⟩:=bx _ hw5
        have q2:=cell_blk hxb (i:=0) rfl
        obtain ⟨bp,op,y0,y1,f0,_,f1,_,r0⟩:=hp.at2 hpw hj
        obtain ⟨r1,r2⟩:=r0 _ hw5
        have F1:=Lib.hid f1
        have HW5:=Lib.hid hw5
        have hj1:(0:Int) ≤ (j:Int):=by omega
        have hj2:(j:Int) < (parts.length:Int):=by omega
        clear f1 r0 hw5 hxb hb5 a0 a1 a2 a3 a4 a5 q0 hA'
        subst f0
        by_cases h1:y0 = 1
        · have h1a:((y0:Int) == 1) = true:=by simp [h1]
          have h1b:((y0:Int) != 1) = false:=by simp [h1]
          have hbq:=Below.refl w5.heap.size w5
          go_wp2_with fail
          (with_reducible refine wp_on hbq (by kernel_rfl) (by kernel_rfl) ?_);(repeat (go_big_quiet_step (fail)));(first | with_reducible refine wpQuiet_nil ?_ | refine wpQuiet_nil ?_);intro wq hbq
          go_wp2_with fail
          (with_reducible refine wp_on hbq (by kernel_rfl) (by kernel_rfl) ?_);(repeat (go_big_quiet_step (fail)));(first | with_reducible refine wpQuiet_nil ?_ | refine wpQuiet_nil ?_);intro wq hbq
          have hwc:=HW5.out.trans (hbq.mono HW5.out.size)
          have HX:=Lib.hid (show scan (i + 1) (fun i => win14 (⟨parts,chans,len0,win0,len1,win1⟩:Cfg) 1 (row win1 i)) = false from scan_next HT.out (show win14 (⟨parts,chans,len0,win0,len1,win1⟩:Cfg) 1 (row win1 i) = false by rw [row_at E1.out];rw [win14,show partB (⟨parts,chans,len0,win0,len1,win1⟩:Cfg) (fld [(j:Int),x1,x2] 0) = true from HA.out,show row (⟨parts,chans,len0,win0,len1,win1⟩:Cfg).parts (fld [(j:Int),x1,x2] 0).toNat = [y0,y1] from row_at F1.out];exact (show decide (y0 ≠ 1) = false from decide_eq_false (fun h => h h1))))
          go_wp2
          go_roundw
          case rel => exact ⟨i + 1,by omega,by go_num,HX.out,hwc⟩
          case measure => simp [intOf];omega
        · have h1a:((y0:Int) == 1) = false:=by simp [h1]
          have h1b:((y0:Int) != 1) = true:=by simp [h1]
          have HX:=Lib.hid (show winsB (⟨parts,chans,len0,win0,len1,win1⟩:Cfg) 1 len1 win1 14 = true from scan_hit (f:=(fun i => win14 (⟨parts,chans,len0,win0,len1,win1⟩:Cfg) 1 (row win1 i))) hlt (show win14 (⟨parts,chans,len0,win0,len1,win1⟩:Cfg) 1 (row win1 i) = true by rw [row_at E1.out];rw [win14,show partB (⟨parts,chans,len0,win0,len1,win1⟩:Cfg) (fld [(j:Int),x1,x2] 0) = true from HA.out,show row (⟨parts,chans,len0,win0,len1,win1⟩:Cfg).parts (fld [(j:Int),x1,x2] 0).toNat = [y0,y1] from row_at F1.out];exact (show decide (y0 ≠ 1) = true from decide_eq_true h1)))
          go_wp2
          go_ret
          exact ⟨by rw [HX.out];rfl,HB.out.trans (HW5.out.mono HB.out.size)⟩
      · have hA:partB (⟨parts,chans,len0,win0,len1,win1⟩:Cfg) x0 = false:=by simpa using hA
        have HA:=Lib.hid hA
        clear hA
        go_wp2_with (rw [← hwa.out])
        refine (part_is parts chans len0 win0 len1 win1 pa pc ca cc aa ac (some ⟨b,o,none⟩) bc x0 false _ HA.out).mono ?_
        rintro e w5 ⟨rfl,hb5⟩
        have hbc:=HWB.out.trans (hb5.mono HWB.out.size)
        have HX:=Lib.hid (show winsB (⟨parts,chans,len0,win0,len1,win1⟩:Cfg) 1 len1 win1 14 = true from scan_hit (f:=(fun i => win14 (⟨parts,chans,len0,win0,len1,win1⟩:Cfg) 1 (row win1 i))) hlt (show win14 (⟨parts,chans,len0,win0,len1,win1⟩:Cfg) 1 (row win1 i) = true by rw [row_at E1.out];rw [win14,show partB (⟨parts,chans,len0,win0,len1,win1⟩:Cfg) (fld [x0,x1,x2] 0) = false from HA.out];rfl))
        go_wp2
        go_ret
        exact ⟨by rw [HX.out];rfl,HB.out.trans (hbc.mono HB.out.size)⟩
    · have HS:=Lib.hid (show winsB (⟨parts,chans,len0,win0,len1,win1⟩:Cfg) 1 len1 win1 14 = false by have h:=HT.out;rw [show i = win1.length by omega] at h;exact h)
      clear HT
      go_wp2
      go_ret
      exact ⟨by rw [HS.out];rfl,HB.out.trans (hbc.mono HB.out.size)⟩
end Go.Proofs.YtheeiklgblcjfaaGreatDoor
end
section
namespace Go.Proofs.YtheeiklgblcjfaaGreatDoor
open Go.RowKit Go.Sort
set_option linter.unusedVariables false
set_option linter.unusedSimpArgs false
set_option maxRecDepth 100000 in
set_option maxHeartbeats 4000000 in
theorem rchans5 (parts chans:List (List Int)) (len0:Int) (win0:List (List Int)) (len1:Int) (win1:List (List Int)) (pa:Option Addr) (pc:Nat) (ca:Option Addr) (cc:Nat) (aa:Option Addr) (ac:Nat) (ba:Option Addr) (bc:Nat) (w:World) (hp:RowN [.i64,.i64] w w.heap.size pa parts) (hpw:wfR [.i64,.i64] parts) (hpl:parts.length ≤ 1000000) (hc:RowN [.i64,.i64,.i64,.i64,.i64,.i64,.u32] w w.heap.size ca chans) (hcw:wfR [.i64,.i64,.i64,.i64,.i64,.i64,.u32] chans) (hcl:chans.length ≤ 1000000) (h0:RowN [.i64,.i64,.i64] w w.heap.size aa win0) (h0w:wfR [.i64,.i64,.i64] win0) (h0l:win0.length ≤ 1000000) (h1:RowN [.i64,.i64,.i64] w w.heap.size ba win1) (h1w:wfR [.i64,.i64,.i64] win1) (h1l:win1.length ≤ 1000000):Calls Tryz.prog 105 #[.agg #[.slice pa parts.length pc,.slice ca chans.length cc,.int .i64 len0,.slice aa win0.length ac,.int .i64 len1,.slice ba win1.length bc],.int .i64 5] w fun e w' => e = .returned (.bool (chansB (⟨parts,chans,len0,win0,len1,win1⟩:Cfg) 5)) ∧ Below w.heap.size w w':=by
  obtain ⟨W,HW,hB,-,bx⟩:=one_cbox w ⟨parts,chans,len0,win0,len1,win1⟩ ⟨pa,pc,ca,cc,aa,ac,ba,bc⟩ 29
  have HB:=Lib.hid hB
  have hp:=hp.later hB;have hc:=hc.later hB;have h0:=h0.later hB;have h1:=h1.later hB
  clear hB
  go_enter Tryz.func105,Tryz.ntmps105
  go_wp2
  go_loopw [5] (fun ix wr => ∃ i:Nat,i ≤ chans.length ∧ ix = .int .i64 i ∧ scan i (fun i => chanBad parts.length 5 (row chans i)) = false ∧ Below W.heap.size W wr) (fun ix _ => chans.length - (intOf ix).toNat)
  case atStart => exact ⟨0,Nat.zero_le _,rfl,rfl,(by rw [← HW.out];exact Below.refl _ _)⟩
  case round =>
    obtain ⟨i,hi,rfl,ht,hbc⟩:=hrel
    have HT:=Lib.hid ht
    obtain ⟨c0,c1,c2,c3,c4,c5⟩:=bx _ hbc
    clear ht
    by_cases hlt:i < chans.length
    · obtain ⟨b,o,x0,x1,x2,x3,x4,x5,x6,e0,_,e1,⟨hw0,hw1,hw2,hw3,hw4,hw5,hw6⟩,k0⟩:=hc.at7 hcw hlt
      subst e0
      have k0:=k0 _ hbc
      obtain ⟨p0,k0⟩:=k0
      obtain ⟨p1,k0⟩:=k0
      obtain ⟨p2,k0⟩:=k0
      obtain ⟨p3,k0⟩:=k0
      obtain ⟨p4,k0⟩:=k0
      obtain ⟨p5,p6⟩:=k0
      have E1:=Lib.hid e1
      clear e1
      by_cases h1:x0 = 1
      · have h1a:((x0:Int) == 1) = true:=by simp [h1]
        have h1b:((x0:Int) != 1) = false:=by simp [h1]
        have HX:=Lib.hid (show scan (i + 1) (fun i => chanBad parts.length 5 (row chans i)) = false from scan_next HT.out (show chanBad parts.length 5 (row chans i) = false by rw [row_at E1.out];exact (show decide (x0 ≠ 1 ∧ x0 ≠ 2) = false from decide_eq_false (by omega))))
        go_wp2
        go_roundw
        case rel => exact ⟨i + 1,by omega,by go_num,HX.out,hbc.alloc hbc.size _⟩
        case measure => simp [intOf];omega
      · have h1a:((x0:Int) == 1) = false:=by simp [h1]
        have h1b:((x0:Int) != 1) = true:=by simp [h1]
        by_cases h2:x0 = 2
        · have h2a:((x0:Int) == 2) = true:=by simp [h2]
          have h2b:((x0:Int) != 2) = false:=by simp [h2]
          have HX:=Lib.hid (show scan (i + 1) (fun i => chanBad parts.length 5 (row chans i)) = false from scan_next HT.out (show chanBad parts.length 5 (row chans i) = false by rw [row_at E1.out];exact (show decide (x0 ≠ 1 ∧ x0 ≠ 2) = false from decide_eq_false (by omega))))
          go_wp2
          go_roundw
          case rel => exact ⟨i + 1,by omega,by go_num,HX.out,hbc.alloc hbc.size _⟩
          case measure => simp [intOf];omega
        · have h2a:((x0:Int) == 2) = false:=by simp [h2]
          have h2b:((x0:Int) != 2) = true:=by simp [h2]
          have HX:=Lib.hid (show chansB (⟨parts,chans,len0,win0,len1,win1⟩:Cfg) 5 = true from scan_hit (f:=(fun i => chanBad parts.length 5 (row chans i))) hlt (show chanBad parts.length 5 (row chans i) = true by rw [row_at E1.out];exact (show decide (x0 ≠ 1 ∧ x0 ≠ 2) = true from decide_eq_true (by omega))))
          go_wp2
          go_ret
          exact ⟨by rw [HX.out];rfl,HB.out.trans ((hbc.alloc hbc.size _).mono HB.out.size)⟩
    · have HS:=Lib.hid (show chansB (⟨parts,chans,len0,win0,len1,win1⟩:Cfg) 5 = false by have h:=HT.out;rw [show i = chans.length by omega] at h;exact h)
      clear HT
      go_wp2
      go_ret
      exact ⟨by rw [HS.out];rfl,HB.out.trans (hbc.mono HB.out.size)⟩
end Go.Proofs.YtheeiklgblcjfaaGreatDoor
namespace Go.Proofs.YtheeiklgblcjfaaGreatDoor
open Go.RowKit Go.Sort
set_option linter.unusedVariables false
set_option linter.unusedSimpArgs false
set_option maxRecDepth 100000 in
set_option maxHeartbeats 4000000 in
theorem rchans6 (parts chans:List (List Int)) (len0:Int) (win0:List (List Int)) (len1:Int) (win1:List (List Int)) (pa:Option Addr) (pc:Nat) (ca:Option Addr) (cc:Nat) (aa:Option Addr) (ac:Nat) (ba:Option Addr) (bc:Nat) (w:World) (hp:RowN [.i64,.i64] w w.heap.size pa parts) (hpw:wfR [.i64,.i64] parts) (hpl:parts.length ≤ 1000000) (hc:RowN [.i64,.i64,.i64,.i64,.i64,.i64,.u32] w w.heap.size ca chans) (hcw:wfR [.i64,.i64,.i64,.i64,.i64,.i64,.u32] chans) (hcl:chans.length ≤ 1000000) (h0:RowN [.i64,.i64,.i64] w w.heap.size aa win0) (h0w:wfR [.i64,.i64,.i64] win0) (h0l:win0.length ≤ 1000000) (h1:RowN [.i64,.i64,.i64] w w.heap.size ba win1) (h1w:wfR [.i64,.i64,.i64] win1) (h1l:win1.length ≤ 1000000):Calls Tryz.prog 105 #[.agg #[.slice pa parts.length pc,.slice ca chans.length cc,.int .i64 len0,.slice aa win0.length ac,.int .i64 len1,.slice ba win1.length bc],.int .i64 6] w fun e w' => e = .returned (.bool (chansB (⟨parts,chans,len0,win0,len1,win1⟩:Cfg) 6)) ∧ Below w.heap.size w w':=by
  obtain ⟨W,HW,hB,-,bx⟩:=one_cbox w ⟨parts,chans,len0,win0,len1,win1⟩ ⟨pa,pc,ca,cc,aa,ac,ba,bc⟩ 29
  have HB:=Lib.hid hB
  have hp:=hp.later hB;have hc:=hc.later hB;have h0:=h0.later hB;have h1:=h1.later hB
  clear hB
  go_enter Tryz.func105,Tryz.ntmps105
  go_wp2
  go_loopw [5] (fun ix wr => ∃ i:Nat,i ≤ chans.length ∧ ix = .int .i64 i ∧ scan i (fun i => chanBad parts.length 6 (row chans i)) = false ∧ Below W.heap.size W wr) (fun ix _ => chans.length - (intOf ix).toNat)
  case atStart => exact ⟨0,Nat.zero_le _,rfl,rfl,(by rw [← HW.out];exact Below.refl _ _)⟩
  case round =>
    obtain ⟨i,hi,rfl,ht,hbc⟩:=hrel
    have HT:=Lib.hid ht
    obtain ⟨c0,c1,c2,c3,c4,c5⟩:=bx _ hbc
    clear ht
    by_cases hlt:i < chans.length
    · obtain ⟨b,o,x0,x1,x2,x3,x4,x5,x6,e0,_,e1,⟨hw0,hw1,hw2,hw3,hw4,hw5,hw6⟩,k0⟩:=hc.at7 hcw hlt
      subst e0
      have k0:=k0 _ hbc
      obtain ⟨p0,k0⟩:=k0
      obtain ⟨p1,k0⟩:=k0
      obtain ⟨p2,k0⟩:=k0
      obtain ⟨p3,k0⟩:=k0
      obtain ⟨p4,k0⟩:=k0
      obtain ⟨p5,p6⟩:=k0
      have E1:=Lib.hid e1
      clear e1
      obtain ⟨wa,hwa⟩:∃ u,Hid (u = wr.alloc (.cells #[.int .i64 x0,.int .i64 x1,.int .i64 x2,.int .i64 x3,.int .i64 x4,.int .i64 x5,.int .u32 x6] 91)):=⟨_,rfl⟩
      have hba:Below wr.heap.size wr wa:=by rw [hwa.out];exact (Below.refl _ _).alloc (Nat.le_refl _) _
      have hxa:wa.heap[wr.heap.size]? = some (.cells #[.int .i64 x0,.int .i64 x1,.int .i64 x2,.int .i64 x3,.int .i64 x4,.int .i64 x5,.int .u32 x6] 91 (0,0)):=by rw [hwa.out];exact heap_alloc_new _ _
      have hwb:=hbc.trans (hba.mono hbc.size)
      obtain ⟨a0,a1,a2,a3,a4,a5⟩:=bx _ hwb
      have q1:=cell_blk hxa (i:=1) rfl
      have hla:wr.heap.size < wa.heap.size:=(Array.getElem?_eq_some_iff.1 hxa).1
      have HWB:=Lib.hid hwb
      clear hba hwb
      by_cases hA:partB (⟨parts,chans,len0,win0,len1,win1⟩:Cfg) x1 = true
      · have hA':=of_decide_eq_true hA
        have HA:=Lib.hid hA
        clear hA
        go_wp2_with (rw [← hwa.out])
        refine (part_is parts chans len0 win0 len1 win1 pa pc (some ⟨b,o,none⟩) cc aa ac ba bc x1 true _ HA.out).mono ?_
        rintro e w5 ⟨rfl,hb5⟩
        have hxb:=(hb5.block _ hla).trans hxa
        have hwb:=HWB.out.trans (hb5.mono HWB.out.size)
        obtain ⟨b0,b1,b2,b3,b4,b5⟩:=bx _ hwb
        have q2:=cell_blk hxb (i:=2) rfl
        have HWB5:=Lib.hid hwb
        clear hwb hxb hb5 a0 a1 a2 a3 a4 a5 q1
        by_cases hC:partB (⟨parts,chans,len0,win0,len1,win1⟩:Cfg) x2 = true
        · have hC':=of_decide_eq_true hC
          have HC:=Lib.hid hC
          clear hC
          go_wp2_with fail
          refine (part_is parts chans len0 win0 len1 win1 pa pc (some ⟨b,o,none⟩) cc aa ac ba bc x2 true _ HC.out).mono ?_
          rintro e w6 ⟨rfl,hb6⟩
          have hbc:=HWB5.out.trans (hb6.mono HWB5.out.size)
          have hA2:0 ≤ x1 ∧ x1 < (parts.length:Int):=hA'
          have hC2:0 ≤ x2 ∧ x2 < (parts.length:Int):=hC'
          clear hA' hC'
          have HX:=Lib.hid (show scan (i + 1) (fun i => chanBad parts.length 6 (row chans i)) = false from scan_next HT.out (show chanBad parts.length 6 (row chans i) = false by rw [row_at E1.out];exact (show decide (¬ (0 ≤ x1 ∧ x1 < (parts.length:Int)) ∨ ¬ (0 ≤ x2 ∧ x2 < (parts.length:Int))) = false from decide_eq_false (by omega))))
          go_wp2
          go_roundw
          case rel => exact ⟨i + 1,by omega,by go_num,HX.out,hbc⟩
          case measure => simp [intOf];omega
        · have hC:partB (⟨parts,chans,len0,win0,len1,win1⟩:Cfg) x2 = false:=by simpa using hC
          have hC':=of_decide_eq_false hC
          have HC:=Lib.hid hC
          clear hC
          go_wp2_with fail
          refine (part_is parts chans len0 win0 len1 win1 pa pc (some ⟨b,o,none⟩) cc aa ac ba bc x2 false _ HC.out).mono ?_
          rintro e w6 ⟨rfl,hb6⟩
          have hbc:=HWB5.out.trans (hb6.mono HWB5.out.size)
          have hC2:¬ (0 ≤ x2 ∧ x2 < (parts.length:Int)):=hC'
          clear hA' hC'
          have HX:=Lib.hid (show chansB (⟨parts,chans,len0,win0,len1,win1⟩:Cfg) 6 = true from scan_hit (f:=(fun i => chanBad parts.length 6 (row chans i))) hlt (show chanBad parts.length 6 (row chans i) = true by rw [row_at E1.out];exact (show decide (¬ (0 ≤ x1 ∧ x1 < (parts.length:Int)) ∨ ¬ (0 ≤ x2 ∧ x2 < (parts.length:Int))) = true from decide_eq_true (by omega))))
          go_wp2
          go_ret
          exact ⟨by rw [HX.out];rfl,HB.out.trans (hbc.mono HB.out.size)⟩
      · have hA:partB (⟨parts,chans,len0,win0,len1,win1⟩:Cfg) x1 = false:=by simpa using hA
        have hA':=of_decide_eq_false hA
        have HA:=Lib.hid hA
        clear hA
        go_wp2_with (rw [← hwa.out])
        refine (part_is parts chans len0 win0 len1 win1 pa pc (some ⟨b,o,none⟩) cc aa ac ba bc x1 false _ HA.out).mono ?_
        rintro e w5 ⟨rfl,hb5⟩
        have hbc:=HWB.out.trans (hb5.mono HWB.out.size)
        have hA2:¬ (0 ≤ x1 ∧ x1 < (parts.length:Int)):=hA'
        clear hA'
        have HX:=Lib.hid (show chansB (⟨parts,chans,len0,win0,len1,win1⟩:Cfg) 6 = true from scan_hit (f:=(fun i => chanBad parts.length 6 (row chans i))) hlt (show chanBad parts.length 6 (row chans i) = true by rw [row_at E1.out];exact (show decide (¬ (0 ≤ x1 ∧ x1 < (parts.length:Int)) ∨ ¬ (0 ≤ x2 ∧ x2 < (parts.length:Int))) = true from decide_eq_true (by omega))))
        go_wp2
        go_ret
        exact ⟨by rw [HX.out];rfl,HB.out.trans (hbc.mono HB.out.size)⟩
    · have HS:=Lib.hid (show chansB (⟨parts,chans,len0,win0,len1,win1⟩:Cfg) 6 = false by have h:=HT.out;rw [show i = chans.length by omega] at h;exact h)
      clear HT
      go_wp2
      go_ret
      exact ⟨by rw [HS.out];rfl,HB.out.trans (hbc.mono HB.out.size)⟩
end Go.Proofs.YtheeiklgblcjfaaGreatDoor
namespace Go.Proofs.YtheeiklgblcjfaaGreatDoor
open Go.RowKit Go.Sort
set_option linter.unusedVariables false
set_option linter.unusedSimpArgs false
set_option maxRecDepth 100000 in
set_option maxHeartbeats 4000000 in
theorem rchans7 (parts chans:List (List Int)) (len0:Int) (win0:List (List Int)) (len1:Int) (win1:List (List Int)) (pa:Option Addr) (pc:Nat) (ca:Option Addr) (cc:Nat) (aa:Option Addr) (ac:Nat) (ba:Option Addr) (bc:Nat) (w:World) (hp:RowN [.i64,.i64] w w.heap.size pa parts) (hpw:wfR [.i64,.i64] parts) (hpl:parts.length ≤ 1000000) (hc:RowN [.i64,.i64,.i64,.i64,.i64,.i64,.u32] w w.heap.size ca chans) (hcw:wfR [.i64,.i64,.i64,.i64,.i64,.i64,.u32] chans) (hcl:chans.length ≤ 1000000) (h0:RowN [.i64,.i64,.i64] w w.heap.size aa win0) (h0w:wfR [.i64,.i64,.i64] win0) (h0l:win0.length ≤ 1000000) (h1:RowN [.i64,.i64,.i64] w w.heap.size ba win1) (h1w:wfR [.i64,.i64,.i64] win1) (h1l:win1.length ≤ 1000000):Calls Tryz.prog 105 #[.agg #[.slice pa parts.length pc,.slice ca chans.length cc,.int .i64 len0,.slice aa win0.length ac,.int .i64 len1,.slice ba win1.length bc],.int .i64 7] w fun e w' => e = .returned (.bool (chansB (⟨parts,chans,len0,win0,len1,win1⟩:Cfg) 7)) ∧ Below w.heap.size w w':=by
  obtain ⟨W,HW,hB,-,bx⟩:=one_cbox w ⟨parts,chans,len0,win0,len1,win1⟩ ⟨pa,pc,ca,cc,aa,ac,ba,bc⟩ 29
  have HB:=Lib.hid hB
  have hp:=hp.later hB;have hc:=hc.later hB;have h0:=h0.later hB;have h1:=h1.later hB
  clear hB
  go_enter Tryz.func105,Tryz.ntmps105
  go_wp2
  go_loopw [5] (fun ix wr => ∃ i:Nat,i ≤ chans.length ∧ ix = .int .i64 i ∧ scan i (fun i => chanBad parts.length 7 (row chans i)) = false ∧ Below W.heap.size W wr) (fun ix _ => chans.length - (intOf ix).toNat)
  case atStart => exact ⟨0,Nat.zero_le _,rfl,rfl,(by rw [← HW.out];exact Below.refl _ _)⟩
  case round =>
    obtain ⟨i,hi,rfl,ht,hbc⟩:=hrel
    have HT:=Lib.hid ht
    obtain ⟨c0,c1,c2,c3,c4,c5⟩:=bx _ hbc
    clear ht
    by_cases hlt:i < chans.length
    · obtain ⟨b,o,x0,x1,x2,x3,x4,x5,x6,e0,_,e1,⟨hw0,hw1,hw2,hw3,hw4,hw5,hw6⟩,k0⟩:=hc.at7 hcw hlt
      subst e0
      have k0:=k0 _ hbc
      obtain ⟨p0,k0⟩:=k0
      obtain ⟨p1,k0⟩:=k0
      obtain ⟨p2,k0⟩:=k0
      obtain ⟨p3,k0⟩:=k0
      obtain ⟨p4,k0⟩:=k0
      obtain ⟨p5,p6⟩:=k0
      have E1:=Lib.hid e1
      clear e1
      by_cases h1:x1 = x2
      · have h1a:((x1:Int) == x2) = true:=by simp [h1]
        have h1b:((x1:Int) != x2) = false:=by simp [h1]
        have HX:=Lib.hid (show chansB (⟨parts,chans,len0,win0,len1,win1⟩:Cfg) 7 = true from scan_hit (f:=(fun i => chanBad parts.length 7 (row chans i))) hlt (show chanBad parts.length 7 (row chans i) = true by rw [row_at E1.out];exact (show decide (x1 = x2) = true from decide_eq_true (by omega))))
        go_wp2
        go_ret
        exact ⟨by rw [HX.out];rfl,HB.out.trans ((hbc.alloc hbc.size _).mono HB.out.size)⟩
      · have h1a:((x1:Int) == x2) = false:=by simp [h1]
        have h1b:((x1:Int) != x2) = true:=by simp [h1]
        have HX:=Lib.hid (show scan (i + 1) (fun i => chanBad parts.length 7 (row chans i)) = false from scan_next HT.out (show chanBad parts.length 7 (row chans i) = false by rw [row_at E1.out];exact (show decide (x1 = x2) = false from decide_eq_false (by omega))))
        go_wp2
        go_roundw
        case rel => exact ⟨i + 1,by omega,by go_num,HX.out,hbc.alloc hbc.size _⟩
        case measure => simp [intOf];omega
    · have HS:=Lib.hid (show chansB (⟨parts,chans,len0,win0,len1,win1⟩:Cfg) 7 = false by have h:=HT.out;rw [show i = chans.length by omega] at h;exact h)
      clear HT
      go_wp2
      go_ret
      exact ⟨by rw [HS.out];rfl,HB.out.trans (hbc.mono HB.out.size)⟩
end Go.Proofs.YtheeiklgblcjfaaGreatDoor
namespace Go.Proofs.YtheeiklgblcjfaaGreatDoor
open Go.RowKit Go.Sort
set_option linter.unusedVariables false
set_option linter.unusedSimpArgs false
set_option maxRecDepth 100000 in
set_option maxHeartbeats 4000000 in
theorem rchans8 (parts chans:List (List Int)) (len0:Int) (win0:List (List Int)) (len1:Int) (win1:List (List Int)) (pa:Option Addr) (pc:Nat) (ca:Option Addr) (cc:Nat) (aa:Option Addr) (ac:Nat) (ba:Option Addr) (bc:Nat) (w:World) (hp:RowN [.i64,.i64] w w.heap.size pa parts) (hpw:wfR [.i64,.i64] parts) (hpl:parts.length ≤ 1000000) (hc:RowN [.i64,.i64,.i64,.i64,.i64,.i64,.u32] w w.heap.size ca chans) (hcw:wfR [.i64,.i64,.i64,.i64,.i64,.i64,.u32] chans) (hcl:chans.length ≤ 1000000) (h0:RowN [.i64,.i64,.i64] w w.heap.size aa win0) (h0w:wfR [.i64,.i64,.i64] win0) (h0l:win0.length ≤ 1000000) (h1:RowN [.i64,.i64,.i64] w w.heap.size ba win1) (h1w:wfR [.i64,.i64,.i64] win1) (h1l:win1.length ≤ 1000000):Calls Tryz.prog 105 #[.agg #[.slice pa parts.length pc,.slice ca chans.length cc,.int .i64 len0,.slice aa win0.length ac,.int .i64 len1,.slice ba win1.length bc],.int .i64 8] w fun e w' => e = .returned (.bool (chansB (⟨parts,chans,len0,win0,len1,win1⟩:Cfg) 8)) ∧ Below w.heap.size w w':=by
  obtain ⟨W,HW,hB,-,bx⟩:=one_cbox w ⟨parts,chans,len0,win0,len1,win1⟩ ⟨pa,pc,ca,cc,aa,ac,ba,bc⟩ 29
  have HB:=Lib.hid hB
  have hp:=hp.later hB;have hc:=hc.later hB;have h0:=h0.later hB;have h1:=h1.later hB
  clear hB
  go_enter Tryz.func105,Tryz.ntmps105
  go_wp2
  go_loopw [5] (fun ix wr => ∃ i:Nat,i ≤ chans.length ∧ ix = .int .i64 i ∧ scan i (fun i => chanBad parts.length 8 (row chans i)) = false ∧ Below W.heap.size W wr) (fun ix _ => chans.length - (intOf ix).toNat)
  case atStart => exact ⟨0,Nat.zero_le _,rfl,rfl,(by rw [← HW.out];exact Below.refl _ _)⟩
  case round =>
    obtain ⟨i,hi,rfl,ht,hbc⟩:=hrel
    have HT:=Lib.hid ht
    obtain ⟨c0,c1,c2,c3,c4,c5⟩:=bx _ hbc
    clear ht
    by_cases hlt:i < chans.length
    · obtain ⟨b,o,x0,x1,x2,x3,x4,x5,x6,e0,_,e1,⟨hw0,hw1,hw2,hw3,hw4,hw5,hw6⟩,k0⟩:=hc.at7 hcw hlt
      subst e0
      have k0:=k0 _ hbc
      obtain ⟨p0,k0⟩:=k0
      obtain ⟨p1,k0⟩:=k0
      obtain ⟨p2,k0⟩:=k0
      obtain ⟨p3,k0⟩:=k0
      obtain ⟨p4,k0⟩:=k0
      obtain ⟨p5,p6⟩:=k0
      have E1:=Lib.hid e1
      clear e1
      by_cases h1:x3 < 1
      · have HX:=Lib.hid (show chansB (⟨parts,chans,len0,win0,len1,win1⟩:Cfg) 8 = true from scan_hit (f:=(fun i => chanBad parts.length 8 (row chans i))) hlt (show chanBad parts.length 8 (row chans i) = true by rw [row_at E1.out];exact (show decide (x3 < 1 ∨ 16 < x3) = true from decide_eq_true (by omega))))
        go_wp2
        go_ret
        exact ⟨by rw [HX.out];rfl,HB.out.trans ((hbc.alloc hbc.size _).mono HB.out.size)⟩
      · have h1d:decide (x3 < 1) = false:=decide_eq_false h1
        by_cases h2:16 < x3
        · have HX:=Lib.hid (show chansB (⟨parts,chans,len0,win0,len1,win1⟩:Cfg) 8 = true from scan_hit (f:=(fun i => chanBad parts.length 8 (row chans i))) hlt (show chanBad parts.length 8 (row chans i) = true by rw [row_at E1.out];exact (show decide (x3 < 1 ∨ 16 < x3) = true from decide_eq_true (by omega))))
          go_wp2
          go_ret
          exact ⟨by rw [HX.out];rfl,HB.out.trans ((hbc.alloc hbc.size _).mono HB.out.size)⟩
        · have h2d:decide (16 < x3) = false:=decide_eq_false h2
          have HX:=Lib.hid (show scan (i + 1) (fun i => chanBad parts.length 8 (row chans i)) = false from scan_next HT.out (show chanBad parts.length 8 (row chans i) = false by rw [row_at E1.out];exact (show decide (x3 < 1 ∨ 16 < x3) = false from decide_eq_false (by omega))))
          go_wp2
          go_roundw
          case rel => exact ⟨i + 1,by omega,by go_num,HX.out,hbc.alloc hbc.size _⟩
          case measure => simp [intOf];omega
    · have HS:=Lib.hid (show chansB (⟨parts,chans,len0,win0,len1,win1⟩:Cfg) 8 = false by have h:=HT.out;rw [show i = chans.length by omega] at h;exact h)
      clear HT
      go_wp2
      go_ret
      exact ⟨by rw [HS.out];rfl,HB.out.trans (hbc.mono HB.out.size)⟩
end Go.Proofs.YtheeiklgblcjfaaGreatDoor
namespace Go.Proofs.YtheeiklgblcjfaaGreatDoor
open Go.RowKit Go.Sort
set_option linter.unusedVariables false
set_option linter.unusedSimpArgs false
set_option maxRecDepth 100000 in
set_option maxHeartbeats 4000000 in
theorem rchans9 (parts chans:List (List Int)) (len0:Int) (win0:List (List Int)) (len1:Int) (win1:List (List Int)) (pa:Option Addr) (pc:Nat) (ca:Option Addr) (cc:Nat) (aa:Option Addr) (ac:Nat) (ba:Option Addr) (bc:Nat) (w:World) (hp:RowN [.i64,.i64] w w.heap.size pa parts) (hpw:wfR [.i64,.i64] parts) (hpl:parts.length ≤ 1000000) (hc:RowN [.i64,.i64,.i64,.i64,.i64,.i64,.u32] w w.heap.size ca chans) (hcw:wfR [.i64,.i64,.i64,.i64,.i64,.i64,.u32] chans) (hcl:chans.length ≤ 1000000) (h0:RowN [.i64,.i64,.i64] w w.heap.size aa win0) (h0w:wfR [.i64,.i64,.i64] win0) (h0l:win0.length ≤ 1000000) (h1:RowN [.i64,.i64,.i64] w w.heap.size ba win1) (h1w:wfR [.i64,.i64,.i64] win1) (h1l:win1.length ≤ 1000000):Calls Tryz.prog 105 #[.agg #[.slice pa parts.length pc,.slice ca chans.length cc,.int .i64 len0,.slice aa win0.length ac,.int .i64 len1,.slice ba win1.length bc],.int .i64 9] w fun e w' => e = .returned (.bool (chansB (⟨parts,chans,len0,win0,len1,win1⟩:Cfg) 9)) ∧ Below w.heap.size w w':=by
  obtain ⟨W,HW,hB,-,bx⟩:=one_cbox w ⟨parts,chans,len0,win0,len1,win1⟩ ⟨pa,pc,ca,cc,aa,ac,ba,bc⟩ 29
  have HB:=Lib.hid hB
  have hp:=hp.later hB;have hc:=hc.later hB;have h0:=h0.later hB;have h1:=h1.later hB
  clear hB
  go_enter Tryz.func105,Tryz.ntmps105
  go_wp2
  go_loopw [5] (fun ix wr => ∃ i:Nat,i ≤ chans.length ∧ ix = .int .i64 i ∧ scan i (fun i => chanBad parts.length 9 (row chans i)) = false ∧ Below W.heap.size W wr) (fun ix _ => chans.length - (intOf ix).toNat)
  case atStart => exact ⟨0,Nat.zero_le _,rfl,rfl,(by rw [← HW.out];exact Below.refl _ _)⟩
  case round =>
    obtain ⟨i,hi,rfl,ht,hbc⟩:=hrel
    have HT:=Lib.hid ht
    obtain ⟨c0,c1,c2,c3,c4,c5⟩:=bx _ hbc
    clear ht
    by_cases hlt:i < chans.length
    · obtain ⟨b,o,x0,x1,x2,x3,x4,x5,x6,e0,_,e1,⟨hw0,hw1,hw2,hw3,hw4,hw5,hw6⟩,k0⟩:=hc.at7 hcw hlt
      subst e0
      have k0:=k0 _ hbc
      obtain ⟨p0,k0⟩:=k0
      obtain ⟨p1,k0⟩:=k0
      obtain ⟨p2,k0⟩:=k0
      obtain ⟨p3,k0⟩:=k0
      obtain ⟨p4,k0⟩:=k0
      obtain ⟨p5,p6⟩:=k0
      have E1:=Lib.hid e1
      clear e1
      by_cases h1:x0 = 1
      · have h1a:((x0:Int) == 1) = true:=by simp [h1]
        have h1b:((x0:Int) != 1) = false:=by simp [h1]
        by_cases h2:x4 = 0
        · have h2a:((x4:Int) == 0) = true:=by simp [h2]
          have h2b:((x4:Int) != 0) = false:=by simp [h2]
          have HX:=Lib.hid (show scan (i + 1) (fun i => chanBad parts.length 9 (row chans i)) = false from scan_next HT.out (show chanBad parts.length 9 (row chans i) = false by rw [row_at E1.out];exact (show decide ((x0 = 1 ∧ x4 ≠ 0) ∨ (x0 = 2 ∧ x4 ≠ 1 ∧ x4 ≠ 2 ∧ x4 ≠ 4 ∧ x4 ≠ 8)) = false from decide_eq_false (by omega))))
          go_wp2
          go_roundw
          case rel => exact ⟨i + 1,by omega,by go_num,HX.out,hbc.alloc hbc.size _⟩
          case measure => simp [intOf];omega
        · have h2a:((x4:Int) == 0) = false:=by simp [h2]
          have h2b:((x4:Int) != 0) = true:=by simp [h2]
          have HX:=Lib.hid (show chansB (⟨parts,chans,len0,win0,len1,win1⟩:Cfg) 9 = true from scan_hit (f:=(fun i => chanBad parts.length 9 (row chans i))) hlt (show chanBad parts.length 9 (row chans i) = true by rw [row_at E1.out];exact (show decide ((x0 = 1 ∧ x4 ≠ 0) ∨ (x0 = 2 ∧ x4 ≠ 1 ∧ x4 ≠ 2 ∧ x4 ≠ 4 ∧ x4 ≠ 8)) = true from decide_eq_true (by omega))))
          go_wp2
          go_ret
          exact ⟨by rw [HX.out];rfl,HB.out.trans ((hbc.alloc hbc.size _).mono HB.out.size)⟩
      · have h1a:((x0:Int) == 1) = false:=by simp [h1]
        have h1b:((x0:Int) != 1) = true:=by simp [h1]
        by_cases h3:x0 = 2
        · have h3a:((x0:Int) == 2) = true:=by simp [h3]
          have h3b:((x0:Int) != 2) = false:=by simp [h3]
          by_cases h4:x4 = 1
          · have h4a:((x4:Int) == 1) = true:=by simp [h4]
            have h4b:((x4:Int) != 1) = false:=by simp [h4]
            have HX:=Lib.hid (show scan (i + 1) (fun i => chanBad parts.length 9 (row chans i)) = false from scan_next HT.out (show chanBad parts.length 9 (row chans i) = false by rw [row_at E1.out];exact (show decide ((x0 = 1 ∧ x4 ≠ 0) ∨ (x0 = 2 ∧ x4 ≠ 1 ∧ x4 ≠ 2 ∧ x4 ≠ 4 ∧ x4 ≠ 8)) = false from decide_eq_false (by omega))))
            go_wp2
            go_roundw
            case rel => exact ⟨i + 1,by omega,by go_num,HX.out,hbc.alloc hbc.size _⟩
            case measure => simp [intOf];omega
          · have h4a:((x4:Int) == 1) = false:=by simp [h4]
            have h4b:((x4:Int) != 1) = true:=by simp [h4]
            by_cases h5:x4 = 2
            · have h5a:((x4:Int) == 2) = true:=by simp [h5]
              have h5b:((x4:Int) != 2) = false:=by simp [h5]
              have HX:=Lib.hid (show scan (i + 1) (fun i => chanBad parts.length 9 (row chans i)) = false from scan_next HT.out (show chanBad parts.length 9 (row chans i) = false by rw [row_at E1.out];exact (show decide ((x0 = 1 ∧ x4 ≠ 0) ∨ (x0 = 2 ∧ x4 ≠ 1 ∧ x4 ≠ 2 ∧ x4 ≠ 4 ∧ x4 ≠ 8)) = false from decide_eq_false (by omega))))
              go_wp2
              go_roundw
              case rel => exact ⟨i + 1,by omega,by go_num,HX.out,hbc.alloc hbc.size _⟩
              case measure => simp [intOf];omega
            · have h5a:((x4:Int) == 2) = false:=by simp [h5]
              have h5b:((x4:Int) != 2) = true:=by simp [h5]
              by_cases h6:x4 = 4
              · have h6a:((x4:Int) == 4) = true:=by simp [h6]
                have h6b:((x4:Int) != 4) = false:=by simp [h6]
                have HX:=Lib.hid (show scan (i + 1) (fun i => chanBad parts.length 9 (row chans i)) = false from scan_next HT.out (show chanBad parts.length 9 (row chans i) = false by rw [row_at E1.out];exact (show decide ((x0 = 1 ∧ x4 ≠ 0) ∨ (x0 = 2 ∧ x4 ≠ 1 ∧ x4 ≠ 2 ∧ x4 ≠ 4 ∧ x4 ≠ 8)) = false from decide_eq_false (by omega))))
                go_wp2
                go_roundw
                case rel => exact ⟨i + 1,by omega,by go_num,HX.out,hbc.alloc hbc.size _⟩
                case measure => simp [intOf];omega
              · have h6a:((x4:Int) == 4) = false:=by simp [h6]
                have h6b:((x4:Int) != 4) = true:=by simp [h6]
                by_cases h7:x4 = 8
                · have h7a:((x4:Int) == 8) = true:=by simp [h7]
                  have h7b:((x4:Int) != 8) = false:=by simp [h7]
                  have HX:=Lib.hid (show scan (i + 1) (fun i => chanBad parts.length 9 (row chans i)) = false from scan_next HT.out (show chanBad parts.length 9 (row chans i) = false by rw [row_at E1.out];exact (show decide ((x0 = 1 ∧ x4 ≠ 0) ∨ (x0 = 2 ∧ x4 ≠ 1 ∧ x4 ≠ 2 ∧ x4 ≠ 4 ∧ x4 ≠ 8)) = false from decide_eq_false (by omega))))
                  go_wp2
                  go_roundw
                  case rel => exact ⟨i + 1,by omega,by go_num,HX.out,hbc.alloc hbc.size _⟩
                  case measure => simp [intOf];omega
                · have h7a:((x4:Int) == 8) = false:=by simp [h7]
                  have h7b:((x4:Int) != 8) = true:=by simp [h7]
                  have HX:=Lib.hid (show chansB (⟨parts,chans,len0,win0,len1,win1⟩:Cfg) 9 = true from scan_hit (f:=(fun i => chanBad parts.length 9 (row chans i))) hlt (show chanBad parts.length 9 (row chans i) = true by rw [row_at E1.out];exact (show decide ((x0 = 1 ∧ x4 ≠ 0) ∨ (x0 = 2 ∧ x4 ≠ 1 ∧ x4 ≠ 2 ∧ x4 ≠ 4 ∧ x4 ≠ 8)) = true from decide_eq_true (by omega))))
                  go_wp2
                  go_ret
                  exact ⟨by rw [HX.out];rfl,HB.out.trans ((hbc.alloc hbc.size _).mono HB.out.size)⟩
        · have h3a:((x0:Int) == 2) = false:=by simp [h3]
          have h3b:((x0:Int) != 2) = true:=by simp [h3]
          have HX:=Lib.hid (show scan (i + 1) (fun i => chanBad parts.length 9 (row chans i)) = false from scan_next HT.out (show chanBad parts.length 9 (row chans i) = false by rw [row_at E1.out];exact (show decide ((x0 = 1 ∧ x4 ≠ 0) ∨ (x0 = 2 ∧ x4 ≠ 1 ∧ x4 ≠ 2 ∧ x4 ≠ 4 ∧ x4 ≠ 8)) = false from decide_eq_false (by omega))))
          go_wp2
          go_roundw
          case rel => exact ⟨i + 1,by omega,by go_num,HX.out,hbc.alloc hbc.size _⟩
          case measure => simp [intOf];omega
    · have HS:=Lib.hid (show chansB (⟨parts,chans,len0,win0,len1,win1⟩:Cfg) 9 = false by have h:=HT.out;rw [show i = chans.length by omega] at h;exact h)
      clear HT
      go_wp2
      go_ret
      exact ⟨by rw [HS.out];rfl,HB.out.trans (hbc.mono HB.out.size)⟩
end Go.Proofs.YtheeiklgblcjfaaGreatDoor
namespace Go.Proofs.YtheeiklgblcjfaaGreatDoor
open Go.RowKit Go.Sort
set_option linter.unusedVariables false
set_option linter.unusedSimpArgs false
set_option maxRecDepth 100000 in
set_option maxHeartbeats 4000000 in
theorem rchans10 (parts chans:List (List Int)) (len0:Int) (win0:List (List Int)) (len1:Int) (win1:List (List Int)) (pa:Option Addr) (pc:Nat) (ca:Option Addr) (cc:Nat) (aa:Option Addr) (ac:Nat) (ba:Option Addr) (bc:Nat) (w:World) (hp:RowN [.i64,.i64] w w.heap.size pa parts) (hpw:wfR [.i64,.i64] parts) (hpl:parts.length ≤ 1000000) (hc:RowN [.i64,.i64,.i64,.i64,.i64,.i64,.u32] w w.heap.size ca chans) (hcw:wfR [.i64,.i64,.i64,.i64,.i64,.i64,.u32] chans) (hcl:chans.length ≤ 1000000) (h0:RowN [.i64,.i64,.i64] w w.heap.size aa win0) (h0w:wfR [.i64,.i64,.i64] win0) (h0l:win0.length ≤ 1000000) (h1:RowN [.i64,.i64,.i64] w w.heap.size ba win1) (h1w:wfR [.i64,.i64,.i64] win1) (h1l:win1.length ≤ 1000000):Calls Tryz.prog 105 #[.agg #[.slice pa parts.length pc,.slice ca chans.length cc,.int .i64 len0,.slice aa win0.length ac,.int .i64 len1,.slice ba win1.length bc],.int .i64 10] w fun e w' => e = .returned (.bool (chansB (⟨parts,chans,len0,win0,len1,win1⟩:Cfg) 10)) ∧ Below w.heap.size w w':=by
  obtain ⟨W,HW,hB,-,bx⟩:=one_cbox w ⟨parts,chans,len0,win0,len1,win1⟩ ⟨pa,pc,ca,cc,aa,ac,ba,bc⟩ 29
  have HB:=Lib.hid hB
  have hp:=hp.later hB;have hc:=hc.later hB;have h0:=h0.later hB;have h1:=h1.later hB
  clear hB
  go_enter Tryz.func105,Tryz.ntmps105
  go_wp2
  go_loopw [5] (fun ix wr => ∃ i:Nat,i ≤ chans.length ∧ ix = .int .i64 i ∧ scan i (fun i => chanBad parts.length 10 (row chans i)) = false ∧ Below W.heap.size W wr) (fun ix _ => chans.length - (intOf ix).toNat)
  case atStart => exact ⟨0,Nat.zero_le _,rfl,rfl,(by rw [← HW.out];exact Below.refl _ _)⟩
  case round =>
    obtain ⟨i,hi,rfl,ht,hbc⟩:=hrel
    have HT:=Lib.hid ht
    obtain ⟨c0,c1,c2,c3,c4,c5⟩:=bx _ hbc
    clear ht
    by_cases hlt:i < chans.length
    · obtain ⟨b,o,x0,x1,x2,x3,x4,x5,x6,e0,_,e1,⟨hw0,hw1,hw2,hw3,hw4,hw5,hw6⟩,k0⟩:=hc.at7 hcw hlt
      subst e0
      have k0:=k0 _ hbc
      obtain ⟨p0,k0⟩:=k0
      obtain ⟨p1,k0⟩:=k0
      obtain ⟨p2,k0⟩:=k0
      obtain ⟨p3,k0⟩:=k0
      obtain ⟨p4,k0⟩:=k0
      obtain ⟨p5,p6⟩:=k0
      have E1:=Lib.hid e1
      clear e1
      by_cases h1:x0 = 1
      · have h1a:((x0:Int) == 1) = true:=by simp [h1]
        have h1b:((x0:Int) != 1) = false:=by simp [h1]
        by_cases h2:x5 < 0
        · have HX:=Lib.hid (show chansB (⟨parts,chans,len0,win0,len1,win1⟩:Cfg) 10 = true from scan_hit (f:=(fun i => chanBad parts.length 10 (row chans i))) hlt (show chanBad parts.length 10 (row chans i) = true by rw [row_at E1.out];exact (show decide ((x0 = 1 ∧ (x5 < 0 ∨ 1048576 < x5)) ∨ (x0 = 2 ∧ x5 ≠ 0)) = true from decide_eq_true (by omega))))
          go_wp2
          go_ret
          exact ⟨by rw [HX.out];rfl,HB.out.trans ((hbc.alloc hbc.size _).mono HB.out.size)⟩
        · have h2d:decide (x5 < 0) = false:=decide_eq_false h2
          by_cases h3:1048576 < x5
          · have HX:=Lib.hid (show chansB (⟨parts,chans,len0,win0,len1,win1⟩:Cfg) 10 = true from scan_hit (f:=(fun i => chanBad parts.length 10 (row chans i))) hlt (show chanBad parts.length 10 (row chans i) = true by rw [row_at E1.out];exact (show decide ((x0 = 1 ∧ (x5 < 0 ∨ 1048576 < x5)) ∨ (x0 = 2 ∧ x5 ≠ 0)) = true from decide_eq_true (by omega))))
            go_wp2
            go_ret
            exact ⟨by rw [HX.out];rfl,HB.out.trans ((hbc.alloc hbc.size _).mono HB.out.size)⟩
          · have h3d:decide (1048576 < x5) = false:=decide_eq_false h3
            have HX:=Lib.hid (show scan (i + 1) (fun i => chanBad parts.length 10 (row chans i)) = false from scan_next HT.out (show chanBad parts.length 10 (row chans i) = false by rw [row_at E1.out];exact (show decide ((x0 = 1 ∧ (x5 < 0 ∨ 1048576 < x5)) ∨ (x0 = 2 ∧ x5 ≠ 0)) = false from decide_eq_false (by omega))))
            go_wp2
            go_roundw
            case rel => exact ⟨i + 1,by omega,by go_num,HX.out,hbc.alloc hbc.size _⟩
            case measure => simp [intOf];omega
      · have h1a:((x0:Int) == 1) = false:=by simp [h1]
        have h1b:((x0:Int) != 1) = true:=by simp [h1]
        by_cases h4:x0 = 2
        · have h4a:((x0:Int) == 2) = true:=by simp [h4]
          have h4b:((x0:Int) != 2) = false:=by simp [h4]
          by_cases h5:x5 = 0
          · have h5a:((x5:Int) == 0) = true:=by simp [h5]
            have h5b:((x5:Int) != 0) = false:=by simp [h5]
            have HX:=Lib.hid (show scan (i + 1) (fun i => chanBad parts.length 10 (row chans i)) = false from scan_next HT.out (show chanBad parts.length 10 (row chans i) = false by rw [row_at E1.out];exact (show decide ((x0 = 1 ∧ (x5 < 0 ∨ 1048576 < x5)) ∨ (x0 = 2 ∧ x5 ≠ 0)) = false from decide_eq_false (by omega))))
            go_wp2
            go_roundw
            case rel => exact ⟨i + 1,by omega,by go_num,HX.out,hbc.alloc hbc.size _⟩
            case measure => simp [intOf];omega
          · have h5a:((x5:Int) == 0) = false:=by simp [h5]
            have h5b:((x5:Int) != 0) = true:=by simp [h5]
            have HX:=Lib.hid (show chansB (⟨parts,chans,len0,win0,len1,win1⟩:Cfg) 10 = true from scan_hit (f:=(fun i => chanBad parts.length 10 (row chans i))) hlt (show chanBad parts.length 10 (row chans i) = true by rw [row_at E1.out];exact (show decide ((x0 = 1 ∧ (x5 < 0 ∨ 1048576 < x5)) ∨ (x0 = 2 ∧ x5 ≠ 0)) = true from decide_eq_true (by omega))))
            go_wp2
            go_ret
            exact ⟨by rw [HX.out];rfl,HB.out.trans ((hbc.alloc hbc.size _).mono HB.out.size)⟩
        · have h4a:((x0:Int) == 2) = false:=by simp [h4]
          have h4b:((x0:Int) != 2) = true:=by simp [h4]
          have HX:=Lib.hid (show scan (i + 1) (fun i => chanBad parts.length 10 (row chans i)) = false from scan_next HT.out (show chanBad parts.length 10 (row chans i) = false by rw [row_at E1.out];exact (show decide ((x0 = 1 ∧ (x5 < 0 ∨ 1048576 < x5)) ∨ (x0 = 2 ∧ x5 ≠ 0)) = false from decide_eq_false (by omega))))
          go_wp2
          go_roundw
          case rel => exact ⟨i + 1,by omega,by go_num,HX.out,hbc.alloc hbc.size _⟩
          case measure => simp [intOf];omega
    · have HS:=Lib.hid (show chansB (⟨parts,chans,len0,win0,len1,win1⟩:Cfg) 10 = false by have h:=HT.out;rw [show i = chans.length by omega] at h;exact h)
      clear HT
      go_wp2
      go_ret
      exact ⟨by rw [HS.out];rfl,HB.out.trans (hbc.mono HB.out.size)⟩
end Go.Proofs.YtheeiklgblcjfaaGreatDoor
namespace Go.Proofs.YtheeiklgblcjfaaGreatDoor
open Go.RowKit Go.Sort
set_option linter.unusedVariables false
set_option linter.unusedSimpArgs false
set_option maxRecDepth 100000 in
set_option maxHeartbeats 4000000 in
theorem rchans11 (parts chans:List (List Int)) (len0:Int) (win0:List (List Int)) (len1:Int) (win1:List (List Int)) (pa:Option Addr) (pc:Nat) (ca:Option Addr) (cc:Nat) (aa:Option Addr) (ac:Nat) (ba:Option Addr) (bc:Nat) (w:World) (hp:RowN [.i64,.i64] w w.heap.size pa parts) (hpw:wfR [.i64,.i64] parts) (hpl:parts.length ≤ 1000000) (hc:RowN [.i64,.i64,.i64,.i64,.i64,.i64,.u32] w w.heap.size ca chans) (hcw:wfR [.i64,.i64,.i64,.i64,.i64,.i64,.u32] chans) (hcl:chans.length ≤ 1000000) (h0:RowN [.i64,.i64,.i64] w w.heap.size aa win0) (h0w:wfR [.i64,.i64,.i64] win0) (h0l:win0.length ≤ 1000000) (h1:RowN [.i64,.i64,.i64] w w.heap.size ba win1) (h1w:wfR [.i64,.i64,.i64] win1) (h1l:win1.length ≤ 1000000):Calls Tryz.prog 105 #[.agg #[.slice pa parts.length pc,.slice ca chans.length cc,.int .i64 len0,.slice aa win0.length ac,.int .i64 len1,.slice ba win1.length bc],.int .i64 11] w fun e w' => e = .returned (.bool (chansB (⟨parts,chans,len0,win0,len1,win1⟩:Cfg) 11)) ∧ Below w.heap.size w w':=by
  obtain ⟨W,HW,hB,-,bx⟩:=one_cbox w ⟨parts,chans,len0,win0,len1,win1⟩ ⟨pa,pc,ca,cc,aa,ac,ba,bc⟩ 29
  have HB:=Lib.hid hB
  have hp:=hp.later hB;have hc:=hc.later hB;have h0:=h0.later hB;have h1:=h1.later hB
  clear hB
  go_enter Tryz.func105,Tryz.ntmps105
  go_wp2
  go_loopw [5] (fun ix wr => ∃ i:Nat,i ≤ chans.length ∧ ix = .int .i64 i ∧ scan i (fun i => chanBad parts.length 11 (row chans i)) = false ∧ Below W.heap.size W wr) (fun ix _ => chans.length - (intOf ix).toNat)
  case atStart => exact ⟨0,Nat.zero_le _,rfl,rfl,(by rw [← HW.out];exact Below.refl _ _)⟩
  case round =>
    obtain ⟨i,hi,rfl,ht,hbc⟩:=hrel
    have HT:=Lib.hid ht
    obtain ⟨c0,c1,c2,c3,c4,c5⟩:=bx _ hbc
    clear ht
    by_cases hlt:i < chans.length
    · obtain ⟨b,o,x0,x1,x2,x3,x4,x5,x6,e0,_,e1,⟨hw0,hw1,hw2,hw3,hw4,hw5,hw6⟩,k0⟩:=hc.at7 hcw hlt
      subst e0
      have k0:=k0 _ hbc
      obtain ⟨p0,k0⟩:=k0
      obtain ⟨p1,k0⟩:=k0
      obtain ⟨p2,k0⟩:=k0
      obtain ⟨p3,k0⟩:=k0
      obtain ⟨p4,k0⟩:=k0
      obtain ⟨p5,p6⟩:=k0
      have E1:=Lib.hid e1
      clear e1
      by_cases h1:x0 = 1
      · have h1a:((x0:Int) == 1) = true:=by simp [h1]
        have h1b:((x0:Int) != 1) = false:=by simp [h1]
        by_cases h2:x6 = 0
        · have h2a:((x6:Int) == 0) = true:=by simp [h2]
          have h2b:((x6:Int) != 0) = false:=by simp [h2]
          have HX:=Lib.hid (show scan (i + 1) (fun i => chanBad parts.length 11 (row chans i)) = false from scan_next HT.out (show chanBad parts.length 11 (row chans i) = false by rw [row_at E1.out];exact (show decide (x0 = 1 ∧ x6 ≠ 0) = false from decide_eq_false (by omega))))
          go_wp2
          go_roundw
          case rel => exact ⟨i + 1,by omega,by go_num,HX.out,hbc.alloc hbc.size _⟩
          case measure => simp [intOf];omega
        · have h2a:((x6:Int) == 0) = false:=by simp [h2]
          have h2b:((x6:Int) != 0) = true:=by simp [h2]
          have HX:=Lib.hid (show chansB (⟨parts,chans,len0,win0,len1,win1⟩:Cfg) 11 = true from scan_hit (f:=(fun i => chanBad parts.length 11 (row chans i))) hlt (show chanBad parts.length 11 (row chans i) = true by rw [row_at E1.out];exact (show decide (x0 = 1 ∧ x6 ≠ 0) = true from decide_eq_true (by omega))))
          go_wp2
          go_ret
          exact ⟨by rw [HX.out];rfl,HB.out.trans ((hbc.alloc hbc.size _).mono HB.out.size)⟩
      · have h1a:((x0:Int) == 1) = false:=by simp [h1]
        have h1b:((x0:Int) != 1) = true:=by simp [h1]
        have HX:=Lib.hid (show scan (i + 1) (fun i => chanBad parts.length 11 (row chans i)) = false from scan_next HT.out (show chanBad parts.length 11 (row chans i) = false by rw [row_at E1.out];exact (show decide (x0 = 1 ∧ x6 ≠ 0) = false from decide_eq_false (by omega))))
        go_wp2
        go_roundw
        case rel => exact ⟨i + 1,by omega,by go_num,HX.out,hbc.alloc hbc.size _⟩
        case measure => simp [intOf];omega
    · have HS:=Lib.hid (show chansB (⟨parts,chans,len0,win0,len1,win1⟩:Cfg) 11 = false by have h:=HT.out;rw [show i = chans.length by omega] at h;exact h)
      clear HT
      go_wp2
      go_ret
      exact ⟨by rw [HS.out];rfl,HB.out.trans (hbc.mono HB.out.size)⟩
end Go.Proofs.YtheeiklgblcjfaaGreatDoor
end
