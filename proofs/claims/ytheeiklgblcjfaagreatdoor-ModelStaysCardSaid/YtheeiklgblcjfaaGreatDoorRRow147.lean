/- Texts of the ring, joined, what is used of them. No condition but those in the statements. -/
import Derived.BigQuiet
import Derived.Deep.OwnRows
import Derived.Test.YtheeiklgblcjfaaGreatDoorRSmA
import Derived.Test.YtheeiklgblcjfaaGreatDoorRgh
namespace Go.Proofs.YtheeiklgblcjfaaGreatDoor
open Go.RowKit Go.Sort Go.ChangeShapes Go.WideShapes
set_option linter.unusedVariables false
set_option linter.unusedSimpArgs false
theorem Tryz.infoF:(Tryz.prog.info? 26).map (fun i => (i.size)) = some 2:=by kernel_rfl
theorem frame_at0 (l0 l1:Int) (A B:Option Addr) (n m c d:Nat) (w:World):(Instr.index 27 (.agg #[.int .i64 l0,.slice A n c,.int .i64 l1,.slice B m d]) (.int .i64 0)).run Tryz.prog w = .ok (.agg #[.int .i64 l0,.slice A n c]) w:=by
  obtain ⟨i,hi,hs⟩:∃ i,Tryz.prog.info? 26 = some i ∧ i.size = 2:=by
    have h:=Tryz.infoF
    cases hh:Tryz.prog.info? 26 with
    | none => rw [hh] at h;cases h
    | some i => rw [hh] at h;exact ⟨i,rfl,by simpa using h⟩
  simp [Instr.index,go_sem,run_underlying Tryz.underlying27,asIntOf,run_sizeOf w hi,hs]
theorem frame_at1 (l0 l1:Int) (A B:Option Addr) (n m c d:Nat) (w:World):(Instr.index 27 (.agg #[.int .i64 l0,.slice A n c,.int .i64 l1,.slice B m d]) (.int .i64 1)).run Tryz.prog w = .ok (.agg #[.int .i64 l1,.slice B m d]) w:=by
  obtain ⟨i,hi,hs⟩:∃ i,Tryz.prog.info? 26 = some i ∧ i.size = 2:=by
    have h:=Tryz.infoF
    cases hh:Tryz.prog.info? 26 with
    | none => rw [hh] at h;cases h
    | some i => rw [hh] at h;exact ⟨i,rfl,by simpa using h⟩
  simp [Instr.index,go_sem,run_underlying Tryz.underlying27,asIntOf,run_sizeOf w hi,hs,show Tryz.prog.cellsOf 26 = 2 from by kernel_rfl]
set_option maxRecDepth 100000 in
set_option maxHeartbeats 8000000 in
theorem row14_b (parts chans:List (List Int)) (len0:Int) (win0:List (List Int)) (len1:Int) (win1:List (List Int)) (pa:Option Addr) (pc:Nat) (ca:Option Addr) (cc:Nat) (aa:Option Addr) (ac:Nat) (ba:Option Addr) (bc:Nat) (w:World) (hp:RowN [.i64,.i64] w w.heap.size pa parts) (hpw:wfR [.i64,.i64] parts) (hpl:parts.length ≤ 1000000) (hc:RowN [.i64,.i64,.i64,.i64,.i64,.i64,.u32] w w.heap.size ca chans) (hcw:wfR [.i64,.i64,.i64,.i64,.i64,.i64,.u32] chans) (hcl:chans.length ≤ 1000000) (h0:RowN [.i64,.i64,.i64] w w.heap.size aa win0) (h0w:wfR [.i64,.i64,.i64] win0) (h0l:win0.length ≤ 1000000) (h1:RowN [.i64,.i64,.i64] w w.heap.size ba win1) (h1w:wfR [.i64,.i64,.i64] win1) (h1l:win1.length ≤ 1000000):Calls Tryz.prog 147 #[.agg #[.slice pa parts.length pc,.slice ca chans.length cc,.int .i64 len0,.slice aa win0.length ac,.int .i64 len1,.slice ba win1.length bc]] w fun e w' => e = .returned (.bool (holdsP (⟨parts,chans,len0,win0,len1,win1⟩:Cfg) 14)) ∧ Below w.heap.size w w':=by
  have hval:holdsP (⟨parts,chans,len0,win0,len1,win1⟩:Cfg) 14 = (scan win0.length (fun i => win14 (⟨parts,chans,len0,win0,len1,win1⟩:Cfg) 0 (row win0 i)) || scan win1.length (fun i => win14 (⟨parts,chans,len0,win0,len1,win1⟩:Cfg) 1 (row win1 i))):=rfl
  have HV0:=Lib.hid (show scan win0.length (fun i => win14 (⟨parts,chans,len0,win0,len1,win1⟩:Cfg) 0 (row win0 i)) = true → holdsP (⟨parts,chans,len0,win0,len1,win1⟩:Cfg) 14 = true from fun h => by rw [hval,h];rfl)
  have HV1:=Lib.hid (show scan win1.length (fun i => win14 (⟨parts,chans,len0,win0,len1,win1⟩:Cfg) 1 (row win1 i)) = true → holdsP (⟨parts,chans,len0,win0,len1,win1⟩:Cfg) 14 = true from fun h => by rw [hval,h,Bool.or_true])
  have HV:=Lib.hid hval
  clear hval
  obtain ⟨W,HW,hB,-,bx⟩:=one_cbox w ⟨parts,chans,len0,win0,len1,win1⟩ ⟨pa,pc,ca,cc,aa,ac,ba,bc⟩ 29
  have HB:=Lib.hid hB
  have hp:=hp.later hB;have hc:=hc.later hB;have h0:=h0.later hB;have h1:=h1.later hB
  clear hB
  have hix0:=frame_at0 len0 len1 aa ba win0.length win1.length ac bc
  have hix1:=frame_at1 len0 len1 aa ba win0.length win1.length ac bc
  go_enter Tryz.func147,Tryz.ntmps147
  go_wp2
  go_loopw [9] (fun ix wr => ∃ k:Int,0 ≤ k ∧ k ≤ 2 ∧ ix = .int .i64 k ∧ ((0 < k → scan win0.length (fun i => win14 (⟨parts,chans,len0,win0,len1,win1⟩:Cfg) 0 (row win0 i)) = false) ∧ (1 < k → scan win1.length (fun i => win14 (⟨parts,chans,len0,win0,len1,win1⟩:Cfg) 1 (row win1 i)) = false)) ∧ Below W.heap.size W wr) (fun ix _ => (2 - intOf ix).toNat)
  case atStart => exact ⟨0,by omega,by omega,rfl,⟨fun h => by omega,fun h => by omega⟩,(by rw [← HW.out];exact Below.refl _ _)⟩
  case round =>
    obtain ⟨k,hk0,hk2,rfl,hu,hbc⟩:=hrel
    have HU:=Lib.hid hu
    clear hu
    rcases (show k = 0 ∨ k = 1 ∨ k = 2 by omega) with hk | hk | hk
    · subst hk
      have HWF:=Lib.hid (hbc.alloc hbc.size (.cells #[.int .i64 len0,.slice aa win0.length ac] 26))
      go_wp2
      go_loopw [16] (fun ix wr => ∃ i:Nat,i ≤ win0.length ∧ ix = .int .i64 i ∧ scan i (fun i => win14 (⟨parts,chans,len0,win0,len1,win1⟩:Cfg) 0 (row win0 i)) = false ∧ Below W.heap.size W wr) (fun ix _ => win0.length - (intOf ix).toNat)
      case atStart => exact ⟨0,Nat.zero_le _,rfl,rfl,HWF.out⟩
      case round =>
        obtain ⟨i,hi,rfl,ht,hbc⟩:=hrel
        have HT:=Lib.hid ht
        obtain ⟨c0,c1,c2,c3,c4,c5⟩:=bx _ hbc
        clear ht
        by_cases hlt:i < win0.length
        · obtain ⟨b,o,x0,x1,x2,e0,_,e1,⟨hw0,hw1,hw2⟩,k0⟩:=h0.at3 h0w hlt
          subst e0
          have k0:=k0 _ hbc
          obtain ⟨p0,k0⟩:=k0
          obtain ⟨p1,p2⟩:=k0
          have E1:=Lib.hid e1
          clear e1
          obtain ⟨wa,hwa⟩:∃ u,Hid (u = wr.alloc (.cells #[.int .i64 x0,.int .i64 x1,.int .i64 x2] 133)):=⟨_,rfl⟩
          have hba:Below wr.heap.size wr wa:=by rw [hwa.out];exact (Below.refl _ _).alloc (Nat.le_refl _) _
          have hxa:wa.heap[wr.heap.size]? = some (.cells #[.int .i64 x0,.int .i64 x1,.int .i64 x2] 133 (0,0)):=by rw [hwa.out];exact heap_alloc_new _ _
          have hwb:=hbc.trans (hba.mono hbc.size)
          have hla:wr.heap.size < wa.heap.size:=(Array.getElem?_eq_some_iff.1 hxa).1
          obtain ⟨a0,a1,a2,a3,a4,a5⟩:=bx _ hwb
          have q0:=cell_blk hxa (i:=0) rfl
          have HWB:=Lib.hid hwb
          clear hwb hba
          by_cases hA:partB (⟨parts,chans,len0,win0,len1,win1⟩:Cfg) x0 = true
          · have hA':0 ≤ x0 ∧ x0 < (parts.length:Int):=of_decide_eq_true hA
            have HA:=Lib.hid hA
            clear hA
            obtain ⟨j,rfl⟩:=Int.eq_ofNat_of_zero_le hA'.1
            have hj:j < parts.length:=by have:=hA'.2;omega
            go_wp2_with (rw [← hwa.out])
            refine (isPart_is parts chans len0 win0 len1 win1 pa pc ca cc (some ⟨b,o,none⟩) ac ba bc (j:Int) true _ hpl HA.out).mono ?_
            rintro e w5 ⟨rfl,hb5⟩
            have hxb:=(hb5.block _ hla).trans hxa
            have hw5:=HWB.out.trans (hb5.mono HWB.out.size)
            obtain ⟨b0,b1,b2,b3,b4,b5⟩:=bx _ hw5
            have q2:=cell_blk hxb (i:=0) rfl
            obtain ⟨bp,op,y0,y1,f0,_,f1,_,r0⟩:=hp.at2 hpw hj
            obtain ⟨r1,r2⟩:=r0 _ hw5
            have F1:=Lib.hid f1
            have HW5:=Lib.hid hw5
            have hj1:(0:Int) ≤ (j:Int):=by omega
            have hj2:(j:Int) < (parts.length:Int):=by omega
            clear f1 r0 hw5 hxb hb5 a0 a1 a2 a3 a4 a5 q0 hA'
            subst f0
            by_cases h1:y0 = 0
            · have h1a:((y0:Int) == 0) = true:=by simp [h1]
              have h1b:((y0:Int) != 0) = false:=by simp [h1]
              have HX:=Lib.hid (show scan (i + 1) (fun i => win14 (⟨parts,chans,len0,win0,len1,win1⟩:Cfg) 0 (row win0 i)) = false from scan_next HT.out (show win14 (⟨parts,chans,len0,win0,len1,win1⟩:Cfg) 0 (row win0 i) = false by rw [row_at E1.out];rw [win14,show partB (⟨parts,chans,len0,win0,len1,win1⟩:Cfg) (fld [(j:Int),x1,x2] 0) = true from HA.out,show row (⟨parts,chans,len0,win0,len1,win1⟩:Cfg).parts (fld [(j:Int),x1,x2] 0).toNat = [y0,y1] from row_at F1.out];exact (show decide (y0 ≠ 0) = false from decide_eq_false (fun h => h h1))))
              go_wp2
              go_roundw
              case rel => exact ⟨i + 1,by omega,by go_num,HX.out,HW5.out⟩
              case measure => simp [intOf];omega
            · have h1a:((y0:Int) == 0) = false:=by simp [h1]
              have h1b:((y0:Int) != 0) = true:=by simp [h1]
              have HX:=Lib.hid (show holdsP (⟨parts,chans,len0,win0,len1,win1⟩:Cfg) 14 = true from HV0.out (scan_hit (f:=(fun i => win14 (⟨parts,chans,len0,win0,len1,win1⟩:Cfg) 0 (row win0 i))) hlt (show win14 (⟨parts,chans,len0,win0,len1,win1⟩:Cfg) 0 (row win0 i) = true by rw [row_at E1.out];rw [win14,show partB (⟨parts,chans,len0,win0,len1,win1⟩:Cfg) (fld [(j:Int),x1,x2] 0) = true from HA.out,show row (⟨parts,chans,len0,win0,len1,win1⟩:Cfg).parts (fld [(j:Int),x1,x2] 0).toNat = [y0,y1] from row_at F1.out];exact (show decide (y0 ≠ 0) = true from decide_eq_true h1))))
              go_wp2
              go_ret
              exact ⟨by rw [HX.out];rfl,HB.out.trans (HW5.out.mono HB.out.size)⟩
          · have hA:partB (⟨parts,chans,len0,win0,len1,win1⟩:Cfg) x0 = false:=by simpa using hA
            have HA:=Lib.hid hA
            clear hA
            go_wp2_with (rw [← hwa.out])
            refine (isPart_is parts chans len0 win0 len1 win1 pa pc ca cc (some ⟨b,o,none⟩) ac ba bc x0 false _ hpl HA.out).mono ?_
            rintro e w5 ⟨rfl,hb5⟩
            have hbc:=HWB.out.trans (hb5.mono HWB.out.size)
            have HX:=Lib.hid (show holdsP (⟨parts,chans,len0,win0,len1,win1⟩:Cfg) 14 = true from HV0.out (scan_hit (f:=(fun i => win14 (⟨parts,chans,len0,win0,len1,win1⟩:Cfg) 0 (row win0 i))) hlt (show win14 (⟨parts,chans,len0,win0,len1,win1⟩:Cfg) 0 (row win0 i) = true by rw [row_at E1.out];rw [win14,show partB (⟨parts,chans,len0,win0,len1,win1⟩:Cfg) (fld [x0,x1,x2] 0) = false from HA.out];rfl)))
            go_wp2
            go_ret
            exact ⟨by rw [HX.out];rfl,HB.out.trans (hbc.mono HB.out.size)⟩
        · have HS:=Lib.hid (show scan win0.length (fun i => win14 (⟨parts,chans,len0,win0,len1,win1⟩:Cfg) 0 (row win0 i)) = false by have h:=HT.out;rw [show i = win0.length by omega] at h;exact h)
          clear HT
          go_wp2
          go_roundw
          case rel => exact ⟨1,by omega,by omega,rfl,⟨fun _ => HS.out,fun h => by omega⟩,hbc⟩
          case measure => simp [intOf]
    · subst hk
      have HWF:=Lib.hid (hbc.alloc hbc.size (.cells #[.int .i64 len1,.slice ba win1.length bc] 26))
      go_wp2
      go_loopw [16] (fun ix wr => ∃ i:Nat,i ≤ win1.length ∧ ix = .int .i64 i ∧ scan i (fun i => win14 (⟨parts,chans,len0,win0,len1,win1⟩:Cfg) 1 (row win1 i)) = false ∧ Below W.heap.size W wr) (fun ix _ => win1.length - (intOf ix).toNat)
      case atStart => exact ⟨0,Nat.zero_le _,rfl,rfl,HWF.out⟩
      case round =>
        obtain ⟨i,hi,rfl,ht,hbc⟩:=hrel
        have HT:=Lib.hid ht
        obtain ⟨c0,c1,c2,c3,c4,c5⟩:=bx _ hbc
        clear ht
        by_cases hlt:i < win1.length
        · obtain ⟨b,o,x0,x1,x2,e0,_,e1,⟨hw0,hw1,hw2⟩,k0⟩:=h1.at3 h1w hlt
          subst e0
          have k0:=k0 _ hbc
          obtain ⟨p0,k0⟩:=k0
          obtain ⟨p1,p2⟩:=k0
          have E1:=Lib.hid e1
          clear e1
          obtain ⟨wa,hwa⟩:∃ u,Hid (u = wr.alloc (.cells #[.int .i64 x0,.int .i64 x1,.int .i64 x2] 133)):=⟨_,rfl⟩
          have hba:Below wr.heap.size wr wa:=by rw [hwa.out];exact (Below.refl _ _).alloc (Nat.le_refl _) _
          have hxa:wa.heap[wr.heap.size]? = some (.cells #[.int .i64 x0,.int .i64 x1,.int .i64 x2] 133 (0,0)):=by rw [hwa.out];exact heap_alloc_new _ _
          have hwb:=hbc.trans (hba.mono hbc.size)
          have hla:wr.heap.size < wa.heap.size:=(Array.getElem?_eq_some_iff.1 hxa).1
          obtain ⟨a0,a1,a2,a3,a4,a5⟩:=bx _ hwb
          have q0:=cell_blk hxa (i:=0) rfl
          have HWB:=Lib.hid hwb
          clear hwb hba
          by_cases hA:partB (⟨parts,chans,len0,win0,len1,win1⟩:Cfg) x0 = true
          · have hA':0 ≤ x0 ∧ x0 < (parts.length:Int):=of_decide_eq_true hA
            have HA:=Lib.hid hA
            clear hA
            obtain ⟨j,rfl⟩:=Int.eq_ofNat_of_zero_le hA'.1
            have hj:j < parts.length:=by have:=hA'.2;omega
            go_wp2_with (rw [← hwa.out])
            refine (isPart_is parts chans len0 win0 len1 win1 pa pc ca cc aa ac (some ⟨b,o,none⟩) bc (j:Int) true _ hpl HA.out).mono ?_
            rintro e w5 ⟨rfl,hb5⟩
            have hxb:=(hb5.block _ hla).trans hxa
            have hw5:=HWB.out.trans (hb5.mono HWB.out.size)
            obtain ⟨b0,b1,b2,b3,b4,b5⟩:=bx _ hw5
            have q2:=cell_blk hxb (i:=0) rfl
            obtain ⟨bp,op,y0,y1,f0,_,f1,_,r0⟩:=hp.at2 hpw hj
            obtain ⟨r1,r2⟩:=r0 _ hw5
            have F1:=Lib.hid f1
            have HW5:=Lib.hid hw5
            have hj1:(0:Int) ≤ (j:Int):=by omega
            have hj2:(j:Int) < (parts.length:Int):=by omega
            clear f1 r0 hw5 hxb hb5 a0 a1 a2 a3 a4 a5 q0 hA'
            subst f0
            by_cases h1:y0 = 1
            · have h1a:((y0:Int) == 1) = true:=by simp [h1]
              have h1b:((y0:Int) != 1) = false:=by simp [h1]
              have HX:=Lib.hid (show scan (i + 1) (fun i => win14 (⟨parts,chans,len0,win0,len1,win1⟩:Cfg) 1 (row win1 i)) = false from scan_next HT.out (show win14 (⟨parts,chans,len0,win0,len1,win1⟩:Cfg) 1 (row win1 i) = false by rw [row_at E1.out];rw [win14,show partB (⟨parts,chans,len0,win0,len1,win1⟩:Cfg) (fld [(j:Int),x1,x2] 0) = true from HA.out,show row (⟨parts,chans,len0,win0,len1,win1⟩:Cfg).parts (fld [(j:Int),x1,x2] 0).toNat = [y0,y1] from row_at F1.out];exact (show decide (y0 ≠ 1) = false from decide_eq_false (fun h => h h1))))
              go_wp2
              go_roundw
              case rel => exact ⟨i + 1,by omega,by go_num,HX.out,HW5.out⟩
              case measure => simp [intOf];omega
            · have h1a:((y0:Int) == 1) = false:=by simp [h1]
              have h1b:((y0:Int) != 1) = true:=by simp [h1]
              have HX:=Lib.hid (show holdsP (⟨parts,chans,len0,win0,len1,win1⟩:Cfg) 14 = true from HV1.out (scan_hit (f:=(fun i => win14 (⟨parts,chans,len0,win0,len1,win1⟩:Cfg) 1 (row win1 i))) hlt (show win14 (⟨parts,chans,len0,win0,len1,win1⟩:Cfg) 1 (row win1 i) = true by rw [row_at E1.out];rw [win14,show partB (⟨parts,chans,len0,win0,len1,win1⟩:Cfg) (fld [(j:Int),x1,x2] 0) = true from HA.out,show row (⟨parts,chans,len0,win0,len1,win1⟩:Cfg).parts (fld [(j:Int),x1,x2] 0).toNat = [y0,y1] from row_at F1.out];exact (show decide (y0 ≠ 1) = true from decide_eq_true h1))))
              go_wp2
              go_ret
              exact ⟨by rw [HX.out];rfl,HB.out.trans (HW5.out.mono HB.out.size)⟩
          · have hA:partB (⟨parts,chans,len0,win0,len1,win1⟩:Cfg) x0 = false:=by simpa using hA
            have HA:=Lib.hid hA
            clear hA
            go_wp2_with (rw [← hwa.out])
            refine (isPart_is parts chans len0 win0 len1 win1 pa pc ca cc aa ac (some ⟨b,o,none⟩) bc x0 false _ hpl HA.out).mono ?_
            rintro e w5 ⟨rfl,hb5⟩
            have hbc:=HWB.out.trans (hb5.mono HWB.out.size)
            have HX:=Lib.hid (show holdsP (⟨parts,chans,len0,win0,len1,win1⟩:Cfg) 14 = true from HV1.out (scan_hit (f:=(fun i => win14 (⟨parts,chans,len0,win0,len1,win1⟩:Cfg) 1 (row win1 i))) hlt (show win14 (⟨parts,chans,len0,win0,len1,win1⟩:Cfg) 1 (row win1 i) = true by rw [row_at E1.out];rw [win14,show partB (⟨parts,chans,len0,win0,len1,win1⟩:Cfg) (fld [x0,x1,x2] 0) = false from HA.out];rfl)))
            go_wp2
            go_ret
            exact ⟨by rw [HX.out];rfl,HB.out.trans (hbc.mono HB.out.size)⟩
        · have HS:=Lib.hid (show scan win1.length (fun i => win14 (⟨parts,chans,len0,win0,len1,win1⟩:Cfg) 1 (row win1 i)) = false by have h:=HT.out;rw [show i = win1.length by omega] at h;exact h)
          clear HT
          go_wp2
          go_roundw
          case rel => exact ⟨2,by omega,by omega,rfl,⟨fun _ => HU.out.1 (by omega),fun _ => HS.out⟩,hbc⟩
          case measure => simp [intOf]
    · subst hk
      have HX:=Lib.hid (show holdsP (⟨parts,chans,len0,win0,len1,win1⟩:Cfg) 14 = false by rw [HV.out,HU.out.1 (by omega),HU.out.2 (by omega)];rfl)
      go_wp2
      go_ret
      exact ⟨by rw [HX.out];rfl,HB.out.trans (hbc.mono HB.out.size)⟩
end Go.Proofs.YtheeiklgblcjfaaGreatDoor
namespace Go.Proofs.YtheeiklgblcjfaaGreatDoor
open Go.RowKit Go.Sort Go.ChangeShapes Go.WideShapes
set_option linter.unusedVariables false
set_option linter.unusedSimpArgs false
/-- A block of bools. -/
def BoolsAt (w:World) (b:Nat) (bs:List Bool):Prop:=w.heap[b]? = some (.cells (bs.map Value.bool).toArray 4 (0,0))
theorem BoolsAt.lt {w:World} {b:Nat} {bs:List Bool} (h:BoolsAt w b bs):b < w.heap.size:=(Array.getElem?_eq_some_iff.1 h).1
theorem BoolsAt.cell {w:World} {b:Nat} {bs:List Bool} (h:BoolsAt w b bs) {k:Nat} {x:Bool} (hk:bs[k]? = some x):w.cell? ⟨b,k,none⟩ = some (.bool x):=by
  unfold BoolsAt at h
  simp [World.cell?,h,hk]
theorem BoolsAt.frozen {w:World} {b:Nat} {bs:List Bool} (h:BoolsAt w b bs) (k:Nat):w.frozen? ⟨b,k,none⟩ = false:=by
  unfold BoolsAt at h
  simp [World.frozen?,h]
theorem BoolsAt.set {w:World} {b:Nat} {bs:List Bool} (h:BoolsAt w b bs) (k:Nat) (x:Bool):BoolsAt (w.setCell ⟨b,k,none⟩ (.bool x)) b (bs.set k x):=by
  unfold BoolsAt at h ⊢
  rw [List.map_set]
  simp [World.setCell,Array.getElem?_modify,h]
theorem BoolsAt.below {w w':World} {b:Nat} {bs:List Bool} (h:BoolsAt w b bs) (hb:Below w.heap.size w w'):BoolsAt w' b bs:=(hb.block b h.lt).trans h
theorem made_bools (n:Nat):madeCells #[Value.bool false] n = ((List.replicate n false).map Value.bool).toArray:=by
  apply Array.ext
  · simp [size_madeCells]
  · intro i h1 h2
    simp [madeCells,Nat.mod_one]
theorem Tryz.infoB:(Tryz.prog.info? 4).map (fun i => (i.zero,i.size,i.bytes)) = some (some (.bool false),1,1):=by kernel_rfl
theorem scan_succ (n:Nat) (f:Nat → Bool):scan (n + 1) f = (scan n f || f n):=by
  unfold scan
  rw [List.range_succ,List.any_append]
  simp
/-- Of each of n partitions: has one of the first i windows it? -/
def timedUp (win:List (List Int)) (n i:Nat):List Bool:=(List.range n).map (fun p:Nat => scan i (fun q => decide (fld (row win q) 0 = (p:Int))))
theorem timedUp_len (win:List (List Int)) (n i:Nat):(timedUp win n i).length = n:=by simp [timedUp]
theorem timedUp_zero (win:List (List Int)) (n:Nat):timedUp win n 0 = List.replicate n false:=by
  apply List.ext_getElem
  · simp [timedUp]
  · intro i h1 h2
    simp [timedUp,scan]
theorem timedUp_in {win:List (List Int)} {n i j:Nat} {x1 x2:Int} (h:win[i]? = some [(j:Int),x1,x2]) (hj:j < n):(timedUp win n i).set j true = timedUp win n (i + 1):=by
  apply List.ext_getElem
  · simp [timedUp]
  · intro p h1 h2
    have hp:p < n:=by simpa [timedUp] using h1
    simp only [timedUp,List.getElem_set,List.getElem_map,List.getElem_range,scan_succ,row_at h]
    by_cases e:j = p
    · subst e;simp [fld]
    · have:decide (fld [(j:Int),x1,x2] 0 = (p:Int)) = false:=decide_eq_false (by show ¬ (j:Int) = p;omega)
      rw [if_neg e,this,Bool.or_false]
theorem timedUp_out {win:List (List Int)} {n i:Nat} {x0 x1 x2:Int} (h:win[i]? = some [x0,x1,x2]) (hj:¬ (0 ≤ x0 ∧ x0 ≤ (n:Int) - 1)):timedUp win n i = timedUp win n (i + 1):=by
  apply List.ext_getElem
  · simp [timedUp]
  · intro p h1 h2
    have hp:p < n:=by simpa [timedUp] using h1
    simp only [timedUp,List.getElem_map,List.getElem_range,scan_succ,row_at h]
    have:decide (fld [x0,x1,x2] 0 = (p:Int)) = false:=decide_eq_false (by show ¬ x0 = p;omega)
    rw [this,Bool.or_false]
/-- Of each of n partitions: has a frame a window of it? -/
theorem timedUp_at (win:List (List Int)) {n p:Nat} (hp:p < n):(timedUp win n win.length)[p]? = some (hasWin win p):=by
  simp [timedUp,hp,hasWin]
theorem timedUp_at' (win:List (List Int)) {n i p:Nat} (hp:p < n):∃ x,(timedUp win n i)[p]? = some x:=⟨_,List.getElem?_eq_getElem (by rw [timedUp_len];exact hp)⟩
/-- A call that hands back a new list of bools,and turns nothing that was there. -/
def GivesBools (w:World) (bs:List Bool) (e:Ending) (w':World):Prop:=∃ b,e = .returned (.slice (some ⟨b,0,none⟩) bs.length bs.length) ∧ w.heap.size ≤ b ∧ BoolsAt w' b bs ∧ Below w.heap.size w w'
set_option maxRecDepth 100000 in
set_option maxHeartbeats 4000000 in
theorem timedBy_b (n:Nat) (hn:n ≤ 1000000) (len:Int) (win:List (List Int)) (A:Option Addr) (c:Nat) (w:World) (hr:RowN [.i64,.i64,.i64] w w.heap.size A win) (wl:wfR [.i64,.i64,.i64] win) (hl:win.length ≤ 1000000) (hlen:(Lit.int .i64 len).wf = true):Calls Tryz.prog 159 #[.agg #[.int .i64 len,.slice A win.length c],.int .i64 (n:Int)] w (GivesBools w (timedUp win n win.length)):=by
  obtain ⟨i0,hi,hz0,hz1,hz2⟩:=info_parts Tryz.infoB
  obtain ⟨W,HW,hB,hWs,bx⟩:=fbox_new w len A win.length c 26
  have HB:=Lib.hid hB
  have hr:=(hr.below hB).more hB.size
  clear hB
  have hb1:Below W.heap.size W (W.alloc (.cells (madeCells #[Value.bool false] n) 4)):=(Below.refl _ _).alloc (Nat.le_refl _) _
  have hs1:BoolsAt (W.alloc (.cells (madeCells #[Value.bool false] n) 4)) W.heap.size (timedUp win n 0):=by rw [timedUp_zero,made_bools];exact heap_alloc_new _ _
  obtain ⟨c0,c1⟩:=bx _ hb1
  have HB1:=Lib.hid hb1;have HS1:=Lib.hid hs1
  clear hb1 hs1
  go_enter Tryz.func159,Tryz.ntmps159
  go_wp2_with (first | (rw [← HW.out]) | (refine wpList_make_row _ rfl _ _ 140 rfl 4 i0 (.bool false) Tryz.underlying140 hi hz0 hz1 rfl .i64 .i64 n rfl rfl (by rw [hz2];omega) (by omega) ?_))
  clear c0 c1
  go_loopw [13] (fun ix wr => ∃ i:Nat,i ≤ win.length ∧ ix = .int .i64 i ∧ BoolsAt wr W.heap.size (timedUp win n i) ∧ Below W.heap.size W wr) (fun ix _ => win.length - (intOf ix).toNat)
  case atStart => exact ⟨0,Nat.zero_le _,rfl,HS1.out,HB1.out⟩
  case round =>
    obtain ⟨i,hi2,rfl,hbs,hbc⟩:=hrel
    by_cases hlt:i < win.length
    · obtain ⟨b,o,x0,x1,x2,e0,_,e1,⟨hw0,hw1,hw2⟩,k0⟩:=hr.at3 wl hlt
      subst e0
      have k0:=k0 _ hbc
      obtain ⟨p0,k0⟩:=k0
      obtain ⟨p1,p2⟩:=k0
      have E1:=Lib.hid e1
      clear e1
      obtain ⟨wa,hwa⟩:∃ u,Hid (u = wr.alloc (.cells #[.int .i64 x0,.int .i64 x1,.int .i64 x2] 133)):=⟨_,rfl⟩
      have hba:Below wr.heap.size wr wa:=by rw [hwa.out];exact (Below.refl _ _).alloc (Nat.le_refl _) _
      have hxa:wa.heap[wr.heap.size]? = some (.cells #[.int .i64 x0,.int .i64 x1,.int .i64 x2] 133 (0,0)):=by rw [hwa.out];exact heap_alloc_new _ _
      have hwb:=hbc.trans (hba.mono hbc.size)
      have hla:wr.heap.size < wa.heap.size:=(Array.getElem?_eq_some_iff.1 hxa).1
      have a0:=cell_blk hxa (i:=0) rfl
      have hbs':=hbs.below hba
      have HWB:=Lib.hid hwb
      have HBS:=Lib.hid hbs'
      by_cases hA:decide (0 ≤ x0 ∧ x0 ≤ (n:Int) - 1) = true
      · obtain ⟨d1,d2⟩:=of_decide_eq_true hA
        obtain ⟨j,rfl⟩:=Int.eq_ofNat_of_zero_le d1
        have hj:j < n:=by omega
        have d3:(j:Int) < (n:Int):=by omega
        have HX:=Lib.hid (timedUp_in E1.out hj)
        obtain ⟨q,hq⟩:=timedUp_at' win (i:=i) hj
        have s0:=HBS.out.cell hq
        have s1:=HBS.out.frozen j
        clear hbs hbs' hba hwb hxa hq hbc
        go_wp2_with (first | (rw [← hwa.out]) | (go_at_call 130;((with_reducible refine (within_is _ _ _ _ _ (by assumption)).mono ?_);rintro e w5 ⟨rfl,rfl⟩)))
        go_roundw
        case rel => exact ⟨i + 1,by omega,by go_num,by rw [← HX.out];exact HBS.out.set j true,HWB.out.setCell (p:=⟨W.heap.size,j,none⟩) (Nat.le_refl _) _⟩
        case measure => simp [intOf];omega
      · have hA:decide (0 ≤ x0 ∧ x0 ≤ (n:Int) - 1) = false:=by simpa using hA
        have HX:=Lib.hid (timedUp_out E1.out (of_decide_eq_false hA))
        clear hbs hbs' hba hwb hxa hbc
        go_wp2_with (first | (rw [← hwa.out]) | (go_at_call 130;((with_reducible refine (within_is _ _ _ _ _ (by assumption)).mono ?_);rintro e w5 ⟨rfl,rfl⟩)))
        go_roundw
        case rel => exact ⟨i + 1,by omega,by go_num,by rw [← HX.out];exact HBS.out,HWB.out⟩
        case measure => simp [intOf];omega
    · have HS:=Lib.hid (show BoolsAt wr W.heap.size (timedUp win n win.length) by rw [show win.length = i by omega];exact hbs)
      clear hbs
      go_wp2
      go_ret
      exact ⟨W.heap.size,by simp [timedUp_len],HB.out.size,HS.out,HB.out.trans (hbc.mono HB.out.size)⟩
end Go.Proofs.YtheeiklgblcjfaaGreatDoor
namespace Go.Proofs.YtheeiklgblcjfaaGreatDoor
open Go.RowKit Go.Sort Go.ChangeShapes Go.WideShapes
set_option linter.unusedVariables false
set_option linter.unusedSimpArgs false
set_option maxRecDepth 100000 in
set_option maxHeartbeats 8000000 in
theorem row17_b (parts chans:List (List Int)) (len0:Int) (win0:List (List Int)) (len1:Int) (win1:List (List Int)) (pa:Option Addr) (pc:Nat) (ca:Option Addr) (cc:Nat) (aa:Option Addr) (ac:Nat) (ba:Option Addr) (bc:Nat) (w:World) (hp:RowN [.i64,.i64] w w.heap.size pa parts) (hpw:wfR [.i64,.i64] parts) (hpl:parts.length ≤ 1000000) (hc:RowN [.i64,.i64,.i64,.i64,.i64,.i64,.u32] w w.heap.size ca chans) (hcw:wfR [.i64,.i64,.i64,.i64,.i64,.i64,.u32] chans) (hcl:chans.length ≤ 1000000) (h0:RowN [.i64,.i64,.i64] w w.heap.size aa win0) (h0w:wfR [.i64,.i64,.i64] win0) (h0l:win0.length ≤ 1000000) (h1:RowN [.i64,.i64,.i64] w w.heap.size ba win1) (h1w:wfR [.i64,.i64,.i64] win1) (h1l:win1.length ≤ 1000000) (hl0:(Lit.int .i64 len0).wf = true) (hl1:(Lit.int .i64 len1).wf = true):Calls Tryz.prog 150 #[.agg #[.slice pa parts.length pc,.slice ca chans.length cc,.int .i64 len0,.slice aa win0.length ac,.int .i64 len1,.slice ba win1.length bc]] w fun e w' => e = .returned (.bool (holdsP (⟨parts,chans,len0,win0,len1,win1⟩:Cfg) 17)) ∧ Below w.heap.size w w':=by
  obtain ⟨W,HW,hB,-,bx⟩:=one_cbox w ⟨parts,chans,len0,win0,len1,win1⟩ ⟨pa,pc,ca,cc,aa,ac,ba,bc⟩ 29
  have HB:=Lib.hid hB
  have hp:=hp.later hB;have hc:=hc.later hB;have h0:=h0.later hB;have h1:=h1.later hB
  clear hB
  have hix0:=frame_at0 len0 len1 aa ba win0.length win1.length ac bc
  have hix1:=frame_at1 len0 len1 aa ba win0.length win1.length ac bc
  have hat:(W.alloc (.cells #[.slice none 0 0,.slice none 0 0] 219)).heap[W.heap.size]? = some (.cells #[.slice none 0 0,.slice none 0 0] 219 (0,0)):=heap_alloc_new _ _
  have hab:Below W.heap.size W (W.alloc (.cells #[.slice none 0 0,.slice none 0 0] 219)):=(Below.refl _ _).alloc (Nat.le_refl _) _
  obtain ⟨c0,c1,c2,c3,c4,c5⟩:=bx _ hab
  have HAT:=Lib.hid hat;have HAB:=Lib.hid hab
  clear hat hab
  go_enter Tryz.func150,Tryz.ntmps150
  go_wp2_with (rw [← HW.out])
  clear c0 c1 c2 c3 c4 c5
  go_loopw [11] (fun ix wr => ∃ k:Int,0 ≤ k ∧ k ≤ 2 ∧ ix = .int .i64 k ∧ ((k = 0 → wr.heap[W.heap.size]? = some (.cells #[.slice none 0 0,.slice none 0 0] 219 (0,0))) ∧
      (k = 1 → ∃ g0,W.heap.size < g0 ∧ wr.heap[W.heap.size]? = some (.cells #[.slice (some ⟨g0,0,none⟩) parts.length parts.length,.slice none 0 0] 219 (0,0)) ∧ BoolsAt wr g0 (timedUp win0 parts.length win0.length)) ∧
      (k = 2 → ∃ g0 g1,W.heap.size < g0 ∧ W.heap.size < g1 ∧ wr.heap[W.heap.size]? = some (.cells #[.slice (some ⟨g0,0,none⟩) parts.length parts.length,.slice (some ⟨g1,0,none⟩) parts.length parts.length] 219 (0,0)) ∧ BoolsAt wr g0 (timedUp win0 parts.length win0.length) ∧ BoolsAt wr g1 (timedUp win1 parts.length win1.length))) ∧ Below W.heap.size W wr) (fun ix _ => (2 - intOf ix).toNat)
  case atStart => exact ⟨0,by omega,by omega,rfl,⟨fun _ => HAT.out,(fun h => by omega),(fun h => by omega)⟩,HAB.out⟩
  case round =>
    obtain ⟨k,hk0,hk2,rfl,hu,hbc⟩:=hrel
    have HU:=Lib.hid hu
    obtain ⟨c0,c1,c2,c3,c4,c5⟩:=bx _ hbc
    clear hu
    rcases (show k = 0 ∨ k = 1 ∨ k = 2 by omega) with hk | hk | hk
    · subst hk
      have hg0b:=HU.out.1 rfl
      have hba:Below wr.heap.size wr (wr.alloc (.cells #[.int .i64 len0,.slice aa win0.length ac] 26)):=(Below.refl _ _).alloc (Nat.le_refl _) _
      have hwb:=hbc.trans (hba.mono hbc.size)
      have htb:W.heap.size < wr.heap.size:=(Array.getElem?_eq_some_iff.1 hg0b).1
      obtain ⟨d0,d1,d2,d3,d4,d5⟩:=bx _ hwb
      have HWB:=Lib.hid hwb;have HBA:=Lib.hid hba;have HG:=Lib.hid hg0b
      clear hba hwb
      go_wp2_with fail
      refine (timedBy_b parts.length hpl len0 win0 aa ac _ (h0.later (hbc.trans ((Below.refl _ _).alloc hbc.size _))) h0w h0l hl0).mono ?_
      rintro e w5 ⟨bb,rfl,hbb,hbs,hb5⟩
      have hlen:(timedUp win0 parts.length win0.length).length = parts.length:=timedUp_len _ _ _
      rw [hlen]
      have ht5:w5.heap[W.heap.size]? = some (.cells #[.slice none 0 0,.slice none 0 0] 219 (0,0)):=(hb5.block _ (by simp;omega)).trans ((HBA.out.block _ htb).trans HG.out)
      have z0:=cell_blk ht5 (i:=0) rfl
      have z1:w5.frozen? ⟨W.heap.size,0,none⟩ = false:=by simp [World.frozen?,ht5]
      have hw5:=HWB.out.trans (hb5.mono HWB.out.size)
      have hbb':W.heap.size < bb:=by have:=hbb;simp at this;omega
      have ht6:(w5.setCell ⟨W.heap.size,0,none⟩ (.slice (some ⟨bb,0,none⟩) parts.length parts.length)).heap[W.heap.size]? = some (.cells #[.slice (some ⟨bb,0,none⟩) parts.length parts.length,.slice none 0 0] 219 (0,0)):=by simp [World.setCell,Array.getElem?_modify,ht5]
      have hbs6:BoolsAt (w5.setCell ⟨W.heap.size,0,none⟩ (.slice (some ⟨bb,0,none⟩) parts.length parts.length)) bb (timedUp win0 parts.length win0.length):=(Below.heap_setCell _ _ _ _ (by simp;omega)).trans hbs

      have hw6:=hw5.setCell (p:=⟨W.heap.size,0,none⟩) (Nat.le_refl _) (.slice (some ⟨bb,0,none⟩) parts.length parts.length)
      have H6:=Lib.hid ht6;have HS6:=Lib.hid hbs6;have HW6:=Lib.hid hw6;have HBB:=Lib.hid hbb'
      clear ht5 ht6 hbs hbs6 hw5 hw6 hb5 hlen d0 d1 d2 d3 d4 d5 c0 c1 c2 c3 c4 c5 hbb hbb' hg0b hbc htb
      go_wp2
      go_roundw
      case rel => exact ⟨1,by omega,by omega,rfl,⟨(fun h => by omega),(fun _ => ⟨bb,HBB.out,H6.out,HS6.out⟩),(fun h => by omega)⟩,HW6.out⟩
      case measure => simp [intOf]
    · subst hk
      obtain ⟨g0,hg0,hg0b,hg0s⟩:=HU.out.2.1 rfl
      have hba:Below wr.heap.size wr (wr.alloc (.cells #[.int .i64 len1,.slice ba win1.length bc] 26)):=(Below.refl _ _).alloc (Nat.le_refl _) _
      have hwb:=hbc.trans (hba.mono hbc.size)
      have htb:W.heap.size < wr.heap.size:=(Array.getElem?_eq_some_iff.1 hg0b).1
      obtain ⟨d0,d1,d2,d3,d4,d5⟩:=bx _ hwb
      have HWB:=Lib.hid hwb;have HBA:=Lib.hid hba;have HG:=Lib.hid hg0b;have HS0:=Lib.hid hg0s
      clear hba hwb
      go_wp2_with fail
      refine (timedBy_b parts.length hpl len1 win1 ba bc _ (h1.later (hbc.trans ((Below.refl _ _).alloc hbc.size _))) h1w h1l hl1).mono ?_
      rintro e w5 ⟨bb,rfl,hbb,hbs,hb5⟩
      have hlen:(timedUp win1 parts.length win1.length).length = parts.length:=timedUp_len _ _ _
      rw [hlen]
      have ht5:w5.heap[W.heap.size]? = some (.cells #[.slice (some ⟨g0,0,none⟩) parts.length parts.length,.slice none 0 0] 219 (0,0)):=(hb5.block _ (by simp;omega)).trans ((HBA.out.block _ htb).trans HG.out)
      have z0:=cell_blk ht5 (i:=1) rfl
      have z1:w5.frozen? ⟨W.heap.size,1,none⟩ = false:=by simp [World.frozen?,ht5]
      have hw5:=HWB.out.trans (hb5.mono HWB.out.size)
      have hbb':W.heap.size < bb:=by have:=hbb;simp at this;omega
      have ht6:(w5.setCell ⟨W.heap.size,1,none⟩ (.slice (some ⟨bb,0,none⟩) parts.length parts.length)).heap[W.heap.size]? = some (.cells #[.slice (some ⟨g0,0,none⟩) parts.length parts.length,.slice (some ⟨bb,0,none⟩) parts.length parts.length] 219 (0,0)):=by simp [World.setCell,Array.getElem?_modify,ht5]
      have hbs6:BoolsAt (w5.setCell ⟨W.heap.size,1,none⟩ (.slice (some ⟨bb,0,none⟩) parts.length parts.length)) bb (timedUp win1 parts.length win1.length):=(Below.heap_setCell _ _ _ _ (by simp;omega)).trans hbs
      have hgs6:BoolsAt (w5.setCell ⟨W.heap.size,1,none⟩ (.slice (some ⟨bb,0,none⟩) parts.length parts.length)) g0 (timedUp win0 parts.length win0.length):=(Below.heap_setCell _ _ _ _ (by simp;omega)).trans ((HS0.out.below HBA.out).below hb5)
      have hw6:=hw5.setCell (p:=⟨W.heap.size,1,none⟩) (Nat.le_refl _) (.slice (some ⟨bb,0,none⟩) parts.length parts.length)
      have H6:=Lib.hid ht6;have HS6:=Lib.hid hbs6;have HW6:=Lib.hid hw6;have HBB:=Lib.hid hbb';have HG6:=Lib.hid hgs6;have HG0:=Lib.hid hg0
      clear ht5 ht6 hbs hbs6 hw5 hw6 hb5 hlen d0 d1 d2 d3 d4 d5 c0 c1 c2 c3 c4 c5 hbb hbb' hg0b hbc htb hgs6 hg0s hg0
      go_wp2
      go_roundw
      case rel => exact ⟨2,by omega,by omega,rfl,⟨(fun h => by omega),(fun h => by omega),(fun _ => ⟨g0,bb,HG0.out,HBB.out,H6.out,HG6.out,HS6.out⟩)⟩,HW6.out⟩
      case measure => simp [intOf]
    · subst hk
      obtain ⟨g0,g1,hg0,hg1,hT,hB0,hB1⟩:=HU.out.2.2 rfl
      have HBX:=Lib.hid (HB.out.trans (hbc.mono HB.out.size))
      have hpx:=hp.later hbc
      have HTX:=Lib.hid hT;have HB0:=Lib.hid hB0;have HB1:=Lib.hid hB1
      clear hT hB0 hB1 HU hbc hp hc h0 h1
      obtain ⟨X,hX⟩:∃ X,X = wr:=⟨_,rfl⟩
      rw [← hX] at HTX HB0 HB1 HBX hpx
      have HX0:=Lib.hid hX
      clear hX
      go_wp2
      clear c0 c1 c2 c3 c4 c5
      go_loopw [26] (fun ix wv => ∃ i:Nat,i ≤ parts.length ∧ ix = .int .i64 i ∧ scan i (fun i => !windowP (⟨parts,chans,len0,win0,len1,win1⟩:Cfg) i) = false ∧ Below X.heap.size X wv) (fun ix _ => parts.length - (intOf ix).toNat)
      case atStart => exact ⟨0,Nat.zero_le _,rfl,rfl,by rw [HX0.out];exact Below.refl _ _⟩
      case round =>
        obtain ⟨i,hi,rfl,ht,hbc⟩:=hrel
        have HT:=Lib.hid ht
        clear ht
        by_cases hlt:i < parts.length
        · obtain ⟨b,o,y0,y1,e0,_,e1,⟨hw0,hw1⟩,k0⟩:=hpx.at2 hpw hlt
          subst e0
          obtain ⟨p0,p1⟩:=k0 _ hbc
          have E1:=Lib.hid e1
          have hba:Below X.heap.size X (wr.alloc (.cells #[.int .i64 y0,.int .i64 y1] 131)):=hbc.alloc hbc.size _
          have HR:=Lib.hid hba
          have hTX:=(hba.block _ (Array.getElem?_eq_some_iff.1 HTX.out).1).trans HTX.out
          have z0:=cell_blk hTX (i:=0) rfl
          have z1:=cell_blk hTX (i:=1) rfl
          have s0:=(HB0.out.below hba).cell (timedUp_at win0 hlt)
          have s1:=(HB1.out.below hba).cell (timedUp_at win1 hlt)
          have hi1:(0:Int) ≤ (i:Int):=by omega
          have hi2:(i:Int) < (parts.length:Int):=by omega
          clear e1 k0 hba hTX
          by_cases n0:y0 = 0
          · subst n0
            have hic:decide ((0:Int) = 0 ∨ (0:Int) = 1) = true:=by decide
            cases hq0:hasWin win0 i with
            | true =>
              rw [hq0] at s0
              have HQ0:=Lib.hid hq0
              clear hq0
              cases hq1:hasWin win1 i with
              | true =>
                rw [hq1] at s1
                have HQ1:=Lib.hid hq1
                clear hq1
                have HX:=Lib.hid (show scan (i + 1) (fun i => !windowP (⟨parts,chans,len0,win0,len1,win1⟩:Cfg) i) = false from scan_next HT.out (by rw [show windowP (⟨parts,chans,len0,win0,len1,win1⟩:Cfg) i = true by unfold windowP;rw [show fld (row (⟨parts,chans,len0,win0,len1,win1⟩:Cfg).parts i) 0 = 0 by rw [show row (⟨parts,chans,len0,win0,len1,win1⟩:Cfg).parts i = [0,y1] from row_at E1.out];rfl,if_pos rfl];show hasWin win0 i = _;rw [HQ0.out]];rfl))
                go_wp2_with (go_at_call 133;((with_reducible refine (isCore_is _ _ _ (by assumption)).mono ?_);rintro e w5 ⟨rfl,rfl⟩))
                go_roundw
                case rel => exact ⟨i + 1,by omega,by go_num,HX.out,HR.out⟩
                case measure => simp [intOf];omega
              | false =>
                rw [hq1] at s1
                have HQ1:=Lib.hid hq1
                clear hq1
                have HX:=Lib.hid (show scan (i + 1) (fun i => !windowP (⟨parts,chans,len0,win0,len1,win1⟩:Cfg) i) = false from scan_next HT.out (by rw [show windowP (⟨parts,chans,len0,win0,len1,win1⟩:Cfg) i = true by unfold windowP;rw [show fld (row (⟨parts,chans,len0,win0,len1,win1⟩:Cfg).parts i) 0 = 0 by rw [show row (⟨parts,chans,len0,win0,len1,win1⟩:Cfg).parts i = [0,y1] from row_at E1.out];rfl,if_pos rfl];show hasWin win0 i = _;rw [HQ0.out]];rfl))
                go_wp2_with (go_at_call 133;((with_reducible refine (isCore_is _ _ _ (by assumption)).mono ?_);rintro e w5 ⟨rfl,rfl⟩))
                go_roundw
                case rel => exact ⟨i + 1,by omega,by go_num,HX.out,HR.out⟩
                case measure => simp [intOf];omega
            | false =>
              rw [hq0] at s0
              have HQ0:=Lib.hid hq0
              clear hq0
              cases hq1:hasWin win1 i with
              | true =>
                rw [hq1] at s1
                have HQ1:=Lib.hid hq1
                clear hq1
                have HX:=Lib.hid (show holdsP (⟨parts,chans,len0,win0,len1,win1⟩:Cfg) 17 = true from scan_hit (f:=(fun i => !windowP (⟨parts,chans,len0,win0,len1,win1⟩:Cfg) i)) hlt (by rw [show windowP (⟨parts,chans,len0,win0,len1,win1⟩:Cfg) i = false by unfold windowP;rw [show fld (row (⟨parts,chans,len0,win0,len1,win1⟩:Cfg).parts i) 0 = 0 by rw [show row (⟨parts,chans,len0,win0,len1,win1⟩:Cfg).parts i = [0,y1] from row_at E1.out];rfl,if_pos rfl];show hasWin win0 i = _;rw [HQ0.out]];rfl))
                go_wp2_with (go_at_call 133;((with_reducible refine (isCore_is _ _ _ (by assumption)).mono ?_);rintro e w5 ⟨rfl,rfl⟩))
                go_ret
                exact ⟨by rw [HX.out];rfl,HBX.out.trans (HR.out.mono HBX.out.size)⟩
              | false =>
                rw [hq1] at s1
                have HQ1:=Lib.hid hq1
                clear hq1
                have HX:=Lib.hid (show holdsP (⟨parts,chans,len0,win0,len1,win1⟩:Cfg) 17 = true from scan_hit (f:=(fun i => !windowP (⟨parts,chans,len0,win0,len1,win1⟩:Cfg) i)) hlt (by rw [show windowP (⟨parts,chans,len0,win0,len1,win1⟩:Cfg) i = false by unfold windowP;rw [show fld (row (⟨parts,chans,len0,win0,len1,win1⟩:Cfg).parts i) 0 = 0 by rw [show row (⟨parts,chans,len0,win0,len1,win1⟩:Cfg).parts i = [0,y1] from row_at E1.out];rfl,if_pos rfl];show hasWin win0 i = _;rw [HQ0.out]];rfl))
                go_wp2_with (go_at_call 133;((with_reducible refine (isCore_is _ _ _ (by assumption)).mono ?_);rintro e w5 ⟨rfl,rfl⟩))
                go_ret
                exact ⟨by rw [HX.out];rfl,HBX.out.trans (HR.out.mono HBX.out.size)⟩

          by_cases n1:y0 = 1
          · subst n1
            have hic:decide ((1:Int) = 0 ∨ (1:Int) = 1) = true:=by decide
            clear n0
            cases hq0:hasWin win0 i with
            | true =>
              rw [hq0] at s0
              have HQ0:=Lib.hid hq0
              clear hq0
              cases hq1:hasWin win1 i with
              | true =>
                rw [hq1] at s1
                have HQ1:=Lib.hid hq1
                clear hq1
                have HX:=Lib.hid (show scan (i + 1) (fun i => !windowP (⟨parts,chans,len0,win0,len1,win1⟩:Cfg) i) = false from scan_next HT.out (by rw [show windowP (⟨parts,chans,len0,win0,len1,win1⟩:Cfg) i = true by unfold windowP;rw [show fld (row (⟨parts,chans,len0,win0,len1,win1⟩:Cfg).parts i) 0 = 1 by rw [show row (⟨parts,chans,len0,win0,len1,win1⟩:Cfg).parts i = [1,y1] from row_at E1.out];rfl,if_neg (by decide),if_pos rfl];show hasWin win1 i = _;rw [HQ1.out]];rfl))
                go_wp2_with (go_at_call 133;((with_reducible refine (isCore_is _ _ _ (by assumption)).mono ?_);rintro e w5 ⟨rfl,rfl⟩))
                go_roundw
                case rel => exact ⟨i + 1,by omega,by go_num,HX.out,HR.out⟩
                case measure => simp [intOf];omega
              | false =>
                rw [hq1] at s1
                have HQ1:=Lib.hid hq1
                clear hq1
                have HX:=Lib.hid (show holdsP (⟨parts,chans,len0,win0,len1,win1⟩:Cfg) 17 = true from scan_hit (f:=(fun i => !windowP (⟨parts,chans,len0,win0,len1,win1⟩:Cfg) i)) hlt (by rw [show windowP (⟨parts,chans,len0,win0,len1,win1⟩:Cfg) i = false by unfold windowP;rw [show fld (row (⟨parts,chans,len0,win0,len1,win1⟩:Cfg).parts i) 0 = 1 by rw [show row (⟨parts,chans,len0,win0,len1,win1⟩:Cfg).parts i = [1,y1] from row_at E1.out];rfl,if_neg (by decide),if_pos rfl];show hasWin win1 i = _;rw [HQ1.out]];rfl))
                go_wp2_with (go_at_call 133;((with_reducible refine (isCore_is _ _ _ (by assumption)).mono ?_);rintro e w5 ⟨rfl,rfl⟩))
                go_ret
                exact ⟨by rw [HX.out];rfl,HBX.out.trans (HR.out.mono HBX.out.size)⟩
            | false =>
              rw [hq0] at s0
              have HQ0:=Lib.hid hq0
              clear hq0
              cases hq1:hasWin win1 i with
              | true =>
                rw [hq1] at s1
                have HQ1:=Lib.hid hq1
                clear hq1
                have HX:=Lib.hid (show scan (i + 1) (fun i => !windowP (⟨parts,chans,len0,win0,len1,win1⟩:Cfg) i) = false from scan_next HT.out (by rw [show windowP (⟨parts,chans,len0,win0,len1,win1⟩:Cfg) i = true by unfold windowP;rw [show fld (row (⟨parts,chans,len0,win0,len1,win1⟩:Cfg).parts i) 0 = 1 by rw [show row (⟨parts,chans,len0,win0,len1,win1⟩:Cfg).parts i = [1,y1] from row_at E1.out];rfl,if_neg (by decide),if_pos rfl];show hasWin win1 i = _;rw [HQ1.out]];rfl))
                go_wp2_with (go_at_call 133;((with_reducible refine (isCore_is _ _ _ (by assumption)).mono ?_);rintro e w5 ⟨rfl,rfl⟩))
                go_roundw
                case rel => exact ⟨i + 1,by omega,by go_num,HX.out,HR.out⟩
                case measure => simp [intOf];omega
              | false =>
                rw [hq1] at s1
                have HQ1:=Lib.hid hq1
                clear hq1
                have HX:=Lib.hid (show holdsP (⟨parts,chans,len0,win0,len1,win1⟩:Cfg) 17 = true from scan_hit (f:=(fun i => !windowP (⟨parts,chans,len0,win0,len1,win1⟩:Cfg) i)) hlt (by rw [show windowP (⟨parts,chans,len0,win0,len1,win1⟩:Cfg) i = false by unfold windowP;rw [show fld (row (⟨parts,chans,len0,win0,len1,win1⟩:Cfg).parts i) 0 = 1 by rw [show row (⟨parts,chans,len0,win0,len1,win1⟩:Cfg).parts i = [1,y1] from row_at E1.out];rfl,if_neg (by decide),if_pos rfl];show hasWin win1 i = _;rw [HQ1.out]];rfl))
                go_wp2_with (go_at_call 133;((with_reducible refine (isCore_is _ _ _ (by assumption)).mono ?_);rintro e w5 ⟨rfl,rfl⟩))
                go_ret
                exact ⟨by rw [HX.out];rfl,HBX.out.trans (HR.out.mono HBX.out.size)⟩

          · have hic:decide (y0 = 0 ∨ y0 = 1) = false:=decide_eq_false (by omega)
            cases hq0:hasWin win0 i with
            | true =>
              rw [hq0] at s0
              have HQ0:=Lib.hid hq0
              clear hq0
              cases hq1:hasWin win1 i with
              | true =>
                rw [hq1] at s1
                have HQ1:=Lib.hid hq1
                clear hq1
                have HX:=Lib.hid (show scan (i + 1) (fun i => !windowP (⟨parts,chans,len0,win0,len1,win1⟩:Cfg) i) = false from scan_next HT.out (by rw [show windowP (⟨parts,chans,len0,win0,len1,win1⟩:Cfg) i = true by unfold windowP;rw [show fld (row (⟨parts,chans,len0,win0,len1,win1⟩:Cfg).parts i) 0 = y0 by rw [show row (⟨parts,chans,len0,win0,len1,win1⟩:Cfg).parts i = [y0,y1] from row_at E1.out];rfl,if_neg n0,if_neg n1];show (hasWin win0 i || hasWin win1 i) = _;rw [HQ0.out,HQ1.out];rfl];rfl))
                go_wp2_with (go_at_call 133;((with_reducible refine (isCore_is _ _ _ (by assumption)).mono ?_);rintro e w5 ⟨rfl,rfl⟩))
                go_roundw
                case rel => exact ⟨i + 1,by omega,by go_num,HX.out,HR.out⟩
                case measure => simp [intOf];omega
              | false =>
                rw [hq1] at s1
                have HQ1:=Lib.hid hq1
                clear hq1
                have HX:=Lib.hid (show scan (i + 1) (fun i => !windowP (⟨parts,chans,len0,win0,len1,win1⟩:Cfg) i) = false from scan_next HT.out (by rw [show windowP (⟨parts,chans,len0,win0,len1,win1⟩:Cfg) i = true by unfold windowP;rw [show fld (row (⟨parts,chans,len0,win0,len1,win1⟩:Cfg).parts i) 0 = y0 by rw [show row (⟨parts,chans,len0,win0,len1,win1⟩:Cfg).parts i = [y0,y1] from row_at E1.out];rfl,if_neg n0,if_neg n1];show (hasWin win0 i || hasWin win1 i) = _;rw [HQ0.out,HQ1.out];rfl];rfl))
                go_wp2_with (go_at_call 133;((with_reducible refine (isCore_is _ _ _ (by assumption)).mono ?_);rintro e w5 ⟨rfl,rfl⟩))
                go_roundw
                case rel => exact ⟨i + 1,by omega,by go_num,HX.out,HR.out⟩
                case measure => simp [intOf];omega
            | false =>
              rw [hq0] at s0
              have HQ0:=Lib.hid hq0
              clear hq0
              cases hq1:hasWin win1 i with
              | true =>
                rw [hq1] at s1
                have HQ1:=Lib.hid hq1
                clear hq1
                have HX:=Lib.hid (show scan (i + 1) (fun i => !windowP (⟨parts,chans,len0,win0,len1,win1⟩:Cfg) i) = false from scan_next HT.out (by rw [show windowP (⟨parts,chans,len0,win0,len1,win1⟩:Cfg) i = true by unfold windowP;rw [show fld (row (⟨parts,chans,len0,win0,len1,win1⟩:Cfg).parts i) 0 = y0 by rw [show row (⟨parts,chans,len0,win0,len1,win1⟩:Cfg).parts i = [y0,y1] from row_at E1.out];rfl,if_neg n0,if_neg n1];show (hasWin win0 i || hasWin win1 i) = _;rw [HQ0.out,HQ1.out];rfl];rfl))
                go_wp2_with (go_at_call 133;((with_reducible refine (isCore_is _ _ _ (by assumption)).mono ?_);rintro e w5 ⟨rfl,rfl⟩))
                go_roundw
                case rel => exact ⟨i + 1,by omega,by go_num,HX.out,HR.out⟩
                case measure => simp [intOf];omega
              | false =>
                rw [hq1] at s1
                have HQ1:=Lib.hid hq1
                clear hq1
                have HX:=Lib.hid (show holdsP (⟨parts,chans,len0,win0,len1,win1⟩:Cfg) 17 = true from scan_hit (f:=(fun i => !windowP (⟨parts,chans,len0,win0,len1,win1⟩:Cfg) i)) hlt (by rw [show windowP (⟨parts,chans,len0,win0,len1,win1⟩:Cfg) i = false by unfold windowP;rw [show fld (row (⟨parts,chans,len0,win0,len1,win1⟩:Cfg).parts i) 0 = y0 by rw [show row (⟨parts,chans,len0,win0,len1,win1⟩:Cfg).parts i = [y0,y1] from row_at E1.out];rfl,if_neg n0,if_neg n1];show (hasWin win0 i || hasWin win1 i) = _;rw [HQ0.out,HQ1.out];rfl];rfl))
                go_wp2_with (go_at_call 133;((with_reducible refine (isCore_is _ _ _ (by assumption)).mono ?_);rintro e w5 ⟨rfl,rfl⟩))
                go_ret
                exact ⟨by rw [HX.out];rfl,HBX.out.trans (HR.out.mono HBX.out.size)⟩
        · have HS:=Lib.hid (show holdsP (⟨parts,chans,len0,win0,len1,win1⟩:Cfg) 17 = false by have h:=HT.out;rw [show i = parts.length by omega] at h;exact h)
          clear HT
          go_wp2
          go_ret
          exact ⟨by rw [HS.out];rfl,HBX.out.trans (hbc.mono HBX.out.size)⟩
end Go.Proofs.YtheeiklgblcjfaaGreatDoor
