/- Texts of the ring, joined, what is used of them. No condition but those in the statements. -/
import Derived.BigQuiet
import Derived.IntWalk
import Derived.Test.YtjfolhkblbakiaaGreatDoorQRMade
namespace Go.Proofs.YtjfolhkblbakiaaGreatDoor
open Go.RowKit Go.Sort Go.ChangeShapes Go.WideShapes
set_option linter.unusedVariables false
set_option linter.unusedSimpArgs false
theorem Tryz.infoSide:(Tryz.prog.info? 113).map (fun i => i.size) = some 4:=by kernel_rfl
theorem results_cell_side {fn:Func} {p:Tmp} (h:fn.results = #[.cell p 113]) (tmps:Array Value) (w:World) (g:Nat) (a b:Int) (s q:Bool) (hp:tmps.getD p undef = .pointer (some ⟨g,0,none⟩))
    (h0:w.cell? ⟨g,0,none⟩ = some (.int .i64 a)) (h1:w.cell? ⟨g,1,none⟩ = some (.int .i64 b)) (h2:w.cell? ⟨g,2,none⟩ = some (.bool s)) (h3:w.cell? ⟨g,3,none⟩ = some (.bool q)):(results fn tmps).run Tryz.prog w = .ok (.agg #[.int .i64 a,.int .i64 b,.bool s,.bool q]) w:=by
  have hp':tmps[p]?.getD undef = .pointer (some ⟨g,0,none⟩):=by simpa using hp
  obtain ⟨i,hi,hs⟩:∃ i,Tryz.prog.info? 113 = some i ∧ i.size = 4:=by
    have h:=Tryz.infoSide
    cases hh:Tryz.prog.info? 113 with
    | none => rw [hh] at h;cases h
    | some i => rw [hh] at h;exact ⟨i,rfl,by simpa using h⟩
  simp [results,h,hp',asAddr,loadVar,isAgg,run_underlying Tryz.underlying113,sizeOf,typeInfo,hi,hs]
  go_simp
theorem side_set {W:World} {r:Nat} (hR:W.heap[r]? = some (.cells #[.int .i64 0,.int .i64 0,.bool false,.bool false] 113 (0,0))) (k p:Int) (s b:Bool) :
    ((((W.setCell ⟨r,0,none⟩ (.int .i64 k)).setCell ⟨r,1,none⟩ (.int .i64 p)).setCell ⟨r,2,none⟩ (.bool s)).setCell ⟨r,3,none⟩ (.bool b)).heap[r]? = some (.cells #[.int .i64 k,.int .i64 p,.bool s,.bool b] 113 (0,0)):=by simp [World.setCell,Array.getElem?_modify,hR]
theorem side_below {w W:World} {r:Nat} (hB:Below w.heap.size w W) (hr:w.heap.size ≤ r) (k p:Int) (s b:Bool) :
    Below w.heap.size w ((((W.setCell ⟨r,0,none⟩ (.int .i64 k)).setCell ⟨r,1,none⟩ (.int .i64 p)).setCell ⟨r,2,none⟩ (.bool s)).setCell ⟨r,3,none⟩ (.bool b)):=
  (((hB.setCell (p:=⟨r,0,none⟩) hr _).setCell (p:=⟨r,1,none⟩) hr _).setCell (p:=⟨r,2,none⟩) hr _).setCell (p:=⟨r,3,none⟩) hr _
set_option maxRecDepth 100000 in
set_option maxHeartbeats 4000000 in
theorem rport_b (c:Cfg) (x:CfgAt) (port:Int) (w:World) (hx:CfgIn w w.heap.size c x) (wx:CfgWf c) (lx:CfgFew c) (hp:(Lit.int .i64 port).wf = true):Calls Tryz.prog 47 #[.agg (cfgCells c x),.int .i64 port] w fun e w' => e = .returned (.agg #[.int .i64 (portK c port),.int .i64 (portP c port),.bool (portS c port),.bool (portB c port)]) ∧ Below w.heap.size w w':=by
  obtain ⟨Wc,HWc,hBc,hWs,bx⟩:=one_cbox w c x 29
  obtain ⟨pa,pc,ca,cc,aa,ac,ba,bc⟩:=x
  obtain ⟨W,HW⟩:∃ u,Hid (u = Wc.alloc (.cells #[.int .i64 0,.int .i64 0,.bool false,.bool false] 113)):=⟨_,rfl⟩
  obtain ⟨r,hr⟩:∃ r,r = Wc.heap.size:=⟨_,rfl⟩
  have hrr:Wc.heap.size ≤ r:=by omega
  have hR:W.heap[r]? = some (.cells #[.int .i64 0,.int .i64 0,.bool false,.bool false] 113 (0,0)):=by rw [HW.out,hr];exact heap_alloc_new _ _
  have hBW:Below Wc.heap.size Wc W:=by rw [HW.out];exact (Below.refl _ _).alloc (Nat.le_refl _) _
  have hxW:=hx.later (hBc.trans (hBW.mono hBc.size))
  obtain ⟨c0,c1,c2,c3,c4,c5⟩:=bx _ hBW
  have hl:=lx.2.1
  have HB:=Lib.hid hBc;have HR0:=Lib.hid hR;have HBW:=Lib.hid hBW;have HXW:=Lib.hid hxW;have HRR:=Lib.hid hr
  simp only [cfgCells] at HWc ⊢
  clear hBc hR hBW hxW hx hr hWs
  obtain ⟨p0,p1⟩:=bounds_i64 hp
  by_cases h1:port < 0
  · have HQ:=Lib.hid (show portB c port = false by unfold portB;rw [decide_eq_false (fun h => by omega),Bool.and_false])
    have HX:=Lib.hid (show portK c port = 0 ∧ portP c port = 0 ∧ portS c port = false from ⟨(port_none HQ.out).1,(port_none HQ.out).2.2,(port_none HQ.out).2.1⟩)
    have hz0:W.cell? ⟨r,0,none⟩ = some (.int .i64 0):=cell_blk HR0.out rfl
    have hf0:W.frozen? ⟨r,0,none⟩ = false:=by simp [World.frozen?,HR0.out]
    have hz1:W.cell? ⟨r,1,none⟩ = some (.int .i64 0):=cell_blk HR0.out rfl
    have hf1:W.frozen? ⟨r,1,none⟩ = false:=by simp [World.frozen?,HR0.out]
    have hz2:W.cell? ⟨r,2,none⟩ = some (.bool false):=cell_blk HR0.out rfl
    have hf2:W.frozen? ⟨r,2,none⟩ = false:=by simp [World.frozen?,HR0.out]
    have hz3:W.cell? ⟨r,3,none⟩ = some (.bool false):=cell_blk HR0.out rfl
    have hf3:W.frozen? ⟨r,3,none⟩ = false:=by simp [World.frozen?,HR0.out]
    go_enter Tryz.func47,Tryz.ntmps47
    go_wp2_with (first | (rw [← HWc.out]) | (rw [← HW.out];simp only [← HRR.out]))
    have hRz:=side_set HR0.out 0 0 false false
    have hBz:=side_below (w:=Wc) HBW.out hrr 0 0 false false
    exact bodyPost_ret (results_cell_side rfl _ _ r _ _ _ _ rfl (cell_blk hRz (i:=0) rfl) (cell_blk hRz (i:=1) rfl) (cell_blk hRz (i:=2) rfl) (cell_blk hRz (i:=3) rfl)) rfl ⟨by rw [HX.out.1,HX.out.2.1,HX.out.2.2,HQ.out],HB.out.trans (hBz.mono HB.out.size)⟩
  have h1d:decide (port < 0) = false:=decide_eq_false h1
  by_cases h2:2 * (c.chans.length:Int) ≤ port
  · have HQ:=Lib.hid (show portB c port = false by unfold portB;rw [decide_eq_false (fun h => by omega),Bool.and_false])
    have HX:=Lib.hid (show portK c port = 0 ∧ portP c port = 0 ∧ portS c port = false from ⟨(port_none HQ.out).1,(port_none HQ.out).2.2,(port_none HQ.out).2.1⟩)
    have hz0:W.cell? ⟨r,0,none⟩ = some (.int .i64 0):=cell_blk HR0.out rfl
    have hf0:W.frozen? ⟨r,0,none⟩ = false:=by simp [World.frozen?,HR0.out]
    have hz1:W.cell? ⟨r,1,none⟩ = some (.int .i64 0):=cell_blk HR0.out rfl
    have hf1:W.frozen? ⟨r,1,none⟩ = false:=by simp [World.frozen?,HR0.out]
    have hz2:W.cell? ⟨r,2,none⟩ = some (.bool false):=cell_blk HR0.out rfl
    have hf2:W.frozen? ⟨r,2,none⟩ = false:=by simp [World.frozen?,HR0.out]
    have hz3:W.cell? ⟨r,3,none⟩ = some (.bool false):=cell_blk HR0.out rfl
    have hf3:W.frozen? ⟨r,3,none⟩ = false:=by simp [World.frozen?,HR0.out]
    go_enter Tryz.func47,Tryz.ntmps47
    go_wp2_with (first | (rw [← HWc.out]) | (rw [← HW.out];simp only [← HRR.out]))
    have hRz:=side_set HR0.out 0 0 false false
    have hBz:=side_below (w:=Wc) HBW.out hrr 0 0 false false
    exact bodyPost_ret (results_cell_side rfl _ _ r _ _ _ _ rfl (cell_blk hRz (i:=0) rfl) (cell_blk hRz (i:=1) rfl) (cell_blk hRz (i:=2) rfl) (cell_blk hRz (i:=3) rfl)) rfl ⟨by rw [HX.out.1,HX.out.2.1,HX.out.2.2,HQ.out],HB.out.trans (hBz.mono HB.out.size)⟩
  have h2d:decide (2 * (c.chans.length:Int) ≤ port) = false:=decide_eq_false h2
  cases hq:acceptsB c with
  | false =>
    have HA:=Lib.hid hq
    have HQ:=Lib.hid (show portB c port = false by unfold portB;rw [hq,Bool.false_and])
    have HX:=Lib.hid (show portK c port = 0 ∧ portP c port = 0 ∧ portS c port = false from ⟨(port_none HQ.out).1,(port_none HQ.out).2.2,(port_none HQ.out).2.1⟩)
    clear hq
    go_enter Tryz.func47,Tryz.ntmps47
    go_wp2_with (first | (rw [← HWc.out]) | (rw [← HW.out];simp only [← HRR.out]))
    refine (racc_b c ⟨pa,pc,ca,cc,aa,ac,ba,bc⟩ false W HXW.out wx lx HA.out).mono ?_
    rintro e w5 ⟨rfl,hb5⟩
    have HR5:=Lib.hid ((hb5.block r (Array.getElem?_eq_some_iff.1 HR0.out).1).trans HR0.out)
    have HB5:=Lib.hid (HBW.out.trans (hb5.mono HBW.out.size))
    obtain ⟨c0,c1,c2,c3,c4,c5⟩:=bx _ HB5.out
    have hz0:w5.cell? ⟨r,0,none⟩ = some (.int .i64 0):=cell_blk HR5.out rfl
    have hf0:w5.frozen? ⟨r,0,none⟩ = false:=by simp [World.frozen?,HR5.out]
    have hz1:w5.cell? ⟨r,1,none⟩ = some (.int .i64 0):=cell_blk HR5.out rfl
    have hf1:w5.frozen? ⟨r,1,none⟩ = false:=by simp [World.frozen?,HR5.out]
    have hz2:w5.cell? ⟨r,2,none⟩ = some (.bool false):=cell_blk HR5.out rfl
    have hf2:w5.frozen? ⟨r,2,none⟩ = false:=by simp [World.frozen?,HR5.out]
    have hz3:w5.cell? ⟨r,3,none⟩ = some (.bool false):=cell_blk HR5.out rfl
    have hf3:w5.frozen? ⟨r,3,none⟩ = false:=by simp [World.frozen?,HR5.out]
    clear hb5
    go_wp2
    have hRz:=side_set HR5.out 0 0 false false
    have hBz:=side_below (w:=Wc) HB5.out hrr 0 0 false false
    exact bodyPost_ret (results_cell_side rfl _ _ r _ _ _ _ rfl (cell_blk hRz (i:=0) rfl) (cell_blk hRz (i:=1) rfl) (cell_blk hRz (i:=2) rfl) (cell_blk hRz (i:=3) rfl)) rfl ⟨by rw [HX.out.1,HX.out.2.1,HX.out.2.2,HQ.out],HB.out.trans (hBz.mono HB.out.size)⟩
  | true =>
    have HA:=Lib.hid hq
    have HQ:=Lib.hid (show portB c port = true by unfold portB;rw [hq,decide_eq_true (show 0 ≤ port ∧ port < 2 * (c.chans.length:Int) by omega)];rfl)
    obtain ⟨k,hk0⟩:=Int.eq_ofNat_of_zero_le (a:=port / 2) (by omega)
    have hlt:k < c.chans.length:=by omega
    obtain ⟨b,o,x0,x1,x2,x3,x4,x5,x6,e0,_,e1,_,k0⟩:=HXW.out.rc.at7 wx.wc hlt
    cases e0
    have E1:=Lib.hid e1
    clear hq e1
    by_cases hev:port % 2 = 0
    · have hk:port = 2 * (k:Int):=by omega
      have HX:=Lib.hid (show portK c port = (k:Int) ∧ portP c port = x1 ∧ portS c port = true from by have h:=port_even HQ.out hk E1.out;exact ⟨h.1,h.2.2,h.2.1⟩)
      have hr0:(port.tmod 2) = 0:=by rw [Int.tmod_eq_emod_of_nonneg (by omega)];omega
      have hr1:(port.tdiv 2) = (k:Int):=by rw [Int.tdiv_eq_ediv_of_nonneg (by omega)];omega
      have hr2:port % 2 = 0:=by omega
      have hr3:port / 2 = (k:Int):=by omega
      have g1:(0:Int) ≤ (k:Int):=by omega
      have g2:(k:Int) < (c.chans.length:Int):=by omega
      have g3:0 ≤ port:=by omega
      clear hk hk0 hev
      go_enter Tryz.func47,Tryz.ntmps47
      go_wp2_with (first | (rw [← HWc.out]) | (rw [← HW.out];simp only [← HRR.out]))
      refine (racc_b c ⟨pa,pc,(some ⟨b,o,none⟩),cc,aa,ac,ba,bc⟩ true W HXW.out wx lx HA.out).mono ?_
      rintro e w5 ⟨rfl,hb5⟩
      have HR5:=Lib.hid ((hb5.block r (Array.getElem?_eq_some_iff.1 HR0.out).1).trans HR0.out)
      have HB5:=Lib.hid (HBW.out.trans (hb5.mono HBW.out.size))
      obtain ⟨c0,c1,c2,c3,c4,c5⟩:=bx _ HB5.out
      have hz0:w5.cell? ⟨r,0,none⟩ = some (.int .i64 0):=cell_blk HR5.out rfl
      have hf0:w5.frozen? ⟨r,0,none⟩ = false:=by simp [World.frozen?,HR5.out]
      have hz1:w5.cell? ⟨r,1,none⟩ = some (.int .i64 0):=cell_blk HR5.out rfl
      have hf1:w5.frozen? ⟨r,1,none⟩ = false:=by simp [World.frozen?,HR5.out]
      have hz2:w5.cell? ⟨r,2,none⟩ = some (.bool false):=cell_blk HR5.out rfl
      have hf2:w5.frozen? ⟨r,2,none⟩ = false:=by simp [World.frozen?,HR5.out]
      have hz3:w5.cell? ⟨r,3,none⟩ = some (.bool false):=cell_blk HR5.out rfl
      have hf3:w5.frozen? ⟨r,3,none⟩ = false:=by simp [World.frozen?,HR5.out]
      have k0:=k0 _ (hb5)
      obtain ⟨y0,y1,y2,y3,y4,y5,y6⟩:=k0
      clear hb5
      go_wp2
      have hRz:=side_set HR5.out (k:Int) x1 true true
      have hBz:=side_below (w:=Wc) HB5.out hrr (k:Int) x1 true true
      exact bodyPost_ret (results_cell_side rfl _ _ r _ _ _ _ rfl (cell_blk hRz (i:=0) rfl) (cell_blk hRz (i:=1) rfl) (cell_blk hRz (i:=2) rfl) (cell_blk hRz (i:=3) rfl)) rfl ⟨by rw [HX.out.1,HX.out.2.1,HX.out.2.2,HQ.out],HB.out.trans (hBz.mono HB.out.size)⟩
    · have hk:port = 2 * (k:Int) + 1:=by omega
      have HX:=Lib.hid (show portK c port = (k:Int) ∧ portP c port = x2 ∧ portS c port = false from by have h:=port_odd HQ.out hk E1.out;exact ⟨h.1,h.2.2,h.2.1⟩)
      have hr0:(port.tmod 2) = 1:=by rw [Int.tmod_eq_emod_of_nonneg (by omega)];omega
      have hr1:(port.tdiv 2) = (k:Int):=by rw [Int.tdiv_eq_ediv_of_nonneg (by omega)];omega
      have hr2:port % 2 = 1:=by omega
      have hr3:port / 2 = (k:Int):=by omega
      have g1:(0:Int) ≤ (k:Int):=by omega
      have g2:(k:Int) < (c.chans.length:Int):=by omega
      have g3:0 ≤ port:=by omega
      clear hk hk0 hev
      go_enter Tryz.func47,Tryz.ntmps47
      go_wp2_with (first | (rw [← HWc.out]) | (rw [← HW.out];simp only [← HRR.out]))
      refine (racc_b c ⟨pa,pc,(some ⟨b,o,none⟩),cc,aa,ac,ba,bc⟩ true W HXW.out wx lx HA.out).mono ?_
      rintro e w5 ⟨rfl,hb5⟩
      have HR5:=Lib.hid ((hb5.block r (Array.getElem?_eq_some_iff.1 HR0.out).1).trans HR0.out)
      have HB5:=Lib.hid (HBW.out.trans (hb5.mono HBW.out.size))
      obtain ⟨c0,c1,c2,c3,c4,c5⟩:=bx _ HB5.out
      have hz0:w5.cell? ⟨r,0,none⟩ = some (.int .i64 0):=cell_blk HR5.out rfl
      have hf0:w5.frozen? ⟨r,0,none⟩ = false:=by simp [World.frozen?,HR5.out]
      have hz1:w5.cell? ⟨r,1,none⟩ = some (.int .i64 0):=cell_blk HR5.out rfl
      have hf1:w5.frozen? ⟨r,1,none⟩ = false:=by simp [World.frozen?,HR5.out]
      have hz2:w5.cell? ⟨r,2,none⟩ = some (.bool false):=cell_blk HR5.out rfl
      have hf2:w5.frozen? ⟨r,2,none⟩ = false:=by simp [World.frozen?,HR5.out]
      have hz3:w5.cell? ⟨r,3,none⟩ = some (.bool false):=cell_blk HR5.out rfl
      have hf3:w5.frozen? ⟨r,3,none⟩ = false:=by simp [World.frozen?,HR5.out]
      have k0:=k0 _ (hb5)
      obtain ⟨y0,y1,y2,y3,y4,y5,y6⟩:=k0
      clear hb5
      go_wp2
      have hRz:=side_set HR5.out (k:Int) x2 false true
      have hBz:=side_below (w:=Wc) HB5.out hrr (k:Int) x2 false true
      exact bodyPost_ret (results_cell_side rfl _ _ r _ _ _ _ rfl (cell_blk hRz (i:=0) rfl) (cell_blk hRz (i:=1) rfl) (cell_blk hRz (i:=2) rfl) (cell_blk hRz (i:=3) rfl)) rfl ⟨by rw [HX.out.1,HX.out.2.1,HX.out.2.2,HQ.out],HB.out.trans (hBz.mono HB.out.size)⟩
end Go.Proofs.YtjfolhkblbakiaaGreatDoor
