/- Texts of the ring, joined, what is used of them. No condition but those in the statements. -/
import Derived.BigQuiet
import Derived.BigRegion
import Derived.Deep.RegionHeld3
import Derived.IntWalk
import Derived.Test.YtheeiklgblcjfaaGreatDoorQgb
import Derived.Test.YtheeiklgblcjfaaGreatDoorQgd
set_option linter.unusedVariables false
set_option linter.unusedSimpArgs false
section
namespace Go.Proofs.YtheeiklgblcjfaaGreatDoor
open Go.Lib (hid)
open Go.RowKit Go.Sort Go.ChangeShapes Go.WideShapes
theorem Tryz.infoS:(Tryz.prog.info? 173).map (fun i => (i.size)) = some 2:=by kernel_rfl
theorem results_cell_span {fn:Func} {p:Tmp} (h:fn.results = #[.cell p 173]) (tmps:Array Value) (w:World) (g:Nat) (a b:Int)
  (hp:tmps.getD p undef = .pointer (some ⟨g,0,none⟩)) (h0:w.cell? ⟨g,0,none⟩ = some (.int .i64 a)) (h1:w.cell? ⟨g,1,none⟩ = some (.int .i64 b)):(results fn tmps).run Tryz.prog w = .ok (.agg #[.int .i64 a,.int .i64 b]) w:=by
 have hp':tmps[p]?.getD undef = .pointer (some ⟨g,0,none⟩):=by simpa using hp
 obtain ⟨i,hi,hs⟩:∃ i,Tryz.prog.info? 173 = some i ∧ i.size = 2:=by
  have h:=Tryz.infoS
  cases hh:Tryz.prog.info? 173 with
  | none => rw [hh] at h;cases h
  | some i => rw [hh] at h;exact ⟨i,rfl,by simpa using h⟩
 simp [results,h,hp',asAddr,loadVar,isAgg,run_underlying Tryz.underlying173,sizeOf,typeInfo,hi,hs]
 go_simp
end Go.Proofs.YtheeiklgblcjfaaGreatDoor
end
section
namespace Go.Proofs.YtheeiklgblcjfaaGreatDoor
open Go.Lib (hid)
open Go.RowKit Go.Sort Go.ChangeShapes Go.WideShapes
/-- A partition's private span,From and Size;noughts,if there is none. -/
def privSpan (c:Cfg) (p:Int):Int × Int:=if acceptsB c = true ∧ 0 ≤ p ∧ p < (c.parts.length:Int) then (privUp c.parts p.toNat,fld (row c.parts p.toNat) 1) else (0,0)
set_option maxRecDepth 100000 in
set_option maxHeartbeats 4000000 in
theorem rprivate_b (c:Cfg) (x:CfgAt) (p:Int) (w:World) (hx:CfgIn w w.heap.size c x) (wx:CfgWf c) (lx:CfgFew c):Calls Tryz.prog 87 #[.agg (cfgCells c x),.int .i64 p] w fun e w' => e = .returned (.agg #[.int .i64 (privSpan c p).1,.int .i64 (privSpan c p).2]) ∧ Below w.heap.size w w':=by
 obtain ⟨Wc,HWc,hBc,hWs,bx⟩:=one_cbox w c x 29
 obtain ⟨pa,pc,ca,cc,aa,ac,ba,bc⟩:=x
 obtain ⟨W,HW⟩:∃ u,Hid (u = Wc.alloc (.cells #[.int .i64 0,.int .i64 0] 173)):=⟨_,rfl⟩
 obtain ⟨r,hr⟩:∃ r,r = Wc.heap.size:=⟨_,rfl⟩
 have hrr:Wc.heap.size ≤ r:=by omega
 have hR:W.heap[r]? = some (.cells #[.int .i64 0,.int .i64 0] 173 (0,0)):=by rw [HW.out,hr];exact heap_alloc_new _ _
 have hBW:Below Wc.heap.size Wc W:=by rw [HW.out];exact (Below.refl _ _).alloc (Nat.le_refl _) _
 have hxW:=hx.later (hBc.trans (hBW.mono hBc.size))
 obtain ⟨c0,c1,c2,c3,c4,c5⟩:=bx _ hBW
 have HB:=hid hBc;have HR0:=hid hR;have HBW:=hid hBW;have HXW:=hid hxW;have HXC:=hid (hx.later hBc);have HRR:=hid hr
 simp only [cfgCells] at HWc ⊢
 clear hBc hR hBW hxW hx hr hWs
 cases hq:acceptsB c with
 | false =>
  have HX:=hid (show privSpan c p = (0,0) from if_neg (fun h => by rw [hq] at h;cases h.1))
  have HC:=hid (racc_b c ⟨pa,pc,ca,cc,aa,ac,ba,bc⟩ false W HXW.out wx lx hq)
  clear hq
  go_enter Tryz.func87,Tryz.ntmps87
  go_wp2_with (first | (rw [← HWc.out]) | (rw [← HW.out]))
  refine HC.out.mono ?_
  rintro e w5 ⟨rfl,hb5⟩
  have hR5:=(hb5.block r (Array.getElem?_eq_some_iff.1 HR0.out).1).trans HR0.out
  have z0:=cell_blk hR5 (i:=0) rfl
  have z1:=cell_blk hR5 (i:=1) rfl
  have f0:w5.frozen? ⟨r,0,none⟩ = false:=by simp [World.frozen?,hR5]
  have f1:w5.frozen? ⟨r,1,none⟩ = false:=by simp [World.frozen?,hR5]
  have HR5:=hid hR5
  have HF:=hid (HB.out.trans ((HBW.out.trans (hb5.mono HBW.out.size)).mono HB.out.size))
  obtain ⟨g0,g1,g2,g3,g4,g5⟩:=bx _ (HBW.out.trans (hb5.mono HBW.out.size))
  clear hb5 hR5 c0 c1 c2 c3 c4 c5
  simp only [← HRR.out]
  go_wp2
  have hRz:((w5.setCell ⟨r,0,none⟩ (.int .i64 0)).setCell ⟨r,1,none⟩ (.int .i64 0)).heap[r]? = some (.cells #[.int .i64 0,.int .i64 0] 173 (0,0)):=by simp [World.setCell,Array.getElem?_modify,HR5.out]
  refine bodyPost_ret (results_cell_span rfl _ _ r 0 0 rfl (cell_blk hRz (i:=0) rfl) (cell_blk hRz (i:=1) rfl)) rfl ⟨by rw [HX.out],(HF.out.setCell (p:=⟨r,0,none⟩) ?_ _).setCell (p:=⟨r,1,none⟩) ?_ _⟩ <;> (have:=HB.out.size;show w.heap.size ≤ r;omega)
 | true =>
  have HC:=hid (racc_b c ⟨pa,pc,ca,cc,aa,ac,ba,bc⟩ true W HXW.out wx lx hq)
  have HA:=hid (accd_of hq)
  by_cases h1:p < 0
  ·have HX:=hid (show privSpan c p = (0,0) from if_neg (fun h => by omega))
   clear hq
   go_enter Tryz.func87,Tryz.ntmps87
   go_wp2_with (first | (rw [← HWc.out]) | (rw [← HW.out]))
   refine HC.out.mono ?_
   rintro e w5 ⟨rfl,hb5⟩
   have hR5:=(hb5.block r (Array.getElem?_eq_some_iff.1 HR0.out).1).trans HR0.out
   have z0:=cell_blk hR5 (i:=0) rfl
   have z1:=cell_blk hR5 (i:=1) rfl
   have f0:w5.frozen? ⟨r,0,none⟩ = false:=by simp [World.frozen?,hR5]
   have f1:w5.frozen? ⟨r,1,none⟩ = false:=by simp [World.frozen?,hR5]
   have HR5:=hid hR5
   have HF:=hid (HB.out.trans ((HBW.out.trans (hb5.mono HBW.out.size)).mono HB.out.size))
   obtain ⟨g0,g1,g2,g3,g4,g5⟩:=bx _ (HBW.out.trans (hb5.mono HBW.out.size))
   clear hb5 hR5 c0 c1 c2 c3 c4 c5
   simp only [← HRR.out]
   go_wp2
   have hRz:((w5.setCell ⟨r,0,none⟩ (.int .i64 0)).setCell ⟨r,1,none⟩ (.int .i64 0)).heap[r]? = some (.cells #[.int .i64 0,.int .i64 0] 173 (0,0)):=by simp [World.setCell,Array.getElem?_modify,HR5.out]
   refine bodyPost_ret (results_cell_span rfl _ _ r 0 0 rfl (cell_blk hRz (i:=0) rfl) (cell_blk hRz (i:=1) rfl)) rfl ⟨by rw [HX.out],(HF.out.setCell (p:=⟨r,0,none⟩) ?_ _).setCell (p:=⟨r,1,none⟩) ?_ _⟩ <;> (have:=HB.out.size;show w.heap.size ≤ r;omega)
  have h1d:decide (p < 0) = false:=decide_eq_false h1
  by_cases h2:(c.parts.length:Int) ≤ p
  ·have HX:=hid (show privSpan c p = (0,0) from if_neg (fun h => by omega))
   clear hq
   go_enter Tryz.func87,Tryz.ntmps87
   go_wp2_with (first | (rw [← HWc.out]) | (rw [← HW.out]))
   refine HC.out.mono ?_
   rintro e w5 ⟨rfl,hb5⟩
   have hR5:=(hb5.block r (Array.getElem?_eq_some_iff.1 HR0.out).1).trans HR0.out
   have z0:=cell_blk hR5 (i:=0) rfl
   have z1:=cell_blk hR5 (i:=1) rfl
   have f0:w5.frozen? ⟨r,0,none⟩ = false:=by simp [World.frozen?,hR5]
   have f1:w5.frozen? ⟨r,1,none⟩ = false:=by simp [World.frozen?,hR5]
   have HR5:=hid hR5
   have HF:=hid (HB.out.trans ((HBW.out.trans (hb5.mono HBW.out.size)).mono HB.out.size))
   obtain ⟨g0,g1,g2,g3,g4,g5⟩:=bx _ (HBW.out.trans (hb5.mono HBW.out.size))
   clear hb5 hR5 c0 c1 c2 c3 c4 c5
   simp only [← HRR.out]
   go_wp2
   have hRz:((w5.setCell ⟨r,0,none⟩ (.int .i64 0)).setCell ⟨r,1,none⟩ (.int .i64 0)).heap[r]? = some (.cells #[.int .i64 0,.int .i64 0] 173 (0,0)):=by simp [World.setCell,Array.getElem?_modify,HR5.out]
   refine bodyPost_ret (results_cell_span rfl _ _ r 0 0 rfl (cell_blk hRz (i:=0) rfl) (cell_blk hRz (i:=1) rfl)) rfl ⟨by rw [HX.out],(HF.out.setCell (p:=⟨r,0,none⟩) ?_ _).setCell (p:=⟨r,1,none⟩) ?_ _⟩ <;> (have:=HB.out.size;show w.heap.size ≤ r;omega)
  ·have h2d:decide ((c.parts.length:Int) ≤ p) = false:=decide_eq_false h2
   have HX:=hid (show privSpan c p = (privUp c.parts p.toNat,fld (row c.parts p.toNat) 1) from if_pos ⟨hq,by omega,by omega⟩)
   obtain ⟨n,rfl⟩:=Int.eq_ofNat_of_zero_le (show 0 ≤ p by omega)
   have hn:n < c.parts.length:=by omega
   have hnn:¬ c.parts.length ≤ n:=by omega
   have hnd:decide (c.parts.length ≤ n) = false:=decide_eq_false hnn
   have HU:=hid (fun i (hi:i ≤ c.parts.length) => privUp_in HA.out i hi)
   have hp6:c.parts.length ≤ 6:=HA.out.parts.2
   have HP:=hid HXC.out.rp
   have HPW:=hid wx.wp
   clear hq
   go_enter Tryz.func87,Tryz.ntmps87
   go_wp2_with (first | (rw [← HWc.out]) | (rw [← HW.out]))
   refine HC.out.mono ?_
   rintro e w5 ⟨rfl,hb5⟩
   have hR5:=(hb5.block r (Array.getElem?_eq_some_iff.1 HR0.out).1).trans HR0.out
   have hB5:=HBW.out.trans (hb5.mono HBW.out.size)
   obtain ⟨g0,g1,g2,g3,g4,g5⟩:=bx _ hB5
   have HR5:=hid hR5;have HB5:=hid hB5
   clear hb5 hR5 hB5 c0 c1 c2 c3 c4 c5
   simp only [← HRR.out]
   go_wp2
   clear g0 g1 g2 g3 g4 g5
   go_loopw [5,6] (fun nn ix wr => ∃ i:Nat,i ≤ n ∧ ix = .int .i64 i ∧ nn = .int .i64 (privUp c.parts i) ∧ wr.heap[r]? = some (.cells #[.int .i64 0,.int .i64 0] 173 (0,0)) ∧ Below Wc.heap.size Wc wr) (fun _ ix _ => n - (intOf ix).toNat)
   case atStart => exact ⟨0,Nat.zero_le _,rfl,rfl,HR5.out,HB5.out⟩
   case round =>
    obtain ⟨i,hi,rfl,rfl,hR,hB⟩:=hrel
    obtain ⟨g0,g1,g2,g3,g4,g5⟩:=bx _ hB
    have hil:i < c.parts.length:=by omega
    obtain ⟨b,o,y0,y1,e0,_,e1,_,k0⟩:=HP.out.at2 HPW.out hil
    obtain ⟨p0,p1⟩:=k0 _ hB
    rw [e0] at g0
    have hs:=HU.out i (by omega)
    have hs1:=HU.out (i + 1) (by omega)
    have hnx:privUp c.parts (i + 1) = privUp c.parts i + y1:=by show privUp c.parts i + fld (row c.parts i) 1 = _;rw [row_at e1];rfl
    rw [hnx] at hs1
    have HN:=hid hnx
    have i0:(0:Int) ≤ (i:Int):=by omega
    have i1:(i:Int) < (c.parts.length:Int):=by omega
    obtain ⟨z,hz⟩:∃ z,privUp c.parts i = z:=⟨_,rfl⟩
    have HZ:=hid hz
    rw [hz] at hs hs1 HN
    simp only [hz]
    have v0:=IntWalk.i64_in (z + y1) (by omega)
    have HE1:=hid e1
    clear hnx hz e0 e1 k0 hs hs1
    by_cases hlt:i < n
    ·have hR':=hid hR
     clear hR
     go_wp2
     go_roundw
     case rel => exact ⟨i + 1,by omega,by go_num,by rw [HN.out],hR'.out,hB⟩
     case measure => simp [intOf];omega
    ·have hin:i = n:=by omega
     subst hin
     have HX2:=hid (show privSpan c (i:Int) = (z,y1) by rw [HX.out];simp only [Int.toNat_natCast,HZ.out,row_at HE1.out];rfl)
     have z0:=cell_blk hR (i:=0) rfl
     have z1:=cell_blk hR (i:=1) rfl
     have f0:wr.frozen? ⟨r,0,none⟩ = false:=by simp [World.frozen?,hR]
     have f1:wr.frozen? ⟨r,1,none⟩ = false:=by simp [World.frozen?,hR]
     have HRR2:=hid hR;have HBB:=hid hB
     clear hR hB
     go_wp2
     have hRz:((wr.setCell ⟨r,0,none⟩ (.int .i64 z)).setCell ⟨r,1,none⟩ (.int .i64 y1)).heap[r]? = some (.cells #[.int .i64 z,.int .i64 y1] 173 (0,0)):=by simp [World.setCell,Array.getElem?_modify,HRR2.out]
     exact bodyPost_ret (results_cell_span rfl _ _ r z y1 rfl (cell_blk hRz (i:=0) rfl) (cell_blk hRz (i:=1) rfl)) rfl ⟨by rw [HX2.out],HB.out.trans ((((HBB.out.setCell (p:=⟨r,0,none⟩) hrr _).setCell (p:=⟨r,1,none⟩) hrr _)).mono HB.out.size)⟩
end Go.Proofs.YtheeiklgblcjfaaGreatDoor
end
section
namespace Go.Proofs.YtheeiklgblcjfaaGreatDoor
open Go.Lib (hid)
open Go.RowKit Go.Sort
/-- A request's word. -/
def nameS (op:Int):ByteArray:=
 if op = 1 then ⟨#[99,114,101,97,116,101]⟩ else
 if op = 2 then ⟨#[110,111,114,109,97,108]⟩ else
 if op = 3 then ⟨#[119,114,105,116,101]⟩ else
 if op = 4 then ⟨#[114,101,97,100]⟩ else
 if op = 5 then ⟨#[115,101,110,100]⟩ else
 if op = 6 then ⟨#[114,101,99,101,105,118,101]⟩ else
 if op = 7 then ⟨#[115,116,97,116,117,115]⟩ else
 if op = 8 then ⟨#[112,101,101,107]⟩ else
 if op = 9 then ⟨#[112,111,107,101]⟩ else ⟨#[]⟩
theorem nameS_out {op:Int} (h:op < 1 ∨ 9 < op):nameS op = ⟨#[]⟩:=by
 unfold nameS
 rw [if_neg (by omega)];rw [if_neg (by omega)];rw [if_neg (by omega)];rw [if_neg (by omega)];rw [if_neg (by omega)];rw [if_neg (by omega)];rw [if_neg (by omega)];rw [if_neg (by omega)];rw [if_neg (by omega)]
/-- Is there such a port? -/
def portB (c:Cfg) (port:Int):Bool:=acceptsB c && decide (0 ≤ port ∧ port < 2 * (c.chans.length:Int))
/-- A port's channel,whose it is,is it at the source. -/
def portK (c:Cfg) (port:Int):Int:=if portB c port = true then port / 2 else 0
def portS (c:Cfg) (port:Int):Bool:=portB c port && decide (port % 2 = 0)
def portP (c:Cfg) (port:Int):Int:=if portB c port = true then fld (row c.chans (port / 2).toNat) (if port % 2 = 0 then 1 else 2) else 0
theorem port_none {c:Cfg} {port:Int} (h:portB c port = false):portK c port = 0 ∧ portS c port = false ∧ portP c port = 0:=by
 unfold portK portS portP
 rw [h]
 exact ⟨rfl,rfl,rfl⟩
theorem port_even {c:Cfg} {port x0 x1 x2 x3 x4 x5 x6:Int} {k:Nat} (h:portB c port = true) (hk:port = 2 * (k:Int)) (hx:c.chans[k]? = some [x0,x1,x2,x3,x4,x5,x6]):portK c port = (k:Int) ∧ portS c port = true ∧ portP c port = x1:=by
 have h2:port % 2 = 0:=by omega
 have h3:port / 2 = (k:Int):=by omega
 unfold portK portS portP
 rw [h,if_pos rfl,if_pos rfl,h3,if_pos h2,Int.toNat_natCast,row_at hx,decide_eq_true h2]
 exact ⟨rfl,rfl,rfl⟩
theorem port_odd {c:Cfg} {port x0 x1 x2 x3 x4 x5 x6:Int} {k:Nat} (h:portB c port = true) (hk:port = 2 * (k:Int) + 1) (hx:c.chans[k]? = some [x0,x1,x2,x3,x4,x5,x6]):portK c port = (k:Int) ∧ portS c port = false ∧ portP c port = x2:=by
 have h2:¬ port % 2 = 0:=by omega
 have h3:port / 2 = (k:Int):=by omega
 unfold portK portS portP
 rw [h,if_pos rfl,if_pos rfl,h3,if_neg h2,Int.toNat_natCast,row_at hx,decide_eq_false h2]
 exact ⟨rfl,rfl,rfl⟩
/-- A port of an accepted configuration. -/
theorem port_of {c:Cfg} {port:Int} (h:portB c port = true):acceptsB c = true ∧ ∃ k:Nat,k < c.chans.length ∧ (port = 2 * (k:Int) ∨ port = 2 * (k:Int) + 1):=by
 unfold portB at h
 rw [Bool.and_eq_true,decide_eq_true_eq] at h
 obtain ⟨h1,h2,h3⟩:=h
 exact ⟨h1,(port / 2).toNat,by omega,by omega⟩
end Go.Proofs.YtheeiklgblcjfaaGreatDoor
end
section
namespace Go.Proofs.YtheeiklgblcjfaaGreatDoor
open Go.Lib (hid)
open Go.RowKit Go.Sort Go.ChangeShapes Go.WideShapes
/-- A value of some cells in a box of its own. -/
theorem box_new (w:World) (cs:Array Value) (t:TypeId):∃ W,Hid (W = w.alloc (.cells cs t)) ∧ Below w.heap.size w W ∧ w.heap.size < W.heap.size ∧ ∀ w',Below W.heap.size W w' → w'.heap[w.heap.size]? = some (.cells cs t (0,0)):=by
 refine ⟨_,rfl,(Below.refl _ _).alloc (Nat.le_refl _) _,by simp,fun w' hb => ?_⟩
 exact (hb.block w.heap.size (by simp)).trans (heap_alloc_new w _)
def madeB (made:List Int) (port:Int):Bool:=decide (port ∈ made)
theorem made_hit {made:List Int} {port:Int} {i:Nat} (hi:i < made.length) (h:made.getD i 0 = port):madeB made port = true:=decide_eq_true (by rw [← h,List.getD_eq_getElem?_getD];simp [hi])
theorem made_none {made:List Int} {port:Int} (h:∀ i,i < made.length → made.getD i 0 ≠ port):madeB made port = false:=decide_eq_false (fun hm => by
 obtain ⟨i,hi,he⟩:=List.getElem_of_mem hm
 exact h i hi (by rw [List.getD_eq_getElem?_getD];simp [hi,he]))
/-- A standing by value lies so: the ports that were made. -/
def SIn (w:World) (made:List Int) (ma:Option Addr):Prop:=IntRowK .i64 w w.heap.size ma made ∧ made.length ≤ 1000000
theorem SIn.later {w w':World} {made:List Int} {ma:Option Addr} (h:SIn w made ma) (hb:Below w.heap.size w w'):SIn w' made ma:=⟨(h.1.below hb).more hb.size,h.2⟩
set_option maxRecDepth 100000 in
set_option maxHeartbeats 1600000 in
theorem rmade_b (sp:Int) (sn:Bool) (made:List Int) (ma:Option Addr) (mc:Nat) (va:Option Addr) (vn vc:Nat) (port:Int) (w:World) (hs:SIn w made ma):Calls Tryz.prog 61 #[.agg #[.int .i64 sp,.bool sn,.slice ma made.length mc,.slice va vn vc],.int .i64 port] w fun e w' => e = .returned (.bool (madeB made port)) ∧ Below w.heap.size w w':=by
 obtain ⟨W,HW,hB,hWs,bx⟩:=box_new w #[.int .i64 sp,.bool sn,.slice ma made.length mc,.slice va vn vc] 59
 have hsW:=hs.later hB
 have hl:=hs.2
 have HB:=hid hB
 clear hB hs
 go_enter Tryz.func61,Tryz.ntmps61
 go_wp2_with (rw [← HW.out])
 go_loopw [5] (fun ix wr => ∃ i:Nat,i ≤ made.length ∧ ix = .int .i64 i ∧ (∀ j,j < i → made.getD j 0 ≠ port) ∧ Below W.heap.size W wr) (fun ix _ => made.length - (intOf ix).toNat)
 case atStart => exact ⟨0,Nat.zero_le _,rfl,(fun j hj => by omega),Below.refl _ _⟩
 case round =>
  obtain ⟨i,hi,rfl,hno,hbc⟩:=hrel
  have HN:=hid hno
  have c2:=cell_blk (bx _ hbc) (i:=2) rfl
  clear hno
  by_cases hlt:i < made.length
  ·obtain ⟨b,o,rfl,_,hc⟩:=hsW.1.at_ hlt
   have k0:=hc _ hbc
   obtain ⟨y,hy⟩:∃ y,made.getD i 0 = y:=⟨_,rfl⟩
   have HY:=hid hy
   rw [hy] at k0
   clear hy hc
   by_cases he:y = port
   ·have hea:(y == port) = true:=by simp [he]
    have HX:=hid (made_hit hlt (HY.out.trans he))
    clear he
    go_wp2
    go_ret
    exact ⟨by rw [HX.out];rfl,HB.out.trans (hbc.mono HB.out.size)⟩
   ·have hea:(y == port) = false:=by simp [he]
    have HE:=hid he
    clear he
    go_wp2
    go_roundw
    case rel => exact ⟨i + 1,by omega,by go_num,(fun j hj => by
     by_cases e:j = i
     ·subst e;rw [HY.out];exact HE.out
     ·exact HN.out j (by omega)),hbc⟩
    case measure => simp [intOf];omega
  ·have HX:=hid (show madeB made port = false from made_none (fun j hj => HN.out j (by omega)))
   go_wp2
   go_ret
   exact ⟨by rw [HX.out];rfl,HB.out.trans (hbc.mono HB.out.size)⟩
theorem rmade_is (sp:Int) (sn:Bool) (made:List Int) (ma:Option Addr) (mc:Nat) (va:Option Addr) (vn vc:Nat) (port:Int) (q:Bool) (w:World) (hs:SIn w made ma) (h:madeB made port = q):Calls Tryz.prog 61 #[.agg #[.int .i64 sp,.bool sn,.slice ma made.length mc,.slice va vn vc],.int .i64 port] w fun e w' => e = .returned (.bool q) ∧ Below w.heap.size w w':=by subst h;exact rmade_b sp sn made ma mc va vn vc port w hs
end Go.Proofs.YtheeiklgblcjfaaGreatDoor
end
section
namespace Go.Proofs.YtheeiklgblcjfaaGreatDoor
open Go.Lib (hid)
open Go.RowKit Go.Sort Go.ChangeShapes Go.WideShapes
theorem Tryz.infoSide:(Tryz.prog.info? 110).map (fun i => i.size) = some 4:=by kernel_rfl
theorem results_cell_side {fn:Func} {p:Tmp} (h:fn.results = #[.cell p 110]) (tmps:Array Value) (w:World) (g:Nat) (a b:Int) (s q:Bool) (hp:tmps.getD p undef = .pointer (some ⟨g,0,none⟩))
  (h0:w.cell? ⟨g,0,none⟩ = some (.int .i64 a)) (h1:w.cell? ⟨g,1,none⟩ = some (.int .i64 b)) (h2:w.cell? ⟨g,2,none⟩ = some (.bool s)) (h3:w.cell? ⟨g,3,none⟩ = some (.bool q)):(results fn tmps).run Tryz.prog w = .ok (.agg #[.int .i64 a,.int .i64 b,.bool s,.bool q]) w:=by
 have hp':tmps[p]?.getD undef = .pointer (some ⟨g,0,none⟩):=by simpa using hp
 obtain ⟨i,hi,hs⟩:∃ i,Tryz.prog.info? 110 = some i ∧ i.size = 4:=by
  have h:=Tryz.infoSide
  cases hh:Tryz.prog.info? 110 with
  | none => rw [hh] at h;cases h
  | some i => rw [hh] at h;exact ⟨i,rfl,by simpa using h⟩
 simp [results,h,hp',asAddr,loadVar,isAgg,run_underlying Tryz.underlying110,sizeOf,typeInfo,hi,hs]
 go_simp
theorem side_set {W:World} {r:Nat} (hR:W.heap[r]? = some (.cells #[.int .i64 0,.int .i64 0,.bool false,.bool false] 110 (0,0))) (k p:Int) (s b:Bool) :
  ((((W.setCell ⟨r,0,none⟩ (.int .i64 k)).setCell ⟨r,1,none⟩ (.int .i64 p)).setCell ⟨r,2,none⟩ (.bool s)).setCell ⟨r,3,none⟩ (.bool b)).heap[r]? = some (.cells #[.int .i64 k,.int .i64 p,.bool s,.bool b] 110 (0,0)):=by simp [World.setCell,Array.getElem?_modify,hR]
theorem side_below {w W:World} {r:Nat} (hB:Below w.heap.size w W) (hr:w.heap.size ≤ r) (k p:Int) (s b:Bool) :
  Below w.heap.size w ((((W.setCell ⟨r,0,none⟩ (.int .i64 k)).setCell ⟨r,1,none⟩ (.int .i64 p)).setCell ⟨r,2,none⟩ (.bool s)).setCell ⟨r,3,none⟩ (.bool b)):=
 (((hB.setCell (p:=⟨r,0,none⟩) hr _).setCell (p:=⟨r,1,none⟩) hr _).setCell (p:=⟨r,2,none⟩) hr _).setCell (p:=⟨r,3,none⟩) hr _
set_option maxRecDepth 100000 in
set_option maxHeartbeats 4000000 in
theorem rport_b (c:Cfg) (x:CfgAt) (port:Int) (w:World) (hx:CfgIn w w.heap.size c x) (wx:CfgWf c) (lx:CfgFew c) (hp:(Lit.int .i64 port).wf = true):Calls Tryz.prog 43 #[.agg (cfgCells c x),.int .i64 port] w fun e w' => e = .returned (.agg #[.int .i64 (portK c port),.int .i64 (portP c port),.bool (portS c port),.bool (portB c port)]) ∧ Below w.heap.size w w':=by
 obtain ⟨Wc,HWc,hBc,hWs,bx⟩:=one_cbox w c x 29
 obtain ⟨pa,pc,ca,cc,aa,ac,ba,bc⟩:=x
 obtain ⟨W,HW⟩:∃ u,Hid (u = Wc.alloc (.cells #[.int .i64 0,.int .i64 0,.bool false,.bool false] 110)):=⟨_,rfl⟩
 obtain ⟨r,hr⟩:∃ r,r = Wc.heap.size:=⟨_,rfl⟩
 have hrr:Wc.heap.size ≤ r:=by omega
 have hR:W.heap[r]? = some (.cells #[.int .i64 0,.int .i64 0,.bool false,.bool false] 110 (0,0)):=by rw [HW.out,hr];exact heap_alloc_new _ _
 have hBW:Below Wc.heap.size Wc W:=by rw [HW.out];exact (Below.refl _ _).alloc (Nat.le_refl _) _
 have hxW:=hx.later (hBc.trans (hBW.mono hBc.size))
 obtain ⟨c0,c1,c2,c3,c4,c5⟩:=bx _ hBW
 have hl:=lx.2.1
 have HB:=hid hBc;have HR0:=hid hR;have HBW:=hid hBW;have HXW:=hid hxW;have HRR:=hid hr
 simp only [cfgCells] at HWc ⊢
 clear hBc hR hBW hxW hx hr hWs
 obtain ⟨p0,p1⟩:=bounds_i64 hp
 by_cases h1:port < 0
 ·have HQ:=hid (show portB c port = false by unfold portB;rw [decide_eq_false (fun h => by omega),Bool.and_false])
  have HX:=hid (show portK c port = 0 ∧ portP c port = 0 ∧ portS c port = false from ⟨(port_none HQ.out).1,(port_none HQ.out).2.2,(port_none HQ.out).2.1⟩)
  have hz0:W.cell? ⟨r,0,none⟩ = some (.int .i64 0):=cell_blk HR0.out rfl
  have hf0:W.frozen? ⟨r,0,none⟩ = false:=by simp [World.frozen?,HR0.out]
  have hz1:W.cell? ⟨r,1,none⟩ = some (.int .i64 0):=cell_blk HR0.out rfl
  have hf1:W.frozen? ⟨r,1,none⟩ = false:=by simp [World.frozen?,HR0.out]
  have hz2:W.cell? ⟨r,2,none⟩ = some (.bool false):=cell_blk HR0.out rfl
  have hf2:W.frozen? ⟨r,2,none⟩ = false:=by simp [World.frozen?,HR0.out]
  have hz3:W.cell? ⟨r,3,none⟩ = some (.bool false):=cell_blk HR0.out rfl
  have hf3:W.frozen? ⟨r,3,none⟩ = false:=by simp [World.frozen?,HR0.out]
  go_enter Tryz.func43,Tryz.ntmps43
  go_wp2_with (first | (rw [← HWc.out]) | (rw [← HW.out];simp only [← HRR.out]))
  have hRz:=side_set HR0.out 0 0 false false
  have hBz:=side_below (w:=Wc) HBW.out hrr 0 0 false false
  exact bodyPost_ret (results_cell_side rfl _ _ r _ _ _ _ rfl (cell_blk hRz (i:=0) rfl) (cell_blk hRz (i:=1) rfl) (cell_blk hRz (i:=2) rfl) (cell_blk hRz (i:=3) rfl)) rfl ⟨by rw [HX.out.1,HX.out.2.1,HX.out.2.2,HQ.out],HB.out.trans (hBz.mono HB.out.size)⟩
 have h1d:decide (port < 0) = false:=decide_eq_false h1
 by_cases h2:2 * (c.chans.length:Int) ≤ port
 ·have HQ:=hid (show portB c port = false by unfold portB;rw [decide_eq_false (fun h => by omega),Bool.and_false])
  have HX:=hid (show portK c port = 0 ∧ portP c port = 0 ∧ portS c port = false from ⟨(port_none HQ.out).1,(port_none HQ.out).2.2,(port_none HQ.out).2.1⟩)
  have hz0:W.cell? ⟨r,0,none⟩ = some (.int .i64 0):=cell_blk HR0.out rfl
  have hf0:W.frozen? ⟨r,0,none⟩ = false:=by simp [World.frozen?,HR0.out]
  have hz1:W.cell? ⟨r,1,none⟩ = some (.int .i64 0):=cell_blk HR0.out rfl
  have hf1:W.frozen? ⟨r,1,none⟩ = false:=by simp [World.frozen?,HR0.out]
  have hz2:W.cell? ⟨r,2,none⟩ = some (.bool false):=cell_blk HR0.out rfl
  have hf2:W.frozen? ⟨r,2,none⟩ = false:=by simp [World.frozen?,HR0.out]
  have hz3:W.cell? ⟨r,3,none⟩ = some (.bool false):=cell_blk HR0.out rfl
  have hf3:W.frozen? ⟨r,3,none⟩ = false:=by simp [World.frozen?,HR0.out]
  go_enter Tryz.func43,Tryz.ntmps43
  go_wp2_with (first | (rw [← HWc.out]) | (rw [← HW.out];simp only [← HRR.out]))
  have hRz:=side_set HR0.out 0 0 false false
  have hBz:=side_below (w:=Wc) HBW.out hrr 0 0 false false
  exact bodyPost_ret (results_cell_side rfl _ _ r _ _ _ _ rfl (cell_blk hRz (i:=0) rfl) (cell_blk hRz (i:=1) rfl) (cell_blk hRz (i:=2) rfl) (cell_blk hRz (i:=3) rfl)) rfl ⟨by rw [HX.out.1,HX.out.2.1,HX.out.2.2,HQ.out],HB.out.trans (hBz.mono HB.out.size)⟩
 have h2d:decide (2 * (c.chans.length:Int) ≤ port) = false:=decide_eq_false h2
 cases hq:acceptsB c with
 | false =>
  have HA:=hid hq
  have HQ:=hid (show portB c port = false by unfold portB;rw [hq,Bool.false_and])
  have HX:=hid (show portK c port = 0 ∧ portP c port = 0 ∧ portS c port = false from ⟨(port_none HQ.out).1,(port_none HQ.out).2.2,(port_none HQ.out).2.1⟩)
  clear hq
  go_enter Tryz.func43,Tryz.ntmps43
  go_wp2_with (first | (rw [← HWc.out]) | (rw [← HW.out];simp only [← HRR.out]))
  refine (racc_b c ⟨pa,pc,ca,cc,aa,ac,ba,bc⟩ false W HXW.out wx lx HA.out).mono ?_
  rintro e w5 ⟨rfl,hb5⟩
  have HR5:=hid ((hb5.block r (Array.getElem?_eq_some_iff.1 HR0.out).1).trans HR0.out)
  have HB5:=hid (HBW.out.trans (hb5.mono HBW.out.size))
  obtain ⟨c0,c1,c2,c3,c4,c5⟩:=bx _ HB5.out
  have hz0:w5.cell? ⟨r,0,none⟩ = some (.int .i64 0):=cell_blk HR5.out rfl
  have hf0:w5.frozen? ⟨r,0,none⟩ = false:=by simp [World.frozen?,HR5.out]
  have hz1:w5.cell? ⟨r,1,none⟩ = some (.int .i64 0):=cell_blk HR5.out rfl
  have hf1:w5.frozen? ⟨r,1,none⟩ = false:=by simp [World.frozen?,HR5.out]
  have hz2:w5.cell? ⟨r,2,none⟩ = some (.bool false):=cell_blk HR5.out rfl
  have hf2:w5.frozen? ⟨r,2,none⟩ = false:=by simp [World.frozen?,HR5.out]
  have hz3:w5.cell? ⟨r,3,none⟩ = some (.bool false):=cell_blk HR5.out rfl
  have hf3:w5.frozen? ⟨r,3,none⟩ = false:=by simp [World.frozen?,HR5.out]
  clear hb5
  go_wp2
  have hRz:=side_set HR5.out 0 0 false false
  have hBz:=side_below (w:=Wc) HB5.out hrr 0 0 false false
  exact bodyPost_ret (results_cell_side rfl _ _ r _ _ _ _ rfl (cell_blk hRz (i:=0) rfl) (cell_blk hRz (i:=1) rfl) (cell_blk hRz (i:=2) rfl) (cell_blk hRz (i:=3) rfl)) rfl ⟨by rw [HX.out.1,HX.out.2.1,HX.out.2.2,HQ.out],HB.out.trans (hBz.mono HB.out.size)⟩
 | true =>
  have HA:=hid hq
  have HQ:=hid (show portB c port = true by unfold portB;rw [hq,decide_eq_true (show 0 ≤ port ∧ port < 2 * (c.chans.length:Int) by omega)];rfl)
  obtain ⟨k,hk0⟩:=Int.eq_ofNat_of_zero_le (a:=port / 2) (by omega)
  have hlt:k < c.chans.length:=by omega
  obtain ⟨b,o,x0,x1,x2,x3,x4,x5,x6,e0,_,e1,_,k0⟩:=HXW.out.rc.at7 wx.wc hlt
  cases e0
  have E1:=hid e1
  clear hq e1
  by_cases hev:port % 2 = 0
  ·have hk:port = 2 * (k:Int):=by omega
   have HX:=hid (show portK c port = (k:Int) ∧ portP c port = x1 ∧ portS c port = true from by have h:=port_even HQ.out hk E1.out;exact ⟨h.1,h.2.2,h.2.1⟩)
   have hr0:(port.tmod 2) = 0:=by rw [Int.tmod_eq_emod_of_nonneg (by omega)];omega
   have hr1:(port.tdiv 2) = (k:Int):=by rw [Int.tdiv_eq_ediv_of_nonneg (by omega)];omega
   have hr2:port % 2 = 0:=by omega
   have hr3:port / 2 = (k:Int):=by omega
   have g1:(0:Int) ≤ (k:Int):=by omega
   have g2:(k:Int) < (c.chans.length:Int):=by omega
   have g3:0 ≤ port:=by omega
   clear hk hk0 hev
   go_enter Tryz.func43,Tryz.ntmps43
   go_wp2_with (first | (rw [← HWc.out]) | (rw [← HW.out];simp only [← HRR.out]))
   refine (racc_b c ⟨pa,pc,(some ⟨b,o,none⟩),cc,aa,ac,ba,bc⟩ true W HXW.out wx lx HA.out).mono ?_
   rintro e w5 ⟨rfl,hb5⟩
   have HR5:=hid ((hb5.block r (Array.getElem?_eq_some_iff.1 HR0.out).1).trans HR0.out)
   have HB5:=hid (HBW.out.trans (hb5.mono HBW.out.size))
   obtain ⟨c0,c1,c2,c3,c4,c5⟩:=bx _ HB5.out
   have hz0:w5.cell? ⟨r,0,none⟩ = some (.int .i64 0):=cell_blk HR5.out rfl
   have hf0:w5.frozen? ⟨r,0,none⟩ = false:=by simp [World.frozen?,HR5.out]
   have hz1:w5.cell? ⟨r,1,none⟩ = some (.int .i64 0):=cell_blk HR5.out rfl
   have hf1:w5.frozen? ⟨r,1,none⟩ = false:=by simp [World.frozen?,HR5.out]
   have hz2:w5.cell? ⟨r,2,none⟩ = some (.bool false):=cell_blk HR5.out rfl
   have hf2:w5.frozen? ⟨r,2,none⟩ = false:=by simp [World.frozen?,HR5.out]
   have hz3:w5.cell? ⟨r,3,none⟩ = some (.bool false):=cell_blk HR5.out rfl
   have hf3:w5.frozen? ⟨r,3,none⟩ = false:=by simp [World.frozen?,HR5.out]
   have k0:=k0 _ (hb5)
   obtain ⟨y0,y1,y2,y3,y4,y5,y6⟩:=k0
   clear hb5
   go_wp2
   have hRz:=side_set HR5.out (k:Int) x1 true true
   have hBz:=side_below (w:=Wc) HB5.out hrr (k:Int) x1 true true
   exact bodyPost_ret (results_cell_side rfl _ _ r _ _ _ _ rfl (cell_blk hRz (i:=0) rfl) (cell_blk hRz (i:=1) rfl) (cell_blk hRz (i:=2) rfl) (cell_blk hRz (i:=3) rfl)) rfl ⟨by rw [HX.out.1,HX.out.2.1,HX.out.2.2,HQ.out],HB.out.trans (hBz.mono HB.out.size)⟩
  ·have hk:port = 2 * (k:Int) + 1:=by omega
   have HX:=hid (show portK c port = (k:Int) ∧ portP c port = x2 ∧ portS c port = false from by have h:=port_odd HQ.out hk E1.out;exact ⟨h.1,h.2.2,h.2.1⟩)
   have hr0:(port.tmod 2) = 1:=by rw [Int.tmod_eq_emod_of_nonneg (by omega)];omega
   have hr1:(port.tdiv 2) = (k:Int):=by rw [Int.tdiv_eq_ediv_of_nonneg (by omega)];omega
   have hr2:port % 2 = 1:=by omega
   have hr3:port / 2 = (k:Int):=by omega
   have g1:(0:Int) ≤ (k:Int):=by omega
   have g2:(k:Int) < (c.chans.length:Int):=by omega
   have g3:0 ≤ port:=by omega
   clear hk hk0 hev
   go_enter Tryz.func43,Tryz.ntmps43
   go_wp2_with (first | (rw [← HWc.out]) | (rw [← HW.out];simp only [← HRR.out]))
   refine (racc_b c ⟨pa,pc,(some ⟨b,o,none⟩),cc,aa,ac,ba,bc⟩ true W HXW.out wx lx HA.out).mono ?_
   rintro e w5 ⟨rfl,hb5⟩
   have HR5:=hid ((hb5.block r (Array.getElem?_eq_some_iff.1 HR0.out).1).trans HR0.out)
   have HB5:=hid (HBW.out.trans (hb5.mono HBW.out.size))
   obtain ⟨c0,c1,c2,c3,c4,c5⟩:=bx _ HB5.out
   have hz0:w5.cell? ⟨r,0,none⟩ = some (.int .i64 0):=cell_blk HR5.out rfl
   have hf0:w5.frozen? ⟨r,0,none⟩ = false:=by simp [World.frozen?,HR5.out]
   have hz1:w5.cell? ⟨r,1,none⟩ = some (.int .i64 0):=cell_blk HR5.out rfl
   have hf1:w5.frozen? ⟨r,1,none⟩ = false:=by simp [World.frozen?,HR5.out]
   have hz2:w5.cell? ⟨r,2,none⟩ = some (.bool false):=cell_blk HR5.out rfl
   have hf2:w5.frozen? ⟨r,2,none⟩ = false:=by simp [World.frozen?,HR5.out]
   have hz3:w5.cell? ⟨r,3,none⟩ = some (.bool false):=cell_blk HR5.out rfl
   have hf3:w5.frozen? ⟨r,3,none⟩ = false:=by simp [World.frozen?,HR5.out]
   have k0:=k0 _ (hb5)
   obtain ⟨y0,y1,y2,y3,y4,y5,y6⟩:=k0
   clear hb5
   go_wp2
   have hRz:=side_set HR5.out (k:Int) x2 false true
   have hBz:=side_below (w:=Wc) HB5.out hrr (k:Int) x2 false true
   exact bodyPost_ret (results_cell_side rfl _ _ r _ _ _ _ rfl (cell_blk hRz (i:=0) rfl) (cell_blk hRz (i:=1) rfl) (cell_blk hRz (i:=2) rfl) (cell_blk hRz (i:=3) rfl)) rfl ⟨by rw [HX.out.1,HX.out.2.1,HX.out.2.2,HQ.out],HB.out.trans (hBz.mono HB.out.size)⟩
end Go.Proofs.YtheeiklgblcjfaaGreatDoor
end
section
namespace Go.Proofs.YtheeiklgblcjfaaGreatDoor
open Go.Lib (hid)
open Go.RowKit Go.Sort Go.ChangeShapes Go.WideShapes
theorem privSpan_in {c:Cfg} (wx:CfgWf c) (p:Int):0 ≤ (privSpan c p).1 ∧ (privSpan c p).1 ≤ 384 ∧ 0 ≤ (privSpan c p).2 ∧ (privSpan c p).2 ≤ 64:=by
 unfold privSpan
 split
 ·rename_i h
  obtain ⟨h1,h2,h3⟩:=h
  have ha:=accd_of h1
  have hp:=privUp_in ha p.toNat (by omega)
  have hq:=ha.priv p.toNat (by omega)
  have hl:=ha.parts
  exact ⟨hp.1,by omega,hq.1,hq.2⟩
 ·exact ⟨Int.le_refl _,by decide,Int.le_refl _,by decide⟩
/-- Is an address in a partition's private span? -/
def privB (c:Cfg) (p a:Int):Bool:=decide ((privSpan c p).1 ≤ a ∧ a - (privSpan c p).1 < (privSpan c p).2)
set_option maxRecDepth 100000 in
set_option maxHeartbeats 1600000 in
theorem rpriv10_b (c:Cfg) (x:CfgAt) (p a:Int) (w:World) (hx:CfgIn w w.heap.size c x) (wx:CfgWf c) (lx:CfgFew c) (ha:(Lit.int .u64 a).wf = true):Calls Tryz.prog 63 #[.agg (cfgCells c x),.int .i64 p,.int .u64 a] w fun e w' => e = .returned (.bool (privB c p a)) ∧ Below w.heap.size w w':=by
 obtain ⟨Wc,HWc,hBc,hWs,bx⟩:=one_cbox w c x 29
 have hxW:=hx.later hBc
 obtain ⟨c0,c1,c2,c3,c4,c5⟩:=bx _ (Below.refl _ _)
 obtain ⟨a0,a1⟩:=bounds_u64 ha
 obtain ⟨f0,f1,s0,s1⟩:=privSpan_in wx p
 have hC:=rprivate_b c x p Wc hxW wx lx
 obtain ⟨f,hf⟩:∃ f,(privSpan c p).1 = f:=⟨_,rfl⟩
 obtain ⟨s,hs⟩:∃ s,(privSpan c p).2 = s:=⟨_,rfl⟩
 have HD:=hid (show privB c p a = decide (f ≤ a ∧ a - f < s) by unfold privB;rw [hf,hs])
 rw [hf] at f0 f1 hC
 rw [hs] at s0 s1 hC
 have HC:=hid hC
 have HB:=hid hBc
 simp only [cfgCells] at HWc ⊢
 clear hC hxW hBc hf hs ha hx
 have hw1:=IntKind.wrap_u64 f
 have hw2:=IntKind.wrap_u64 s
 have hw3:=IntKind.wrap_u64 (a - f)
 rw [Int.emod_eq_of_lt (by omega) (by omega)] at hw1 hw2
 by_cases g1:f ≤ a
 ·rw [Int.emod_eq_of_lt (by omega) (by omega)] at hw3
  by_cases g2:a - f < s
  ·have HX:=hid (show privB c p a = true by rw [HD.out];exact decide_eq_true (by omega))
   go_enter Tryz.func63,Tryz.ntmps63
   go_wp2_with (rw [← HWc.out])
   refine HC.out.mono ?_
   rintro e w5 ⟨rfl,hb5⟩
   have HF:=hid (HB.out.trans ((hb5.alloc hb5.size (.cells #[.int .i64 f,.int .i64 s] 173)).mono HB.out.size))
   clear hb5
   go_wp2
   go_ret
   exact ⟨by rw [HX.out];rfl,HF.out⟩
  ·have g2d:decide (a - f < s) = false:=decide_eq_false g2
   have HX:=hid (show privB c p a = false by rw [HD.out];exact decide_eq_false (by omega))
   go_enter Tryz.func63,Tryz.ntmps63
   go_wp2_with (rw [← HWc.out])
   refine HC.out.mono ?_
   rintro e w5 ⟨rfl,hb5⟩
   have HF:=hid (HB.out.trans ((hb5.alloc hb5.size (.cells #[.int .i64 f,.int .i64 s] 173)).mono HB.out.size))
   clear hb5
   go_wp2
   go_ret
   exact ⟨by rw [HX.out];rfl,HF.out⟩
 ·have g1d:decide (f ≤ a) = false:=decide_eq_false g1
  clear hw3
  have HX:=hid (show privB c p a = false by rw [HD.out];exact decide_eq_false (by omega))
  go_enter Tryz.func63,Tryz.ntmps63
  go_wp2_with (rw [← HWc.out])
  refine HC.out.mono ?_
  rintro e w5 ⟨rfl,hb5⟩
  have HF:=hid (HB.out.trans ((hb5.alloc hb5.size (.cells #[.int .i64 f,.int .i64 s] 173)).mono HB.out.size))
  clear hb5
  go_wp2
  go_ret
  exact ⟨by rw [HX.out];rfl,HF.out⟩
theorem rpriv10_is (c:Cfg) (x:CfgAt) (p a:Int) (q:Bool) (w:World) (hx:CfgIn w w.heap.size c x) (wx:CfgWf c) (lx:CfgFew c) (ha:(Lit.int .u64 a).wf = true) (h:privB c p a = q):Calls Tryz.prog 63 #[.agg (cfgCells c x),.int .i64 p,.int .u64 a] w fun e w' => e = .returned (.bool q) ∧ Below w.heap.size w w':=by subst h;exact rpriv10_b c x p a w hx wx lx ha
end Go.Proofs.YtheeiklgblcjfaaGreatDoor
end
section
namespace Go.Proofs.YtheeiklgblcjfaaGreatDoor
open Go.Lib (hid)
open Go.RowKit Go.Sort
/-- Is the op one that this kind of channel,or this side of it,doesn't know? -/
def modeB (kind:Int) (src:Bool) (op:Int):Bool:=(decide (op = 3) && (decide (kind ≠ 1) || !src)) || (decide (op = 4) && (decide (kind ≠ 1) || src)) || (decide (op = 5) && (decide (kind ≠ 2) || !src)) || (decide (op = 6) && (decide (kind ≠ 2) || src))
/-- Behind the rows that ask for the port and for normal work. -/
def talkT (kind:Int) (src:Bool) (words op:Int) (n:Nat):Int:=
 if modeB kind src op = true then 5 else if (op = 3 ∨ op = 5) ∧ n = 0 then 3 else if (op = 3 ∨ op = 5) ∧ words < (n:Int) then 4 else 0
def hasB (c:Cfg) (sp:Int) (made:List Int) (port:Int):Bool:=portB c port && (decide (portP c port = sp) && madeB made port)
def talkN (c:Cfg) (sp:Int) (sn:Bool) (made:List Int) (op port:Int) (n:Nat):Int:=
 if hasB c sp made port = false then 3 else if sn = false then 5 else talkT (fld (row c.chans (portK c port).toNat) 0) (portS c port) (fld (row c.chans (portK c port).toNat) 3) op n
/-- The code of the first row that holds;0: none does. -/
def refusedN (c:Cfg) (sp:Int) (sn:Bool) (made:List Int) (op port ad:Int) (n:Nat):Int:=
 if acceptsB c = false ∨ sp < 0 ∨ (c.parts.length:Int) ≤ sp then 4
 else if op = 1 then (if portB c port = false ∨ portP c port ≠ sp then 4 else if madeB made port = true then 1 else if sn = true then 5 else 0)
 else if op = 2 then (if sn = true then 5 else 0)
 else if 3 ≤ op ∧ op ≤ 7 then talkN c sp sn made op port n
 else if op = 8 ∨ op = 9 then (if op = 9 ∧ n ≠ 1 then 3 else if privB c sp ad = false then 6 else 0)
 else 3
def refT (c:Cfg) (sp:Int) (sn:Bool) (made:List Int) (op port ad:Int) (n:Nat):Int:=
 if op = 1 then (if portB c port = false ∨ portP c port ≠ sp then 4 else if madeB made port = true then 1 else if sn = true then 5 else 0)
 else if op = 2 then (if sn = true then 5 else 0)
 else if 3 ≤ op ∧ op ≤ 7 then talkN c sp sn made op port n
 else if op = 8 ∨ op = 9 then (if op = 9 ∧ n ≠ 1 then 3 else if privB c sp ad = false then 6 else 0)
 else 3
theorem refused_out {c:Cfg} {sp:Int} {sn:Bool} {made:List Int} {op port ad:Int} {n:Nat} (h:acceptsB c = false ∨ sp < 0 ∨ (c.parts.length:Int) ≤ sp):refusedN c sp sn made op port ad n = 4:=by unfold refusedN;rw [if_pos h]
theorem refused_on {c:Cfg} {sp:Int} {sn:Bool} {made:List Int} {op port ad:Int} {n:Nat} (h1:acceptsB c = true) (h2:¬ sp < 0) (h3:¬ (c.parts.length:Int) ≤ sp):refusedN c sp sn made op port ad n = refT c sp sn made op port ad n:=by
 unfold refusedN
 rw [if_neg (by rw [h1];exact fun h => h.elim (fun e => by cases e) (fun h => h.elim h2 h3))]
 rfl
theorem talk_no {c:Cfg} {sp:Int} {sn:Bool} {made:List Int} {op port:Int} {n:Nat} (h:hasB c sp made port = false):talkN c sp sn made op port n = 3:=by unfold talkN;rw [if_pos h]
theorem talk_mode {c:Cfg} {sp:Int} {made:List Int} {op port:Int} {n:Nat} (h:hasB c sp made port = true):talkN c sp false made op port n = 5:=by unfold talkN;rw [if_neg (by rw [h];decide),if_pos rfl]
theorem talk_on {c:Cfg} {sp:Int} {made:List Int} {op port:Int} {n k:Nat} {x0 x1 x2 x3 x4 x5 x6:Int} (h:hasB c sp made port = true) (hk:portK c port = (k:Int)) (hx:c.chans[k]? = some [x0,x1,x2,x3,x4,x5,x6]) :
  talkN c sp true made op port n = talkT x0 (portS c port) x3 op n:=by
 unfold talkN
 rw [if_neg (by rw [h];decide),if_neg (by decide),hk,Int.toNat_natCast,row_at hx]
 rfl
theorem portK_of {c:Cfg} {port:Int} (h:portB c port = true):∃ k:Nat,k < c.chans.length ∧ portK c port = (k:Int):=by
 obtain ⟨_,k,hk,h1⟩:=port_of h
 refine ⟨k,hk,?_⟩
 unfold portK
 rw [if_pos h]
 omega
end Go.Proofs.YtheeiklgblcjfaaGreatDoor
end
