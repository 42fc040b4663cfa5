/- Texts of the ring, joined, what is used of them. No condition but those in the statements. -/
import Derived.BigQuiet
import Derived.BigRegion
import Derived.Deep.MidRow
import Derived.Deep.RegionHeld3
import Derived.Deep.Upon
import Derived.IntWalk
import Derived.Shelf.Abstract
import Derived.Test.YtmhpcgcloojfbaaGreatQRCt
import Derived.Test.YtmhpcgcloojfbaaGreatQgL
namespace Go.Proofs.YtmhpcgcloojfbaaGreat
open Go.RowKit Go.Sort
set_option linter.unusedVariables false
set_option linter.unusedSimpArgs false
set_option linter.unusedVariables false
set_option linter.unusedSimpArgs false
open Go.Proofs.YtmhpcgcloojfbaaGreat.Simp
set_option maxRecDepth 100000
set_option maxHeartbeats 12800000
section
variable {W w:World} {vb yb zb:Nat} {c:Cfg} {x:CfgAt} {k:Nat} {F:Qr} {src:Bool} {len:Int} {ws:List Int} {bs:List Bool} {db dof dc cp:Nat} {A:Option Addr}
theorem dstepC_b {own:Int} {dv:Value} (a:Int) (ha0:a = 0) (h:DAt w vb yb zb c x k (7) (own) (src) (dv) (a) (len) (ws) (bs)) (hb:Below W.heap.size W w) (hlo:W.heap.size ≤ vb ∧ W.heap.size ≤ yb ∧ W.heap.size ≤ zb) (hx:CfgIn W W.heap.size c x) (wx:CfgWf c) (lx:CfgFew c) (hF:QrOf c k F) (hQ:QIn F ws.length) (h0:0 ≤ own ∧ own ≤ 4294967295) (h32:W32 ws) :
    Calls Tryz.prog 26 #[.pointer (some ⟨vb,0,none⟩),.slice (some ⟨yb,0,none⟩) ws.length ws.length,.slice (some ⟨zb,0,none⟩) bs.length bs.length] w (DGives w vb yb zb c x k 7 own src dv (-1) len ws bs (qdV true 0 (.slice none 0 0) (cntQ F own src ws) true false)):=by
  have hin:=hQ.inn
  have hmx:=hQ.max
  have ha:0 ≤ a ∧ a ≤ 1000:=by omega
  clear ha0 hQ h32
  cases src with
  | true =>
    obtain ⟨W1,HW1,hsz,hO,hz⟩:=did_new w
    have hlt:=h.lt
    have hD1:=h.only hO ⟨fun h => h,fun h => h,fun h => h⟩
    have HD1:=Lib.hid hD1;have HO1:Hid (Only (New w.heap.size (fun j => j = vb ∨ j = yb ∨ j = zb)) w W1):=Lib.hid (hO.mono fun _ _ h => h.elim);have HZ1:=Lib.hid hz
    have x11:W1.cell? ⟨vb,11,none⟩ = some (.int .i64 a):=cell_blk hD1.blk rfl
    have g11:=blk_frozen 11 hD1.blk
    have b0:decide (a < 0) = false:=decide_eq_false (by omega)
    obtain ⟨a1,ha1⟩:∃ a1,a + 1 = a1:=⟨_,rfl⟩
    have n0:IntKind.i64.wrap (a + 1) = a1:=by rw [ha1];exact IntWalk.i64_in _ (by omega)
    (try rw [ha1])
    obtain ⟨V1,HV1⟩:∃ u,Hid (u = W1.setCell ⟨vb,11,none⟩ (.int .i64 a1)):=⟨_,rfl⟩
    have HDV:=Lib.hid (by have q:=hD1.put (o:=11) (v:=.int .i64 a1) (op':=7) (own':=own) (src':=true) (dv':=dv) (a':=a1) (len':=len) rfl;rw [← HV1.out] at q;exact q)
    have HOV:Hid (Only (New w.heap.size (fun j => j = vb ∨ j = yb ∨ j = zb)) w V1):=Lib.hid (by rw [HV1.out];exact HO1.out.set (p:=⟨vb,11,none⟩) (.inr (.inl rfl)) _)
    have HZV:Hid (V1.heap[w.heap.size]? = some (.cells #[.bool false,.int .i64 0,.slice none 0 0,.bool false,.int .i64 0,.bool false,.bool false,.bool false,.int .i64 0] 56 (0,0))):=Lib.hid (by rw [HV1.out];exact (Below.heap_setCell _ _ _ _ (by show w.heap.size ≠ vb;omega)).trans HZ1.out)
    have hbV:Below W.heap.size W V1:=by
      have hv:=HOV.out.old
      exact hb.trans ⟨hv.os,hv.tape,hv.output,hv.size,fun j hj => hv.block j (by have:=hb.size;omega) (fun e => by rcases e with e | e | e <;> omega)⟩
    obtain ⟨b,o,x0,x1,x2,x3,x4,x5,x6,hA,hbl,hrw,hwf,hcc⟩:=hx.rc.at7 wx.wc hF.lk
    have hr:row c.chans k = [x0,x1,x2,x3,x4,x5,x6]:=by unfold row;rw [List.getD_eq_getElem?_getD,hrw];rfl
    have e3:x3 = (F.n:Int):=by have:=hF.words;rw [hr] at this;exact this
    have e4:x4 = (F.d:Int):=by have:=hF.depth;rw [hr] at this;exact this
    subst e3;subst e4
    have hlow:=hF.low
    have hkl:=hF.lk
    have hcn:=hF.chans
    have k0:(k:Int) < (c.chans.length:Int):=by omega
    obtain ⟨r0,r1,r2,r3,r4,r5,r6⟩:=hcc V1 hbV
    have hcV:CfgIn V1 V1.heap.size c x:=hx.later hbV
    obtain ⟨pa,pc,ca,cc,aa,ac,ba,bc⟩:=x
    subst hA
    have x1_:V1.cell? ⟨vb,1,none⟩ = some (.slice (some ⟨b,o,none⟩) c.chans.length cc):=cell_blk HDV.out.blk rfl
    have x6_:V1.cell? ⟨vb,6,none⟩ = some (.int .i64 (k:Int)):=cell_blk HDV.out.blk rfl
    have HCV:=Lib.hid hcV;have HHF:=Lib.hid hF;have HWX:=Lib.hid wx;have HLX:=Lib.hid lx;have HBV:=Lib.hid hbV;have HSZ:=Lib.hid hsz;have HA1:=Lib.hid ha1
    clear hD1 hO hz h hb hx wx lx hF hrw hr hcc hwf hcV hbV hsz ha1
    have HVL:Hid (vb < V1.heap.size):=Lib.hid HDV.out.lt.1
    have HBL:Hid (b < V1.heap.size):=Lib.hid (by have:=HBV.out.size;omega)
    go_enter Tryz.func26,Tryz.ntmps26
    go_wp2_with (first | (rw [← HW1.out]) | (rw [← HV1.out]))
    refine wp_region_held_drew (S:=(fun W' => Below V1.heap.size V1 W')) (by kernel_rfl) (by exact (Below.refl _ _).drew) (fun hHeld => ?_)
    refine wpAnyH_take (i:=0) rfl (by kernel_rfl) (by kernel_rfl) (by kernel_rfl) (fun _ _ _ h => h) (Or.inl ⟨by rfl,by intro w hSw;(have z1:=(hSw.cell (p:=⟨vb,1,none⟩) HVL.out).trans x1_;have z6:=(hSw.cell (p:=⟨vb,6,none⟩) HVL.out).trans x6_;have y0:=(hSw.cell (p:=⟨b,o + k * 7,none⟩) HBL.out).trans r0;have y1:=(hSw.cell (p:=⟨b,o + k * 7 + 1,none⟩) HBL.out).trans r1;have y2:=(hSw.cell (p:=⟨b,o + k * 7 + 2,none⟩) HBL.out).trans r2;have y3:=(hSw.cell (p:=⟨b,o + k * 7 + 3,none⟩) HBL.out).trans r3;have y4:=(hSw.cell (p:=⟨b,o + k * 7 + 4,none⟩) HBL.out).trans r4;have y5:=(hSw.cell (p:=⟨b,o + k * 7 + 5,none⟩) HBL.out).trans r5;have y6:=(hSw.cell (p:=⟨b,o + k * 7 + 6,none⟩) HBL.out).trans r6;clear hSw);(go_simp <;> with_reducible rfl)⟩) (by assumption) ?_
    (try simp only [Act.put,List.setIfInBounds_toArray,List.set_cons_zero,List.set_cons_succ,List.getElem_toArray,List.getElem_cons_zero,List.getElem_cons_succ])
    refine wpAnyH_take (i:=1) rfl (by kernel_rfl) (by kernel_rfl) (by kernel_rfl) (fun _ _ _ h => h) (Or.inl ⟨by rfl,by intro w hSw;(have z1:=(hSw.cell (p:=⟨vb,1,none⟩) HVL.out).trans x1_;have z6:=(hSw.cell (p:=⟨vb,6,none⟩) HVL.out).trans x6_;have y0:=(hSw.cell (p:=⟨b,o + k * 7,none⟩) HBL.out).trans r0;have y1:=(hSw.cell (p:=⟨b,o + k * 7 + 1,none⟩) HBL.out).trans r1;have y2:=(hSw.cell (p:=⟨b,o + k * 7 + 2,none⟩) HBL.out).trans r2;have y3:=(hSw.cell (p:=⟨b,o + k * 7 + 3,none⟩) HBL.out).trans r3;have y4:=(hSw.cell (p:=⟨b,o + k * 7 + 4,none⟩) HBL.out).trans r4;have y5:=(hSw.cell (p:=⟨b,o + k * 7 + 5,none⟩) HBL.out).trans r5;have y6:=(hSw.cell (p:=⟨b,o + k * 7 + 6,none⟩) HBL.out).trans r6;clear hSw);(go_simp <;> with_reducible rfl)⟩) (by assumption) ?_
    (try simp only [Act.put,List.setIfInBounds_toArray,List.set_cons_zero,List.set_cons_succ,List.getElem_toArray,List.getElem_cons_zero,List.getElem_cons_succ])
    refine wpAnyH_take (i:=2) rfl (by kernel_rfl) (by kernel_rfl) (by kernel_rfl) (fun _ _ _ h => h) (Or.inl ⟨by rfl,by intro w hSw;(have z1:=(hSw.cell (p:=⟨vb,1,none⟩) HVL.out).trans x1_;have z6:=(hSw.cell (p:=⟨vb,6,none⟩) HVL.out).trans x6_;have y0:=(hSw.cell (p:=⟨b,o + k * 7,none⟩) HBL.out).trans r0;have y1:=(hSw.cell (p:=⟨b,o + k * 7 + 1,none⟩) HBL.out).trans r1;have y2:=(hSw.cell (p:=⟨b,o + k * 7 + 2,none⟩) HBL.out).trans r2;have y3:=(hSw.cell (p:=⟨b,o + k * 7 + 3,none⟩) HBL.out).trans r3;have y4:=(hSw.cell (p:=⟨b,o + k * 7 + 4,none⟩) HBL.out).trans r4;have y5:=(hSw.cell (p:=⟨b,o + k * 7 + 5,none⟩) HBL.out).trans r5;have y6:=(hSw.cell (p:=⟨b,o + k * 7 + 6,none⟩) HBL.out).trans r6;clear hSw);(go_simp <;> with_reducible rfl)⟩) (by assumption) ?_
    (try simp only [Act.put,List.setIfInBounds_toArray,List.set_cons_zero,List.set_cons_succ,List.getElem_toArray,List.getElem_cons_zero,List.getElem_cons_succ])
    refine wpAnyH_take (i:=3) rfl (by kernel_rfl) (by kernel_rfl) (by kernel_rfl) (fun _ _ _ h => h) (Or.inl ⟨by rfl,by intro w hSw;(have z1:=(hSw.cell (p:=⟨vb,1,none⟩) HVL.out).trans x1_;have z6:=(hSw.cell (p:=⟨vb,6,none⟩) HVL.out).trans x6_;have y0:=(hSw.cell (p:=⟨b,o + k * 7,none⟩) HBL.out).trans r0;have y1:=(hSw.cell (p:=⟨b,o + k * 7 + 1,none⟩) HBL.out).trans r1;have y2:=(hSw.cell (p:=⟨b,o + k * 7 + 2,none⟩) HBL.out).trans r2;have y3:=(hSw.cell (p:=⟨b,o + k * 7 + 3,none⟩) HBL.out).trans r3;have y4:=(hSw.cell (p:=⟨b,o + k * 7 + 4,none⟩) HBL.out).trans r4;have y5:=(hSw.cell (p:=⟨b,o + k * 7 + 5,none⟩) HBL.out).trans r5;have y6:=(hSw.cell (p:=⟨b,o + k * 7 + 6,none⟩) HBL.out).trans r6;clear hSw);(go_simp <;> with_reducible rfl)⟩) (by assumption) ?_
    (try simp only [Act.put,List.setIfInBounds_toArray,List.set_cons_zero,List.set_cons_succ,List.getElem_toArray,List.getElem_cons_zero,List.getElem_cons_succ])
    refine wpAnyH_take (i:=4) rfl (by kernel_rfl) (by kernel_rfl) (by kernel_rfl) (fun _ _ _ h => h) (Or.inl ⟨by rfl,by intro w hSw;(have z1:=(hSw.cell (p:=⟨vb,1,none⟩) HVL.out).trans x1_;have z6:=(hSw.cell (p:=⟨vb,6,none⟩) HVL.out).trans x6_;have y0:=(hSw.cell (p:=⟨b,o + k * 7,none⟩) HBL.out).trans r0;have y1:=(hSw.cell (p:=⟨b,o + k * 7 + 1,none⟩) HBL.out).trans r1;have y2:=(hSw.cell (p:=⟨b,o + k * 7 + 2,none⟩) HBL.out).trans r2;have y3:=(hSw.cell (p:=⟨b,o + k * 7 + 3,none⟩) HBL.out).trans r3;have y4:=(hSw.cell (p:=⟨b,o + k * 7 + 4,none⟩) HBL.out).trans r4;have y5:=(hSw.cell (p:=⟨b,o + k * 7 + 5,none⟩) HBL.out).trans r5;have y6:=(hSw.cell (p:=⟨b,o + k * 7 + 6,none⟩) HBL.out).trans r6;clear hSw);(go_simp <;> with_reducible rfl)⟩) (by assumption) ?_
    (try simp only [Act.put,List.setIfInBounds_toArray,List.set_cons_zero,List.set_cons_succ,List.getElem_toArray,List.getElem_cons_zero,List.getElem_cons_succ])
    refine wpAnyH_take (i:=5) rfl (by kernel_rfl) (by kernel_rfl) (by kernel_rfl) (fun _ _ _ h => h) (Or.inl ⟨by rfl,by intro w hSw;(have z1:=(hSw.cell (p:=⟨vb,1,none⟩) HVL.out).trans x1_;have z6:=(hSw.cell (p:=⟨vb,6,none⟩) HVL.out).trans x6_;have y0:=(hSw.cell (p:=⟨b,o + k * 7,none⟩) HBL.out).trans r0;have y1:=(hSw.cell (p:=⟨b,o + k * 7 + 1,none⟩) HBL.out).trans r1;have y2:=(hSw.cell (p:=⟨b,o + k * 7 + 2,none⟩) HBL.out).trans r2;have y3:=(hSw.cell (p:=⟨b,o + k * 7 + 3,none⟩) HBL.out).trans r3;have y4:=(hSw.cell (p:=⟨b,o + k * 7 + 4,none⟩) HBL.out).trans r4;have y5:=(hSw.cell (p:=⟨b,o + k * 7 + 5,none⟩) HBL.out).trans r5;have y6:=(hSw.cell (p:=⟨b,o + k * 7 + 6,none⟩) HBL.out).trans r6;clear hSw);(go_simp <;> with_reducible rfl)⟩) (by assumption) ?_
    (try simp only [Act.put,List.setIfInBounds_toArray,List.set_cons_zero,List.set_cons_succ,List.getElem_toArray,List.getElem_cons_zero,List.getElem_cons_succ])
    refine wpAnyH_take (i:=6) rfl (by kernel_rfl) (by kernel_rfl) (by kernel_rfl) (fun _ _ _ h => h) (Or.inl ⟨by rfl,by intro w hSw;(have z1:=(hSw.cell (p:=⟨vb,1,none⟩) HVL.out).trans x1_;have z6:=(hSw.cell (p:=⟨vb,6,none⟩) HVL.out).trans x6_;have y0:=(hSw.cell (p:=⟨b,o + k * 7,none⟩) HBL.out).trans r0;have y1:=(hSw.cell (p:=⟨b,o + k * 7 + 1,none⟩) HBL.out).trans r1;have y2:=(hSw.cell (p:=⟨b,o + k * 7 + 2,none⟩) HBL.out).trans r2;have y3:=(hSw.cell (p:=⟨b,o + k * 7 + 3,none⟩) HBL.out).trans r3;have y4:=(hSw.cell (p:=⟨b,o + k * 7 + 4,none⟩) HBL.out).trans r4;have y5:=(hSw.cell (p:=⟨b,o + k * 7 + 5,none⟩) HBL.out).trans r5;have y6:=(hSw.cell (p:=⟨b,o + k * 7 + 6,none⟩) HBL.out).trans r6;clear hSw);(go_simp <;> with_reducible rfl)⟩) (by assumption) ?_
    (try simp only [Act.put,List.setIfInBounds_toArray,List.set_cons_zero,List.set_cons_succ,List.getElem_toArray,List.getElem_cons_zero,List.getElem_cons_succ])
    refine wpAnyH_take (i:=7) rfl (by kernel_rfl) (by kernel_rfl) (by kernel_rfl) (fun _ _ _ h => h) (Or.inl ⟨by rfl,by intro w hSw;(have z1:=(hSw.cell (p:=⟨vb,1,none⟩) HVL.out).trans x1_;have z6:=(hSw.cell (p:=⟨vb,6,none⟩) HVL.out).trans x6_;have y0:=(hSw.cell (p:=⟨b,o + k * 7,none⟩) HBL.out).trans r0;have y1:=(hSw.cell (p:=⟨b,o + k * 7 + 1,none⟩) HBL.out).trans r1;have y2:=(hSw.cell (p:=⟨b,o + k * 7 + 2,none⟩) HBL.out).trans r2;have y3:=(hSw.cell (p:=⟨b,o + k * 7 + 3,none⟩) HBL.out).trans r3;have y4:=(hSw.cell (p:=⟨b,o + k * 7 + 4,none⟩) HBL.out).trans r4;have y5:=(hSw.cell (p:=⟨b,o + k * 7 + 5,none⟩) HBL.out).trans r5;have y6:=(hSw.cell (p:=⟨b,o + k * 7 + 6,none⟩) HBL.out).trans r6;clear hSw);(go_simp <;> with_reducible rfl)⟩) (by assumption) ?_
    (try simp only [Act.put,List.setIfInBounds_toArray,List.set_cons_zero,List.set_cons_succ,List.getElem_toArray,List.getElem_cons_zero,List.getElem_cons_succ])
    refine wpAnyH_take (i:=8) rfl (by kernel_rfl) (by kernel_rfl) (by kernel_rfl) (fun _ _ _ h => h) (Or.inl ⟨by rfl,by intro w hSw;(have z1:=(hSw.cell (p:=⟨vb,1,none⟩) HVL.out).trans x1_;have z6:=(hSw.cell (p:=⟨vb,6,none⟩) HVL.out).trans x6_;have y0:=(hSw.cell (p:=⟨b,o + k * 7,none⟩) HBL.out).trans r0;have y1:=(hSw.cell (p:=⟨b,o + k * 7 + 1,none⟩) HBL.out).trans r1;have y2:=(hSw.cell (p:=⟨b,o + k * 7 + 2,none⟩) HBL.out).trans r2;have y3:=(hSw.cell (p:=⟨b,o + k * 7 + 3,none⟩) HBL.out).trans r3;have y4:=(hSw.cell (p:=⟨b,o + k * 7 + 4,none⟩) HBL.out).trans r4;have y5:=(hSw.cell (p:=⟨b,o + k * 7 + 5,none⟩) HBL.out).trans r5;have y6:=(hSw.cell (p:=⟨b,o + k * 7 + 6,none⟩) HBL.out).trans r6;clear hSw);(go_simp <;> with_reducible rfl)⟩) (by assumption) ?_
    (try simp only [Act.put,List.setIfInBounds_toArray,List.set_cons_zero,List.set_cons_succ,List.getElem_toArray,List.getElem_cons_zero,List.getElem_cons_succ])
    refine wpAnyH_take (i:=9) rfl (by kernel_rfl) (by kernel_rfl) (by kernel_rfl) (fun _ _ _ h => h) (Or.inl ⟨by rfl,by intro w hSw;(have z1:=(hSw.cell (p:=⟨vb,1,none⟩) HVL.out).trans x1_;have z6:=(hSw.cell (p:=⟨vb,6,none⟩) HVL.out).trans x6_;have y0:=(hSw.cell (p:=⟨b,o + k * 7,none⟩) HBL.out).trans r0;have y1:=(hSw.cell (p:=⟨b,o + k * 7 + 1,none⟩) HBL.out).trans r1;have y2:=(hSw.cell (p:=⟨b,o + k * 7 + 2,none⟩) HBL.out).trans r2;have y3:=(hSw.cell (p:=⟨b,o + k * 7 + 3,none⟩) HBL.out).trans r3;have y4:=(hSw.cell (p:=⟨b,o + k * 7 + 4,none⟩) HBL.out).trans r4;have y5:=(hSw.cell (p:=⟨b,o + k * 7 + 5,none⟩) HBL.out).trans r5;have y6:=(hSw.cell (p:=⟨b,o + k * 7 + 6,none⟩) HBL.out).trans r6;clear hSw);(go_simp <;> with_reducible rfl)⟩) (by assumption) ?_
    (try simp only [Act.put,List.setIfInBounds_toArray,List.set_cons_zero,List.set_cons_succ,List.getElem_toArray,List.getElem_cons_zero,List.getElem_cons_succ])
    refine wpAnyH_take (i:=10) rfl (by kernel_rfl) (by kernel_rfl) (by kernel_rfl) (fun _ _ _ h => h) (Or.inl ⟨by rfl,by intro w hSw;(have z1:=(hSw.cell (p:=⟨vb,1,none⟩) HVL.out).trans x1_;have z6:=(hSw.cell (p:=⟨vb,6,none⟩) HVL.out).trans x6_;have y0:=(hSw.cell (p:=⟨b,o + k * 7,none⟩) HBL.out).trans r0;have y1:=(hSw.cell (p:=⟨b,o + k * 7 + 1,none⟩) HBL.out).trans r1;have y2:=(hSw.cell (p:=⟨b,o + k * 7 + 2,none⟩) HBL.out).trans r2;have y3:=(hSw.cell (p:=⟨b,o + k * 7 + 3,none⟩) HBL.out).trans r3;have y4:=(hSw.cell (p:=⟨b,o + k * 7 + 4,none⟩) HBL.out).trans r4;have y5:=(hSw.cell (p:=⟨b,o + k * 7 + 5,none⟩) HBL.out).trans r5;have y6:=(hSw.cell (p:=⟨b,o + k * 7 + 6,none⟩) HBL.out).trans r6;clear hSw);(go_simp <;> with_reducible rfl)⟩) (by assumption) ?_
    (try simp only [Act.put,List.setIfInBounds_toArray,List.set_cons_zero,List.set_cons_succ,List.getElem_toArray,List.getElem_cons_zero,List.getElem_cons_succ])
    refine wpAnyH_ready (rs:=[11]) (by kernel_rfl) (by simp) (AllReadyH.cons rfl (fun K hK => ?_) AllReadyH.nil)
    go_simp
    refine hK.out _ _ (by exact ((Below.refl V1.heap.size V1).alloc (Nat.le_refl _) _).drew) (fun hHeld => ?_)
    clear hK K
    (try simp only [Act.put,List.setIfInBounds_toArray,List.set_cons_zero,List.set_cons_succ,List.getElem_toArray,List.getElem_cons_zero,List.getElem_cons_succ])
    refine wpAnyH_ready (rs:=[12]) (by kernel_rfl) (by simp) (AllReadyH.cons rfl (fun K hK => ?_) AllReadyH.nil)
    have h7:((V1.alloc (.cells #[.int .i64 0,.int .i64 0,.int .i64 0,.int .i64 0,.int .i64 0,.int .i64 0,.int .u32 0] 36)).drew).heap[V1.heap.size]? = some (.cells #[.int .i64 0,.int .i64 0,.int .i64 0,.int .i64 0,.int .i64 0,.int .i64 0,.int .u32 0] 36 (0,0)):=heap_alloc_new V1 _
    have hth:=there_at h7 (n:=(#[.int .i64 x0,.int .i64 x1,.int .i64 x2,.int .i64 (F.n:Int),.int .i64 (F.d:Int),.int .i64 x5,.int .u32 x6]:Array Value).size) rfl
    have hsd:(Tryz.prog.info? 36).map (·.size) = some (#[.int .i64 x0,.int .i64 x1,.int .i64 x2,.int .i64 (F.n:Int),.int .i64 (F.d:Int),.int .i64 x5,.int .u32 x6]:Array Value).size:=chan_size
    rw [if_pos (by rfl)]
    refine wp_store_mid _ _ _ rfl V1.heap.size 0 (#[.int .i64 x0,.int .i64 x1,.int .i64 x2,.int .i64 (F.n:Int),.int .i64 (F.d:Int),.int .i64 x5,.int .u32 x6]) rfl rfl hth hsd (by kernel_rfl) ?_
    refine hK.out _ _ (by exact below_sets hHeld (Nat.le_refl _) _) (fun hHeld => ?_)
    clear hK K
    (try simp only [Act.put,List.setIfInBounds_toArray,List.set_cons_zero,List.set_cons_succ,List.getElem_toArray,List.getElem_cons_zero,List.getElem_cons_succ])
    refine wpAnyH_done (by kernel_rfl) ?_ _
    obtain ⟨W2,HW2⟩:∃ u,Hid (u = ((V1.alloc (.cells #[.int .i64 0,.int .i64 0,.int .i64 0,.int .i64 0,.int .i64 0,.int .i64 0,.int .u32 0] 36)).drew).setCells V1.heap.size 0 [.int .i64 x0,.int .i64 x1,.int .i64 x2,.int .i64 (F.n:Int),.int .i64 (F.d:Int),.int .i64 x5,.int .u32 x6]):=⟨_,rfl⟩
    have hB2:Below V1.heap.size V1 W2:=by rw [HW2.out];exact below_sets ((Below.refl V1.heap.size V1).alloc (Nat.le_refl _) _).drew (Nat.le_refl _) _
    have hx7:W2.heap[V1.heap.size]? = some (.cells #[.int .i64 x0,.int .i64 x1,.int .i64 x2,.int .i64 (F.n:Int),.int .i64 (F.d:Int),.int .i64 x5,.int .u32 x6] 36 (0,0)):=by rw [HW2.out];exact blk_chan h7 _ rfl
    obtain ⟨xb,hxb⟩:∃ t,t = V1.heap.size:=⟨_,rfl⟩
    rw [← HW2.out]
    simp only [← hxb]
    rw [← hxb] at hx7
    have HXB:=Lib.hid hxb
    clear hxb
    have HD2:=Lib.hid (HDV.out.below hB2)
    have hcW:CfgIn W2 W2.heap.size c ⟨pa,pc,some ⟨b,o,none⟩,cc,aa,ac,ba,bc⟩:=HCV.out.later hB2
    have HSRC:Hid (∀ d os,Calls Tryz.prog 55 #[.agg #[.slice pa c.parts.length pc,.slice (some ⟨b,o,none⟩) c.chans.length cc,.int .i64 c.len0,.slice aa c.win0.length ac,.int .i64 c.len1,.slice ba c.win1.length bc],.int .i64 (k:Int)] (grow (redrawn W2 d) os) (fun e w'' => e = .returned (.agg #[.int .i64 (F.src:Int),.int .i64 (srcSpan c k).2]) ∧ ∃ p:Regrown,w'' = grow (redrawn W2 p.d) p.os)):=Lib.hid (fun d os => by
      have q:=rsource_b c _ k (grow (redrawn W2 d) os) (hcW.later (below_regrown W2 d os)) HWX.out HLX.out
      rw [HHF.out.src] at q
      exact Calls.regrown_of q)
    have HDST:Hid (∀ d os,Calls Tryz.prog 56 #[.agg #[.slice pa c.parts.length pc,.slice (some ⟨b,o,none⟩) c.chans.length cc,.int .i64 c.len0,.slice aa c.win0.length ac,.int .i64 c.len1,.slice ba c.win1.length bc],.int .i64 (k:Int)] (grow (redrawn W2 d) os) (fun e w'' => e = .returned (.agg #[.int .i64 (F.dst:Int),.int .i64 (dstSpan c k).2]) ∧ ∃ p:Regrown,w'' = grow (redrawn W2 p.d) p.os)):=Lib.hid (fun d os => by
      have q:=rdest_b c _ k (grow (redrawn W2 d) os) (hcW.later (below_regrown W2 d os)) HWX.out HLX.out
      rw [HHF.out.dst] at q
      exact Calls.regrown_of q)
    obtain ⟨ci,hci⟩:∃ ci:Nat,ci = (own % (F.d:Int)).toNat:=⟨_,rfl⟩
    have hm1:=Int.emod_nonneg own (show (F.d:Int) ≠ 0 by omega)
    have hm2:=Int.emod_lt_of_pos own (show (0:Int) < F.d by omega)
    have hcl:ci < F.d:=by omega
    have htm:own.tmod (F.d:Int) = (ci:Int):=by rw [Int.tmod_eq_emod_of_nonneg h0.1];omega
    have hcq:cellQ F own = F.src + 1 + ci * (F.n + 1):=by unfold cellQ;rw [hci]
    obtain ⟨ce,hce2⟩:∃ ce,cellQ F own = ce:=⟨_,rfl⟩
    have HCE:=Lib.hid hce2
    have HCEL:Hid (∀ d os,Calls Tryz.prog 57 #[.agg #[.slice pa c.parts.length pc,.slice (some ⟨b,o,none⟩) c.chans.length cc,.int .i64 c.len0,.slice aa c.win0.length ac,.int .i64 c.len1,.slice ba c.win1.length bc],.int .i64 (k:Int),.int .i64 (ci:Int)] (grow (redrawn W2 d) os) (fun e w'' => e = .returned (.agg #[.int .i64 (ce:Int),.int .i64 (cellSpan c k ci).2]) ∧ ∃ p:Regrown,w'' = grow (redrawn W2 p.d) p.os)):=Lib.hid (fun d os => by
      have q:=rcell_b c _ k ci (grow (redrawn W2 d) os) (hcW.later (below_regrown W2 d os)) HWX.out HLX.out
      rw [HHF.out.cell ci hcl,← hcq,hce2] at q
      exact Calls.regrown_of q)
    have hfs:=run_span0
    have d0:((F.d:Int) == 0) = false:=by rw [beq_eq_false_iff_ne];omega
    have d1:¬ ((F.d:Int) = 0):=by omega
    have d2:¬ (F.d = 0):=by omega
    have n1:IntKind.i64.wrap own = own:=IntWalk.i64_in _ (by omega)
    have n2:IntKind.i64.wrap (ci:Int) = (ci:Int):=IntWalk.i64_in _ (by omega)
    have n3:IntKind.i64.wrap (own.tmod (F.d:Int)) = (ci:Int):=by rw [htm];exact IntWalk.i64_in _ (by omega)

    have q0:∀ p:Regrown,(grow (redrawn W2 p.d) p.os).cell? ⟨vb,0,none⟩ = some (.slice pa c.parts.length pc):=fun p => cell_regrown (cell_blk HD2.out.blk rfl) p.d p.os
    have q1:∀ p:Regrown,(grow (redrawn W2 p.d) p.os).cell? ⟨vb,1,none⟩ = some (.slice (some ⟨b,o,none⟩) c.chans.length cc):=fun p => cell_regrown (cell_blk HD2.out.blk rfl) p.d p.os
    have q2:∀ p:Regrown,(grow (redrawn W2 p.d) p.os).cell? ⟨vb,2,none⟩ = some (.int .i64 c.len0):=fun p => cell_regrown (cell_blk HD2.out.blk rfl) p.d p.os
    have q3:∀ p:Regrown,(grow (redrawn W2 p.d) p.os).cell? ⟨vb,3,none⟩ = some (.slice aa c.win0.length ac):=fun p => cell_regrown (cell_blk HD2.out.blk rfl) p.d p.os
    have q4:∀ p:Regrown,(grow (redrawn W2 p.d) p.os).cell? ⟨vb,4,none⟩ = some (.int .i64 c.len1):=fun p => cell_regrown (cell_blk HD2.out.blk rfl) p.d p.os
    have q5:∀ p:Regrown,(grow (redrawn W2 p.d) p.os).cell? ⟨vb,5,none⟩ = some (.slice ba c.win1.length bc):=fun p => cell_regrown (cell_blk HD2.out.blk rfl) p.d p.os
    have q6:∀ p:Regrown,(grow (redrawn W2 p.d) p.os).cell? ⟨vb,6,none⟩ = some (.int .i64 (k:Int)):=fun p => cell_regrown (cell_blk HD2.out.blk rfl) p.d p.os
    have q7:∀ p:Regrown,(grow (redrawn W2 p.d) p.os).cell? ⟨vb,7,none⟩ = some (.int .i64 7):=fun p => cell_regrown (cell_blk HD2.out.blk rfl) p.d p.os
    have q8:∀ p:Regrown,(grow (redrawn W2 p.d) p.os).cell? ⟨vb,8,none⟩ = some (.int .u32 own):=fun p => cell_regrown (cell_blk HD2.out.blk rfl) p.d p.os
    have q9:∀ p:Regrown,(grow (redrawn W2 p.d) p.os).cell? ⟨vb,9,none⟩ = some (.bool true):=fun p => cell_regrown (cell_blk HD2.out.blk rfl) p.d p.os
    have q20:∀ p:Regrown,(grow (redrawn W2 p.d) p.os).cell? ⟨xb,3,none⟩ = some (.int .i64 (F.n:Int)):=fun p => cell_regrown (cell_blk hx7 rfl) p.d p.os
    have q21:∀ p:Regrown,(grow (redrawn W2 p.d) p.os).cell? ⟨xb,4,none⟩ = some (.int .i64 (F.d:Int)):=fun p => cell_regrown (cell_blk hx7 rfl) p.d p.os
    have HX7:=Lib.hid hx7
    have HXL:Hid (xb < W2.heap.size):=Lib.hid (Array.getElem?_eq_some_iff.1 hx7).1
    have hbc:=Below.refl W2.heap.size W2
    clear hHeld hth hsd h7 hcW hci hm1 hm2 hcq hce2 hx7 r0 r1 r2 r3 r4 r5 r6 x1_ x6_ x11 g11
    go_wp2_with ((first | with_reducible refine wpList_on hbc ?_ | with_reducible refine wp_on hbc (by kernel_rfl) (by kernel_rfl) ?_);(repeat (go_big_quiet_step (first | exact HSRC.out _ _ | exact HDST.out _ _ | exact HCEL.out _ _)));with_reducible refine wpQuiet_nil ?_;intro wc hbc;(try clear y3 y4);have y3:wc.cell? ⟨xb,3,none⟩ = some (.int .i64 (F.n:Int)):=cell_blk ((hbc.block xb HXL.out).trans HX7.out) rfl;have y4:wc.cell? ⟨xb,4,none⟩ = some (.int .i64 (F.d:Int)):=cell_blk ((hbc.block xb HXL.out).trans HX7.out) rfl;(try clear x11c g11c x9c x8c ysc ydc);have hVc:=HD2.out.below hbc;have x11c:wc.cell? ⟨vb,11,none⟩ = some (.int .i64 a1):=cell_blk hVc.blk rfl;have g11c:=blk_frozen 11 hVc.blk;have x9c:wc.cell? ⟨vb,9,none⟩ = some (.bool true):=cell_blk hVc.blk rfl;(try clear HDC);have HDC:=Lib.hid hVc;clear hVc)
    clear y3 y4
    obtain ⟨U,HU⟩:∃ u,Hid (u = wc.setCell ⟨vb,11,none⟩ (.int .i64 (-1))):=⟨_,rfl⟩
    have HDU:=Lib.hid (by have q:=HDC.out.put (o:=11) (v:=.int .i64 (-1)) (op':=7) (own':=own) (src':=true) (dv':=dv) (a':=-1) (len':=len) rfl;rw [← HU.out] at q;exact q)
    have hvw:w.heap.size < V1.heap.size:=(Array.getElem?_eq_some_iff.1 HZV.out).1
    have hb2s:=hB2.size
    have HZU:Hid (U.heap[w.heap.size]? = some (.cells #[.bool false,.int .i64 0,.slice none 0 0,.bool false,.int .i64 0,.bool false,.bool false,.bool false,.int .i64 0] 56 (0,0))):=Lib.hid (by rw [HU.out];exact (Below.heap_setCell _ _ _ _ (by show w.heap.size ≠ vb;omega)).trans ((hbc.block w.heap.size (by omega)).trans ((hB2.block w.heap.size hvw).trans HZV.out)))
    have HOU:Hid (Only (New w.heap.size (fun j => j = vb ∨ j = yb ∨ j = zb)) w U):=Lib.hid (by rw [HU.out];exact ((HOV.out.trans ((Only.of_below (S:=fun _ => False) hB2).mono fun _ _ h => h.elim)).trans ((Only.of_below (S:=fun _ => False) hbc).mono fun _ _ h => h.elim)).set (p:=⟨vb,11,none⟩) (.inr (.inl rfl)) _)
    rw [← HU.out]
    obtain ⟨y,hy0⟩:∃ y,ws.getD F.dst 0 = y:=⟨_,rfl⟩
    have u8:U.cell? ⟨vb,8,none⟩ = some (.int .u32 own):=cell_blk HDU.out.blk rfl
    have uy:U.cell? ⟨yb,F.dst,none⟩ = some (.int .u32 y):=by rw [← hy0];exact HDU.out.row.cell (by omega)
    have hil:(F.dst:Int) < (ws.length:Int):=by omega
    have hcz:cntQ F own true ws = (own - y) % 4294967296:=by rw [← hy0];rfl
    obtain ⟨z,hz0⟩:∃ z,(own - y) % 4294967296 = z:=⟨_,rfl⟩
    rw [hz0] at hcz
    have HCZ:=Lib.hid hcz
    have m1:IntKind.u32.wrap (own - y) = z:=by rw [IntKind.wrap_u32];exact hz0
    have m2:IntKind.i64.wrap z = z:=IntWalk.i64_in _ (by omega)
    have HZ3:=Lib.hid hz0
    clear hy0 hz0 hcz x11c g11c x9c
    have h7:U.drew.heap[w.heap.size]? = _:=HZU.out
    have hth:=there_at h7 (n:=(qdV true 0 (.slice none 0 0) z true false:Array Value).size) rfl
    have hsd:(Tryz.prog.info? 56).map (·.size) = some (qdV true 0 (.slice none 0 0) z true false:Array Value).size:=did_size
    refine wp_region_held_drew (S:=(fun W' => W'.cell? ⟨vb,8,none⟩ = some (.int .u32 own) ∧ W'.cell? ⟨yb,F.dst,none⟩ = some (.int .u32 y))) (by kernel_rfl) (by exact ⟨u8,uy⟩) (fun hHeld => ?_)
    refine wpAnyH_take (i:=0) rfl (by kernel_rfl) (by kernel_rfl) (by kernel_rfl) (fun _ _ _ h => h) (Or.inl ⟨by rfl,by intro w hSw;(have z0:=hSw.1;have z1:=hSw.2;clear hSw);(go_simp <;> with_reducible rfl)⟩) (by assumption) ?_
    (try simp only [Act.put,List.setIfInBounds_toArray,List.set_cons_zero,List.set_cons_succ,List.getElem_toArray,List.getElem_cons_zero,List.getElem_cons_succ])
    refine wpAnyH_take (i:=1) rfl (by kernel_rfl) (by kernel_rfl) (by kernel_rfl) (fun _ _ _ h => h) (Or.inl ⟨by rfl,by intro w hSw;(have z0:=hSw.1;have z1:=hSw.2;clear hSw);(go_simp <;> with_reducible rfl)⟩) (by assumption) ?_
    (try simp only [Act.put,List.setIfInBounds_toArray,List.set_cons_zero,List.set_cons_succ,List.getElem_toArray,List.getElem_cons_zero,List.getElem_cons_succ])
    refine wpAnyH_take (i:=2) rfl (by kernel_rfl) (by kernel_rfl) (by kernel_rfl) (fun _ _ _ h => h) (Or.inl ⟨by rfl,by intro w hSw;(have z0:=hSw.1;have z1:=hSw.2;clear hSw);(go_simp <;> with_reducible rfl)⟩) (by assumption) ?_
    (try simp only [Act.put,List.setIfInBounds_toArray,List.set_cons_zero,List.set_cons_succ,List.getElem_toArray,List.getElem_cons_zero,List.getElem_cons_succ])
    refine wpAnyH_take (i:=3) rfl (by kernel_rfl) (by kernel_rfl) (by kernel_rfl) (fun _ _ _ h => h) (Or.inl ⟨by rfl,by intro w hSw;(have z0:=hSw.1;have z1:=hSw.2;clear hSw);(go_simp <;> with_reducible rfl)⟩) (by assumption) ?_
    (try simp only [Act.put,List.setIfInBounds_toArray,List.set_cons_zero,List.set_cons_succ,List.getElem_toArray,List.getElem_cons_zero,List.getElem_cons_succ])
    refine wpAnyH_take (i:=4) rfl (by kernel_rfl) (by kernel_rfl) (by kernel_rfl) (fun _ _ _ h => h) (Or.inl ⟨by rfl,by intro w hSw;(have z0:=hSw.1;have z1:=hSw.2;clear hSw);(go_simp <;> with_reducible rfl)⟩) (by assumption) ?_
    (try simp only [Act.put,List.setIfInBounds_toArray,List.set_cons_zero,List.set_cons_succ,List.getElem_toArray,List.getElem_cons_zero,List.getElem_cons_succ])
    refine wpAnyH_take (i:=5) rfl (by kernel_rfl) (by kernel_rfl) (by kernel_rfl) (fun _ _ _ h => h) (Or.inl ⟨by rfl,by intro w hSw;(have z0:=hSw.1;have z1:=hSw.2;clear hSw);(go_simp <;> with_reducible rfl)⟩) (by assumption) ?_
    (try simp only [Act.put,List.setIfInBounds_toArray,List.set_cons_zero,List.set_cons_succ,List.getElem_toArray,List.getElem_cons_zero,List.getElem_cons_succ])
    refine wpAnyH_take (i:=6) rfl (by kernel_rfl) (by kernel_rfl) (by kernel_rfl) (fun _ _ _ h => h) (Or.inl ⟨by rfl,by intro w hSw;(have z0:=hSw.1;have z1:=hSw.2;clear hSw);(go_simp <;> with_reducible rfl)⟩) (by assumption) ?_
    (try simp only [Act.put,List.setIfInBounds_toArray,List.set_cons_zero,List.set_cons_succ,List.getElem_toArray,List.getElem_cons_zero,List.getElem_cons_succ])
    refine wpAnyH_take (i:=7) rfl (by kernel_rfl) (by kernel_rfl) (by kernel_rfl) (fun _ _ _ h => h) (Or.inl ⟨by rfl,by intro w hSw;(have z0:=hSw.1;have z1:=hSw.2;clear hSw);(go_simp <;> with_reducible rfl)⟩) (by assumption) ?_
    (try simp only [Act.put,List.setIfInBounds_toArray,List.set_cons_zero,List.set_cons_succ,List.getElem_toArray,List.getElem_cons_zero,List.getElem_cons_succ])
    refine wpAnyH_take (i:=8) rfl (by kernel_rfl) (by kernel_rfl) (by kernel_rfl) (fun _ _ _ h => h) (Or.inl ⟨by rfl,by intro w hSw;(have z0:=hSw.1;have z1:=hSw.2;clear hSw);(go_simp <;> with_reducible rfl)⟩) (by assumption) ?_
    (try simp only [Act.put,List.setIfInBounds_toArray,List.set_cons_zero,List.set_cons_succ,List.getElem_toArray,List.getElem_cons_zero,List.getElem_cons_succ])
    refine wpAnyH_take (i:=9) rfl (by kernel_rfl) (by kernel_rfl) (by kernel_rfl) (fun _ _ _ h => h) (Or.inl ⟨by rfl,by intro w hSw;(have z0:=hSw.1;have z1:=hSw.2;clear hSw);(go_simp <;> with_reducible rfl)⟩) (by assumption) ?_
    (try simp only [Act.put,List.setIfInBounds_toArray,List.set_cons_zero,List.set_cons_succ,List.getElem_toArray,List.getElem_cons_zero,List.getElem_cons_succ])
    refine wpAnyH_take (i:=10) rfl (by kernel_rfl) (by kernel_rfl) (by kernel_rfl) (fun _ _ _ h => h) (Or.inl ⟨by rfl,by intro w hSw;(have z0:=hSw.1;have z1:=hSw.2;clear hSw);(go_simp <;> with_reducible rfl)⟩) (by assumption) ?_
    (try simp only [Act.put,List.setIfInBounds_toArray,List.set_cons_zero,List.set_cons_succ,List.getElem_toArray,List.getElem_cons_zero,List.getElem_cons_succ])
    refine wpAnyH_take (i:=11) rfl (by kernel_rfl) (by kernel_rfl) (by kernel_rfl) (fun _ _ _ h => h) (Or.inl ⟨by rfl,by intro w hSw;(have z0:=hSw.1;have z1:=hSw.2;clear hSw);(go_simp <;> with_reducible rfl)⟩) (by assumption) ?_
    (try simp only [Act.put,List.setIfInBounds_toArray,List.set_cons_zero,List.set_cons_succ,List.getElem_toArray,List.getElem_cons_zero,List.getElem_cons_succ])
    refine wpAnyH_ready (rs:=[12]) (by kernel_rfl) (by simp) (AllReadyH.cons rfl (fun K hK => ?_) AllReadyH.nil)
    rw [if_pos (by rfl)]
    refine wp_store_mid _ _ _ rfl w.heap.size 0 (qdV true 0 (.slice none 0 0) z true false) rfl rfl hth hsd (by kernel_rfl) ?_
    refine hK.out _ _ (by exact ⟨cell_of_blk hHeld.1 ((Only.sets (S:=fun j => j = w.heap.size) rfl [.bool true,.int .i64 0,.slice none 0 0,.bool false,.int .i64 z,.bool true,.bool false,.bool false,.int .i64 0] 0 (Only.refl _ U.drew)).block vb (HDU.out.lt.1) (by omega)),cell_of_blk hHeld.2 ((Only.sets (S:=fun j => j = w.heap.size) rfl [.bool true,.int .i64 0,.slice none 0 0,.bool false,.int .i64 z,.bool true,.bool false,.bool false,.int .i64 0] 0 (Only.refl _ U.drew)).block yb (HDU.out.lt.2.1) (by omega))⟩) (fun hHeld => ?_)
    clear hK K
    (try simp only [Act.put,List.setIfInBounds_toArray,List.set_cons_zero,List.set_cons_succ,List.getElem_toArray,List.getElem_cons_zero,List.getElem_cons_succ])
    refine wpAnyH_done (by kernel_rfl) ?_ _
    go_wp2
    have hrg:=World.rangeAt_setCells_same (U.drew) w.heap.size 0 [.bool true,.int .i64 0,.slice none 0 0,.bool false,.int .i64 z,.bool true,.bool false,.bool false,.int .i64 0] (there_at (cs:=#[.bool false,.int .i64 0,.slice none 0 0,.bool false,.int .i64 0,.bool false,.bool false,.bool false,.int .i64 0]) (n:=9) (show (U.drew).heap[w.heap.size]? = _ from h7) rfl)
    (try simp only [Exit.inBlock,Exit.then])
    refine bodyPost_ret (results_cell_row rfl _ _ w.heap.size [.bool true,.int .i64 0,.slice none 0 0,.bool false,.int .i64 z,.bool true,.bool false,.bool false,.int .i64 0] _ rfl hrg Tryz.underlying56 rfl did_size) rfl ?_
    exact ⟨by rw [HCZ.out],HDU.out.drew.fin hlt HOU.out.drew _⟩
  | false =>
    obtain ⟨W1,HW1,hsz,hO,hz⟩:=did_new w
    have hlt:=h.lt
    have hD1:=h.only hO ⟨fun h => h,fun h => h,fun h => h⟩
    have HD1:=Lib.hid hD1;have HO1:Hid (Only (New w.heap.size (fun j => j = vb ∨ j = yb ∨ j = zb)) w W1):=Lib.hid (hO.mono fun _ _ h => h.elim);have HZ1:=Lib.hid hz
    have x11:W1.cell? ⟨vb,11,none⟩ = some (.int .i64 a):=cell_blk hD1.blk rfl
    have g11:=blk_frozen 11 hD1.blk
    have b0:decide (a < 0) = false:=decide_eq_false (by omega)
    obtain ⟨a1,ha1⟩:∃ a1,a + 1 = a1:=⟨_,rfl⟩
    have n0:IntKind.i64.wrap (a + 1) = a1:=by rw [ha1];exact IntWalk.i64_in _ (by omega)
    (try rw [ha1])
    obtain ⟨V1,HV1⟩:∃ u,Hid (u = W1.setCell ⟨vb,11,none⟩ (.int .i64 a1)):=⟨_,rfl⟩
    have HDV:=Lib.hid (by have q:=hD1.put (o:=11) (v:=.int .i64 a1) (op':=7) (own':=own) (src':=false) (dv':=dv) (a':=a1) (len':=len) rfl;rw [← HV1.out] at q;exact q)
    have HOV:Hid (Only (New w.heap.size (fun j => j = vb ∨ j = yb ∨ j = zb)) w V1):=Lib.hid (by rw [HV1.out];exact HO1.out.set (p:=⟨vb,11,none⟩) (.inr (.inl rfl)) _)
    have HZV:Hid (V1.heap[w.heap.size]? = some (.cells #[.bool false,.int .i64 0,.slice none 0 0,.bool false,.int .i64 0,.bool false,.bool false,.bool false,.int .i64 0] 56 (0,0))):=Lib.hid (by rw [HV1.out];exact (Below.heap_setCell _ _ _ _ (by show w.heap.size ≠ vb;omega)).trans HZ1.out)
    have hbV:Below W.heap.size W V1:=by
      have hv:=HOV.out.old
      exact hb.trans ⟨hv.os,hv.tape,hv.output,hv.size,fun j hj => hv.block j (by have:=hb.size;omega) (fun e => by rcases e with e | e | e <;> omega)⟩
    obtain ⟨b,o,x0,x1,x2,x3,x4,x5,x6,hA,hbl,hrw,hwf,hcc⟩:=hx.rc.at7 wx.wc hF.lk
    have hr:row c.chans k = [x0,x1,x2,x3,x4,x5,x6]:=by unfold row;rw [List.getD_eq_getElem?_getD,hrw];rfl
    have e3:x3 = (F.n:Int):=by have:=hF.words;rw [hr] at this;exact this
    have e4:x4 = (F.d:Int):=by have:=hF.depth;rw [hr] at this;exact this
    subst e3;subst e4
    have hlow:=hF.low
    have hkl:=hF.lk
    have hcn:=hF.chans
    have k0:(k:Int) < (c.chans.length:Int):=by omega
    obtain ⟨r0,r1,r2,r3,r4,r5,r6⟩:=hcc V1 hbV
    have hcV:CfgIn V1 V1.heap.size c x:=hx.later hbV
    obtain ⟨pa,pc,ca,cc,aa,ac,ba,bc⟩:=x
    subst hA
    have x1_:V1.cell? ⟨vb,1,none⟩ = some (.slice (some ⟨b,o,none⟩) c.chans.length cc):=cell_blk HDV.out.blk rfl
    have x6_:V1.cell? ⟨vb,6,none⟩ = some (.int .i64 (k:Int)):=cell_blk HDV.out.blk rfl
    have HCV:=Lib.hid hcV;have HHF:=Lib.hid hF;have HWX:=Lib.hid wx;have HLX:=Lib.hid lx;have HBV:=Lib.hid hbV;have HSZ:=Lib.hid hsz;have HA1:=Lib.hid ha1
    clear hD1 hO hz h hb hx wx lx hF hrw hr hcc hwf hcV hbV hsz ha1
    have HVL:Hid (vb < V1.heap.size):=Lib.hid HDV.out.lt.1
    have HBL:Hid (b < V1.heap.size):=Lib.hid (by have:=HBV.out.size;omega)
    go_enter Tryz.func26,Tryz.ntmps26
    go_wp2_with (first | (rw [← HW1.out]) | (rw [← HV1.out]))
    refine wp_region_held_drew (S:=(fun W' => Below V1.heap.size V1 W')) (by kernel_rfl) (by exact (Below.refl _ _).drew) (fun hHeld => ?_)
    refine wpAnyH_take (i:=0) rfl (by kernel_rfl) (by kernel_rfl) (by kernel_rfl) (fun _ _ _ h => h) (Or.inl ⟨by rfl,by intro w hSw;(have z1:=(hSw.cell (p:=⟨vb,1,none⟩) HVL.out).trans x1_;have z6:=(hSw.cell (p:=⟨vb,6,none⟩) HVL.out).trans x6_;have y0:=(hSw.cell (p:=⟨b,o + k * 7,none⟩) HBL.out).trans r0;have y1:=(hSw.cell (p:=⟨b,o + k * 7 + 1,none⟩) HBL.out).trans r1;have y2:=(hSw.cell (p:=⟨b,o + k * 7 + 2,none⟩) HBL.out).trans r2;have y3:=(hSw.cell (p:=⟨b,o + k * 7 + 3,none⟩) HBL.out).trans r3;have y4:=(hSw.cell (p:=⟨b,o + k * 7 + 4,none⟩) HBL.out).trans r4;have y5:=(hSw.cell (p:=⟨b,o + k * 7 + 5,none⟩) HBL.out).trans r5;have y6:=(hSw.cell (p:=⟨b,o + k * 7 + 6,none⟩) HBL.out).trans r6;clear hSw);(go_simp <;> with_reducible rfl)⟩) (by assumption) ?_
    (try simp only [Act.put,List.setIfInBounds_toArray,List.set_cons_zero,List.set_cons_succ,List.getElem_toArray,List.getElem_cons_zero,List.getElem_cons_succ])
    refine wpAnyH_take (i:=1) rfl (by kernel_rfl) (by kernel_rfl) (by kernel_rfl) (fun _ _ _ h => h) (Or.inl ⟨by rfl,by intro w hSw;(have z1:=(hSw.cell (p:=⟨vb,1,none⟩) HVL.out).trans x1_;have z6:=(hSw.cell (p:=⟨vb,6,none⟩) HVL.out).trans x6_;have y0:=(hSw.cell (p:=⟨b,o + k * 7,none⟩) HBL.out).trans r0;have y1:=(hSw.cell (p:=⟨b,o + k * 7 + 1,none⟩) HBL.out).trans r1;have y2:=(hSw.cell (p:=⟨b,o + k * 7 + 2,none⟩) HBL.out).trans r2;have y3:=(hSw.cell (p:=⟨b,o + k * 7 + 3,none⟩) HBL.out).trans r3;have y4:=(hSw.cell (p:=⟨b,o + k * 7 + 4,none⟩) HBL.out).trans r4;have y5:=(hSw.cell (p:=⟨b,o + k * 7 + 5,none⟩) HBL.out).trans r5;have y6:=(hSw.cell (p:=⟨b,o + k * 7 + 6,none⟩) HBL.out).trans r6;clear hSw);(go_simp <;> with_reducible rfl)⟩) (by assumption) ?_
    (try simp only [Act.put,List.setIfInBounds_toArray,List.set_cons_zero,List.set_cons_succ,List.getElem_toArray,List.getElem_cons_zero,List.getElem_cons_succ])
    refine wpAnyH_take (i:=2) rfl (by kernel_rfl) (by kernel_rfl) (by kernel_rfl) (fun _ _ _ h => h) (Or.inl ⟨by rfl,by intro w hSw;(have z1:=(hSw.cell (p:=⟨vb,1,none⟩) HVL.out).trans x1_;have z6:=(hSw.cell (p:=⟨vb,6,none⟩) HVL.out).trans x6_;have y0:=(hSw.cell (p:=⟨b,o + k * 7,none⟩) HBL.out).trans r0;have y1:=(hSw.cell (p:=⟨b,o + k * 7 + 1,none⟩) HBL.out).trans r1;have y2:=(hSw.cell (p:=⟨b,o + k * 7 + 2,none⟩) HBL.out).trans r2;have y3:=(hSw.cell (p:=⟨b,o + k * 7 + 3,none⟩) HBL.out).trans r3;have y4:=(hSw.cell (p:=⟨b,o + k * 7 + 4,none⟩) HBL.out).trans r4;have y5:=(hSw.cell (p:=⟨b,o + k * 7 + 5,none⟩) HBL.out).trans r5;have y6:=(hSw.cell (p:=⟨b,o + k * 7 + 6,none⟩) HBL.out).trans r6;clear hSw);(go_simp <;> with_reducible rfl)⟩) (by assumption) ?_
    (try simp only [Act.put,List.setIfInBounds_toArray,List.set_cons_zero,List.set_cons_succ,List.getElem_toArray,List.getElem_cons_zero,List.getElem_cons_succ])
    refine wpAnyH_take (i:=3) rfl (by kernel_rfl) (by kernel_rfl) (by kernel_rfl) (fun _ _ _ h => h) (Or.inl ⟨by rfl,by intro w hSw;(have z1:=(hSw.cell (p:=⟨vb,1,none⟩) HVL.out).trans x1_;have z6:=(hSw.cell (p:=⟨vb,6,none⟩) HVL.out).trans x6_;have y0:=(hSw.cell (p:=⟨b,o + k * 7,none⟩) HBL.out).trans r0;have y1:=(hSw.cell (p:=⟨b,o + k * 7 + 1,none⟩) HBL.out).trans r1;have y2:=(hSw.cell (p:=⟨b,o + k * 7 + 2,none⟩) HBL.out).trans r2;have y3:=(hSw.cell (p:=⟨b,o + k * 7 + 3,none⟩) HBL.out).trans r3;have y4:=(hSw.cell (p:=⟨b,o + k * 7 + 4,none⟩) HBL.out).trans r4;have y5:=(hSw.cell (p:=⟨b,o + k * 7 + 5,none⟩) HBL.out).trans r5;have y6:=(hSw.cell (p:=⟨b,o + k * 7 + 6,none⟩) HBL.out).trans r6;clear hSw);(go_simp <;> with_reducible rfl)⟩) (by assumption) ?_
    (try simp only [Act.put,List.setIfInBounds_toArray,List.set_cons_zero,List.set_cons_succ,List.getElem_toArray,List.getElem_cons_zero,List.getElem_cons_succ])
    refine wpAnyH_take (i:=4) rfl (by kernel_rfl) (by kernel_rfl) (by kernel_rfl) (fun _ _ _ h => h) (Or.inl ⟨by rfl,by intro w hSw;(have z1:=(hSw.cell (p:=⟨vb,1,none⟩) HVL.out).trans x1_;have z6:=(hSw.cell (p:=⟨vb,6,none⟩) HVL.out).trans x6_;have y0:=(hSw.cell (p:=⟨b,o + k * 7,none⟩) HBL.out).trans r0;have y1:=(hSw.cell (p:=⟨b,o + k * 7 + 1,none⟩) HBL.out).trans r1;have y2:=(hSw.cell (p:=⟨b,o + k * 7 + 2,none⟩) HBL.out).trans r2;have y3:=(hSw.cell (p:=⟨b,o + k * 7 + 3,none⟩) HBL.out).trans r3;have y4:=(hSw.cell (p:=⟨b,o + k * 7 + 4,none⟩) HBL.out).trans r4;have y5:=(hSw.cell (p:=⟨b,o + k * 7 + 5,none⟩) HBL.out).trans r5;have y6:=(hSw.cell (p:=⟨b,o + k * 7 + 6,none⟩) HBL.out).trans r6;clear hSw);(go_simp <;> with_reducible rfl)⟩) (by assumption) ?_
    (try simp only [Act.put,List.setIfInBounds_toArray,List.set_cons_zero,List.set_cons_succ,List.getElem_toArray,List.getElem_cons_zero,List.getElem_cons_succ])
    refine wpAnyH_take (i:=5) rfl (by kernel_rfl) (by kernel_rfl) (by kernel_rfl) (fun _ _ _ h => h) (Or.inl ⟨by rfl,by intro w hSw;(have z1:=(hSw.cell (p:=⟨vb,1,none⟩) HVL.out).trans x1_;have z6:=(hSw.cell (p:=⟨vb,6,none⟩) HVL.out).trans x6_;have y0:=(hSw.cell (p:=⟨b,o + k * 7,none⟩) HBL.out).trans r0;have y1:=(hSw.cell (p:=⟨b,o + k * 7 + 1,none⟩) HBL.out).trans r1;have y2:=(hSw.cell (p:=⟨b,o + k * 7 + 2,none⟩) HBL.out).trans r2;have y3:=(hSw.cell (p:=⟨b,o + k * 7 + 3,none⟩) HBL.out).trans r3;have y4:=(hSw.cell (p:=⟨b,o + k * 7 + 4,none⟩) HBL.out).trans r4;have y5:=(hSw.cell (p:=⟨b,o + k * 7 + 5,none⟩) HBL.out).trans r5;have y6:=(hSw.cell (p:=⟨b,o + k * 7 + 6,none⟩) HBL.out).trans r6;clear hSw);(go_simp <;> with_reducible rfl)⟩) (by assumption) ?_
    (try simp only [Act.put,List.setIfInBounds_toArray,List.set_cons_zero,List.set_cons_succ,List.getElem_toArray,List.getElem_cons_zero,List.getElem_cons_succ])
    refine wpAnyH_take (i:=6) rfl (by kernel_rfl) (by kernel_rfl) (by kernel_rfl) (fun _ _ _ h => h) (Or.inl ⟨by rfl,by intro w hSw;(have z1:=(hSw.cell (p:=⟨vb,1,none⟩) HVL.out).trans x1_;have z6:=(hSw.cell (p:=⟨vb,6,none⟩) HVL.out).trans x6_;have y0:=(hSw.cell (p:=⟨b,o + k * 7,none⟩) HBL.out).trans r0;have y1:=(hSw.cell (p:=⟨b,o + k * 7 + 1,none⟩) HBL.out).trans r1;have y2:=(hSw.cell (p:=⟨b,o + k * 7 + 2,none⟩) HBL.out).trans r2;have y3:=(hSw.cell (p:=⟨b,o + k * 7 + 3,none⟩) HBL.out).trans r3;have y4:=(hSw.cell (p:=⟨b,o + k * 7 + 4,none⟩) HBL.out).trans r4;have y5:=(hSw.cell (p:=⟨b,o + k * 7 + 5,none⟩) HBL.out).trans r5;have y6:=(hSw.cell (p:=⟨b,o + k * 7 + 6,none⟩) HBL.out).trans r6;clear hSw);(go_simp <;> with_reducible rfl)⟩) (by assumption) ?_
    (try simp only [Act.put,List.setIfInBounds_toArray,List.set_cons_zero,List.set_cons_succ,List.getElem_toArray,List.getElem_cons_zero,List.getElem_cons_succ])
    refine wpAnyH_take (i:=7) rfl (by kernel_rfl) (by kernel_rfl) (by kernel_rfl) (fun _ _ _ h => h) (Or.inl ⟨by rfl,by intro w hSw;(have z1:=(hSw.cell (p:=⟨vb,1,none⟩) HVL.out).trans x1_;have z6:=(hSw.cell (p:=⟨vb,6,none⟩) HVL.out).trans x6_;have y0:=(hSw.cell (p:=⟨b,o + k * 7,none⟩) HBL.out).trans r0;have y1:=(hSw.cell (p:=⟨b,o + k * 7 + 1,none⟩) HBL.out).trans r1;have y2:=(hSw.cell (p:=⟨b,o + k * 7 + 2,none⟩) HBL.out).trans r2;have y3:=(hSw.cell (p:=⟨b,o + k * 7 + 3,none⟩) HBL.out).trans r3;have y4:=(hSw.cell (p:=⟨b,o + k * 7 + 4,none⟩) HBL.out).trans r4;have y5:=(hSw.cell (p:=⟨b,o + k * 7 + 5,none⟩) HBL.out).trans r5;have y6:=(hSw.cell (p:=⟨b,o + k * 7 + 6,none⟩) HBL.out).trans r6;clear hSw);(go_simp <;> with_reducible rfl)⟩) (by assumption) ?_
    (try simp only [Act.put,List.setIfInBounds_toArray,List.set_cons_zero,List.set_cons_succ,List.getElem_toArray,List.getElem_cons_zero,List.getElem_cons_succ])
    refine wpAnyH_take (i:=8) rfl (by kernel_rfl) (by kernel_rfl) (by kernel_rfl) (fun _ _ _ h => h) (Or.inl ⟨by rfl,by intro w hSw;(have z1:=(hSw.cell (p:=⟨vb,1,none⟩) HVL.out).trans x1_;have z6:=(hSw.cell (p:=⟨vb,6,none⟩) HVL.out).trans x6_;have y0:=(hSw.cell (p:=⟨b,o + k * 7,none⟩) HBL.out).trans r0;have y1:=(hSw.cell (p:=⟨b,o + k * 7 + 1,none⟩) HBL.out).trans r1;have y2:=(hSw.cell (p:=⟨b,o + k * 7 + 2,none⟩) HBL.out).trans r2;have y3:=(hSw.cell (p:=⟨b,o + k * 7 + 3,none⟩) HBL.out).trans r3;have y4:=(hSw.cell (p:=⟨b,o + k * 7 + 4,none⟩) HBL.out).trans r4;have y5:=(hSw.cell (p:=⟨b,o + k * 7 + 5,none⟩) HBL.out).trans r5;have y6:=(hSw.cell (p:=⟨b,o + k * 7 + 6,none⟩) HBL.out).trans r6;clear hSw);(go_simp <;> with_reducible rfl)⟩) (by assumption) ?_
    (try simp only [Act.put,List.setIfInBounds_toArray,List.set_cons_zero,List.set_cons_succ,List.getElem_toArray,List.getElem_cons_zero,List.getElem_cons_succ])
    refine wpAnyH_take (i:=9) rfl (by kernel_rfl) (by kernel_rfl) (by kernel_rfl) (fun _ _ _ h => h) (Or.inl ⟨by rfl,by intro w hSw;(have z1:=(hSw.cell (p:=⟨vb,1,none⟩) HVL.out).trans x1_;have z6:=(hSw.cell (p:=⟨vb,6,none⟩) HVL.out).trans x6_;have y0:=(hSw.cell (p:=⟨b,o + k * 7,none⟩) HBL.out).trans r0;have y1:=(hSw.cell (p:=⟨b,o + k * 7 + 1,none⟩) HBL.out).trans r1;have y2:=(hSw.cell (p:=⟨b,o + k * 7 + 2,none⟩) HBL.out).trans r2;have y3:=(hSw.cell (p:=⟨b,o + k * 7 + 3,none⟩) HBL.out).trans r3;have y4:=(hSw.cell (p:=⟨b,o + k * 7 + 4,none⟩) HBL.out).trans r4;have y5:=(hSw.cell (p:=⟨b,o + k * 7 + 5,none⟩) HBL.out).trans r5;have y6:=(hSw.cell (p:=⟨b,o + k * 7 + 6,none⟩) HBL.out).trans r6;clear hSw);(go_simp <;> with_reducible rfl)⟩) (by assumption) ?_
    (try simp only [Act.put,List.setIfInBounds_toArray,List.set_cons_zero,List.set_cons_succ,List.getElem_toArray,List.getElem_cons_zero,List.getElem_cons_succ])
    refine wpAnyH_take (i:=10) rfl (by kernel_rfl) (by kernel_rfl) (by kernel_rfl) (fun _ _ _ h => h) (Or.inl ⟨by rfl,by intro w hSw;(have z1:=(hSw.cell (p:=⟨vb,1,none⟩) HVL.out).trans x1_;have z6:=(hSw.cell (p:=⟨vb,6,none⟩) HVL.out).trans x6_;have y0:=(hSw.cell (p:=⟨b,o + k * 7,none⟩) HBL.out).trans r0;have y1:=(hSw.cell (p:=⟨b,o + k * 7 + 1,none⟩) HBL.out).trans r1;have y2:=(hSw.cell (p:=⟨b,o + k * 7 + 2,none⟩) HBL.out).trans r2;have y3:=(hSw.cell (p:=⟨b,o + k * 7 + 3,none⟩) HBL.out).trans r3;have y4:=(hSw.cell (p:=⟨b,o + k * 7 + 4,none⟩) HBL.out).trans r4;have y5:=(hSw.cell (p:=⟨b,o + k * 7 + 5,none⟩) HBL.out).trans r5;have y6:=(hSw.cell (p:=⟨b,o + k * 7 + 6,none⟩) HBL.out).trans r6;clear hSw);(go_simp <;> with_reducible rfl)⟩) (by assumption) ?_
    (try simp only [Act.put,List.setIfInBounds_toArray,List.set_cons_zero,List.set_cons_succ,List.getElem_toArray,List.getElem_cons_zero,List.getElem_cons_succ])
    refine wpAnyH_ready (rs:=[11]) (by kernel_rfl) (by simp) (AllReadyH.cons rfl (fun K hK => ?_) AllReadyH.nil)
    go_simp
    refine hK.out _ _ (by exact ((Below.refl V1.heap.size V1).alloc (Nat.le_refl _) _).drew) (fun hHeld => ?_)
    clear hK K
    (try simp only [Act.put,List.setIfInBounds_toArray,List.set_cons_zero,List.set_cons_succ,List.getElem_toArray,List.getElem_cons_zero,List.getElem_cons_succ])
    refine wpAnyH_ready (rs:=[12]) (by kernel_rfl) (by simp) (AllReadyH.cons rfl (fun K hK => ?_) AllReadyH.nil)
    have h7:((V1.alloc (.cells #[.int .i64 0,.int .i64 0,.int .i64 0,.int .i64 0,.int .i64 0,.int .i64 0,.int .u32 0] 36)).drew).heap[V1.heap.size]? = some (.cells #[.int .i64 0,.int .i64 0,.int .i64 0,.int .i64 0,.int .i64 0,.int .i64 0,.int .u32 0] 36 (0,0)):=heap_alloc_new V1 _
    have hth:=there_at h7 (n:=(#[.int .i64 x0,.int .i64 x1,.int .i64 x2,.int .i64 (F.n:Int),.int .i64 (F.d:Int),.int .i64 x5,.int .u32 x6]:Array Value).size) rfl
    have hsd:(Tryz.prog.info? 36).map (·.size) = some (#[.int .i64 x0,.int .i64 x1,.int .i64 x2,.int .i64 (F.n:Int),.int .i64 (F.d:Int),.int .i64 x5,.int .u32 x6]:Array Value).size:=chan_size
    rw [if_pos (by rfl)]
    refine wp_store_mid _ _ _ rfl V1.heap.size 0 (#[.int .i64 x0,.int .i64 x1,.int .i64 x2,.int .i64 (F.n:Int),.int .i64 (F.d:Int),.int .i64 x5,.int .u32 x6]) rfl rfl hth hsd (by kernel_rfl) ?_
    refine hK.out _ _ (by exact below_sets hHeld (Nat.le_refl _) _) (fun hHeld => ?_)
    clear hK K
    (try simp only [Act.put,List.setIfInBounds_toArray,List.set_cons_zero,List.set_cons_succ,List.getElem_toArray,List.getElem_cons_zero,List.getElem_cons_succ])
    refine wpAnyH_done (by kernel_rfl) ?_ _
    obtain ⟨W2,HW2⟩:∃ u,Hid (u = ((V1.alloc (.cells #[.int .i64 0,.int .i64 0,.int .i64 0,.int .i64 0,.int .i64 0,.int .i64 0,.int .u32 0] 36)).drew).setCells V1.heap.size 0 [.int .i64 x0,.int .i64 x1,.int .i64 x2,.int .i64 (F.n:Int),.int .i64 (F.d:Int),.int .i64 x5,.int .u32 x6]):=⟨_,rfl⟩
    have hB2:Below V1.heap.size V1 W2:=by rw [HW2.out];exact below_sets ((Below.refl V1.heap.size V1).alloc (Nat.le_refl _) _).drew (Nat.le_refl _) _
    have hx7:W2.heap[V1.heap.size]? = some (.cells #[.int .i64 x0,.int .i64 x1,.int .i64 x2,.int .i64 (F.n:Int),.int .i64 (F.d:Int),.int .i64 x5,.int .u32 x6] 36 (0,0)):=by rw [HW2.out];exact blk_chan h7 _ rfl
    obtain ⟨xb,hxb⟩:∃ t,t = V1.heap.size:=⟨_,rfl⟩
    rw [← HW2.out]
    simp only [← hxb]
    rw [← hxb] at hx7
    have HXB:=Lib.hid hxb
    clear hxb
    have HD2:=Lib.hid (HDV.out.below hB2)
    have hcW:CfgIn W2 W2.heap.size c ⟨pa,pc,some ⟨b,o,none⟩,cc,aa,ac,ba,bc⟩:=HCV.out.later hB2
    have HSRC:Hid (∀ d os,Calls Tryz.prog 55 #[.agg #[.slice pa c.parts.length pc,.slice (some ⟨b,o,none⟩) c.chans.length cc,.int .i64 c.len0,.slice aa c.win0.length ac,.int .i64 c.len1,.slice ba c.win1.length bc],.int .i64 (k:Int)] (grow (redrawn W2 d) os) (fun e w'' => e = .returned (.agg #[.int .i64 (F.src:Int),.int .i64 (srcSpan c k).2]) ∧ ∃ p:Regrown,w'' = grow (redrawn W2 p.d) p.os)):=Lib.hid (fun d os => by
      have q:=rsource_b c _ k (grow (redrawn W2 d) os) (hcW.later (below_regrown W2 d os)) HWX.out HLX.out
      rw [HHF.out.src] at q
      exact Calls.regrown_of q)
    have HDST:Hid (∀ d os,Calls Tryz.prog 56 #[.agg #[.slice pa c.parts.length pc,.slice (some ⟨b,o,none⟩) c.chans.length cc,.int .i64 c.len0,.slice aa c.win0.length ac,.int .i64 c.len1,.slice ba c.win1.length bc],.int .i64 (k:Int)] (grow (redrawn W2 d) os) (fun e w'' => e = .returned (.agg #[.int .i64 (F.dst:Int),.int .i64 (dstSpan c k).2]) ∧ ∃ p:Regrown,w'' = grow (redrawn W2 p.d) p.os)):=Lib.hid (fun d os => by
      have q:=rdest_b c _ k (grow (redrawn W2 d) os) (hcW.later (below_regrown W2 d os)) HWX.out HLX.out
      rw [HHF.out.dst] at q
      exact Calls.regrown_of q)
    obtain ⟨ci,hci⟩:∃ ci:Nat,ci = (own % (F.d:Int)).toNat:=⟨_,rfl⟩
    have hm1:=Int.emod_nonneg own (show (F.d:Int) ≠ 0 by omega)
    have hm2:=Int.emod_lt_of_pos own (show (0:Int) < F.d by omega)
    have hcl:ci < F.d:=by omega
    have htm:own.tmod (F.d:Int) = (ci:Int):=by rw [Int.tmod_eq_emod_of_nonneg h0.1];omega
    have hcq:cellQ F own = F.src + 1 + ci * (F.n + 1):=by unfold cellQ;rw [hci]
    obtain ⟨ce,hce2⟩:∃ ce,cellQ F own = ce:=⟨_,rfl⟩
    have HCE:=Lib.hid hce2
    have HCEL:Hid (∀ d os,Calls Tryz.prog 57 #[.agg #[.slice pa c.parts.length pc,.slice (some ⟨b,o,none⟩) c.chans.length cc,.int .i64 c.len0,.slice aa c.win0.length ac,.int .i64 c.len1,.slice ba c.win1.length bc],.int .i64 (k:Int),.int .i64 (ci:Int)] (grow (redrawn W2 d) os) (fun e w'' => e = .returned (.agg #[.int .i64 (ce:Int),.int .i64 (cellSpan c k ci).2]) ∧ ∃ p:Regrown,w'' = grow (redrawn W2 p.d) p.os)):=Lib.hid (fun d os => by
      have q:=rcell_b c _ k ci (grow (redrawn W2 d) os) (hcW.later (below_regrown W2 d os)) HWX.out HLX.out
      rw [HHF.out.cell ci hcl,← hcq,hce2] at q
      exact Calls.regrown_of q)
    have hfs:=run_span0
    have d0:((F.d:Int) == 0) = false:=by rw [beq_eq_false_iff_ne];omega
    have d1:¬ ((F.d:Int) = 0):=by omega
    have d2:¬ (F.d = 0):=by omega
    have n1:IntKind.i64.wrap own = own:=IntWalk.i64_in _ (by omega)
    have n2:IntKind.i64.wrap (ci:Int) = (ci:Int):=IntWalk.i64_in _ (by omega)
    have n3:IntKind.i64.wrap (own.tmod (F.d:Int)) = (ci:Int):=by rw [htm];exact IntWalk.i64_in _ (by omega)

    have q0:∀ p:Regrown,(grow (redrawn W2 p.d) p.os).cell? ⟨vb,0,none⟩ = some (.slice pa c.parts.length pc):=fun p => cell_regrown (cell_blk HD2.out.blk rfl) p.d p.os
    have q1:∀ p:Regrown,(grow (redrawn W2 p.d) p.os).cell? ⟨vb,1,none⟩ = some (.slice (some ⟨b,o,none⟩) c.chans.length cc):=fun p => cell_regrown (cell_blk HD2.out.blk rfl) p.d p.os
    have q2:∀ p:Regrown,(grow (redrawn W2 p.d) p.os).cell? ⟨vb,2,none⟩ = some (.int .i64 c.len0):=fun p => cell_regrown (cell_blk HD2.out.blk rfl) p.d p.os
    have q3:∀ p:Regrown,(grow (redrawn W2 p.d) p.os).cell? ⟨vb,3,none⟩ = some (.slice aa c.win0.length ac):=fun p => cell_regrown (cell_blk HD2.out.blk rfl) p.d p.os
    have q4:∀ p:Regrown,(grow (redrawn W2 p.d) p.os).cell? ⟨vb,4,none⟩ = some (.int .i64 c.len1):=fun p => cell_regrown (cell_blk HD2.out.blk rfl) p.d p.os
    have q5:∀ p:Regrown,(grow (redrawn W2 p.d) p.os).cell? ⟨vb,5,none⟩ = some (.slice ba c.win1.length bc):=fun p => cell_regrown (cell_blk HD2.out.blk rfl) p.d p.os
    have q6:∀ p:Regrown,(grow (redrawn W2 p.d) p.os).cell? ⟨vb,6,none⟩ = some (.int .i64 (k:Int)):=fun p => cell_regrown (cell_blk HD2.out.blk rfl) p.d p.os
    have q7:∀ p:Regrown,(grow (redrawn W2 p.d) p.os).cell? ⟨vb,7,none⟩ = some (.int .i64 7):=fun p => cell_regrown (cell_blk HD2.out.blk rfl) p.d p.os
    have q8:∀ p:Regrown,(grow (redrawn W2 p.d) p.os).cell? ⟨vb,8,none⟩ = some (.int .u32 own):=fun p => cell_regrown (cell_blk HD2.out.blk rfl) p.d p.os
    have q9:∀ p:Regrown,(grow (redrawn W2 p.d) p.os).cell? ⟨vb,9,none⟩ = some (.bool false):=fun p => cell_regrown (cell_blk HD2.out.blk rfl) p.d p.os
    have q20:∀ p:Regrown,(grow (redrawn W2 p.d) p.os).cell? ⟨xb,3,none⟩ = some (.int .i64 (F.n:Int)):=fun p => cell_regrown (cell_blk hx7 rfl) p.d p.os
    have q21:∀ p:Regrown,(grow (redrawn W2 p.d) p.os).cell? ⟨xb,4,none⟩ = some (.int .i64 (F.d:Int)):=fun p => cell_regrown (cell_blk hx7 rfl) p.d p.os
    have HX7:=Lib.hid hx7
    have HXL:Hid (xb < W2.heap.size):=Lib.hid (Array.getElem?_eq_some_iff.1 hx7).1
    have hbc:=Below.refl W2.heap.size W2
    clear hHeld hth hsd h7 hcW hci hm1 hm2 hcq hce2 hx7 r0 r1 r2 r3 r4 r5 r6 x1_ x6_ x11 g11
    go_wp2_with ((first | with_reducible refine wpList_on hbc ?_ | with_reducible refine wp_on hbc (by kernel_rfl) (by kernel_rfl) ?_);(repeat (go_big_quiet_step (first | exact HSRC.out _ _ | exact HDST.out _ _ | exact HCEL.out _ _)));with_reducible refine wpQuiet_nil ?_;intro wc hbc;(try clear y3 y4);have y3:wc.cell? ⟨xb,3,none⟩ = some (.int .i64 (F.n:Int)):=cell_blk ((hbc.block xb HXL.out).trans HX7.out) rfl;have y4:wc.cell? ⟨xb,4,none⟩ = some (.int .i64 (F.d:Int)):=cell_blk ((hbc.block xb HXL.out).trans HX7.out) rfl;(try clear x11c g11c x9c x8c ysc ydc);have hVc:=HD2.out.below hbc;have x11c:wc.cell? ⟨vb,11,none⟩ = some (.int .i64 a1):=cell_blk hVc.blk rfl;have g11c:=blk_frozen 11 hVc.blk;have x9c:wc.cell? ⟨vb,9,none⟩ = some (.bool false):=cell_blk hVc.blk rfl;(try clear HDC);have HDC:=Lib.hid hVc;clear hVc)
    clear y3 y4
    obtain ⟨U,HU⟩:∃ u,Hid (u = wc.setCell ⟨vb,11,none⟩ (.int .i64 (-1))):=⟨_,rfl⟩
    have HDU:=Lib.hid (by have q:=HDC.out.put (o:=11) (v:=.int .i64 (-1)) (op':=7) (own':=own) (src':=false) (dv':=dv) (a':=-1) (len':=len) rfl;rw [← HU.out] at q;exact q)
    have hvw:w.heap.size < V1.heap.size:=(Array.getElem?_eq_some_iff.1 HZV.out).1
    have hb2s:=hB2.size
    have HZU:Hid (U.heap[w.heap.size]? = some (.cells #[.bool false,.int .i64 0,.slice none 0 0,.bool false,.int .i64 0,.bool false,.bool false,.bool false,.int .i64 0] 56 (0,0))):=Lib.hid (by rw [HU.out];exact (Below.heap_setCell _ _ _ _ (by show w.heap.size ≠ vb;omega)).trans ((hbc.block w.heap.size (by omega)).trans ((hB2.block w.heap.size hvw).trans HZV.out)))
    have HOU:Hid (Only (New w.heap.size (fun j => j = vb ∨ j = yb ∨ j = zb)) w U):=Lib.hid (by rw [HU.out];exact ((HOV.out.trans ((Only.of_below (S:=fun _ => False) hB2).mono fun _ _ h => h.elim)).trans ((Only.of_below (S:=fun _ => False) hbc).mono fun _ _ h => h.elim)).set (p:=⟨vb,11,none⟩) (.inr (.inl rfl)) _)
    rw [← HU.out]
    obtain ⟨y,hy0⟩:∃ y,ws.getD F.src 0 = y:=⟨_,rfl⟩
    have u8:U.cell? ⟨vb,8,none⟩ = some (.int .u32 own):=cell_blk HDU.out.blk rfl
    have uy:U.cell? ⟨yb,F.src,none⟩ = some (.int .u32 y):=by rw [← hy0];exact HDU.out.row.cell (by omega)
    have hil:(F.src:Int) < (ws.length:Int):=by omega
    have hcz:cntQ F own false ws = (y - own) % 4294967296:=by rw [← hy0];rfl
    obtain ⟨z,hz0⟩:∃ z,(y - own) % 4294967296 = z:=⟨_,rfl⟩
    rw [hz0] at hcz
    have HCZ:=Lib.hid hcz
    have m1:IntKind.u32.wrap (y - own) = z:=by rw [IntKind.wrap_u32];exact hz0
    have m2:IntKind.i64.wrap z = z:=IntWalk.i64_in _ (by omega)
    have HZ3:=Lib.hid hz0
    clear hy0 hz0 hcz x11c g11c x9c
    have h7:U.drew.heap[w.heap.size]? = _:=HZU.out
    have hth:=there_at h7 (n:=(qdV true 0 (.slice none 0 0) z true false:Array Value).size) rfl
    have hsd:(Tryz.prog.info? 56).map (·.size) = some (qdV true 0 (.slice none 0 0) z true false:Array Value).size:=did_size
    refine wp_region_held_drew (S:=(fun W' => W'.cell? ⟨vb,8,none⟩ = some (.int .u32 own) ∧ W'.cell? ⟨yb,F.src,none⟩ = some (.int .u32 y))) (by kernel_rfl) (by exact ⟨u8,uy⟩) (fun hHeld => ?_)
    refine wpAnyH_take (i:=0) rfl (by kernel_rfl) (by kernel_rfl) (by kernel_rfl) (fun _ _ _ h => h) (Or.inl ⟨by rfl,by intro w hSw;(have z0:=hSw.1;have z1:=hSw.2;clear hSw);(go_simp <;> with_reducible rfl)⟩) (by assumption) ?_
    (try simp only [Act.put,List.setIfInBounds_toArray,List.set_cons_zero,List.set_cons_succ,List.getElem_toArray,List.getElem_cons_zero,List.getElem_cons_succ])
    refine wpAnyH_take (i:=1) rfl (by kernel_rfl) (by kernel_rfl) (by kernel_rfl) (fun _ _ _ h => h) (Or.inl ⟨by rfl,by intro w hSw;(have z0:=hSw.1;have z1:=hSw.2;clear hSw);(go_simp <;> with_reducible rfl)⟩) (by assumption) ?_
    (try simp only [Act.put,List.setIfInBounds_toArray,List.set_cons_zero,List.set_cons_succ,List.getElem_toArray,List.getElem_cons_zero,List.getElem_cons_succ])
    refine wpAnyH_take (i:=2) rfl (by kernel_rfl) (by kernel_rfl) (by kernel_rfl) (fun _ _ _ h => h) (Or.inl ⟨by rfl,by intro w hSw;(have z0:=hSw.1;have z1:=hSw.2;clear hSw);(go_simp <;> with_reducible rfl)⟩) (by assumption) ?_
    (try simp only [Act.put,List.setIfInBounds_toArray,List.set_cons_zero,List.set_cons_succ,List.getElem_toArray,List.getElem_cons_zero,List.getElem_cons_succ])
    refine wpAnyH_take (i:=3) rfl (by kernel_rfl) (by kernel_rfl) (by kernel_rfl) (fun _ _ _ h => h) (Or.inl ⟨by rfl,by intro w hSw;(have z0:=hSw.1;have z1:=hSw.2;clear hSw);(go_simp <;> with_reducible rfl)⟩) (by assumption) ?_
    (try simp only [Act.put,List.setIfInBounds_toArray,List.set_cons_zero,List.set_cons_succ,List.getElem_toArray,List.getElem_cons_zero,List.getElem_cons_succ])
    refine wpAnyH_take (i:=4) rfl (by kernel_rfl) (by kernel_rfl) (by kernel_rfl) (fun _ _ _ h => h) (Or.inl ⟨by rfl,by intro w hSw;(have z0:=hSw.1;have z1:=hSw.2;clear hSw);(go_simp <;> with_reducible rfl)⟩) (by assumption) ?_
    (try simp only [Act.put,List.setIfInBounds_toArray,List.set_cons_zero,List.set_cons_succ,List.getElem_toArray,List.getElem_cons_zero,List.getElem_cons_succ])
    refine wpAnyH_take (i:=5) rfl (by kernel_rfl) (by kernel_rfl) (by kernel_rfl) (fun _ _ _ h => h) (Or.inl ⟨by rfl,by intro w hSw;(have z0:=hSw.1;have z1:=hSw.2;clear hSw);(go_simp <;> with_reducible rfl)⟩) (by assumption) ?_
    (try simp only [Act.put,List.setIfInBounds_toArray,List.set_cons_zero,List.set_cons_succ,List.getElem_toArray,List.getElem_cons_zero,List.getElem_cons_succ])
    refine wpAnyH_take (i:=6) rfl (by kernel_rfl) (by kernel_rfl) (by kernel_rfl) (fun _ _ _ h => h) (Or.inl ⟨by rfl,by intro w hSw;(have z0:=hSw.1;have z1:=hSw.2;clear hSw);(go_simp <;> with_reducible rfl)⟩) (by assumption) ?_
    (try simp only [Act.put,List.setIfInBounds_toArray,List.set_cons_zero,List.set_cons_succ,List.getElem_toArray,List.getElem_cons_zero,List.getElem_cons_succ])
    refine wpAnyH_take (i:=7) rfl (by kernel_rfl) (by kernel_rfl) (by kernel_rfl) (fun _ _ _ h => h) (Or.inl ⟨by rfl,by intro w hSw;(have z0:=hSw.1;have z1:=hSw.2;clear hSw);(go_simp <;> with_reducible rfl)⟩) (by assumption) ?_
    (try simp only [Act.put,List.setIfInBounds_toArray,List.set_cons_zero,List.set_cons_succ,List.getElem_toArray,List.getElem_cons_zero,List.getElem_cons_succ])
    refine wpAnyH_take (i:=8) rfl (by kernel_rfl) (by kernel_rfl) (by kernel_rfl) (fun _ _ _ h => h) (Or.inl ⟨by rfl,by intro w hSw;(have z0:=hSw.1;have z1:=hSw.2;clear hSw);(go_simp <;> with_reducible rfl)⟩) (by assumption) ?_
    (try simp only [Act.put,List.setIfInBounds_toArray,List.set_cons_zero,List.set_cons_succ,List.getElem_toArray,List.getElem_cons_zero,List.getElem_cons_succ])
    refine wpAnyH_take (i:=9) rfl (by kernel_rfl) (by kernel_rfl) (by kernel_rfl) (fun _ _ _ h => h) (Or.inl ⟨by rfl,by intro w hSw;(have z0:=hSw.1;have z1:=hSw.2;clear hSw);(go_simp <;> with_reducible rfl)⟩) (by assumption) ?_
    (try simp only [Act.put,List.setIfInBounds_toArray,List.set_cons_zero,List.set_cons_succ,List.getElem_toArray,List.getElem_cons_zero,List.getElem_cons_succ])
    refine wpAnyH_take (i:=10) rfl (by kernel_rfl) (by kernel_rfl) (by kernel_rfl) (fun _ _ _ h => h) (Or.inl ⟨by rfl,by intro w hSw;(have z0:=hSw.1;have z1:=hSw.2;clear hSw);(go_simp <;> with_reducible rfl)⟩) (by assumption) ?_
    (try simp only [Act.put,List.setIfInBounds_toArray,List.set_cons_zero,List.set_cons_succ,List.getElem_toArray,List.getElem_cons_zero,List.getElem_cons_succ])
    refine wpAnyH_take (i:=11) rfl (by kernel_rfl) (by kernel_rfl) (by kernel_rfl) (fun _ _ _ h => h) (Or.inl ⟨by rfl,by intro w hSw;(have z0:=hSw.1;have z1:=hSw.2;clear hSw);(go_simp <;> with_reducible rfl)⟩) (by assumption) ?_
    (try simp only [Act.put,List.setIfInBounds_toArray,List.set_cons_zero,List.set_cons_succ,List.getElem_toArray,List.getElem_cons_zero,List.getElem_cons_succ])
    refine wpAnyH_ready (rs:=[12]) (by kernel_rfl) (by simp) (AllReadyH.cons rfl (fun K hK => ?_) AllReadyH.nil)
    rw [if_pos (by rfl)]
    refine wp_store_mid _ _ _ rfl w.heap.size 0 (qdV true 0 (.slice none 0 0) z true false) rfl rfl hth hsd (by kernel_rfl) ?_
    refine hK.out _ _ (by exact ⟨cell_of_blk hHeld.1 ((Only.sets (S:=fun j => j = w.heap.size) rfl [.bool true,.int .i64 0,.slice none 0 0,.bool false,.int .i64 z,.bool true,.bool false,.bool false,.int .i64 0] 0 (Only.refl _ U.drew)).block vb (HDU.out.lt.1) (by omega)),cell_of_blk hHeld.2 ((Only.sets (S:=fun j => j = w.heap.size) rfl [.bool true,.int .i64 0,.slice none 0 0,.bool false,.int .i64 z,.bool true,.bool false,.bool false,.int .i64 0] 0 (Only.refl _ U.drew)).block yb (HDU.out.lt.2.1) (by omega))⟩) (fun hHeld => ?_)
    clear hK K
    (try simp only [Act.put,List.setIfInBounds_toArray,List.set_cons_zero,List.set_cons_succ,List.getElem_toArray,List.getElem_cons_zero,List.getElem_cons_succ])
    refine wpAnyH_done (by kernel_rfl) ?_ _
    go_wp2
    have hrg:=World.rangeAt_setCells_same (U.drew) w.heap.size 0 [.bool true,.int .i64 0,.slice none 0 0,.bool false,.int .i64 z,.bool true,.bool false,.bool false,.int .i64 0] (there_at (cs:=#[.bool false,.int .i64 0,.slice none 0 0,.bool false,.int .i64 0,.bool false,.bool false,.bool false,.int .i64 0]) (n:=9) (show (U.drew).heap[w.heap.size]? = _ from h7) rfl)
    (try simp only [Exit.inBlock,Exit.then])
    refine bodyPost_ret (results_cell_row rfl _ _ w.heap.size [.bool true,.int .i64 0,.slice none 0 0,.bool false,.int .i64 z,.bool true,.bool false,.bool false,.int .i64 0] _ rfl hrg Tryz.underlying56 rfl did_size) rfl ?_
    exact ⟨by rw [HCZ.out],HDU.out.drew.fin hlt HOU.out.drew _⟩
end
end Go.Proofs.YtmhpcgcloojfbaaGreat
