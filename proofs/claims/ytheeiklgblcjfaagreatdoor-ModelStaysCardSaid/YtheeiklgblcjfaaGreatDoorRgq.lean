/- Texts of the ring, joined, what is used of them. No condition but those in the statements. -/
import Derived.BigQuiet
import Derived.BigRegion
import Derived.Deep.MidRow
import Derived.Deep.RegionHeld3
import Derived.Deep.Upon
import Derived.IntWalk
import Derived.Test.YtheeiklgblcjfaaGreatDoorRgp
section
namespace Go.Proofs.YtheeiklgblcjfaaGreatDoor
open Go.RowKit Go.Sort
set_option linter.unusedVariables false
set_option linter.unusedSimpArgs false
set_option linter.unusedVariables false
set_option linter.unusedSimpArgs false
set_option maxRecDepth 100000
set_option maxHeartbeats 3200000 in
theorem pass6e_b {w:World} {own:Nat → Tg8} {n0:Nat} {c:Cfg} {M:Md8} {A:Mx8} (h:MAt w own n0 c M A) (wx:CfgWf c) (lx:CfgFew c) (p:Nat) (hp:p < c.parts.length) (x:CV) (hxw:CWf x) (hxr:CRows w w.heap.size x) (hrl:x.rd.length ≤ 1000000) (hop:x.op = 6) (k:Nat) (hkK:portK c x.port = (k:Int)) (hk:k < c.chans.length) (hac:acceptsB c = true) (hpb:portB c x.port = true) (ht:M.t ≤ 100000) (hkd:kind8 c k = 2) (hlt:M.qs k = []):Calls Tryz.prog 42 #[.pointer (some ⟨A.b,0,none⟩),.pointer (some ⟨A.sg,A.so + p * 4,none⟩),.agg (cCells x).toArray] w (Goes8 w own n0 c (code8 2) (tick8 M) A):=by
  have HKD:=Lib.hid hkd;have HLT:=Lib.hid hlt
  clear hkd hlt
  obtain ⟨W1,HW1,hB1,hs1,hX1⟩:=box17 w x
  obtain ⟨W,HW,hB2,hs2,bx⟩:=box_new W1 #[.int .i64 0,.slice none 0 0,.bool false,.int .i64 0] 42
  obtain ⟨xb,hxb⟩:∃ n,n = w.heap.size:=⟨_,rfl⟩
  obtain ⟨ab,hab⟩:∃ n,n = W1.heap.size:=⟨_,rfl⟩
  have hX:=hX1.later hB2 hX1.lt
  have hA:=bx W (Below.refl _ _)
  rw [← hab] at hA
  rw [← hxb] at hX
  have hBW:=hB1.trans (hB2.mono hB1.size)
  have hW:=(MAt.still h hBW).1
  have hxl:xb < W.heap.size:=hX.lt
  have hbl:A.b < W.heap.size:=(Array.getElem?_eq_some_iff.1 hW.head.2).1
  have rg0:∀ rg:Regrown,(grow (redrawn W rg.d) rg.os).cell? ⟨A.b,0,none⟩ = some (.slice A.x.pa c.parts.length A.x.pc):=fun rg => cell_regrown (blk_at hW.head.2 (i:=0) rfl) rg.d rg.os
  have rg1:∀ rg:Regrown,(grow (redrawn W rg.d) rg.os).cell? ⟨A.b,1,none⟩ = some (.slice A.x.ca c.chans.length A.x.cc):=fun rg => cell_regrown (blk_at hW.head.2 (i:=1) rfl) rg.d rg.os
  have rg2:∀ rg:Regrown,(grow (redrawn W rg.d) rg.os).cell? ⟨A.b,2,none⟩ = some (.int .i64 c.len0):=fun rg => cell_regrown (blk_at hW.head.2 (i:=2) rfl) rg.d rg.os
  have rg3:∀ rg:Regrown,(grow (redrawn W rg.d) rg.os).cell? ⟨A.b,3,none⟩ = some (.slice A.x.aa c.win0.length A.x.ac):=fun rg => cell_regrown (blk_at hW.head.2 (i:=3) rfl) rg.d rg.os
  have rg4:∀ rg:Regrown,(grow (redrawn W rg.d) rg.os).cell? ⟨A.b,4,none⟩ = some (.int .i64 c.len1):=fun rg => cell_regrown (blk_at hW.head.2 (i:=4) rfl) rg.d rg.os
  have rg5:∀ rg:Regrown,(grow (redrawn W rg.d) rg.os).cell? ⟨A.b,5,none⟩ = some (.slice A.x.ba c.win1.length A.x.bc):=fun rg => cell_regrown (blk_at hW.head.2 (i:=5) rfl) rg.d rg.os
  have rgp:∀ rg:Regrown,(grow (redrawn W rg.d) rg.os).cell? ⟨xb,2,none⟩ = some (.int .i64 x.port):=fun rg => cell_regrown hX.b_port rg.d rg.os
  obtain ⟨P,hP⟩:∃ P,portP c x.port = P:=⟨_,rfl⟩
  obtain ⟨SS,hSS⟩:∃ S,portS c x.port = S:=⟨_,rfl⟩
  have HPR:=Lib.hid (fun (d:Nat) (os:Array Obj) => Calls.regrown_of (pport_is c A.x x.port (k:Int) P SS true (grow (redrawn W d) os) (hW.cfg.1.later (below_regrown W d os)) wx lx hxw.port ⟨hkK,hP,hSS,hpb⟩))
  have hbc:=Below.refl W.heap.size W
  have H:=Lib.hid h;have HBW:=Lib.hid hBW;have HX:=Lib.hid hX;have HA:=Lib.hid hA;have HXL:=Lib.hid hxl;have HBL:=Lib.hid hbl;have HMW:=Lib.hid hW;have HXB:=Lib.hid hxb;have HAB:=Lib.hid hab
  have HABL:Hid (w.heap.size ≤ ab ∧ ab < W.heap.size ∧ xb < ab):=Lib.hid ⟨by have:=hB1.size;omega,by omega,by omega⟩
  have HXR:=Lib.hid (hxr.below hBW |>.more hBW.size)
  have HK:=Lib.hid (And.intro hkK (And.intro hk (And.intro hac hpb)))
  have HWX:=Lib.hid wx;have HLX:=Lib.hid lx;have HXW:=Lib.hid hxw
  have HOP:=Lib.hid hop
  simp only [cfgCells] at HPR
  clear h hB1 hs1 hX1 hB2 hs2 bx hX hA hBW hW hxl hbl hP hSS hxr hkK hk hac hpb wx lx hxw hop hxb hab
  go_enter Tryz.func42,Tryz.ntmps42
  go_wp2_with (first | (rw [← HW1.out];(try simp only [← HXB.out])) | (rw [← HW.out];(try simp only [← HAB.out])))
  ((first | with_reducible refine wpList_on hbc ?_ | with_reducible refine wp_on hbc (by kernel_rfl) (by kernel_rfl) ?_);(repeat (go_big_quiet_step (first | with_reducible exact HPR.out _ _ | fail)));with_reducible refine wpQuiet_nil ?_;intro wc hbc)
  have HBC:=Lib.hid hbc
  have hXc:=HX.out.later hbc HXL.out
  have o1:wc.cell? ⟨xb,1,none⟩ = some (.int .i64 6):=by rw [← HOP.out];exact hXc.b_op
  clear hbc rg0 rg1 rg2 rg3 rg4 rg5 rgp HPR
  have hMc:=(MAt.still HMW.out HBC.out).1
  have m8:wc.cell? ⟨A.b,8,none⟩ = some (.map (some A.mr)):=blk_at hMc.head.2 (i:=8) rfl
  have HBLC:=Lib.hid (Nat.lt_of_lt_of_le HBL.out HBC.out.size);have HXLC:=Lib.hid (Nat.lt_of_lt_of_le HXL.out HBC.out.size);have HABC:=Lib.hid (Nat.lt_of_lt_of_le HABL.out.2.1 HBC.out.size)
  have HAC:=Lib.hid ((HBC.out.block ab HABL.out.2.1).trans HA.out)
  have HMC:=Lib.hid hMc
  have HKW:=Lib.hid (show (Lit.int .i64 (k:Int)).wf = true from WalkArith.wf_i64 (by have:=HK.out.2.1;have:=HLX.out.2.1;omega))
  have HQG:=Lib.hid (show qing c k = true by unfold qing;rw [decide_eq_true HK.out.2.1,decide_eq_true HKD.out];rfl)
  have hrun:(Instr.lookup 84 (.map (some A.mr)) (.int .i64 (k:Int)) false).run Tryz.prog wc = .ok (.pointer (some ⟨A.rb k,0,none⟩)) wc:=by
    have h1:=HMC.out.mr.2.look (t:=84) (et:=92) Tryz.underlying3 Tryz.underlying84 (z:=.pointer none) (by kernel_rfl) HKW.out false
    rw [fr8_on HQG.out] at h1
    exact h1
  have eq0:A.qv k = []:=by have:=H.out.gq k;rw [HLT.out] at this;exact List.map_eq_nil_iff.1 this
  have hpr:=q_row hMc k HQG.out
  rw [eq0] at hpr
  have HTK:=Lib.hid (ptake_empty n0 (A.rb k) (dep8 c k) (A.iv k) wc hpr)
  clear hXc hMc eq0 hpr
  go_wp2_with fail
  refine HTK.out.mono ?_
  rintro e w6 ⟨rfl,hb6⟩
  obtain ⟨W7,HW7,hB7,hs7,bx7⟩:=box_new w6 #[.slice none 0 0,.int .i64 0] 96
  have hA7:=((hb6.trans (hB7.mono hb6.size)).block ab HABC.out).trans HAC.out
  have hz7:=bx7 W7 (Below.refl _ _)
  have hth:=there_blk (W:=W7) hA7 (n:=(#[.int .i64 2,.slice none 0 0,.bool false,.int .i64 0]:Array Value).size) rfl
  have hsz4:(Tryz.prog.info? 42).map (·.size) = some (#[.int .i64 2,.slice none 0 0,.bool false,.int .i64 0]:Array Value).size:=ans8_size
  have HB7:=Lib.hid (hb6.trans (hB7.mono hb6.size))
  have q0:W7.cell? ⟨w6.heap.size,0,none⟩ = some (.slice none 0 0):=blk_at hz7 (i:=0) rfl
  have q1:W7.cell? ⟨w6.heap.size,1,none⟩ = some (.int .i64 0):=blk_at hz7 (i:=1) rfl
  rw [HW7.out] at hth q0 q1
  clear hb6 hB7 hs7 bx7 hA7 hz7 hrun m8
  go_wp2_with (with_reducible refine wpList_store_mid (by kernel_rfl) _ _ _ rfl ab 0 #[.int .i64 2,.slice none 0 0,.bool false,.int .i64 0] (by kernel_rfl) (by kernel_rfl) hth hsz4 (by kernel_rfl) ?_)
  rw [← HW7.out] at hth ⊢
  have hrg:=World.rangeAt_setCells_same (W7) (ab) 0 (#[.int .i64 2,.slice none 0 0,.bool false,.int .i64 0]:Array Value).toList (by simpa using hth)
  (try simp only [Exit.inBlock,Exit.then])
  refine bodyPost_ret (results_cell_mid rfl _ _ (ab) (#[.int .i64 2,.slice none 0 0,.bool false,.int .i64 0]:Array Value).toList _ rfl hrg Tryz.underlying42 rfl ans8_size) rfl ?_
  exact ⟨none,0,rfl,(fun h => by simp [code8] at h),⟨by simp [code8],by simp [maxLen],fun _ => rfl⟩,Turn8.tick H.out (below_put4 (HBW.out.trans ((HBC.out.trans (HB7.out.mono HBC.out.size)).mono HBW.out.size)) HABL.out.1 _)⟩
end Go.Proofs.YtheeiklgblcjfaaGreatDoor
end
section
namespace Go.Proofs.YtheeiklgblcjfaaGreatDoor
open Go.RowKit Go.Sort
set_option linter.unusedVariables false
set_option linter.unusedSimpArgs false
set_option linter.unusedVariables false
set_option linter.unusedSimpArgs false
set_option maxRecDepth 100000
set_option maxHeartbeats 3200000 in
theorem pass6r_b {w:World} {own:Nat → Tg8} {n0:Nat} {c:Cfg} {M:Md8} {A:Mx8} (h:MAt w own n0 c M A) (wx:CfgWf c) (lx:CfgFew c) (p:Nat) (hp:p < c.parts.length) (x:CV) (hxw:CWf x) (hxr:CRows w w.heap.size x) (hrl:x.rd.length ≤ 1000000) (hop:x.op = 6) (k:Nat) (hkK:portK c x.port = (k:Int)) (hk:k < c.chans.length) (hac:acceptsB c = true) (hpb:portB c x.port = true) (ht:M.t ≤ 100000) (hkd:kind8 c k = 2) (m:Gv8) (l:List Gv8) (hlt:A.qv k = m :: l):Calls Tryz.prog 42 #[.pointer (some ⟨A.b,0,none⟩),.pointer (some ⟨A.sg,A.so + p * 4,none⟩),.agg (cCells x).toArray] w (Goes8 w own n0 c ⟨0,m.ds,false,0⟩ { M with qs:=up8 M.qs k (l.map (·.ds)),t:=M.t + 1 } A):=by
  have HKD:=Lib.hid hkd;have HLT:=Lib.hid hlt
  clear hkd hlt
  obtain ⟨W1,HW1,hB1,hs1,hX1⟩:=box17 w x
  obtain ⟨W,HW,hB2,hs2,bx⟩:=box_new W1 #[.int .i64 0,.slice none 0 0,.bool false,.int .i64 0] 42
  obtain ⟨xb,hxb⟩:∃ n,n = w.heap.size:=⟨_,rfl⟩
  obtain ⟨ab,hab⟩:∃ n,n = W1.heap.size:=⟨_,rfl⟩
  have hX:=hX1.later hB2 hX1.lt
  have hA:=bx W (Below.refl _ _)
  rw [← hab] at hA
  rw [← hxb] at hX
  have hBW:=hB1.trans (hB2.mono hB1.size)
  have hW:=(MAt.still h hBW).1
  have hxl:xb < W.heap.size:=hX.lt
  have hbl:A.b < W.heap.size:=(Array.getElem?_eq_some_iff.1 hW.head.2).1
  have rg0:∀ rg:Regrown,(grow (redrawn W rg.d) rg.os).cell? ⟨A.b,0,none⟩ = some (.slice A.x.pa c.parts.length A.x.pc):=fun rg => cell_regrown (blk_at hW.head.2 (i:=0) rfl) rg.d rg.os
  have rg1:∀ rg:Regrown,(grow (redrawn W rg.d) rg.os).cell? ⟨A.b,1,none⟩ = some (.slice A.x.ca c.chans.length A.x.cc):=fun rg => cell_regrown (blk_at hW.head.2 (i:=1) rfl) rg.d rg.os
  have rg2:∀ rg:Regrown,(grow (redrawn W rg.d) rg.os).cell? ⟨A.b,2,none⟩ = some (.int .i64 c.len0):=fun rg => cell_regrown (blk_at hW.head.2 (i:=2) rfl) rg.d rg.os
  have rg3:∀ rg:Regrown,(grow (redrawn W rg.d) rg.os).cell? ⟨A.b,3,none⟩ = some (.slice A.x.aa c.win0.length A.x.ac):=fun rg => cell_regrown (blk_at hW.head.2 (i:=3) rfl) rg.d rg.os
  have rg4:∀ rg:Regrown,(grow (redrawn W rg.d) rg.os).cell? ⟨A.b,4,none⟩ = some (.int .i64 c.len1):=fun rg => cell_regrown (blk_at hW.head.2 (i:=4) rfl) rg.d rg.os
  have rg5:∀ rg:Regrown,(grow (redrawn W rg.d) rg.os).cell? ⟨A.b,5,none⟩ = some (.slice A.x.ba c.win1.length A.x.bc):=fun rg => cell_regrown (blk_at hW.head.2 (i:=5) rfl) rg.d rg.os
  have rgp:∀ rg:Regrown,(grow (redrawn W rg.d) rg.os).cell? ⟨xb,2,none⟩ = some (.int .i64 x.port):=fun rg => cell_regrown hX.b_port rg.d rg.os
  obtain ⟨P,hP⟩:∃ P,portP c x.port = P:=⟨_,rfl⟩
  obtain ⟨SS,hSS⟩:∃ S,portS c x.port = S:=⟨_,rfl⟩
  have HPR:=Lib.hid (fun (d:Nat) (os:Array Obj) => Calls.regrown_of (pport_is c A.x x.port (k:Int) P SS true (grow (redrawn W d) os) (hW.cfg.1.later (below_regrown W d os)) wx lx hxw.port ⟨hkK,hP,hSS,hpb⟩))
  have hbc:=Below.refl W.heap.size W
  have H:=Lib.hid h;have HBW:=Lib.hid hBW;have HX:=Lib.hid hX;have HA:=Lib.hid hA;have HXL:=Lib.hid hxl;have HBL:=Lib.hid hbl;have HMW:=Lib.hid hW;have HXB:=Lib.hid hxb;have HAB:=Lib.hid hab
  have HABL:Hid (w.heap.size ≤ ab ∧ ab < W.heap.size ∧ xb < ab):=Lib.hid ⟨by have:=hB1.size;omega,by omega,by omega⟩
  have HXR:=Lib.hid (hxr.below hBW |>.more hBW.size)
  have HK:=Lib.hid (And.intro hkK (And.intro hk (And.intro hac hpb)))
  have HWX:=Lib.hid wx;have HLX:=Lib.hid lx;have HXW:=Lib.hid hxw
  have HOP:=Lib.hid hop
  simp only [cfgCells] at HPR
  clear h hB1 hs1 hX1 hB2 hs2 bx hX hA hBW hW hxl hbl hP hSS hxr hkK hk hac hpb wx lx hxw hop hxb hab
  go_enter Tryz.func42,Tryz.ntmps42
  go_wp2_with (first | (rw [← HW1.out];(try simp only [← HXB.out])) | (rw [← HW.out];(try simp only [← HAB.out])))
  ((first | with_reducible refine wpList_on hbc ?_ | with_reducible refine wp_on hbc (by kernel_rfl) (by kernel_rfl) ?_);(repeat (go_big_quiet_step (first | with_reducible exact HPR.out _ _ | fail)));with_reducible refine wpQuiet_nil ?_;intro wc hbc)
  have HBC:=Lib.hid hbc
  have hXc:=HX.out.later hbc HXL.out
  have o1:wc.cell? ⟨xb,1,none⟩ = some (.int .i64 6):=by rw [← HOP.out];exact hXc.b_op
  clear hbc rg0 rg1 rg2 rg3 rg4 rg5 rgp HPR
  have hMc:=(MAt.still HMW.out HBC.out).1
  have m8:wc.cell? ⟨A.b,8,none⟩ = some (.map (some A.mr)):=blk_at hMc.head.2 (i:=8) rfl
  have HBLC:=Lib.hid (Nat.lt_of_lt_of_le HBL.out HBC.out.size);have HXLC:=Lib.hid (Nat.lt_of_lt_of_le HXL.out HBC.out.size);have HABC:=Lib.hid (Nat.lt_of_lt_of_le HABL.out.2.1 HBC.out.size)
  have HAC:=Lib.hid ((HBC.out.block ab HABL.out.2.1).trans HA.out)
  have HMC:=Lib.hid hMc
  have HKW:=Lib.hid (show (Lit.int .i64 (k:Int)).wf = true from WalkArith.wf_i64 (by have:=HK.out.2.1;have:=HLX.out.2.1;omega))
  have HQG:=Lib.hid (show qing c k = true by unfold qing;rw [decide_eq_true HK.out.2.1,decide_eq_true HKD.out];rfl)
  have hrun:(Instr.lookup 84 (.map (some A.mr)) (.int .i64 (k:Int)) false).run Tryz.prog wc = .ok (.pointer (some ⟨A.rb k,0,none⟩)) wc:=by
    have h1:=HMC.out.mr.2.look (t:=84) (et:=92) Tryz.underlying3 Tryz.underlying84 (z:=.pointer none) (by kernel_rfl) HKW.out false
    rw [fr8_on HQG.out] at h1
    exact h1
  have hpr:=q_row hMc k HQG.out
  rw [HLT.out] at hpr
  have hll:l.length ≤ 1000000:=by
    have h1:=H.out.qz k HQG.out
    have h2:=(dep_le HK.out.2.2.1 HK.out.2.1).2
    rw [← H.out.gq k,HLT.out] at h1
    simp at h1
    omega
  have HTK:=Lib.hid (ptake_in n0 (A.rb k) (dep8 c k) (A.iv k) m l wc hpr hll)
  clear hXc hMc hpr hll
  go_wp2_with fail
  refine HTK.out.mono ?_
  rintro e w6 ⟨v6,rfl,hP6,hM6⟩
  have hnw:∀ j,w.heap.size ≤ j → ¬ (j = A.rb k ∨ (A.iv k).ownBlock = some j):=fun j hj e => by
    rcases e with e | e
    · have h1:=mat_lt H.out (H.out.row k HQG.out (fun x => x)).1 (by simp);omega
    · have h1:=((H.out.items k HQG.out (fun x => x)).1.lt j e).2;omega
  obtain ⟨W7,HW7,hB7,hs7,bx7⟩:=box_new w6 #[.slice m.A m.ds.length m.k,.int .i64 m.stamp] 96
  obtain ⟨nb,hnb⟩:∃ n,n = w6.heap.size:=⟨_,rfl⟩
  have hA7:W7.heap[ab]? = some (.cells #[.int .i64 0,.slice none 0 0,.bool false,.int .i64 0] 42 (0,0)):=(hB7.block ab (Nat.lt_of_lt_of_le HABC.out hM6.1.size)).trans ((hM6.1.block ab HABC.out (hnw _ HABL.out.1)).trans HAC.out)
  have hz7:=bx7 W7 (Below.refl _ _)
  rw [← hnb] at hz7
  have hth:=there_blk (W:=W7) hA7 (n:=(#[.int .i64 0,.slice m.A m.ds.length m.k,.bool false,.int .i64 0]:Array Value).size) rfl
  have hsz4:(Tryz.prog.info? 42).map (·.size) = some (#[.int .i64 0,.slice m.A m.ds.length m.k,.bool false,.int .i64 0]:Array Value).size:=ans8_size
  have q0:W7.cell? ⟨nb,0,none⟩ = some (.slice m.A m.ds.length m.k):=blk_at hz7 (i:=0) rfl
  have HP6:=Lib.hid hP6;have HM6:=Lib.hid hM6;have HB7:=Lib.hid hB7;have HNW:=Lib.hid hnw;have HNB:=Lib.hid hnb
  clear hP6 hM6 hB7 hs7 bx7 hA7 hz7 hrun m8 hnw hnb HTK
  go_wp2_with (first | (rw [← HW7.out];(try simp only [← HNB.out])) | (with_reducible refine wpList_store_mid (by kernel_rfl) _ _ _ rfl ab 0 #[.int .i64 0,.slice m.A m.ds.length m.k,.bool false,.int .i64 0] (by kernel_rfl) (by kernel_rfl) hth hsz4 (by kernel_rfl) ?_))
  have hrg:=World.rangeAt_setCells_same (W7) (ab) 0 (#[.int .i64 0,.slice m.A m.ds.length m.k,.bool false,.int .i64 0]:Array Value).toList (by simpa using hth)
  (try simp only [Exit.inBlock,Exit.then])
  refine bodyPost_ret (results_cell_mid rfl _ _ (ab) (#[.int .i64 0,.slice m.A m.ds.length m.k,.bool false,.int .i64 0]:Array Value).toList _ rfl hrg Tryz.underlying42 rfl ans8_size) rfl ?_
  have hoF:Only (fun j => j = ab) W7 (W7.setCells ab 0 (#[.int .i64 0,.slice m.A m.ds.length m.k,.bool false,.int .i64 0]:Array Value).toList):=Only.sets (S:=fun j => j = ab) rfl _ 0 (Only.refl _ _)
  have ho7:Only (fun j => j = A.rb k ∨ (A.iv k).ownBlock = some j) w W7:=((Only.of_below (HBW.out.trans (HBC.out.mono HBW.out.size))).trans HM6.out.1).trans (Only.of_below HB7.out)
  have hoW:Only (fun j => j = A.rb k ∨ (A.iv k).ownBlock = some j) w (W7.setCells ab 0 (#[.int .i64 0,.slice m.A m.ds.length m.k,.bool false,.int .i64 0]:Array Value).toList):=⟨hoF.os.trans ho7.os,hoF.tape.trans ho7.tape,hoF.output.trans ho7.output,Nat.le_trans ho7.size hoF.size,fun j hj hn => (hoF.block j (Nat.lt_of_lt_of_le hj ho7.size) (by have:=HABL.out;omega)).trans (ho7.block j hj hn)⟩
  have hP7:=HP6.out.keptB HB7.out
  have hrbne:A.rb k ≠ ab:=fun e => HNW.out ab HABL.out.1 (.inl e.symm)
  have hs7:w.heap.size ≤ wc.heap.size:=Nat.le_trans HBW.out.size HBC.out.size
  have hv6:∀ j,v6.ownBlock = some j → (A.iv k).ownBlock = some j ∨ wc.heap.size ≤ j:=HM6.out.2
  have hvne:∀ j,v6.ownBlock = some j → j ≠ ab:=fun j e e2 => by
    rcases hv6 j e with h1 | h1
    · exact HNW.out j (by have:=HABL.out;omega) (.inr h1)
    · have:=HABC.out;omega
  obtain ⟨hT,hR⟩:=recv_turn H.out k HQG.out m l HLT.out v6 hoW ((hoF.block _ hP7.lt hrbne).trans hP7.head) (hP7.row.kept hoF (fun j e => hvne j e)) (fun j e => (hv6 j e).imp id (fun h1 => by omega))
  exact ⟨m.A,m.k,rfl,(fun hp => ⟨hR,fun a ha => .inl ((H.out.msgq k m (by rw [HLT.out];exact List.mem_cons_self ..)).tag hp a ha)⟩),(H.out.msgq k m (by rw [HLT.out];exact List.mem_cons_self ..)).cap,hT⟩
end Go.Proofs.YtheeiklgblcjfaaGreatDoor
end
section
namespace Go.Proofs.YtheeiklgblcjfaaGreatDoor
open Go.RowKit Go.Sort
set_option linter.unusedVariables false
set_option linter.unusedSimpArgs false
set_option linter.unusedVariables false
set_option linter.unusedSimpArgs false
set_option maxRecDepth 100000
theorem fr8_off {c:Cfg} {rb:Nat → Nat} {k:Nat} (h:qing c k = false):fr8 c rb (k:Int) = none:=by
  unfold fr8
  rw [if_neg (by rw [Int.toNat_natCast,h];simp)]
set_option maxHeartbeats 3200000 in
theorem pass7q_b {w:World} {own:Nat → Tg8} {n0:Nat} {c:Cfg} {M:Md8} {A:Mx8} (h:MAt w own n0 c M A) (wx:CfgWf c) (lx:CfgFew c) (p:Nat) (hp:p < c.parts.length) (x:CV) (hxw:CWf x) (hxr:CRows w w.heap.size x) (hrl:x.rd.length ≤ 1000000) (hop:x.op = 7) (k:Nat) (hkK:portK c x.port = (k:Int)) (hk:k < c.chans.length) (hac:acceptsB c = true) (hpb:portB c x.port = true) (ht:M.t ≤ 100000) (hkd:kind8 c k = 2):Calls Tryz.prog 42 #[.pointer (some ⟨A.b,0,none⟩),.pointer (some ⟨A.sg,A.so + p * 4,none⟩),.agg (cCells x).toArray] w (Goes8 w own n0 c ⟨0,[],false,((M.qs k).length:Int)⟩ (tick8 M) A):=by
  have HKD:=Lib.hid hkd
  clear hkd
  obtain ⟨W1,HW1,hB1,hs1,hX1⟩:=box17 w x
  obtain ⟨W,HW,hB2,hs2,bx⟩:=box_new W1 #[.int .i64 0,.slice none 0 0,.bool false,.int .i64 0] 42
  obtain ⟨xb,hxb⟩:∃ n,n = w.heap.size:=⟨_,rfl⟩
  obtain ⟨ab,hab⟩:∃ n,n = W1.heap.size:=⟨_,rfl⟩
  have hX:=hX1.later hB2 hX1.lt
  have hA:=bx W (Below.refl _ _)
  rw [← hab] at hA
  rw [← hxb] at hX
  have hBW:=hB1.trans (hB2.mono hB1.size)
  have hW:=(MAt.still h hBW).1
  have hxl:xb < W.heap.size:=hX.lt
  have hbl:A.b < W.heap.size:=(Array.getElem?_eq_some_iff.1 hW.head.2).1
  have rg0:∀ rg:Regrown,(grow (redrawn W rg.d) rg.os).cell? ⟨A.b,0,none⟩ = some (.slice A.x.pa c.parts.length A.x.pc):=fun rg => cell_regrown (blk_at hW.head.2 (i:=0) rfl) rg.d rg.os
  have rg1:∀ rg:Regrown,(grow (redrawn W rg.d) rg.os).cell? ⟨A.b,1,none⟩ = some (.slice A.x.ca c.chans.length A.x.cc):=fun rg => cell_regrown (blk_at hW.head.2 (i:=1) rfl) rg.d rg.os
  have rg2:∀ rg:Regrown,(grow (redrawn W rg.d) rg.os).cell? ⟨A.b,2,none⟩ = some (.int .i64 c.len0):=fun rg => cell_regrown (blk_at hW.head.2 (i:=2) rfl) rg.d rg.os
  have rg3:∀ rg:Regrown,(grow (redrawn W rg.d) rg.os).cell? ⟨A.b,3,none⟩ = some (.slice A.x.aa c.win0.length A.x.ac):=fun rg => cell_regrown (blk_at hW.head.2 (i:=3) rfl) rg.d rg.os
  have rg4:∀ rg:Regrown,(grow (redrawn W rg.d) rg.os).cell? ⟨A.b,4,none⟩ = some (.int .i64 c.len1):=fun rg => cell_regrown (blk_at hW.head.2 (i:=4) rfl) rg.d rg.os
  have rg5:∀ rg:Regrown,(grow (redrawn W rg.d) rg.os).cell? ⟨A.b,5,none⟩ = some (.slice A.x.ba c.win1.length A.x.bc):=fun rg => cell_regrown (blk_at hW.head.2 (i:=5) rfl) rg.d rg.os
  have rgp:∀ rg:Regrown,(grow (redrawn W rg.d) rg.os).cell? ⟨xb,2,none⟩ = some (.int .i64 x.port):=fun rg => cell_regrown hX.b_port rg.d rg.os
  obtain ⟨P,hP⟩:∃ P,portP c x.port = P:=⟨_,rfl⟩
  obtain ⟨SS,hSS⟩:∃ S,portS c x.port = S:=⟨_,rfl⟩
  have HPR:=Lib.hid (fun (d:Nat) (os:Array Obj) => Calls.regrown_of (pport_is c A.x x.port (k:Int) P SS true (grow (redrawn W d) os) (hW.cfg.1.later (below_regrown W d os)) wx lx hxw.port ⟨hkK,hP,hSS,hpb⟩))
  have hbc:=Below.refl W.heap.size W
  have H:=Lib.hid h;have HBW:=Lib.hid hBW;have HX:=Lib.hid hX;have HA:=Lib.hid hA;have HXL:=Lib.hid hxl;have HBL:=Lib.hid hbl;have HMW:=Lib.hid hW;have HXB:=Lib.hid hxb;have HAB:=Lib.hid hab
  have HABL:Hid (w.heap.size ≤ ab ∧ ab < W.heap.size ∧ xb < ab):=Lib.hid ⟨by have:=hB1.size;omega,by omega,by omega⟩
  have HXR:=Lib.hid (hxr.below hBW |>.more hBW.size)
  have HK:=Lib.hid (And.intro hkK (And.intro hk (And.intro hac hpb)))
  have HWX:=Lib.hid wx;have HLX:=Lib.hid lx;have HXW:=Lib.hid hxw
  have HOP:=Lib.hid hop
  simp only [cfgCells] at HPR
  clear h hB1 hs1 hX1 hB2 hs2 bx hX hA hBW hW hxl hbl hP hSS hxr hkK hk hac hpb wx lx hxw hop hxb hab
  go_enter Tryz.func42,Tryz.ntmps42
  go_wp2_with (first | (rw [← HW1.out];(try simp only [← HXB.out])) | (rw [← HW.out];(try simp only [← HAB.out])))
  ((first | with_reducible refine wpList_on hbc ?_ | with_reducible refine wp_on hbc (by kernel_rfl) (by kernel_rfl) ?_);(repeat (go_big_quiet_step (first | with_reducible exact HPR.out _ _ | fail)));with_reducible refine wpQuiet_nil ?_;intro wc hbc)
  have HBC:=Lib.hid hbc
  have hXc:=HX.out.later hbc HXL.out
  have o1:wc.cell? ⟨xb,1,none⟩ = some (.int .i64 7):=by rw [← HOP.out];exact hXc.b_op
  clear hbc rg0 rg1 rg2 rg3 rg4 rg5 rgp HPR
  have hMc:=(MAt.still HMW.out HBC.out).1
  have m8:wc.cell? ⟨A.b,8,none⟩ = some (.map (some A.mr)):=blk_at hMc.head.2 (i:=8) rfl
  have HBLC:=Lib.hid (Nat.lt_of_lt_of_le HBL.out HBC.out.size);have HXLC:=Lib.hid (Nat.lt_of_lt_of_le HXL.out HBC.out.size);have HABC:=Lib.hid (Nat.lt_of_lt_of_le HABL.out.2.1 HBC.out.size)
  have HAC:=Lib.hid ((HBC.out.block ab HABL.out.2.1).trans HA.out)
  have HMC:=Lib.hid hMc
  have HKW:=Lib.hid (show (Lit.int .i64 (k:Int)).wf = true from WalkArith.wf_i64 (by have:=HK.out.2.1;have:=HLX.out.2.1;omega))
  have HQG:=Lib.hid (show qing c k = true by unfold qing;rw [decide_eq_true HK.out.2.1,decide_eq_true HKD.out];rfl)
  have hrun:(Instr.lookup 84 (.map (some A.mr)) (.int .i64 (k:Int)) true).run Tryz.prog wc = .ok (.tuple #[.pointer (some ⟨A.rb k,0,none⟩),.bool true]) wc:=by
    have h1:=HMC.out.mr.2.look (t:=84) (et:=92) Tryz.underlying3 Tryz.underlying84 (z:=.pointer none) (by kernel_rfl) HKW.out true
    rw [fr8_on HQG.out] at h1
    exact h1
  have HTK:=Lib.hid (flen_b n0 (A.rb k) (dep8 c k) (A.iv k) (A.qv k) wc (q_row hMc k HQG.out))
  clear hXc hMc
  have hth:=there_blk (W:=wc) HAC.out (n:=(#[.int .i64 0,.slice none 0 0,.bool false,.int .i64 (A.qv k).length]:Array Value).size) rfl
  have hsz4:(Tryz.prog.info? 42).map (·.size) = some (#[.int .i64 0,.slice none 0 0,.bool false,.int .i64 (A.qv k).length]:Array Value).size:=ans8_size
  go_wp2_with fail
  refine HTK.out.mono ?_
  rintro e w6 ⟨rfl,rfl⟩
  clear hrun m8 HTK
  go_wp2_with (with_reducible refine wpList_store_mid (by kernel_rfl) _ _ _ rfl ab 0 #[.int .i64 0,.slice none 0 0,.bool false,.int .i64 (A.qv k).length] (by kernel_rfl) (by kernel_rfl) hth hsz4 (by kernel_rfl) ?_)
  have hrg:=World.rangeAt_setCells_same (wc) (ab) 0 (#[.int .i64 0,.slice none 0 0,.bool false,.int .i64 (A.qv k).length]:Array Value).toList (by simpa using hth)
  (try simp only [Exit.inBlock,Exit.then])
  refine bodyPost_ret (results_cell_mid rfl _ _ (ab) (#[.int .i64 0,.slice none 0 0,.bool false,.int .i64 (A.qv k).length]:Array Value).toList _ rfl hrg Tryz.underlying42 rfl ans8_size) rfl ?_
  exact ⟨none,0,by rw [← H.out.gq k,List.length_map];rfl,(fun h => by simp at h),⟨by simp,by simp [maxLen],fun _ => rfl⟩,Turn8.tick H.out (below_put4 (HBW.out.trans (HBC.out.mono HBW.out.size)) HABL.out.1 _)⟩
set_option maxHeartbeats 3200000 in
theorem pass7s_b {w:World} {own:Nat → Tg8} {n0:Nat} {c:Cfg} {M:Md8} {A:Mx8} (h:MAt w own n0 c M A) (wx:CfgWf c) (lx:CfgFew c) (p:Nat) (hp:p < c.parts.length) (x:CV) (hxw:CWf x) (hxr:CRows w w.heap.size x) (hrl:x.rd.length ≤ 1000000) (hop:x.op = 7) (k:Nat) (hkK:portK c x.port = (k:Int)) (hk:k < c.chans.length) (hac:acceptsB c = true) (hpb:portB c x.port = true) (ht:M.t ≤ 100000) (hkd:kind8 c k ≠ 2):Calls Tryz.prog 42 #[.pointer (some ⟨A.b,0,none⟩),.pointer (some ⟨A.sg,A.so + p * 4,none⟩),.agg (cCells x).toArray] w (Goes8 w own n0 c ⟨0,[],decide (x.port ∈ (st8 M p).valid),0⟩ (tick8 M) A):=by
  have HKD:=Lib.hid hkd
  clear hkd
  obtain ⟨s,hs,est,hms⟩:=mat_at h hp
  rw [est]
  obtain ⟨a,kk,hvv,hck,hkm⟩:=(h.valid p s hs (fun x => x)).1.slice
  have HS:=Lib.hid hs;have HVV:=Lib.hid hvv
  have HSZ:=Lib.hid (h.sz s.s (List.mem_of_getElem? hms)).2
  obtain ⟨l,hl⟩:∃ l,l = s.s.valid:=⟨_,rfl⟩
  rw [← hl] at hvv ⊢
  have HL:=Lib.hid hl
  obtain ⟨q,hq⟩:∃ q,decide (x.port ∈ l) = q:=⟨_,rfl⟩
  rw [hq]
  have HQ:=Lib.hid hq
  clear hs hvv hl est hms hck hkm hq
  obtain ⟨W1,HW1,hB1,hs1,hX1⟩:=box17 w x
  obtain ⟨W,HW,hB2,hs2,bx⟩:=box_new W1 #[.int .i64 0,.slice none 0 0,.bool false,.int .i64 0] 42
  obtain ⟨xb,hxb⟩:∃ n,n = w.heap.size:=⟨_,rfl⟩
  obtain ⟨ab,hab⟩:∃ n,n = W1.heap.size:=⟨_,rfl⟩
  have hX:=hX1.later hB2 hX1.lt
  have hA:=bx W (Below.refl _ _)
  rw [← hab] at hA
  rw [← hxb] at hX
  have hBW:=hB1.trans (hB2.mono hB1.size)
  have hW:=(MAt.still h hBW).1
  have hxl:xb < W.heap.size:=hX.lt
  have hbl:A.b < W.heap.size:=(Array.getElem?_eq_some_iff.1 hW.head.2).1
  have rg0:∀ rg:Regrown,(grow (redrawn W rg.d) rg.os).cell? ⟨A.b,0,none⟩ = some (.slice A.x.pa c.parts.length A.x.pc):=fun rg => cell_regrown (blk_at hW.head.2 (i:=0) rfl) rg.d rg.os
  have rg1:∀ rg:Regrown,(grow (redrawn W rg.d) rg.os).cell? ⟨A.b,1,none⟩ = some (.slice A.x.ca c.chans.length A.x.cc):=fun rg => cell_regrown (blk_at hW.head.2 (i:=1) rfl) rg.d rg.os
  have rg2:∀ rg:Regrown,(grow (redrawn W rg.d) rg.os).cell? ⟨A.b,2,none⟩ = some (.int .i64 c.len0):=fun rg => cell_regrown (blk_at hW.head.2 (i:=2) rfl) rg.d rg.os
  have rg3:∀ rg:Regrown,(grow (redrawn W rg.d) rg.os).cell? ⟨A.b,3,none⟩ = some (.slice A.x.aa c.win0.length A.x.ac):=fun rg => cell_regrown (blk_at hW.head.2 (i:=3) rfl) rg.d rg.os
  have rg4:∀ rg:Regrown,(grow (redrawn W rg.d) rg.os).cell? ⟨A.b,4,none⟩ = some (.int .i64 c.len1):=fun rg => cell_regrown (blk_at hW.head.2 (i:=4) rfl) rg.d rg.os
  have rg5:∀ rg:Regrown,(grow (redrawn W rg.d) rg.os).cell? ⟨A.b,5,none⟩ = some (.slice A.x.ba c.win1.length A.x.bc):=fun rg => cell_regrown (blk_at hW.head.2 (i:=5) rfl) rg.d rg.os
  have rgp:∀ rg:Regrown,(grow (redrawn W rg.d) rg.os).cell? ⟨xb,2,none⟩ = some (.int .i64 x.port):=fun rg => cell_regrown hX.b_port rg.d rg.os
  obtain ⟨P,hP⟩:∃ P,portP c x.port = P:=⟨_,rfl⟩
  obtain ⟨SS,hSS⟩:∃ S,portS c x.port = S:=⟨_,rfl⟩
  have HPR:=Lib.hid (fun (d:Nat) (os:Array Obj) => Calls.regrown_of (pport_is c A.x x.port (k:Int) P SS true (grow (redrawn W d) os) (hW.cfg.1.later (below_regrown W d os)) wx lx hxw.port ⟨hkK,hP,hSS,hpb⟩))
  have hbc:=Below.refl W.heap.size W
  have H:=Lib.hid h;have HBW:=Lib.hid hBW;have HX:=Lib.hid hX;have HA:=Lib.hid hA;have HXL:=Lib.hid hxl;have HBL:=Lib.hid hbl;have HMW:=Lib.hid hW;have HXB:=Lib.hid hxb;have HAB:=Lib.hid hab
  have HABL:Hid (w.heap.size ≤ ab ∧ ab < W.heap.size ∧ xb < ab):=Lib.hid ⟨by have:=hB1.size;omega,by omega,by omega⟩
  have HXR:=Lib.hid (hxr.below hBW |>.more hBW.size)
  have HK:=Lib.hid (And.intro hkK (And.intro hk (And.intro hac hpb)))
  have HWX:=Lib.hid wx;have HLX:=Lib.hid lx;have HXW:=Lib.hid hxw
  have HOP:=Lib.hid hop
  simp only [cfgCells] at HPR
  clear h hB1 hs1 hX1 hB2 hs2 bx hX hA hBW hW hxl hbl hP hSS hxr hkK hk hac hpb wx lx hxw hop hxb hab
  go_enter Tryz.func42,Tryz.ntmps42
  go_wp2_with (first | (rw [← HW1.out];(try simp only [← HXB.out])) | (rw [← HW.out];(try simp only [← HAB.out])))
  ((first | with_reducible refine wpList_on hbc ?_ | with_reducible refine wp_on hbc (by kernel_rfl) (by kernel_rfl) ?_);(repeat (go_big_quiet_step (first | with_reducible exact HPR.out _ _ | fail)));with_reducible refine wpQuiet_nil ?_;intro wc hbc)
  have HBC:=Lib.hid hbc
  have hXc:=HX.out.later hbc HXL.out
  have o1:wc.cell? ⟨xb,1,none⟩ = some (.int .i64 7):=by rw [← HOP.out];exact hXc.b_op
  clear hbc rg0 rg1 rg2 rg3 rg4 rg5 rgp HPR
  have hMc:=(MAt.still HMW.out HBC.out).1
  have m8:wc.cell? ⟨A.b,8,none⟩ = some (.map (some A.mr)):=blk_at hMc.head.2 (i:=8) rfl
  have HBLC:=Lib.hid (Nat.lt_of_lt_of_le HBL.out HBC.out.size);have HXLC:=Lib.hid (Nat.lt_of_lt_of_le HXL.out HBC.out.size);have HABC:=Lib.hid (Nat.lt_of_lt_of_le HABL.out.2.1 HBC.out.size)
  have HAC:=Lib.hid ((HBC.out.block ab HABL.out.2.1).trans HA.out)
  have HMC:=Lib.hid hMc
  have HKW:=Lib.hid (show (Lit.int .i64 (k:Int)).wf = true from WalkArith.wf_i64 (by have:=HK.out.2.1;have:=HLX.out.2.1;omega))
  have HQG:=Lib.hid (show qing c k = false by unfold qing;rw [decide_eq_false HKD.out,Bool.and_false])
  have hrun:(Instr.lookup 84 (.map (some A.mr)) (.int .i64 (k:Int)) true).run Tryz.prog wc = .ok (.tuple #[.pointer none,.bool false]) wc:=by
    have h1:=HMC.out.mr.2.look (t:=84) (et:=92) Tryz.underlying3 Tryz.underlying84 (z:=.pointer none) (by kernel_rfl) HKW.out true
    rw [fr8_off HQG.out] at h1
    exact h1
  have hown:=(hMc.valid p s HS.out (fun x => x)).1
  have c3:wc.cell? ⟨A.sg,A.so + p * 4 + 3,none⟩ = some (.slice a l.length kk):=by rw [HL.out,← HVV.out];exact (hMc.stand (fun x => x)).2.cell HS.out (j:=3) rfl
  have hown':OwnsOff wc n0 3 1 (.slice a l.length kk) l.length (icells l):=by rw [HL.out,← HVV.out];exact hown
  have x2:=hXc.b_port
  have hSL:A.sg < wc.heap.size:=mat_lt hMc (hMc.stand (fun x => x)).1 (by decide)
  have HSL:=Lib.hid hSL
  have HCN:=Lib.hid (scon_is l a l.length kk x.port q wc.drew rfl ((own_row8 hown').later8 (Below.refl _ _).drew) (by have:=HSZ.out;rw [← HL.out] at this;omega) (by have:=HQ.out;unfold madeB;exact this))
  clear hXc hMc hown hown' hSL
  go_wp2_with fail
  refine wp_region_till (fun W' => Below wc.heap.size wc W') 9 (by kernel_rfl) (by exact (Below.refl _ _).drew) (fun hHeld => ?_)
  refine till_take (i:=0) rfl (by kernel_rfl) (by kernel_rfl) (by kernel_rfl) (fun _ _ _ h => h) (by kernel_rfl) (Or.inl ⟨by rfl,by intro w _;(go_simp <;> with_reducible rfl)⟩) (by assumption) ?_
  (try simp only [Act.put,List.setIfInBounds_toArray,List.set_cons_zero,List.set_cons_succ,List.getElem_toArray,List.getElem_cons_zero,List.getElem_cons_succ])
  refine till_take (i:=1) rfl (by kernel_rfl) (by kernel_rfl) (by kernel_rfl) (fun _ _ _ h => h) (by kernel_rfl) (Or.inl ⟨by rfl,by intro w _;(go_simp <;> with_reducible rfl)⟩) (by assumption) ?_
  (try simp only [Act.put,List.setIfInBounds_toArray,List.set_cons_zero,List.set_cons_succ,List.getElem_toArray,List.getElem_cons_zero,List.getElem_cons_succ])
  refine till_take (i:=2) rfl (by kernel_rfl) (by kernel_rfl) (by kernel_rfl) (fun _ _ _ h => h) (by kernel_rfl) (Or.inl ⟨by rfl,by intro w _;(go_simp <;> with_reducible rfl)⟩) (by assumption) ?_
  (try simp only [Act.put,List.setIfInBounds_toArray,List.set_cons_zero,List.set_cons_succ,List.getElem_toArray,List.getElem_cons_zero,List.getElem_cons_succ])
  refine till_load (i:=3) rfl (by kernel_rfl) (by kernel_rfl) (by kernel_rfl) (fun _ _ _ h => h) (by kernel_rfl) (by kernel_rfl) (by kernel_rfl) (Or.inl ⟨by rfl,by intro w hSw;(have z0:=(hSw.cell (p:=⟨A.sg,A.so + p * 4 + 3,none⟩) HSL.out).trans c3);(go_simp <;> with_reducible rfl)⟩) (by assumption) ?_
  (try simp only [Act.put,List.setIfInBounds_toArray,List.set_cons_zero,List.set_cons_succ,List.getElem_toArray,List.getElem_cons_zero,List.getElem_cons_succ])
  refine till_take (i:=4) rfl (by kernel_rfl) (by kernel_rfl) (by kernel_rfl) (fun _ _ _ h => h) (by kernel_rfl) (Or.inl ⟨by rfl,by intro w _;(go_simp <;> with_reducible rfl)⟩) (by assumption) ?_
  (try simp only [Act.put,List.setIfInBounds_toArray,List.set_cons_zero,List.set_cons_succ,List.getElem_toArray,List.getElem_cons_zero,List.getElem_cons_succ])
  refine till_take (i:=5) rfl (by kernel_rfl) (by kernel_rfl) (by kernel_rfl) (fun _ _ _ h => h) (by kernel_rfl) (Or.inl ⟨by rfl,by intro w _;(go_simp <;> with_reducible rfl)⟩) (by assumption) ?_
  (try simp only [Act.put,List.setIfInBounds_toArray,List.set_cons_zero,List.set_cons_succ,List.getElem_toArray,List.getElem_cons_zero,List.getElem_cons_succ])
  refine till_load (i:=6) rfl (by kernel_rfl) (by kernel_rfl) (by kernel_rfl) (fun _ _ _ h => h) (by kernel_rfl) (by kernel_rfl) (by kernel_rfl) (Or.inl ⟨by rfl,by intro w hSw;(have z1:=(hSw.cell (p:=⟨xb,2,none⟩) HXLC.out).trans x2);(go_simp <;> with_reducible rfl)⟩) (by assumption) ?_
  (try simp only [Act.put,List.setIfInBounds_toArray,List.set_cons_zero,List.set_cons_succ,List.getElem_toArray,List.getElem_cons_zero,List.getElem_cons_succ])
  refine till_one (i:=7) (by kernel_rfl) rfl (fun K hK => ?_)
  go_simp
  refine HCN.out.mono ?_
  rintro e w6 ⟨rfl,rfl⟩
  (try go_wp2_with fail)
  refine hK.out _ _ (by exact (Below.refl _ _).drew) (fun hHeld => ?_)
  clear hK K
  (try simp only [Act.put,List.setIfInBounds_toArray,List.set_cons_zero,List.set_cons_succ,List.getElem_toArray,List.getElem_cons_zero,List.getElem_cons_succ])
  refine till_one (i:=8) (by kernel_rfl) rfl (fun K hK => ?_)
  go_simp
  refine hK.out _ _ (by exact (Below.refl _ _).drew) (fun hHeld => ?_)
  clear hK K
  (try simp only [Act.put,List.setIfInBounds_toArray,List.set_cons_zero,List.set_cons_succ,List.getElem_toArray,List.getElem_cons_zero,List.getElem_cons_succ])
  refine till_last (by kernel_rfl) rfl (fun K hK => ?_)
  rw [if_pos (by rfl)]
  have hth:=there_blk (W:=wc.drew) HAC.out (n:=(#[.int .i64 0,.slice none 0 0,.bool q,.int .i64 0]:Array Value).size) rfl
  have hsz4:(Tryz.prog.info? 42).map (·.size) = some (#[.int .i64 0,.slice none 0 0,.bool q,.int .i64 0]:Array Value).size:=ans8_size
  refine wp_store_mid _ _ _ rfl ab 0 #[.int .i64 0,.slice none 0 0,.bool q,.int .i64 0] rfl rfl hth hsz4 (by kernel_rfl) ?_
  have HTH:=Lib.hid hth
  clear hth
  refine hK.out _ _ ?_
  clear hK K
  (try simp only [Act.put,List.setIfInBounds_toArray,List.set_cons_zero,List.set_cons_succ,List.getElem_toArray,List.getElem_cons_zero,List.getElem_cons_succ])
  refine till_done (by kernel_rfl) ?_ _
  go_wp2
  have hth:=HTH.out
  have hrg:=World.rangeAt_setCells_same (wc.drew) (ab) 0 (#[.int .i64 0,.slice none 0 0,.bool q,.int .i64 0]:Array Value).toList (by simpa using hth)
  (try simp only [Exit.inBlock,Exit.then])
  refine bodyPost_ret (results_cell_mid rfl _ _ (ab) (#[.int .i64 0,.slice none 0 0,.bool q,.int .i64 0]:Array Value).toList _ rfl hrg Tryz.underlying42 rfl ans8_size) rfl ?_
  exact ⟨none,0,rfl,(fun h => by simp at h),⟨by simp,by simp [maxLen],fun _ => rfl⟩,Turn8.tick H.out (below_put4 (HBW.out.trans ((HBC.out.trans ((Below.refl _ _).drew.mono (Nat.le_refl _))).mono HBW.out.size)) HABL.out.1 _)⟩
end Go.Proofs.YtheeiklgblcjfaaGreatDoor
end
section
namespace Go.Proofs.YtheeiklgblcjfaaGreatDoor
open Go.RowKit Go.Sort
set_option linter.unusedVariables false
set_option linter.unusedSimpArgs false
set_option linter.unusedVariables false
set_option linter.unusedSimpArgs false
set_option maxRecDepth 100000
theorem talk8 {c:Cfg} {sp:Int} {sn:Bool} {made:List Int} {op port ad:Int} {n:Nat} (h:refusedN c sp sn made op port ad n = 0) (h1:3 ≤ op) (h2:op ≤ 7) :
    acceptsB c = true ∧ portB c port = true ∧ talkT (fld (row c.chans (portK c port).toNat) 0) (portS c port) (fld (row c.chans (portK c port).toNat) 3) op n = 0:=by
  unfold refusedN at h
  split at h
  · cases h
  · rename_i h0
    rw [if_neg (by omega),if_neg (by omega),if_pos ⟨h1,h2⟩] at h
    unfold talkN at h
    split at h
    · cases h
    · rename_i h3
      split at h
      · cases h
      · refine ⟨?_,?_,h⟩
        · cases hb:acceptsB c with
          | true => rfl
          | false => exact absurd (.inl hb) h0
        · unfold hasB at h3
          cases hb:portB c port with
          | true => rfl
          | false => rw [hb] at h3;exact absurd rfl h3
theorem mode8 {kd wd op:Int} {S:Bool} {n:Nat} (h:talkT kd S wd op n = 0):modeB kd S op = false:=by
  unfold talkT at h
  split at h
  · cases h
  · rename_i h1;simpa using h1
theorem kind5 {kd:Int} {S:Bool} (h:modeB kd S 5 = false):kd = 2:=by unfold modeB at h;simp at h;omega
theorem kind6 {kd:Int} {S:Bool} (h:modeB kd S 6 = false):kd = 2:=by unfold modeB at h;simp at h;omega
theorem pass_b {w:World} {own:Nat → Tg8} {n0:Nat} {c:Cfg} {M:Md8} {A:Mx8} (h:MAt w own n0 c M A) (wx:CfgWf c) (lx:CfgFew c) (p:Nat) (hp:p < c.parts.length) (x:CV) (hpp:x.part = (p:Int)) (hxw:CWf x) (hxr:CRows w w.heap.size x) (hrl:x.rd.length ≤ 1000000) (ht:M.t ≤ 100000) (hz:ref8 c M x = 0) (h3:3 ≤ x.op) (h7:x.op ≤ 7)
    (hst:-1 ≤ x.stamp ∧ x.stamp ≤ 1099511627776) (ht1:-1 ≤ x.t1 ∧ x.t1 ≤ 1099511627776):Calls Tryz.prog 42 #[.pointer (some ⟨A.b,0,none⟩),.pointer (some ⟨A.sg,A.so + p * 4,none⟩),.agg (cCells x).toArray] w (Goes8 w own n0 c (act8 c M x).1 (act8 c M x).2 A):=by
  obtain ⟨hac,hpb,htk⟩:=talk8 hz h3 h7
  obtain ⟨-,k,hk,hpk⟩:=port_of hpb
  have hkK:portK c x.port = (k:Int):=by unfold portK;rw [if_pos hpb];omega
  have hch:ch8 c x = k:=by unfold ch8;rw [hkK,Int.toNat_natCast]
  have hmd:=mode8 htk
  have hkd:fld (row c.chans (portK c x.port).toNat) 0 = kind8 c k:=by unfold kind8;rw [hkK,Int.toNat_natCast]
  rw [hkd] at hmd
  have h5:x.op = 3 ∨ x.op = 4 ∨ x.op = 5 ∨ x.op = 6 ∨ x.op = 7:=by omega
  unfold act8
  rw [hch,hpp]
  rcases h5 with ho | ho | ho | ho | ho
  · rw [if_neg (by omega),if_neg (by omega),if_pos ho]
    exact pass3_b h wx lx p hp x hxw hxr hrl ho k hkK hk hac hpb ht hst
  · rw [if_neg (by omega),if_neg (by omega),if_neg (by omega),if_pos ho]
    have:=pass4_b h wx lx p hp x hxw hxr hrl ho k hkK hk hac hpb ht ht1 _ rfl
    revert this
    unfold found8
    cases M.wr k with
    | none => exact fun h => h
    | some m => exact fun h => h
  · rw [if_neg (by omega),if_neg (by omega),if_neg (by omega),if_neg (by omega),if_pos ho]
    rw [ho] at hmd
    have hq2:=kind5 hmd
    have hql:=h.qz k (by unfold qing;rw [decide_eq_true hk,decide_eq_true hq2];rfl)
    by_cases hf:((M.qs k).length:Int) = dep8 c k
    · rw [if_pos hf];exact pass5f_b h wx lx p hp x hxw hxr hrl ho k hkK hk hac hpb ht hq2 hf
    · rw [if_neg hf];exact pass5r_b h wx lx p hp x hxw hxr hrl ho k hkK hk hac hpb ht hq2 (by omega)
  · rw [if_neg (by omega),if_neg (by omega),if_neg (by omega),if_neg (by omega),if_neg (by omega),if_pos ho]
    rw [ho] at hmd
    have hq2:=kind6 hmd
    have hgq:=h.gq k
    cases e:A.qv k with
    | nil =>
      have e2:M.qs k = []:=by rw [← hgq,e];rfl
      rw [e2]
      exact pass6e_b h wx lx p hp x hxw hxr hrl ho k hkK hk hac hpb ht hq2 e2
    | cons m l =>
      have e2:M.qs k = m.ds :: l.map (·.ds):=by rw [← hgq,e];rfl
      rw [e2]
      exact pass6r_b h wx lx p hp x hxw hxr hrl ho k hkK hk hac hpb ht hq2 m l e
  · rw [if_neg (by omega),if_neg (by omega),if_neg (by omega),if_neg (by omega),if_neg (by omega),if_neg (by omega),if_pos ho]
    by_cases hq2:kind8 c k = 2
    · rw [if_pos hq2];exact pass7q_b h wx lx p hp x hxw hxr hrl ho k hkK hk hac hpb ht hq2
    · rw [if_neg hq2];exact pass7s_b h wx lx p hp x hxw hxr hrl ho k hkK hk hac hpb ht hq2
end Go.Proofs.YtheeiklgblcjfaaGreatDoor
end
