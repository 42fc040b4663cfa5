/- Texts of the ring, joined, what is used of them. No condition but those in the statements. -/
import Derived.BigQuiet
import Derived.BigRegion
import Derived.Deep.MidRow
import Derived.Deep.RegionHeld3
import Derived.Deep.Upon
import Derived.IntWalk
import Derived.Test.YtheeiklgblcjfaaGreatDoorRPSg
import Derived.Test.YtheeiklgblcjfaaGreatDoorRgf
import Derived.Test.YtheeiklgblcjfaaGreatDoorRgn
import Derived.Test.YtheeiklgblcjfaaGreatDoorRgo
section
namespace Go.Proofs.YtheeiklgblcjfaaGreatDoor
open Go.RowKit Go.Sort
set_option linter.unusedVariables false
set_option linter.unusedSimpArgs false
set_option linter.unusedVariables false
set_option linter.unusedSimpArgs false
set_option maxRecDepth 100000
theorem step_put8 {ops:Array Oper} {o:Oper} {a:Act} {w:World} {K:Act → World → Prop} {Q:Exit → Act → World → Prop} {E:Prop} {kt et t:TypeId} {q:IntKind} {mb n:Nat} {f:Int → Option Value}
    (h:MapH w kt q mb f n) (hk:Tryz.prog.underlying kt = some (.int q)) (ht:Tryz.prog.underlying t = some (.map kt et)) (p:Int) (hp:(Lit.int q p).wf = true) (hn:n ≤ 2000000) (v:Value) (hgd:o.guard = none) (m x y:Operand) (ho:o.op = .mapUpdate t m x y)
    (hm:a.eval m = .map (some mb)) (hx:a.eval x = .int q p) (hy:a.eval y = v) (hK:∀ w',MapH w' kt q mb (fun j => if j = p then some v else f j) (n + 1) → Only (fun k => k = mb) w w' → K (a.put o.dst undef) w'):if Region.wanted o (yielded ops a.tmps) = true then Oper.wp Tryz.prog o a w K Q else E:=by
  have hw:Region.wanted o (yielded ops a.tmps) = true:=by simp [Region.wanted,hgd]
  rw [if_pos hw]
  obtain ⟨w',hrun,r1,r2⟩:=h.put hk ht hp hn v
  unfold Oper.wp
  simp [execOp,ho,hm,hx,hy,hrun,Result.andThen]
  exact hK w' r1 r2
set_option maxHeartbeats 3200000 in
theorem pass3_b {w:World} {own:Nat → Tg8} {n0:Nat} {c:Cfg} {M:Md8} {A:Mx8} (h:MAt w own n0 c M A) (wx:CfgWf c) (lx:CfgFew c) (p:Nat) (hp:p < c.parts.length) (x:CV) (hxw:CWf x) (hxr:CRows w w.heap.size x) (hrl:x.rd.length ≤ 1000000) (hop:x.op = 3) (k:Nat) (hkK:portK c x.port = (k:Int)) (hk:k < c.chans.length) (hac:acceptsB c = true) (hpb:portB c x.port = true) (ht:M.t ≤ 100000) (hst:-1 ≤ x.stamp ∧ x.stamp ≤ 1099511627776):Calls Tryz.prog 42 #[.pointer (some ⟨A.b,0,none⟩),.pointer (some ⟨A.sg,A.so + p * 4,none⟩),.agg (cCells x).toArray] w (Goes8 w own n0 c ok8 { M with wr:=up8 M.wr k (some ⟨x.rd,x.stamp⟩),t:=M.t + 1 } A):=by
  obtain ⟨W1,HW1,hB1,hs1,hX1⟩:=box17 w x
  obtain ⟨W,HW,hB2,hs2,bx⟩:=box_new W1 #[.int .i64 0,.slice none 0 0,.bool false,.int .i64 0] 42
  obtain ⟨xb,hxb⟩:∃ n,n = w.heap.size:=⟨_,rfl⟩
  obtain ⟨ab,hab⟩:∃ n,n = W1.heap.size:=⟨_,rfl⟩
  have hX:=hX1.later hB2 hX1.lt
  have hA:=bx W (Below.refl _ _)
  rw [← hab] at hA
  rw [← hxb] at hX
  have hBW:=hB1.trans (hB2.mono hB1.size)
  have hW:=(MAt.still h hBW).1
  have hxl:xb < W.heap.size:=hX.lt
  have hbl:A.b < W.heap.size:=(Array.getElem?_eq_some_iff.1 hW.head.2).1
  have rg0:∀ rg:Regrown,(grow (redrawn W rg.d) rg.os).cell? ⟨A.b,0,none⟩ = some (.slice A.x.pa c.parts.length A.x.pc):=fun rg => cell_regrown (blk_at hW.head.2 (i:=0) rfl) rg.d rg.os
  have rg1:∀ rg:Regrown,(grow (redrawn W rg.d) rg.os).cell? ⟨A.b,1,none⟩ = some (.slice A.x.ca c.chans.length A.x.cc):=fun rg => cell_regrown (blk_at hW.head.2 (i:=1) rfl) rg.d rg.os
  have rg2:∀ rg:Regrown,(grow (redrawn W rg.d) rg.os).cell? ⟨A.b,2,none⟩ = some (.int .i64 c.len0):=fun rg => cell_regrown (blk_at hW.head.2 (i:=2) rfl) rg.d rg.os
  have rg3:∀ rg:Regrown,(grow (redrawn W rg.d) rg.os).cell? ⟨A.b,3,none⟩ = some (.slice A.x.aa c.win0.length A.x.ac):=fun rg => cell_regrown (blk_at hW.head.2 (i:=3) rfl) rg.d rg.os
  have rg4:∀ rg:Regrown,(grow (redrawn W rg.d) rg.os).cell? ⟨A.b,4,none⟩ = some (.int .i64 c.len1):=fun rg => cell_regrown (blk_at hW.head.2 (i:=4) rfl) rg.d rg.os
  have rg5:∀ rg:Regrown,(grow (redrawn W rg.d) rg.os).cell? ⟨A.b,5,none⟩ = some (.slice A.x.ba c.win1.length A.x.bc):=fun rg => cell_regrown (blk_at hW.head.2 (i:=5) rfl) rg.d rg.os
  have rgp:∀ rg:Regrown,(grow (redrawn W rg.d) rg.os).cell? ⟨xb,2,none⟩ = some (.int .i64 x.port):=fun rg => cell_regrown hX.b_port rg.d rg.os
  obtain ⟨P,hP⟩:∃ P,portP c x.port = P:=⟨_,rfl⟩
  obtain ⟨SS,hSS⟩:∃ S,portS c x.port = S:=⟨_,rfl⟩
  have HPR:=Lib.hid (fun (d:Nat) (os:Array Obj) => Calls.regrown_of (pport_is c A.x x.port (k:Int) P SS true (grow (redrawn W d) os) (hW.cfg.1.later (below_regrown W d os)) wx lx hxw.port ⟨hkK,hP,hSS,hpb⟩))
  have hbc:=Below.refl W.heap.size W
  have H:=Lib.hid h;have HBW:=Lib.hid hBW;have HX:=Lib.hid hX;have HA:=Lib.hid hA;have HXL:=Lib.hid hxl;have HBL:=Lib.hid hbl;have HMW:=Lib.hid hW;have HXB:=Lib.hid hxb;have HAB:=Lib.hid hab
  have HABL:Hid (w.heap.size ≤ ab ∧ ab < W.heap.size ∧ xb < ab):=Lib.hid ⟨by have:=hB1.size;omega,by omega,by omega⟩
  have HXR:=Lib.hid (hxr.below hBW |>.more hBW.size)
  have HK:=Lib.hid (And.intro hkK (And.intro hk (And.intro hac hpb)))
  have HWX:=Lib.hid wx;have HLX:=Lib.hid lx;have HXW:=Lib.hid hxw
  have HOP:=Lib.hid hop
  simp only [cfgCells] at HPR
  clear h hB1 hs1 hX1 hB2 hs2 bx hX hA hBW hW hxl hbl hP hSS hxr hkK hk hac hpb wx lx hxw hop hxb hab
  go_enter Tryz.func42,Tryz.ntmps42
  go_wp2_with (first | (rw [← HW1.out];(try simp only [← HXB.out])) | (rw [← HW.out];(try simp only [← HAB.out])))
  ((first | with_reducible refine wpList_on hbc ?_ | with_reducible refine wp_on hbc (by kernel_rfl) (by kernel_rfl) ?_);(repeat (go_big_quiet_step (first | with_reducible exact HPR.out _ _ | fail)));with_reducible refine wpQuiet_nil ?_;intro wc hbc)
  have HBC:=Lib.hid hbc
  have hXc:=HX.out.later hbc HXL.out
  have o1:wc.cell? ⟨xb,1,none⟩ = some (.int .i64 3):=by rw [← HOP.out];exact hXc.b_op
  clear hbc rg0 rg1 rg2 rg3 rg4 rg5 rgp HPR
  have hMc:=(MAt.still HMW.out HBC.out).1
  have m7:wc.cell? ⟨A.b,7,none⟩ = some (.map (some A.mw)):=blk_at hMc.head.2 (i:=7) rfl
  have r4:=hXc.b_rd
  have r18:=hXc.b_stamp
  have HBLC:=Lib.hid (Nat.lt_of_lt_of_le HBL.out HBC.out.size);have HXLC:=Lib.hid (Nat.lt_of_lt_of_le HXL.out HBC.out.size)
  have HMWL:=Lib.hid (hMc.mw (fun x => x)).2.lt
  have HMC:=Lib.hid hMc
  have HKW:=Lib.hid (show (Lit.int .i64 (k:Int)).wf = true from WalkArith.wf_i64 (by have:=HK.out.2.1;have:=HLX.out.2.1;omega))
  have HT2:=Lib.hid (show M.t ≤ 2000000 by omega)
  have hrr:IntRowK .u32 wc.drew wc.drew.heap.size x.ra x.rd:=(HXR.out.rr.later8 HBC.out).later8 (Below.refl _ _).drew
  have HCL:=Lib.hid (cloneU_b x.ra x.rc x.rd wc.drew hrr HXR.out.rl.2.2 hrl)
  have HST:=Lib.hid (And.intro hst hrl)
  clear hXc hMc hrr hst hrl
  go_wp2_with fail
  refine wp_region_till (fun W' => Below wc.heap.size wc W') 12 (by kernel_rfl) (by exact (Below.refl _ _).drew) (fun hHeld => ?_)
  refine till_take (i:=0) rfl (by kernel_rfl) (by kernel_rfl) (by kernel_rfl) (fun _ _ _ h => h) (by kernel_rfl) (Or.inl ⟨by rfl,by intro w _;(go_simp <;> with_reducible rfl)⟩) (by assumption) ?_
  (try simp only [Act.put,List.setIfInBounds_toArray,List.set_cons_zero,List.set_cons_succ,List.getElem_toArray,List.getElem_cons_zero,List.getElem_cons_succ])
  refine till_take (i:=1) rfl (by kernel_rfl) (by kernel_rfl) (by kernel_rfl) (fun _ _ _ h => h) (by kernel_rfl) (Or.inl ⟨by rfl,by intro w _;(go_simp <;> with_reducible rfl)⟩) (by assumption) ?_
  (try simp only [Act.put,List.setIfInBounds_toArray,List.set_cons_zero,List.set_cons_succ,List.getElem_toArray,List.getElem_cons_zero,List.getElem_cons_succ])
  refine till_take (i:=2) rfl (by kernel_rfl) (by kernel_rfl) (by kernel_rfl) (fun _ _ _ h => h) (by kernel_rfl) (Or.inl ⟨by rfl,by intro w _;(go_simp <;> with_reducible rfl)⟩) (by assumption) ?_
  (try simp only [Act.put,List.setIfInBounds_toArray,List.set_cons_zero,List.set_cons_succ,List.getElem_toArray,List.getElem_cons_zero,List.getElem_cons_succ])
  refine till_load (i:=3) rfl (by kernel_rfl) (by kernel_rfl) (by kernel_rfl) (fun _ _ _ h => h) (by kernel_rfl) (by kernel_rfl) (by kernel_rfl) (Or.inl ⟨by rfl,by intro w hSw;(have z0:=(hSw.cell (p:=⟨A.b,7,none⟩) HBLC.out).trans m7);(go_simp <;> with_reducible rfl)⟩) (by assumption) ?_
  (try simp only [Act.put,List.setIfInBounds_toArray,List.set_cons_zero,List.set_cons_succ,List.getElem_toArray,List.getElem_cons_zero,List.getElem_cons_succ])
  refine till_take (i:=4) rfl (by kernel_rfl) (by kernel_rfl) (by kernel_rfl) (fun _ _ _ h => h) (by kernel_rfl) (Or.inl ⟨by rfl,by intro w _;(go_simp <;> with_reducible rfl)⟩) (by assumption) ?_
  (try simp only [Act.put,List.setIfInBounds_toArray,List.set_cons_zero,List.set_cons_succ,List.getElem_toArray,List.getElem_cons_zero,List.getElem_cons_succ])
  refine till_take (i:=5) rfl (by kernel_rfl) (by kernel_rfl) (by kernel_rfl) (fun _ _ _ h => h) (by kernel_rfl) (Or.inl ⟨by rfl,by intro w _;(go_simp <;> with_reducible rfl)⟩) (by assumption) ?_
  (try simp only [Act.put,List.setIfInBounds_toArray,List.set_cons_zero,List.set_cons_succ,List.getElem_toArray,List.getElem_cons_zero,List.getElem_cons_succ])
  refine till_take (i:=6) rfl (by kernel_rfl) (by kernel_rfl) (by kernel_rfl) (fun _ _ _ h => h) (by kernel_rfl) (Or.inl ⟨by rfl,by intro w _;(go_simp <;> with_reducible rfl)⟩) (by assumption) ?_
  (try simp only [Act.put,List.setIfInBounds_toArray,List.set_cons_zero,List.set_cons_succ,List.getElem_toArray,List.getElem_cons_zero,List.getElem_cons_succ])
  refine till_load (i:=7) rfl (by kernel_rfl) (by kernel_rfl) (by kernel_rfl) (fun _ _ _ h => h) (by kernel_rfl) (by kernel_rfl) (by kernel_rfl) (Or.inl ⟨by rfl,by intro w hSw;(have z1:=(hSw.cell (p:=⟨xb,4,none⟩) HXLC.out).trans r4);(go_simp <;> with_reducible rfl)⟩) (by assumption) ?_
  (try simp only [Act.put,List.setIfInBounds_toArray,List.set_cons_zero,List.set_cons_succ,List.getElem_toArray,List.getElem_cons_zero,List.getElem_cons_succ])
  refine till_take (i:=9) rfl (by kernel_rfl) (by kernel_rfl) (by kernel_rfl) (fun _ _ _ h => h) (by kernel_rfl) (Or.inl ⟨by rfl,by intro w _;(go_simp <;> with_reducible rfl)⟩) (by assumption) ?_
  (try simp only [Act.put,List.setIfInBounds_toArray,List.set_cons_zero,List.set_cons_succ,List.getElem_toArray,List.getElem_cons_zero,List.getElem_cons_succ])
  refine till_load (i:=10) rfl (by kernel_rfl) (by kernel_rfl) (by kernel_rfl) (fun _ _ _ h => h) (by kernel_rfl) (by kernel_rfl) (by kernel_rfl) (Or.inl ⟨by rfl,by intro w hSw;(have z2:=(hSw.cell (p:=⟨xb,18,none⟩) HXLC.out).trans r18);(go_simp <;> with_reducible rfl)⟩) (by assumption) ?_
  (try simp only [Act.put,List.setIfInBounds_toArray,List.set_cons_zero,List.set_cons_succ,List.getElem_toArray,List.getElem_cons_zero,List.getElem_cons_succ])
  refine till_one (i:=8) (by kernel_rfl) rfl (fun K hK => ?_)
  go_simp
  refine HCL.out.mono ?_
  rintro e w5 ⟨A5,k5,rfl,hr5,hn5,hq5,hb5o⟩
  (try go_wp2_with fail)
  have hb5:=(Below.refl wc.heap.size wc).drew.trans hb5o
  have HB5:=Lib.hid hb5;have HR5:=Lib.hid hr5;have HQ5:=Lib.hid hq5;have HN5:=Lib.hid hn5
  have HM5:=Lib.hid ((HMC.out.mw (fun x => x)).2.of (hb5.block _ HMWL.out))
  clear hr5 hn5 hq5 hb5 hb5o HCL hHeld
  refine hK.out _ _ (by exact HB5.out) (fun hHeld => ?_)
  clear hK K
  (try simp only [Act.put,List.setIfInBounds_toArray,List.set_cons_zero,List.set_cons_succ,List.getElem_toArray,List.getElem_cons_zero,List.getElem_cons_succ])
  refine till_one (i:=11) (by kernel_rfl) rfl (fun K hK => ?_)
  go_simp
  refine hK.out _ _ (by exact HB5.out) (fun hHeld => ?_)
  clear hK K
  (try simp only [Act.put,List.setIfInBounds_toArray,List.set_cons_zero,List.set_cons_succ,List.getElem_toArray,List.getElem_cons_zero,List.getElem_cons_succ])
  refine till_last (by kernel_rfl) rfl (fun K hK => ?_)
  refine step_put8 HM5.out Tryz.underlying3 Tryz.underlying83 (k:Int) HKW.out HT2.out (.agg #[.slice A5 x.rd.length k5,.int .i64 x.stamp]) rfl _ _ _ rfl rfl rfl rfl ?_
  intro w6 hm6 ho6
  have HM6:=Lib.hid hm6;have HO6:=Lib.hid ho6
  clear hm6 ho6
  refine hK.out _ _ ?_
  clear hK K
  (try simp only [Act.put,List.setIfInBounds_toArray,List.set_cons_zero,List.set_cons_succ,List.getElem_toArray,List.getElem_cons_zero,List.getElem_cons_succ])
  refine till_done (by kernel_rfl) ?_ _
  have hA6:w6.heap[ab]? = some (.cells #[.int .i64 0,.slice none 0 0,.bool false,.int .i64 0] 42 (0,0)):=(HO6.out.block ab (by have:=HABL.out;have:=HBC.out.size;have:=HB5.out.size;omega) (by have:=HABL.out;have h1:=(H.out.mw (fun x => x)).1;have h2:=mat_lt H.out h1 (by decide);omega)).trans ((HB5.out.block ab (by have:=HABL.out;have:=HBC.out.size;omega)).trans ((HBC.out.block ab HABL.out.2.1).trans HA.out))
  have hth:=there_blk (W:=w6) hA6 (n:=(#[.int .i64 0,.slice none 0 0,.bool false,.int .i64 0]:Array Value).size) rfl
  have hsz4:(Tryz.prog.info? 42).map (·.size) = some (#[.int .i64 0,.slice none 0 0,.bool false,.int .i64 0]:Array Value).size:=ans8_size
  go_wp2_with (with_reducible refine wpList_store_mid (by kernel_rfl) _ _ _ rfl ab 0 #[.int .i64 0,.slice none 0 0,.bool false,.int .i64 0] (by kernel_rfl) (by kernel_rfl) hth hsz4 (by kernel_rfl) ?_)
  have hrg:=World.rangeAt_setCells_same (w6) (ab) 0 (#[.int .i64 0,.slice none 0 0,.bool false,.int .i64 0]:Array Value).toList (by simpa using hth)
  (try simp only [Exit.inBlock,Exit.then])
  refine bodyPost_ret (results_cell_mid rfl _ _ (ab) (#[.int .i64 0,.slice none 0 0,.bool false,.int .i64 0]:Array Value).toList _ rfl hrg Tryz.underlying42 rfl ans8_size) rfl ?_
  have hbw5:Below w.heap.size w w5:=HBW.out.trans ((HBC.out.trans (HB5.out.mono HBC.out.size)).mono HBW.out.size)
  have hmwl:=mat_lt H.out (H.out.mw (fun x => x)).1 (by decide)
  have ho5:Only (fun j => j = A.mw) w w6:=(Only.of_below hbw5).trans HO6.out
  have hoF:Only (fun j => j = ab) w6 (w6.setCells ab 0 (#[.int .i64 0,.slice none 0 0,.bool false,.int .i64 0]:Array Value).toList):=Only.sets (S:=fun j => j = ab) rfl _ 0 (Only.refl _ _)
  have hoW:Only (fun j => j = A.mw) w (w6.setCells ab 0 (#[.int .i64 0,.slice none 0 0,.bool false,.int .i64 0]:Array Value).toList):=⟨hoF.os.trans ho5.os,hoF.tape.trans ho5.tape,hoF.output.trans ho5.output,Nat.le_trans ho5.size hoF.size,fun j hj hn => (hoF.block j (Nat.lt_of_lt_of_le hj ho5.size) (by have:=HABL.out;omega)).trans (ho5.block j hj hn)⟩
  have hrow6:IntRowK .u32 w6 w6.heap.size A5 x.rd:=(HR5.out.only8 (Nat.le_refl _) HO6.out (fun hp a ha e => by have h1:=HN5.out hp a ha;have h2:wc.drew.heap.size = wc.heap.size:=rfl;have:=HBC.out.size;have:=HBW.out.size;omega)).more HO6.out.size
  have hrowF:IntRowK .u32 (w6.setCells ab 0 (#[.int .i64 0,.slice none 0 0,.bool false,.int .i64 0]:Array Value).toList) (w6.setCells ab 0 (#[.int .i64 0,.slice none 0 0,.bool false,.int .i64 0]:Array Value).toList).heap.size A5 x.rd:=(hrow6.only8 (Nat.le_refl _) hoF (fun hp a ha e => by have h1:=HN5.out hp a ha;have h2:wc.drew.heap.size = wc.heap.size:=rfl;have:=HBC.out.size;have:=HABL.out;omega)).more hoF.size
  refine ⟨none,0,rfl,(fun h => by simp [ok8] at h),⟨by simp [ok8],by simp [maxLen],fun _ => rfl⟩,?_⟩
  exact wr_turn H.out k ⟨x.rd,A5,k5,x.stamp⟩ hoW (HM6.out.of (hoF.block _ (by have:=ho5.size;omega) (by have:=HABL.out;omega))) hrowF HQ5.out (fun hp a ha => by have h1:=HN5.out hp a ha;have h2:wc.drew.heap.size = wc.heap.size:=rfl;have:=HBC.out.size;have:=HBW.out.size;omega) ⟨HST.out.2,HST.out.1⟩
end Go.Proofs.YtheeiklgblcjfaaGreatDoor
end
section
namespace Go.Proofs.YtheeiklgblcjfaaGreatDoor
open Go.RowKit Go.Sort
set_option linter.unusedVariables false
set_option linter.unusedSimpArgs false
set_option linter.unusedVariables false
set_option linter.unusedSimpArgs false
set_option maxRecDepth 100000
/-- Behind a turn a block of nobody's turns. -/
theorem Turn8.put {w w1 w':World} {own:Nat → Tg8} {n0:Nat} {c:Cfg} {M':Md8} {A:Mx8} {b:Nat} (h:Turn8 w own n0 c M' A w1) (ho:Only (fun j => j = b) w1 w') (hb:own b = .free) (hl:b < w.heap.size) (hlow:∀ {u:World},Below u.heap.size u w → u.heap.size ≤ b → True):Turn8 w own n0 c M' A w1 ∧ ∃ own' A',A'.b = A.b ∧ A'.sg = A.sg ∧ A'.so = A.so ∧ MAt w' own' n0 c M' A' ∧ (∀ k,k < w.heap.size → own' k = own k) ∧ Only (fun k => (own k).mut ∨ k = b) w w':=by
  obtain ⟨own',A',e1,e2,e3,h1,h2,h3⟩:=h
  refine ⟨⟨own',A',e1,e2,e3,h1,h2,h3⟩,own',A',e1,e2,e3,MAt.later h1 ho (fun _ _ => rfl) (fun k hk => h1.free k (Nat.le_trans ho.size hk)) h1.base (fun k _ e => by rw [e,h2 b hl];exact hb),h2,(h3.mono fun k _ e => .inl e).trans (ho.mono fun k _ e => .inr e)⟩
/-- A turn from a later world on,and a block that came between: a turn. -/
theorem Turn8.from_ {w w1 w2 w':World} {own:Nat → Tg8} {n0:Nat} {c:Cfg} {M':Md8} {A:Mx8} {b:Nat} (hb1:Below w.heap.size w w1) (h:Turn8 w1 own n0 c M' A w2) (ho:Only (fun j => j = b) w2 w') (hb:own b = .free) (hl:b < w1.heap.size) (hg:w.heap.size ≤ b):Turn8 w own n0 c M' A w':=by
  obtain ⟨-,own',A',e1,e2,e3,h1,h2,h3⟩:=Turn8.put h ho hb hl (fun _ _ => trivial)
  exact ⟨own',A',e1,e2,e3,h1,fun k hk => h2 k (Nat.lt_of_lt_of_le hk hb1.size),((Only.of_below (S:=fun k => (own k).mut ∨ k = b) hb1).trans h3).mono fun k hk e => e.resolve_right (by omega)⟩
theorem read8_b {w:World} {own:Nat → Tg8} {n0:Nat} {c:Cfg} {M:Md8} {A:Mx8} (h:MAt w own n0 c M A) (wx:CfgWf c) (k:Nat) (t1:Int) (hk:k < c.chans.length) (hk2:k < 1000) (ht:M.t ≤ 100000) (ht1:-1 ≤ t1 ∧ t1 ≤ 1099511627776):Calls Tryz.prog 68 #[.pointer (some ⟨A.b,0,none⟩),.int .i64 (k:Int),.int .i64 t1] w (Gives8 w (found8 c M k t1)):=by
  cases e:A.wv k with
  | none =>
    have:found8 c M k t1 = code8 1:=by unfold found8;rw [← h.gw,e];rfl
    rw [this];exact read8_none h k t1 e hk2 ht
  | some g =>
    have:found8 c M k t1 = ⟨0,g.ds,fresh8 c k g.ms t1,0⟩:=by unfold found8;rw [← h.gw,e];rfl
    rw [this];exact read8_some h wx k t1 g e hk hk2 ht ht1
set_option maxHeartbeats 3200000 in
theorem pass4_b {w:World} {own:Nat → Tg8} {n0:Nat} {c:Cfg} {M:Md8} {A:Mx8} (h:MAt w own n0 c M A) (wx:CfgWf c) (lx:CfgFew c) (p:Nat) (hp:p < c.parts.length) (x:CV) (hxw:CWf x) (hxr:CRows w w.heap.size x) (hrl:x.rd.length ≤ 1000000) (hop:x.op = 4) (k:Nat) (hkK:portK c x.port = (k:Int)) (hk:k < c.chans.length) (hac:acceptsB c = true) (hpb:portB c x.port = true) (ht:M.t ≤ 100000) (ht1:-1 ≤ x.t1 ∧ x.t1 ≤ 1099511627776) (F:An8) (hF:found8 c M k x.t1 = F):Calls Tryz.prog 42 #[.pointer (some ⟨A.b,0,none⟩),.pointer (some ⟨A.sg,A.so + p * 4,none⟩),.agg (cCells x).toArray] w (Goes8 w own n0 c F (setSt8 M p { st8 M p with valid:=see8 (st8 M p).valid x.port F.valid }) A):=by
  have HFF:=Lib.hid hF
  clear hF
  obtain ⟨W1,HW1,hB1,hs1,hX1⟩:=box17 w x
  obtain ⟨W,HW,hB2,hs2,bx⟩:=box_new W1 #[.int .i64 0,.slice none 0 0,.bool false,.int .i64 0] 42
  obtain ⟨xb,hxb⟩:∃ n,n = w.heap.size:=⟨_,rfl⟩
  obtain ⟨ab,hab⟩:∃ n,n = W1.heap.size:=⟨_,rfl⟩
  have hX:=hX1.later hB2 hX1.lt
  have hA:=bx W (Below.refl _ _)
  rw [← hab] at hA
  rw [← hxb] at hX
  have hBW:=hB1.trans (hB2.mono hB1.size)
  have hW:=(MAt.still h hBW).1
  have hxl:xb < W.heap.size:=hX.lt
  have hbl:A.b < W.heap.size:=(Array.getElem?_eq_some_iff.1 hW.head.2).1
  have rg0:∀ rg:Regrown,(grow (redrawn W rg.d) rg.os).cell? ⟨A.b,0,none⟩ = some (.slice A.x.pa c.parts.length A.x.pc):=fun rg => cell_regrown (blk_at hW.head.2 (i:=0) rfl) rg.d rg.os
  have rg1:∀ rg:Regrown,(grow (redrawn W rg.d) rg.os).cell? ⟨A.b,1,none⟩ = some (.slice A.x.ca c.chans.length A.x.cc):=fun rg => cell_regrown (blk_at hW.head.2 (i:=1) rfl) rg.d rg.os
  have rg2:∀ rg:Regrown,(grow (redrawn W rg.d) rg.os).cell? ⟨A.b,2,none⟩ = some (.int .i64 c.len0):=fun rg => cell_regrown (blk_at hW.head.2 (i:=2) rfl) rg.d rg.os
  have rg3:∀ rg:Regrown,(grow (redrawn W rg.d) rg.os).cell? ⟨A.b,3,none⟩ = some (.slice A.x.aa c.win0.length A.x.ac):=fun rg => cell_regrown (blk_at hW.head.2 (i:=3) rfl) rg.d rg.os
  have rg4:∀ rg:Regrown,(grow (redrawn W rg.d) rg.os).cell? ⟨A.b,4,none⟩ = some (.int .i64 c.len1):=fun rg => cell_regrown (blk_at hW.head.2 (i:=4) rfl) rg.d rg.os
  have rg5:∀ rg:Regrown,(grow (redrawn W rg.d) rg.os).cell? ⟨A.b,5,none⟩ = some (.slice A.x.ba c.win1.length A.x.bc):=fun rg => cell_regrown (blk_at hW.head.2 (i:=5) rfl) rg.d rg.os
  have rgp:∀ rg:Regrown,(grow (redrawn W rg.d) rg.os).cell? ⟨xb,2,none⟩ = some (.int .i64 x.port):=fun rg => cell_regrown hX.b_port rg.d rg.os
  obtain ⟨P,hP⟩:∃ P,portP c x.port = P:=⟨_,rfl⟩
  obtain ⟨SS,hSS⟩:∃ S,portS c x.port = S:=⟨_,rfl⟩
  have HPR:=Lib.hid (fun (d:Nat) (os:Array Obj) => Calls.regrown_of (pport_is c A.x x.port (k:Int) P SS true (grow (redrawn W d) os) (hW.cfg.1.later (below_regrown W d os)) wx lx hxw.port ⟨hkK,hP,hSS,hpb⟩))
  have hbc:=Below.refl W.heap.size W
  have H:=Lib.hid h;have HBW:=Lib.hid hBW;have HX:=Lib.hid hX;have HA:=Lib.hid hA;have HXL:=Lib.hid hxl;have HBL:=Lib.hid hbl;have HMW:=Lib.hid hW;have HXB:=Lib.hid hxb;have HAB:=Lib.hid hab
  have HABL:Hid (w.heap.size ≤ ab ∧ ab < W.heap.size ∧ xb < ab):=Lib.hid ⟨by have:=hB1.size;omega,by omega,by omega⟩
  have HXR:=Lib.hid (hxr.below hBW |>.more hBW.size)
  have HK:=Lib.hid (And.intro hkK (And.intro hk (And.intro hac hpb)))
  have HWX:=Lib.hid wx;have HLX:=Lib.hid lx;have HXW:=Lib.hid hxw
  have HOP:=Lib.hid hop
  simp only [cfgCells] at HPR
  clear h hB1 hs1 hX1 hB2 hs2 bx hX hA hBW hW hxl hbl hP hSS hxr hkK hk hac hpb wx lx hxw hop hxb hab
  go_enter Tryz.func42,Tryz.ntmps42
  go_wp2_with (first | (rw [← HW1.out];(try simp only [← HXB.out])) | (rw [← HW.out];(try simp only [← HAB.out])))
  ((first | with_reducible refine wpList_on hbc ?_ | with_reducible refine wp_on hbc (by kernel_rfl) (by kernel_rfl) ?_);(repeat (go_big_quiet_step (first | with_reducible exact HPR.out _ _ | fail)));with_reducible refine wpQuiet_nil ?_;intro wc hbc)
  have HBC:=Lib.hid hbc
  have hXc:=HX.out.later hbc HXL.out
  have o1:wc.cell? ⟨xb,1,none⟩ = some (.int .i64 4):=by rw [← HOP.out];exact hXc.b_op
  clear hbc rg0 rg1 rg2 rg3 rg4 rg5 rgp HPR
  have hMc:=(MAt.still HMW.out HBC.out).1
  have r13:=hXc.b_t1
  have HR:=Lib.hid (read8_b hMc HWX.out k x.t1 HK.out.2.1 (by have:=(accd_of HK.out.2.2.1).chans;have:=HK.out.2.1;omega) ht ht1)
  rw [HFF.out] at HR
  clear hMc ht1
  go_wp2_with fail
  refine HR.out.mono ?_
  rintro e w5 ⟨rA,rk,rfl,hr5,hc5,hb5,hn5⟩
  have HN5:=Lib.hid hn5
  clear hn5
  obtain ⟨W6,HW6,hB6,hs6,bx6⟩:=box_new w5 #[.int .i64 F.code,.slice rA F.data.length rk,.bool F.valid,.int .i64 F.count] 42
  obtain ⟨nb,hnb⟩:∃ n,n = w5.heap.size:=⟨_,rfl⟩
  have hbw:Below w.heap.size w W6:=HBW.out.trans ((HBC.out.trans ((hb5.trans (hB6.mono hb5.size)).mono HBC.out.size)).mono HBW.out.size)
  have h6:=(MAt.still H.out hbw).1
  have hN:=bx6 W6 (Below.refl _ _)
  rw [← hnb] at hN
  have hX6:=HX.out.later (HBC.out.trans ((hb5.trans (hB6.mono hb5.size)).mono HBC.out.size)) HXL.out
  have v2:W6.cell? ⟨nb,2,none⟩ = some (.bool F.valid):=blk_at hN (i:=2) rfl
  have x2:=hX6.b_port
  have HS:=Lib.hid (see_b h6 p hp x.port F.valid ht)
  have HN:=Lib.hid hN;have HBW6:=Lib.hid hbw;have HR6:=Lib.hid (hr5.later8 hB6);have HC5:=Lib.hid hc5;have HNB:=Lib.hid hnb
  have HA6:=Lib.hid (((hb5.trans (hB6.mono hb5.size)).block ab (by have:=HABL.out;have:=HBC.out.size;omega)).trans ((HBC.out.block ab HABL.out.2.1).trans HA.out))
  have HL6:Hid (ab < nb ∧ nb < W6.heap.size):=Lib.hid ⟨by have:=HABL.out;have:=HBC.out.size;have:=hb5.size;omega,by omega⟩
  have HF6:Hid (own ab = .free ∧ own nb = .free):=Lib.hid ⟨H.out.free ab HABL.out.1,H.out.free nb (by have:=HABL.out.1;have:=HABL.out;have:=HBC.out.size;have:=hb5.size;omega)⟩
  clear hr5 hc5 hb5 hB6 hs6 bx6 hbw h6 hN hX6 hnb HR hXc o1
  go_wp2_with (rw [← HW6.out];(try simp only [← HNB.out]))
  refine HS.out.mono ?_
  rintro e w7 ⟨rfl,hT⟩
  have hO7:Only (fun k => (own k).mut) W6 w7:=by obtain ⟨_,_,_,_,_,_,_,h3⟩:=hT;exact h3
  have hN7:=hO7.at_ HN.out (by rw [HF6.out.2];exact fun h => h)
  have hA7:=hO7.at_ HA6.out (by rw [HF6.out.1];exact fun h => h)
  have n0_:w7.cell? ⟨nb,0,none⟩ = some (.int .i64 F.code):=blk_at hN7 (i:=0) rfl
  have n1_:w7.cell? ⟨nb,1,none⟩ = some (.slice rA F.data.length rk):=blk_at hN7 (i:=1) rfl
  have n2_:w7.cell? ⟨nb,2,none⟩ = some (.bool F.valid):=blk_at hN7 (i:=2) rfl
  have n3_:w7.cell? ⟨nb,3,none⟩ = some (.int .i64 F.count):=blk_at hN7 (i:=3) rfl
  have hth:=there_blk (W:=w7) hA7 (n:=(#[.int .i64 F.code,.slice rA F.data.length rk,.bool F.valid,.int .i64 F.count]:Array Value).size) rfl
  have hsz4:(Tryz.prog.info? 42).map (·.size) = some (#[.int .i64 F.code,.slice rA F.data.length rk,.bool F.valid,.int .i64 F.count]:Array Value).size:=ans8_size
  have HT:=Lib.hid hT;have HO7:=Lib.hid hO7
  clear hT hO7 hN7 hA7 v2 x2 HS
  go_wp2_with (with_reducible refine wpList_store_mid (by kernel_rfl) _ _ _ rfl ab 0 #[.int .i64 F.code,.slice rA F.data.length rk,.bool F.valid,.int .i64 F.count] (by kernel_rfl) (by kernel_rfl) hth hsz4 (by kernel_rfl) ?_)
  have hrg:=World.rangeAt_setCells_same (w7) (ab) 0 (#[.int .i64 F.code,.slice rA F.data.length rk,.bool F.valid,.int .i64 F.count]:Array Value).toList (by simpa using hth)
  (try simp only [Exit.inBlock,Exit.then])
  refine bodyPost_ret (results_cell_mid rfl _ _ (ab) (#[.int .i64 F.code,.slice rA F.data.length rk,.bool F.valid,.int .i64 F.count]:Array Value).toList _ rfl hrg Tryz.underlying42 rfl ans8_size) rfl ?_
  have hoF:Only (fun j => j = ab) w7 (w7.setCells ab 0 (#[.int .i64 F.code,.slice rA F.data.length rk,.bool F.valid,.int .i64 F.count]:Array Value).toList):=Only.sets (S:=fun j => j = ab) rfl _ 0 (Only.refl _ _)
  refine ⟨rA,rk,rfl,?_,HC5.out,Turn8.from_ HBW6.out HT.out hoF HF6.out.1 (by have:=HL6.out;omega) HABL.out.1⟩
  have fre:∀ (hp:0 < F.data.length) (a:Addr),rA = some a → own a.block = .free ∧ a.block ≠ ab:=fun hp a ha => by
    have h1:=HN5.out hp a ha
    have h2:=HBC.out.size
    have h3:=HABL.out
    exact ⟨H.out.free _ (by omega),by omega⟩
  refine fun hpd => ⟨((HR6.out.only8 (Nat.le_refl _) HO7.out (fun hp a ha e => ?_)).more HO7.out.size |>.only8 (Nat.le_refl _) hoF (fun hp a ha e => ?_)).more hoF.size,fun a ha => .inr (by have h1:=HN5.out hpd a ha;have:=HBC.out.size;have:=HBW.out.size;omega)⟩
  · have h1:=(fre hp a ha).1
    rw [h1] at e;exact e
  · exact (fre hp a ha).2 e
end Go.Proofs.YtheeiklgblcjfaaGreatDoor
end
section
namespace Go.Proofs.YtheeiklgblcjfaaGreatDoor
open Go.RowKit Go.Sort
set_option linter.unusedVariables false
set_option linter.unusedSimpArgs false
set_option linter.unusedVariables false
set_option linter.unusedSimpArgs false
set_option maxRecDepth 100000
theorem cell_same {w w':World} {b:Nat} (h:w'.heap[b]? = w.heap[b]?) (j:Nat):w'.cell? ⟨b,j,none⟩ = w.cell? ⟨b,j,none⟩:=by simp [World.cell?,h]
theorem fr8_on {c:Cfg} {rb:Nat → Nat} {k:Nat} (h:qing c k = true):fr8 c rb (k:Int) = some (.pointer (some ⟨rb k,0,none⟩)):=by
  unfold fr8
  rw [if_pos ⟨by omega,by rw [Int.toNat_natCast];exact h⟩,Int.toNat_natCast]
theorem dep_le {c:Cfg} (hac:acceptsB c = true) {k:Nat} (hk:k < c.chans.length):0 ≤ dep8 c k ∧ dep8 c k ≤ 8:=by
  obtain ⟨_,_,_,h1,h2,_⟩:=(accd_of hac).chan k hk
  exact ⟨h1,h2⟩
theorem q_row {w:World} {own:Nat → Tg8} {n0:Nat} {c:Cfg} {M:Md8} {A:Mx8} (h:MAt w own n0 c M A) (k:Nat) (hq:qing c k = true):PRow w n0 (A.rb k) (dep8 c k) (A.iv k) (A.qv k):=
  ⟨h.base _ (by rw [(h.row k hq (fun x => x)).1];simp),(h.row k hq (fun x => x)).2,(h.items k hq (fun x => x)).1⟩
set_option maxHeartbeats 3200000 in
theorem pass5f_b {w:World} {own:Nat → Tg8} {n0:Nat} {c:Cfg} {M:Md8} {A:Mx8} (h:MAt w own n0 c M A) (wx:CfgWf c) (lx:CfgFew c) (p:Nat) (hp:p < c.parts.length) (x:CV) (hxw:CWf x) (hxr:CRows w w.heap.size x) (hrl:x.rd.length ≤ 1000000) (hop:x.op = 5) (k:Nat) (hkK:portK c x.port = (k:Int)) (hk:k < c.chans.length) (hac:acceptsB c = true) (hpb:portB c x.port = true) (ht:M.t ≤ 100000) (hkd:kind8 c k = 2) (hlt:((M.qs k).length:Int) = dep8 c k):Calls Tryz.prog 42 #[.pointer (some ⟨A.b,0,none⟩),.pointer (some ⟨A.sg,A.so + p * 4,none⟩),.agg (cCells x).toArray] w (Goes8 w own n0 c (code8 2) (tick8 M) A):=by
  have HKD:=Lib.hid hkd;have HLT:=Lib.hid hlt
  clear hkd hlt
  obtain ⟨W1,HW1,hB1,hs1,hX1⟩:=box17 w x
  obtain ⟨W,HW,hB2,hs2,bx⟩:=box_new W1 #[.int .i64 0,.slice none 0 0,.bool false,.int .i64 0] 42
  obtain ⟨xb,hxb⟩:∃ n,n = w.heap.size:=⟨_,rfl⟩
  obtain ⟨ab,hab⟩:∃ n,n = W1.heap.size:=⟨_,rfl⟩
  have hX:=hX1.later hB2 hX1.lt
  have hA:=bx W (Below.refl _ _)
  rw [← hab] at hA
  rw [← hxb] at hX
  have hBW:=hB1.trans (hB2.mono hB1.size)
  have hW:=(MAt.still h hBW).1
  have hxl:xb < W.heap.size:=hX.lt
  have hbl:A.b < W.heap.size:=(Array.getElem?_eq_some_iff.1 hW.head.2).1
  have rg0:∀ rg:Regrown,(grow (redrawn W rg.d) rg.os).cell? ⟨A.b,0,none⟩ = some (.slice A.x.pa c.parts.length A.x.pc):=fun rg => cell_regrown (blk_at hW.head.2 (i:=0) rfl) rg.d rg.os
  have rg1:∀ rg:Regrown,(grow (redrawn W rg.d) rg.os).cell? ⟨A.b,1,none⟩ = some (.slice A.x.ca c.chans.length A.x.cc):=fun rg => cell_regrown (blk_at hW.head.2 (i:=1) rfl) rg.d rg.os
  have rg2:∀ rg:Regrown,(grow (redrawn W rg.d) rg.os).cell? ⟨A.b,2,none⟩ = some (.int .i64 c.len0):=fun rg => cell_regrown (blk_at hW.head.2 (i:=2) rfl) rg.d rg.os
  have rg3:∀ rg:Regrown,(grow (redrawn W rg.d) rg.os).cell? ⟨A.b,3,none⟩ = some (.slice A.x.aa c.win0.length A.x.ac):=fun rg => cell_regrown (blk_at hW.head.2 (i:=3) rfl) rg.d rg.os
  have rg4:∀ rg:Regrown,(grow (redrawn W rg.d) rg.os).cell? ⟨A.b,4,none⟩ = some (.int .i64 c.len1):=fun rg => cell_regrown (blk_at hW.head.2 (i:=4) rfl) rg.d rg.os
  have rg5:∀ rg:Regrown,(grow (redrawn W rg.d) rg.os).cell? ⟨A.b,5,none⟩ = some (.slice A.x.ba c.win1.length A.x.bc):=fun rg => cell_regrown (blk_at hW.head.2 (i:=5) rfl) rg.d rg.os
  have rgp:∀ rg:Regrown,(grow (redrawn W rg.d) rg.os).cell? ⟨xb,2,none⟩ = some (.int .i64 x.port):=fun rg => cell_regrown hX.b_port rg.d rg.os
  obtain ⟨P,hP⟩:∃ P,portP c x.port = P:=⟨_,rfl⟩
  obtain ⟨SS,hSS⟩:∃ S,portS c x.port = S:=⟨_,rfl⟩
  have HPR:=Lib.hid (fun (d:Nat) (os:Array Obj) => Calls.regrown_of (pport_is c A.x x.port (k:Int) P SS true (grow (redrawn W d) os) (hW.cfg.1.later (below_regrown W d os)) wx lx hxw.port ⟨hkK,hP,hSS,hpb⟩))
  have hbc:=Below.refl W.heap.size W
  have H:=Lib.hid h;have HBW:=Lib.hid hBW;have HX:=Lib.hid hX;have HA:=Lib.hid hA;have HXL:=Lib.hid hxl;have HBL:=Lib.hid hbl;have HMW:=Lib.hid hW;have HXB:=Lib.hid hxb;have HAB:=Lib.hid hab
  have HABL:Hid (w.heap.size ≤ ab ∧ ab < W.heap.size ∧ xb < ab):=Lib.hid ⟨by have:=hB1.size;omega,by omega,by omega⟩
  have HXR:=Lib.hid (hxr.below hBW |>.more hBW.size)
  have HK:=Lib.hid (And.intro hkK (And.intro hk (And.intro hac hpb)))
  have HWX:=Lib.hid wx;have HLX:=Lib.hid lx;have HXW:=Lib.hid hxw
  have HOP:=Lib.hid hop
  simp only [cfgCells] at HPR
  clear h hB1 hs1 hX1 hB2 hs2 bx hX hA hBW hW hxl hbl hP hSS hxr hkK hk hac hpb wx lx hxw hop hxb hab
  go_enter Tryz.func42,Tryz.ntmps42
  go_wp2_with (first | (rw [← HW1.out];(try simp only [← HXB.out])) | (rw [← HW.out];(try simp only [← HAB.out])))
  ((first | with_reducible refine wpList_on hbc ?_ | with_reducible refine wp_on hbc (by kernel_rfl) (by kernel_rfl) ?_);(repeat (go_big_quiet_step (first | with_reducible exact HPR.out _ _ | fail)));with_reducible refine wpQuiet_nil ?_;intro wc hbc)
  have HBC:=Lib.hid hbc
  have hXc:=HX.out.later hbc HXL.out
  have o1:wc.cell? ⟨xb,1,none⟩ = some (.int .i64 5):=by rw [← HOP.out];exact hXc.b_op
  clear hbc rg0 rg1 rg2 rg3 rg4 rg5 rgp HPR
  have hMc:=(MAt.still HMW.out HBC.out).1
  have m8:wc.cell? ⟨A.b,8,none⟩ = some (.map (some A.mr)):=blk_at hMc.head.2 (i:=8) rfl
  have r4:=hXc.b_rd
  have HBLC:=Lib.hid (Nat.lt_of_lt_of_le HBL.out HBC.out.size);have HXLC:=Lib.hid (Nat.lt_of_lt_of_le HXL.out HBC.out.size);have HABC:=Lib.hid (Nat.lt_of_lt_of_le HABL.out.2.1 HBC.out.size)
  have HAC:=Lib.hid ((HBC.out.block ab HABL.out.2.1).trans HA.out)
  have HMC:=Lib.hid hMc
  have HKW:=Lib.hid (show (Lit.int .i64 (k:Int)).wf = true from WalkArith.wf_i64 (by have:=HK.out.2.1;have:=HLX.out.2.1;omega))
  have HQG:=Lib.hid (show qing c k = true by unfold qing;rw [decide_eq_true HK.out.2.1,decide_eq_true HKD.out];rfl)
  have HLE:=Lib.hid (show (A.qv k).length = (M.qs k).length ∧ ((M.qs k).length:Int) = dep8 c k from ⟨by rw [← H.out.gq k,List.length_map],HLT.out⟩)
  have HDP:=Lib.hid (dep_le HK.out.2.2.1 HK.out.2.1)
  have HNQ:Hid (¬ (ab = A.rb k ∨ (A.iv k).ownBlock = some ab)):=Lib.hid (fun e => by
    rcases e with e | e
    · have h1:=mat_lt H.out (H.out.row k HQG.out (fun x => x)).1 (by simp);have:=HABL.out;omega
    · have h1:=((H.out.items k HQG.out (fun x => x)).1.lt ab e).2;have:=HABL.out;omega)
  have HMRL:=Lib.hid hMc.mr.2.lt
  have HNB:Hid (¬ (A.b = A.rb k ∨ (A.iv k).ownBlock = some A.b) ∧ ¬ (xb = A.rb k ∨ (A.iv k).ownBlock = some xb) ∧ ¬ (A.mr = A.rb k ∨ (A.iv k).ownBlock = some A.mr)):=Lib.hid (by
    have r1:=(H.out.row k HQG.out (fun x => x)).1
    have i1:=(H.out.items k HQG.out (fun x => x))
    have hh:=H.out.head.1
    have hr:=H.out.mr.1
    have hx:¬ xb < w.heap.size:=by have:=HXB.out;omega
    refine ⟨fun e => ?_,fun e => ?_,fun e => ?_⟩
    · rcases e with e | e
      · rw [e] at hh;rw [r1] at hh;cases hh
      · rw [i1.2 _ e] at hh;cases hh
    · rcases e with e | e
      · exact hx (by rw [e];exact mat_lt H.out r1 (by simp))
      · exact hx (i1.1.lt _ e).2
    · rcases e with e | e
      · rw [e] at hr;rw [r1] at hr;cases hr
      · rw [i1.2 _ e] at hr;cases hr)
  have HLK:=Lib.hid (fun (V:World) (hV:V.heap[A.mr]? = wc.heap[A.mr]?) => (show (Instr.lookup 84 (.map (some A.mr)) (.int .i64 (k:Int)) false).run Tryz.prog V = .ok (.pointer (some ⟨A.rb k,0,none⟩)) V from by
    have h1:=(HMC.out.mr.2.of hV).look (t:=84) (et:=92) Tryz.underlying3 Tryz.underlying84 (z:=.pointer none) (by kernel_rfl) HKW.out false
    rw [fr8_on HQG.out] at h1
    exact h1))
  have hrr:IntRowK .u32 wc.drew wc.drew.heap.size x.ra x.rd:=(HXR.out.rr.later8 HBC.out).later8 (Below.refl _ _).drew
  have HCL:=Lib.hid (cloneU_b x.ra x.rc x.rd wc.drew hrr HXR.out.rl.2.2 hrl)
  have HPUT:=Lib.hid (fun (V:World) (A5:Option Addr) (k5:Nat) (hV:Below wc.heap.size wc V) => pput_full n0 (A.rb k) (dep8 c k) (A.iv k) (A.qv k) ⟨x.rd,A5,k5,0⟩ V (q_row (MAt.still HMC.out hV).1 k HQG.out) (by have:=HLE.out;omega))
  clear hXc hMc hrr hrl
  go_wp2_with fail
  refine wp_region_till (fun W' => W'.heap[A.b]? = wc.heap[A.b]? ∧ W'.heap[xb]? = wc.heap[xb]? ∧ W'.heap[A.mr]? = wc.heap[A.mr]?) 13 (by kernel_rfl) (by exact ⟨rfl,rfl,rfl⟩) (fun hHeld => ?_)
  refine till_take (i:=0) rfl (by kernel_rfl) (by kernel_rfl) (by kernel_rfl) (fun _ _ _ h => h) (by kernel_rfl) (Or.inl ⟨by rfl,by intro w _;(go_simp <;> with_reducible rfl)⟩) (by assumption) ?_
  (try simp only [Act.put,List.setIfInBounds_toArray,List.set_cons_zero,List.set_cons_succ,List.getElem_toArray,List.getElem_cons_zero,List.getElem_cons_succ])
  refine till_take (i:=1) rfl (by kernel_rfl) (by kernel_rfl) (by kernel_rfl) (fun _ _ _ h => h) (by kernel_rfl) (Or.inl ⟨by rfl,by intro w _;(go_simp <;> with_reducible rfl)⟩) (by assumption) ?_
  (try simp only [Act.put,List.setIfInBounds_toArray,List.set_cons_zero,List.set_cons_succ,List.getElem_toArray,List.getElem_cons_zero,List.getElem_cons_succ])
  refine till_take (i:=2) rfl (by kernel_rfl) (by kernel_rfl) (by kernel_rfl) (fun _ _ _ h => h) (by kernel_rfl) (Or.inl ⟨by rfl,by intro w _;(go_simp <;> with_reducible rfl)⟩) (by assumption) ?_
  (try simp only [Act.put,List.setIfInBounds_toArray,List.set_cons_zero,List.set_cons_succ,List.getElem_toArray,List.getElem_cons_zero,List.getElem_cons_succ])
  refine till_load (i:=3) rfl (by kernel_rfl) (by kernel_rfl) (by kernel_rfl) (fun _ _ _ h => h) (by kernel_rfl) (by kernel_rfl) (by kernel_rfl) (Or.inl ⟨by rfl,by intro w hSw;(have z0:=(cell_same hSw.1 8).trans m8);(go_simp <;> with_reducible rfl)⟩) (by assumption) ?_
  (try simp only [Act.put,List.setIfInBounds_toArray,List.set_cons_zero,List.set_cons_succ,List.getElem_toArray,List.getElem_cons_zero,List.getElem_cons_succ])
  refine till_take (i:=4) rfl (by kernel_rfl) (by kernel_rfl) (by kernel_rfl) (fun _ _ _ h => h) (by kernel_rfl) (Or.inl ⟨by rfl,by intro w _;(go_simp <;> with_reducible rfl)⟩) (by assumption) ?_
  (try simp only [Act.put,List.setIfInBounds_toArray,List.set_cons_zero,List.set_cons_succ,List.getElem_toArray,List.getElem_cons_zero,List.getElem_cons_succ])
  refine till_load (i:=5) rfl (by kernel_rfl) (by kernel_rfl) (by kernel_rfl) (fun _ _ _ h => h) (by kernel_rfl) (by kernel_rfl) (by kernel_rfl) (Or.inl ⟨by rfl,by intro w hSw;(have zl:(Instr.lookup 84 (.map (some A.mr)) (.int .i64 (k:Int)) false).run Tryz.prog w = .ok (.pointer (some ⟨A.rb k,0,none⟩)) w:=HLK.out w hSw.2.2);(go_simp <;> with_reducible rfl)⟩) (by assumption) ?_
  (try simp only [Act.put,List.setIfInBounds_toArray,List.set_cons_zero,List.set_cons_succ,List.getElem_toArray,List.getElem_cons_zero,List.getElem_cons_succ])
  refine till_take (i:=6) rfl (by kernel_rfl) (by kernel_rfl) (by kernel_rfl) (fun _ _ _ h => h) (by kernel_rfl) (Or.inl ⟨by rfl,by intro w _;(go_simp <;> with_reducible rfl)⟩) (by assumption) ?_
  (try simp only [Act.put,List.setIfInBounds_toArray,List.set_cons_zero,List.set_cons_succ,List.getElem_toArray,List.getElem_cons_zero,List.getElem_cons_succ])
  refine till_take (i:=7) rfl (by kernel_rfl) (by kernel_rfl) (by kernel_rfl) (fun _ _ _ h => h) (by kernel_rfl) (Or.inl ⟨by rfl,by intro w _;(go_simp <;> with_reducible rfl)⟩) (by assumption) ?_
  (try simp only [Act.put,List.setIfInBounds_toArray,List.set_cons_zero,List.set_cons_succ,List.getElem_toArray,List.getElem_cons_zero,List.getElem_cons_succ])
  refine till_load (i:=8) rfl (by kernel_rfl) (by kernel_rfl) (by kernel_rfl) (fun _ _ _ h => h) (by kernel_rfl) (by kernel_rfl) (by kernel_rfl) (Or.inl ⟨by rfl,by intro w hSw;(have z1:=(cell_same hSw.2.1 4).trans r4);(go_simp <;> with_reducible rfl)⟩) (by assumption) ?_
  (try simp only [Act.put,List.setIfInBounds_toArray,List.set_cons_zero,List.set_cons_succ,List.getElem_toArray,List.getElem_cons_zero,List.getElem_cons_succ])
  refine till_one (i:=9) (by kernel_rfl) rfl (fun K hK => ?_)
  go_simp
  refine HCL.out.mono ?_
  rintro e w5 ⟨A5,k5,rfl,hr5,hn5,hq5,hb5o⟩
  (try go_wp2_with fail)
  have hb5:=(Below.refl wc.heap.size wc).drew.trans hb5o
  have HB5:=Lib.hid hb5;have HR5:=Lib.hid hr5;have HQ5:=Lib.hid hq5;have HN5:=Lib.hid hn5
  clear hr5 hn5 hq5 hb5 hb5o HCL hHeld
  refine hK.out _ _ (by exact ⟨HB5.out.block _ HBLC.out,HB5.out.block _ HXLC.out,HB5.out.block _ HMRL.out⟩) (fun hHeld => ?_)
  clear hK K
  (try simp only [Act.put,List.setIfInBounds_toArray,List.set_cons_zero,List.set_cons_succ,List.getElem_toArray,List.getElem_cons_zero,List.getElem_cons_succ])
  refine till_one (i:=10) (by kernel_rfl) rfl (fun K hK => ?_)
  go_simp
  refine hK.out _ _ (by exact ⟨HB5.out.block _ HBLC.out,HB5.out.block _ HXLC.out,HB5.out.block _ HMRL.out⟩) (fun hHeld => ?_)
  clear hK K
  (try simp only [Act.put,List.setIfInBounds_toArray,List.set_cons_zero,List.set_cons_succ,List.getElem_toArray,List.getElem_cons_zero,List.getElem_cons_succ])
  refine till_one (i:=11) (by kernel_rfl) rfl (fun K hK => ?_)
  go_simp
  refine (HPUT.out w5 A5 k5 HB5.out).mono ?_
  rintro e w6 ⟨rfl,hb6⟩
  have HB6:=Lib.hid (HB5.out.trans (hb6.mono HB5.out.size))
  clear hb6
  (try go_wp2_with fail)
  refine hK.out _ _ (by exact ⟨HB6.out.block _ HBLC.out,HB6.out.block _ HXLC.out,HB6.out.block _ HMRL.out⟩) (fun hHeld => ?_)
  clear hK K
  (try simp only [Act.put,List.setIfInBounds_toArray,List.set_cons_zero,List.set_cons_succ,List.getElem_toArray,List.getElem_cons_zero,List.getElem_cons_succ])
  refine till_one (i:=12) (by kernel_rfl) rfl (fun K hK => ?_)
  go_simp
  refine hK.out _ _ (by exact ⟨HB6.out.block _ HBLC.out,HB6.out.block _ HXLC.out,HB6.out.block _ HMRL.out⟩) (fun hHeld => ?_)
  clear hK K
  (try simp only [Act.put,List.setIfInBounds_toArray,List.set_cons_zero,List.set_cons_succ,List.getElem_toArray,List.getElem_cons_zero,List.getElem_cons_succ])
  refine till_last (by kernel_rfl) rfl (fun K hK => ?_)
  have hA6:=(HB6.out.block ab HABC.out).trans HAC.out
  rw [if_pos (by rfl)]
  have hth:=there_blk (W:=w6) hA6 (n:=(#[.int .i64 2,.slice none 0 0,.bool false,.int .i64 0]:Array Value).size) rfl
  have hsz4:(Tryz.prog.info? 42).map (·.size) = some (#[.int .i64 2,.slice none 0 0,.bool false,.int .i64 0]:Array Value).size:=ans8_size
  refine wp_store_mid _ _ _ rfl ab 0 #[.int .i64 2,.slice none 0 0,.bool false,.int .i64 0] rfl rfl hth hsz4 (by kernel_rfl) ?_
  have HTH:=Lib.hid hth
  clear hth hA6
  refine hK.out _ _ ?_
  clear hK K
  (try simp only [Act.put,List.setIfInBounds_toArray,List.set_cons_zero,List.set_cons_succ,List.getElem_toArray,List.getElem_cons_zero,List.getElem_cons_succ])
  refine till_done (by kernel_rfl) ?_ _
  go_wp2
  have hth:=HTH.out
  have hrg:=World.rangeAt_setCells_same (w6) (ab) 0 (#[.int .i64 2,.slice none 0 0,.bool false,.int .i64 0]:Array Value).toList (by simpa using hth)
  (try simp only [Exit.inBlock,Exit.then])
  refine bodyPost_ret (results_cell_mid rfl _ _ (ab) (#[.int .i64 2,.slice none 0 0,.bool false,.int .i64 0]:Array Value).toList _ rfl hrg Tryz.underlying42 rfl ans8_size) rfl ?_
  refine ⟨none,0,rfl,(fun h => by simp [code8] at h),⟨by simp [code8],by simp [maxLen],fun _ => rfl⟩,Turn8.tick H.out (below_put4 (HBW.out.trans ((HBC.out.trans (HB6.out.mono HBC.out.size)).mono HBW.out.size)) HABL.out.1 _)⟩
set_option maxHeartbeats 3200000 in
theorem pass5r_b {w:World} {own:Nat → Tg8} {n0:Nat} {c:Cfg} {M:Md8} {A:Mx8} (h:MAt w own n0 c M A) (wx:CfgWf c) (lx:CfgFew c) (p:Nat) (hp:p < c.parts.length) (x:CV) (hxw:CWf x) (hxr:CRows w w.heap.size x) (hrl:x.rd.length ≤ 1000000) (hop:x.op = 5) (k:Nat) (hkK:portK c x.port = (k:Int)) (hk:k < c.chans.length) (hac:acceptsB c = true) (hpb:portB c x.port = true) (ht:M.t ≤ 100000) (hkd:kind8 c k = 2) (hlt:((M.qs k).length:Int) < dep8 c k):Calls Tryz.prog 42 #[.pointer (some ⟨A.b,0,none⟩),.pointer (some ⟨A.sg,A.so + p * 4,none⟩),.agg (cCells x).toArray] w (Goes8 w own n0 c (ok8) ({ M with qs:=up8 M.qs k (M.qs k ++ [x.rd]),t:=M.t + 1 }) A):=by
  have HKD:=Lib.hid hkd;have HLT:=Lib.hid hlt
  clear hkd hlt
  obtain ⟨W1,HW1,hB1,hs1,hX1⟩:=box17 w x
  obtain ⟨W,HW,hB2,hs2,bx⟩:=box_new W1 #[.int .i64 0,.slice none 0 0,.bool false,.int .i64 0] 42
  obtain ⟨xb,hxb⟩:∃ n,n = w.heap.size:=⟨_,rfl⟩
  obtain ⟨ab,hab⟩:∃ n,n = W1.heap.size:=⟨_,rfl⟩
  have hX:=hX1.later hB2 hX1.lt
  have hA:=bx W (Below.refl _ _)
  rw [← hab] at hA
  rw [← hxb] at hX
  have hBW:=hB1.trans (hB2.mono hB1.size)
  have hW:=(MAt.still h hBW).1
  have hxl:xb < W.heap.size:=hX.lt
  have hbl:A.b < W.heap.size:=(Array.getElem?_eq_some_iff.1 hW.head.2).1
  have rg0:∀ rg:Regrown,(grow (redrawn W rg.d) rg.os).cell? ⟨A.b,0,none⟩ = some (.slice A.x.pa c.parts.length A.x.pc):=fun rg => cell_regrown (blk_at hW.head.2 (i:=0) rfl) rg.d rg.os
  have rg1:∀ rg:Regrown,(grow (redrawn W rg.d) rg.os).cell? ⟨A.b,1,none⟩ = some (.slice A.x.ca c.chans.length A.x.cc):=fun rg => cell_regrown (blk_at hW.head.2 (i:=1) rfl) rg.d rg.os
  have rg2:∀ rg:Regrown,(grow (redrawn W rg.d) rg.os).cell? ⟨A.b,2,none⟩ = some (.int .i64 c.len0):=fun rg => cell_regrown (blk_at hW.head.2 (i:=2) rfl) rg.d rg.os
  have rg3:∀ rg:Regrown,(grow (redrawn W rg.d) rg.os).cell? ⟨A.b,3,none⟩ = some (.slice A.x.aa c.win0.length A.x.ac):=fun rg => cell_regrown (blk_at hW.head.2 (i:=3) rfl) rg.d rg.os
  have rg4:∀ rg:Regrown,(grow (redrawn W rg.d) rg.os).cell? ⟨A.b,4,none⟩ = some (.int .i64 c.len1):=fun rg => cell_regrown (blk_at hW.head.2 (i:=4) rfl) rg.d rg.os
  have rg5:∀ rg:Regrown,(grow (redrawn W rg.d) rg.os).cell? ⟨A.b,5,none⟩ = some (.slice A.x.ba c.win1.length A.x.bc):=fun rg => cell_regrown (blk_at hW.head.2 (i:=5) rfl) rg.d rg.os
  have rgp:∀ rg:Regrown,(grow (redrawn W rg.d) rg.os).cell? ⟨xb,2,none⟩ = some (.int .i64 x.port):=fun rg => cell_regrown hX.b_port rg.d rg.os
  obtain ⟨P,hP⟩:∃ P,portP c x.port = P:=⟨_,rfl⟩
  obtain ⟨SS,hSS⟩:∃ S,portS c x.port = S:=⟨_,rfl⟩
  have HPR:=Lib.hid (fun (d:Nat) (os:Array Obj) => Calls.regrown_of (pport_is c A.x x.port (k:Int) P SS true (grow (redrawn W d) os) (hW.cfg.1.later (below_regrown W d os)) wx lx hxw.port ⟨hkK,hP,hSS,hpb⟩))
  have hbc:=Below.refl W.heap.size W
  have H:=Lib.hid h;have HBW:=Lib.hid hBW;have HX:=Lib.hid hX;have HA:=Lib.hid hA;have HXL:=Lib.hid hxl;have HBL:=Lib.hid hbl;have HMW:=Lib.hid hW;have HXB:=Lib.hid hxb;have HAB:=Lib.hid hab
  have HABL:Hid (w.heap.size ≤ ab ∧ ab < W.heap.size ∧ xb < ab):=Lib.hid ⟨by have:=hB1.size;omega,by omega,by omega⟩
  have HXR:=Lib.hid (hxr.below hBW |>.more hBW.size)
  have HK:=Lib.hid (And.intro hkK (And.intro hk (And.intro hac hpb)))
  have HWX:=Lib.hid wx;have HLX:=Lib.hid lx;have HXW:=Lib.hid hxw
  have HOP:=Lib.hid hop
  simp only [cfgCells] at HPR
  clear h hB1 hs1 hX1 hB2 hs2 bx hX hA hBW hW hxl hbl hP hSS hxr hkK hk hac hpb wx lx hxw hop hxb hab
  go_enter Tryz.func42,Tryz.ntmps42
  go_wp2_with (first | (rw [← HW1.out];(try simp only [← HXB.out])) | (rw [← HW.out];(try simp only [← HAB.out])))
  ((first | with_reducible refine wpList_on hbc ?_ | with_reducible refine wp_on hbc (by kernel_rfl) (by kernel_rfl) ?_);(repeat (go_big_quiet_step (first | with_reducible exact HPR.out _ _ | fail)));with_reducible refine wpQuiet_nil ?_;intro wc hbc)
  have HBC:=Lib.hid hbc
  have hXc:=HX.out.later hbc HXL.out
  have o1:wc.cell? ⟨xb,1,none⟩ = some (.int .i64 5):=by rw [← HOP.out];exact hXc.b_op
  clear hbc rg0 rg1 rg2 rg3 rg4 rg5 rgp HPR
  have hMc:=(MAt.still HMW.out HBC.out).1
  have m8:wc.cell? ⟨A.b,8,none⟩ = some (.map (some A.mr)):=blk_at hMc.head.2 (i:=8) rfl
  have r4:=hXc.b_rd
  have HBLC:=Lib.hid (Nat.lt_of_lt_of_le HBL.out HBC.out.size);have HXLC:=Lib.hid (Nat.lt_of_lt_of_le HXL.out HBC.out.size);have HABC:=Lib.hid (Nat.lt_of_lt_of_le HABL.out.2.1 HBC.out.size)
  have HAC:=Lib.hid ((HBC.out.block ab HABL.out.2.1).trans HA.out)
  have HMC:=Lib.hid hMc
  have HKW:=Lib.hid (show (Lit.int .i64 (k:Int)).wf = true from WalkArith.wf_i64 (by have:=HK.out.2.1;have:=HLX.out.2.1;omega))
  have HQG:=Lib.hid (show qing c k = true by unfold qing;rw [decide_eq_true HK.out.2.1,decide_eq_true HKD.out];rfl)
  have HLE:=Lib.hid (show (A.qv k).length = (M.qs k).length ∧ ((M.qs k).length:Int) < dep8 c k from ⟨by rw [← H.out.gq k,List.length_map],HLT.out⟩)
  have HDP:=Lib.hid (dep_le HK.out.2.2.1 HK.out.2.1)
  have HNQ:Hid (¬ (ab = A.rb k ∨ (A.iv k).ownBlock = some ab)):=Lib.hid (fun e => by
    rcases e with e | e
    · have h1:=mat_lt H.out (H.out.row k HQG.out (fun x => x)).1 (by simp);have:=HABL.out;omega
    · have h1:=((H.out.items k HQG.out (fun x => x)).1.lt ab e).2;have:=HABL.out;omega)
  have HMRL:=Lib.hid hMc.mr.2.lt
  have HNB:Hid (¬ (A.b = A.rb k ∨ (A.iv k).ownBlock = some A.b) ∧ ¬ (xb = A.rb k ∨ (A.iv k).ownBlock = some xb) ∧ ¬ (A.mr = A.rb k ∨ (A.iv k).ownBlock = some A.mr)):=Lib.hid (by
    have r1:=(H.out.row k HQG.out (fun x => x)).1
    have i1:=(H.out.items k HQG.out (fun x => x))
    have hh:=H.out.head.1
    have hr:=H.out.mr.1
    have hx:¬ xb < w.heap.size:=by have:=HXB.out;omega
    refine ⟨fun e => ?_,fun e => ?_,fun e => ?_⟩
    · rcases e with e | e
      · rw [e] at hh;rw [r1] at hh;cases hh
      · rw [i1.2 _ e] at hh;cases hh
    · rcases e with e | e
      · exact hx (by rw [e];exact mat_lt H.out r1 (by simp))
      · exact hx (i1.1.lt _ e).2
    · rcases e with e | e
      · rw [e] at hr;rw [r1] at hr;cases hr
      · rw [i1.2 _ e] at hr;cases hr)
  have HLK:=Lib.hid (fun (V:World) (hV:V.heap[A.mr]? = wc.heap[A.mr]?) => (show (Instr.lookup 84 (.map (some A.mr)) (.int .i64 (k:Int)) false).run Tryz.prog V = .ok (.pointer (some ⟨A.rb k,0,none⟩)) V from by
    have h1:=(HMC.out.mr.2.of hV).look (t:=84) (et:=92) Tryz.underlying3 Tryz.underlying84 (z:=.pointer none) (by kernel_rfl) HKW.out false
    rw [fr8_on HQG.out] at h1
    exact h1))
  have hrr:IntRowK .u32 wc.drew wc.drew.heap.size x.ra x.rd:=(HXR.out.rr.later8 HBC.out).later8 (Below.refl _ _).drew
  have HCL:=Lib.hid (cloneU_b x.ra x.rc x.rd wc.drew hrr HXR.out.rl.2.2 hrl)
  have HPUT:=Lib.hid (fun (V:World) (A5:Option Addr) (k5:Nat) (hV:Below wc.heap.size wc V) => pput_in n0 (A.rb k) (dep8 c k) (A.iv k) (A.qv k) ⟨x.rd,A5,k5,0⟩ V (q_row (MAt.still HMC.out hV).1 k HQG.out) (by have:=HLE.out;omega) (by have:=HDP.out;omega))
  clear hXc hMc hrr hrl
  go_wp2_with fail
  refine wp_region_till (fun W' => W'.heap[A.b]? = wc.heap[A.b]? ∧ W'.heap[xb]? = wc.heap[xb]? ∧ W'.heap[A.mr]? = wc.heap[A.mr]?) 13 (by kernel_rfl) (by exact ⟨rfl,rfl,rfl⟩) (fun hHeld => ?_)
  refine till_take (i:=0) rfl (by kernel_rfl) (by kernel_rfl) (by kernel_rfl) (fun _ _ _ h => h) (by kernel_rfl) (Or.inl ⟨by rfl,by intro w _;(go_simp <;> with_reducible rfl)⟩) (by assumption) ?_
  (try simp only [Act.put,List.setIfInBounds_toArray,List.set_cons_zero,List.set_cons_succ,List.getElem_toArray,List.getElem_cons_zero,List.getElem_cons_succ])
  refine till_take (i:=1) rfl (by kernel_rfl) (by kernel_rfl) (by kernel_rfl) (fun _ _ _ h => h) (by kernel_rfl) (Or.inl ⟨by rfl,by intro w _;(go_simp <;> with_reducible rfl)⟩) (by assumption) ?_
  (try simp only [Act.put,List.setIfInBounds_toArray,List.set_cons_zero,List.set_cons_succ,List.getElem_toArray,List.getElem_cons_zero,List.getElem_cons_succ])
  refine till_take (i:=2) rfl (by kernel_rfl) (by kernel_rfl) (by kernel_rfl) (fun _ _ _ h => h) (by kernel_rfl) (Or.inl ⟨by rfl,by intro w _;(go_simp <;> with_reducible rfl)⟩) (by assumption) ?_
  (try simp only [Act.put,List.setIfInBounds_toArray,List.set_cons_zero,List.set_cons_succ,List.getElem_toArray,List.getElem_cons_zero,List.getElem_cons_succ])
  refine till_load (i:=3) rfl (by kernel_rfl) (by kernel_rfl) (by kernel_rfl) (fun _ _ _ h => h) (by kernel_rfl) (by kernel_rfl) (by kernel_rfl) (Or.inl ⟨by rfl,by intro w hSw;(have z0:=(cell_same hSw.1 8).trans m8);(go_simp <;> with_reducible rfl)⟩) (by assumption) ?_
  (try simp only [Act.put,List.setIfInBounds_toArray,List.set_cons_zero,List.set_cons_succ,List.getElem_toArray,List.getElem_cons_zero,List.getElem_cons_succ])
  refine till_take (i:=4) rfl (by kernel_rfl) (by kernel_rfl) (by kernel_rfl) (fun _ _ _ h => h) (by kernel_rfl) (Or.inl ⟨by rfl,by intro w _;(go_simp <;> with_reducible rfl)⟩) (by assumption) ?_
  (try simp only [Act.put,List.setIfInBounds_toArray,List.set_cons_zero,List.set_cons_succ,List.getElem_toArray,List.getElem_cons_zero,List.getElem_cons_succ])
  refine till_load (i:=5) rfl (by kernel_rfl) (by kernel_rfl) (by kernel_rfl) (fun _ _ _ h => h) (by kernel_rfl) (by kernel_rfl) (by kernel_rfl) (Or.inl ⟨by rfl,by intro w hSw;(have zl:(Instr.lookup 84 (.map (some A.mr)) (.int .i64 (k:Int)) false).run Tryz.prog w = .ok (.pointer (some ⟨A.rb k,0,none⟩)) w:=HLK.out w hSw.2.2);(go_simp <;> with_reducible rfl)⟩) (by assumption) ?_
  (try simp only [Act.put,List.setIfInBounds_toArray,List.set_cons_zero,List.set_cons_succ,List.getElem_toArray,List.getElem_cons_zero,List.getElem_cons_succ])
  refine till_take (i:=6) rfl (by kernel_rfl) (by kernel_rfl) (by kernel_rfl) (fun _ _ _ h => h) (by kernel_rfl) (Or.inl ⟨by rfl,by intro w _;(go_simp <;> with_reducible rfl)⟩) (by assumption) ?_
  (try simp only [Act.put,List.setIfInBounds_toArray,List.set_cons_zero,List.set_cons_succ,List.getElem_toArray,List.getElem_cons_zero,List.getElem_cons_succ])
  refine till_take (i:=7) rfl (by kernel_rfl) (by kernel_rfl) (by kernel_rfl) (fun _ _ _ h => h) (by kernel_rfl) (Or.inl ⟨by rfl,by intro w _;(go_simp <;> with_reducible rfl)⟩) (by assumption) ?_
  (try simp only [Act.put,List.setIfInBounds_toArray,List.set_cons_zero,List.set_cons_succ,List.getElem_toArray,List.getElem_cons_zero,List.getElem_cons_succ])
  refine till_load (i:=8) rfl (by kernel_rfl) (by kernel_rfl) (by kernel_rfl) (fun _ _ _ h => h) (by kernel_rfl) (by kernel_rfl) (by kernel_rfl) (Or.inl ⟨by rfl,by intro w hSw;(have z1:=(cell_same hSw.2.1 4).trans r4);(go_simp <;> with_reducible rfl)⟩) (by assumption) ?_
  (try simp only [Act.put,List.setIfInBounds_toArray,List.set_cons_zero,List.set_cons_succ,List.getElem_toArray,List.getElem_cons_zero,List.getElem_cons_succ])
  refine till_one (i:=9) (by kernel_rfl) rfl (fun K hK => ?_)
  go_simp
  refine HCL.out.mono ?_
  rintro e w5 ⟨A5,k5,rfl,hr5,hn5,hq5,hb5o⟩
  (try go_wp2_with fail)
  have hb5:=(Below.refl wc.heap.size wc).drew.trans hb5o
  have HB5:=Lib.hid hb5;have HR5:=Lib.hid hr5;have HQ5:=Lib.hid hq5;have HN5:=Lib.hid hn5
  clear hr5 hn5 hq5 hb5 hb5o HCL hHeld
  refine hK.out _ _ (by exact ⟨HB5.out.block _ HBLC.out,HB5.out.block _ HXLC.out,HB5.out.block _ HMRL.out⟩) (fun hHeld => ?_)
  clear hK K
  (try simp only [Act.put,List.setIfInBounds_toArray,List.set_cons_zero,List.set_cons_succ,List.getElem_toArray,List.getElem_cons_zero,List.getElem_cons_succ])
  refine till_one (i:=10) (by kernel_rfl) rfl (fun K hK => ?_)
  go_simp
  refine hK.out _ _ (by exact ⟨HB5.out.block _ HBLC.out,HB5.out.block _ HXLC.out,HB5.out.block _ HMRL.out⟩) (fun hHeld => ?_)
  clear hK K
  (try simp only [Act.put,List.setIfInBounds_toArray,List.set_cons_zero,List.set_cons_succ,List.getElem_toArray,List.getElem_cons_zero,List.getElem_cons_succ])
  refine till_one (i:=11) (by kernel_rfl) rfl (fun K hK => ?_)
  go_simp
  refine (HPUT.out w5 A5 k5 HB5.out).mono ?_
  rintro e w6 ⟨v6,rfl,hP6,hM6⟩
  have HP6:=Lib.hid hP6;have HM6:=Lib.hid hM6
  clear hP6 hM6
  (try go_wp2_with fail)
  refine hK.out _ _ (by exact ⟨(HM6.out.1.block _ (Nat.lt_of_lt_of_le HBLC.out HB5.out.size) HNB.out.1).trans (HB5.out.block _ HBLC.out),(HM6.out.1.block _ (Nat.lt_of_lt_of_le HXLC.out HB5.out.size) HNB.out.2.1).trans (HB5.out.block _ HXLC.out),(HM6.out.1.block _ (Nat.lt_of_lt_of_le HMRL.out HB5.out.size) HNB.out.2.2).trans (HB5.out.block _ HMRL.out)⟩) (fun hHeld => ?_)
  clear hK K
  (try simp only [Act.put,List.setIfInBounds_toArray,List.set_cons_zero,List.set_cons_succ,List.getElem_toArray,List.getElem_cons_zero,List.getElem_cons_succ])
  refine till_one (i:=12) (by kernel_rfl) rfl (fun K hK => ?_)
  go_simp
  refine hK.out _ _ (by exact ⟨(HM6.out.1.block _ (Nat.lt_of_lt_of_le HBLC.out HB5.out.size) HNB.out.1).trans (HB5.out.block _ HBLC.out),(HM6.out.1.block _ (Nat.lt_of_lt_of_le HXLC.out HB5.out.size) HNB.out.2.1).trans (HB5.out.block _ HXLC.out),(HM6.out.1.block _ (Nat.lt_of_lt_of_le HMRL.out HB5.out.size) HNB.out.2.2).trans (HB5.out.block _ HMRL.out)⟩) (fun hHeld => ?_)
  clear hK K
  (try simp only [Act.put,List.setIfInBounds_toArray,List.set_cons_zero,List.set_cons_succ,List.getElem_toArray,List.getElem_cons_zero,List.getElem_cons_succ])
  refine till_last (by kernel_rfl) rfl (fun K hK => ?_)
  have hA6:w6.heap[ab]? = some (.cells #[.int .i64 0,.slice none 0 0,.bool false,.int .i64 0] 42 (0,0)):=(HM6.out.1.block ab (Nat.lt_of_lt_of_le HABC.out HB5.out.size) HNQ.out).trans ((HB5.out.block ab HABC.out).trans HAC.out)
  rw [if_pos (by rfl)]
  have hth:=there_blk (W:=w6) hA6 (n:=(#[.int .i64 0,.slice none 0 0,.bool false,.int .i64 0]:Array Value).size) rfl
  have hsz4:(Tryz.prog.info? 42).map (·.size) = some (#[.int .i64 0,.slice none 0 0,.bool false,.int .i64 0]:Array Value).size:=ans8_size
  refine wp_store_mid _ _ _ rfl ab 0 #[.int .i64 0,.slice none 0 0,.bool false,.int .i64 0] rfl rfl hth hsz4 (by kernel_rfl) ?_
  have HTH:=Lib.hid hth
  clear hth hA6
  refine hK.out _ _ ?_
  clear hK K
  (try simp only [Act.put,List.setIfInBounds_toArray,List.set_cons_zero,List.set_cons_succ,List.getElem_toArray,List.getElem_cons_zero,List.getElem_cons_succ])
  refine till_done (by kernel_rfl) ?_ _
  go_wp2
  have hth:=HTH.out
  have hrg:=World.rangeAt_setCells_same (w6) (ab) 0 (#[.int .i64 0,.slice none 0 0,.bool false,.int .i64 0]:Array Value).toList (by simpa using hth)
  (try simp only [Exit.inBlock,Exit.then])
  refine bodyPost_ret (results_cell_mid rfl _ _ (ab) (#[.int .i64 0,.slice none 0 0,.bool false,.int .i64 0]:Array Value).toList _ rfl hrg Tryz.underlying42 rfl ans8_size) rfl ?_
  have hbw5:Below w.heap.size w w5:=HBW.out.trans ((HBC.out.trans (HB5.out.mono HBC.out.size)).mono HBW.out.size)
  have hoF:Only (fun j => j = ab) w6 (w6.setCells ab 0 (#[.int .i64 0,.slice none 0 0,.bool false,.int .i64 0]:Array Value).toList):=Only.sets (S:=fun j => j = ab) rfl _ 0 (Only.refl _ _)
  have ho5:Only (fun j => j = A.rb k ∨ (A.iv k).ownBlock = some j) w w6:=(Only.of_below hbw5).trans HM6.out.1
  have hoW:Only (fun j => j = A.rb k ∨ (A.iv k).ownBlock = some j) w (w6.setCells ab 0 (#[.int .i64 0,.slice none 0 0,.bool false,.int .i64 0]:Array Value).toList):=⟨hoF.os.trans ho5.os,hoF.tape.trans ho5.tape,hoF.output.trans ho5.output,Nat.le_trans ho5.size hoF.size,fun j hj hn => (hoF.block j (Nat.lt_of_lt_of_le hj ho5.size) (by have:=HABL.out;omega)).trans (ho5.block j hj hn)⟩
  have hq:=HQG.out
  have hnw:∀ j,w.heap.size ≤ j → ¬ (j = A.rb k ∨ (A.iv k).ownBlock = some j):=fun j hj e => by
    rcases e with e | e
    · have h1:=mat_lt H.out (H.out.row k hq (fun x => x)).1 (by simp);omega
    · have h1:=((H.out.items k hq (fun x => x)).1.lt j e).2;omega
  have hn5:0 < x.rd.length → ∀ a,A5 = some a → w.heap.size ≤ a.block ∧ ab < a.block:=fun hp a ha => by have h1:=HN5.out hp a ha;have h2:wc.drew.heap.size = wc.heap.size:=rfl;have:=HBC.out.size;have:=HBW.out.size;have:=HABL.out;omega
  have hrow6:IntRowK .u32 w6 w6.heap.size A5 x.rd:=(HR5.out.only8 (Nat.le_refl _) HM6.out.1 (fun hp a ha e => hnw _ (hn5 hp a ha).1 (e.imp id id))).more HM6.out.1.size
  have hrowF:IntRowK .u32 (w6.setCells ab 0 (#[.int .i64 0,.slice none 0 0,.bool false,.int .i64 0]:Array Value).toList) (w6.setCells ab 0 (#[.int .i64 0,.slice none 0 0,.bool false,.int .i64 0]:Array Value).toList).heap.size A5 x.rd:=(hrow6.only8 (Nat.le_refl _) hoF (fun hp a ha e => by have:=(hn5 hp a ha).2;omega)).more hoF.size
  refine ⟨none,0,rfl,(fun h => by simp [ok8] at h),⟨by simp [ok8],by simp [maxLen],fun _ => rfl⟩,?_⟩
  have hrbne:A.rb k ≠ ab:=fun e => by have h1:=mat_lt H.out (H.out.row k hq (fun x => x)).1 (by simp);have:=HABL.out;omega
  have hv6:∀ j,v6.ownBlock = some j → (A.iv k).ownBlock = some j ∨ w5.heap.size ≤ j:=HM6.out.2
  have hvne:∀ j,v6.ownBlock = some j → j ≠ ab:=fun j e e2 => by
    rcases hv6 j e with h1 | h1
    · exact hnw j (by have:=HABL.out;omega) (.inr h1)
    · have:=HABC.out;have:=HB5.out.size;omega
  refine send_turn H.out k hq ⟨x.rd,A5,k5,0⟩ v6 hoW ((hoF.block _ HP6.out.lt hrbne).trans HP6.out.head) (HP6.out.row.kept hoF (fun j e => hvne j e)) (fun j e => (hv6 j e).imp id (fun h1 => by have:=hbw5.size;omega)) hrowF HQ5.out (fun hp a ha => (hn5 hp a ha).1) (fun hp a ha e => ?_) rfl HLT.out
  rcases hv6 _ e with h1 | h1
  · exact hnw _ (hn5 hp a ha).1 (.inr h1)
  · have:=row8_lt HR5.out hp a ha;omega
end Go.Proofs.YtheeiklgblcjfaaGreatDoor
end
