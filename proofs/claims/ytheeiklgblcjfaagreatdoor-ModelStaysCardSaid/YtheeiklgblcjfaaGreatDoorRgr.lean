/- Texts of the ring, joined, what is used of them. No condition but those in the statements. -/
import Derived.BigQuiet
import Derived.BigRegion
import Derived.Deep.MidRow
import Derived.Deep.RegionHeld3
import Derived.Deep.Upon
import Derived.IntWalk
import Derived.Test.YtheeiklgblcjfaaGreatDoorRMDo
namespace Go.Proofs.YtheeiklgblcjfaaGreatDoor
open Go.RowKit Go.Sort
set_option linter.unusedVariables false
set_option linter.unusedSimpArgs false
set_option linter.unusedVariables false
set_option linter.unusedSimpArgs false
set_option maxRecDepth 100000
set_option maxHeartbeats 6400000 in
theorem do_out {w:World} {own:Nat → Tg8} {n0:Nat} {c:Cfg} {M:Md8} {A:Mx8} (h:MAt w own n0 c M A) (wx:CfgWf c) (lx:CfgFew c) (x:CV) (hxw:CWf x) (hxr:CRows w w.heap.size x) (hrl:x.rd.length ≤ 1000000) (hac:acceptsB c = true) (ht:M.t ≤ 100000) (hT:TabsAt w) (hxm:0 < x.rd.length → ∀ a,x.ra = some a → ¬ (own a.block).mut) (hpo:x.part < 0 ∨ (c.parts.length:Int) ≤ x.part) (R:An8) (M':Md8) (hR:do8 c M x = (R,M')):Calls Tryz.prog 12 #[.pointer (some ⟨A.b,0,none⟩),.agg (cCells x).toArray] w (Goes8 w own n0 c R M' A):=by
  have HRR:=Lib.hid hR
  have HZ4':ref8 c M x = 4:=refused_out (.inr hpo)
  obtain ⟨z,hz⟩:∃ z:Int,z = 4:=⟨_,rfl⟩
  have hz0:z ≠ 0:=by omega
  have HZ0:Hid (ref8 c M x = z):=Lib.hid (by rw [hz];exact HZ4')
  have HZ4:Hid (refusedN c x.part false [] x.op x.port x.addr x.rd.length = z):=Lib.hid (by rw [hz];exact refused_out (.inr hpo))
  clear hR HZ4' hz
  obtain ⟨W1,HW1,hB1,hs1,hX1⟩:=box17 w x
  obtain ⟨W2,HW2',hB2,hs2,bx⟩:=box_new W1 #[.int .i64 0,.slice none 0 0,.bool false,.int .i64 0] 42
  obtain ⟨xb,hxb⟩:∃ n,n = w.heap.size:=⟨_,rfl⟩
  obtain ⟨ab,hab⟩:∃ n,n = W1.heap.size:=⟨_,rfl⟩
  have hX2:=hX1.later hB2 hX1.lt
  have bx':∀ V:World,Below W2.heap.size W2 V → V.heap[ab]? = some (.cells #[.int .i64 0,.slice none 0 0,.bool false,.int .i64 0] 42 (0,0)):=fun V hV => by rw [hab];exact bx V hV
  rw [← hxb] at hX2
  have hBW2:=hB1.trans (hB2.mono hB1.size)
  have HW2:=Lib.hid (MAt.still h hBW2).1
  have HBW2:=Lib.hid hBW2
  have x0:W2.cell? ⟨xb,0,none⟩ = some (.int .i64 x.part):=hX2.b_part
  have x1:=hX2.b_op;have x2:=hX2.b_port;have x3:=hX2.b_addr;have x4:=hX2.b_rd
  have HST:=Lib.hid (fun (V:World) (hV:Below W2.heap.size W2 V) => stands_out (MAt.still HW2.out hV).1 x.part hpo)
  have HXB:=Lib.hid hxb;have HAB:=Lib.hid hab
  have hxl:xb < W2.heap.size:=hX2.lt
  have HXL2:=Lib.hid hxl
  have HAB0:Hid (w.heap.size ≤ ab ∧ ab < W2.heap.size):=Lib.hid ⟨by have:=hB1.size;omega,by omega⟩
  have H:=Lib.hid h
  clear hxb hab hX1 hX2 hBW2 hB1 hB2 hs1 hs2 bx
  go_enter Tryz.func12,Tryz.ntmps12
  go_wp2_with (first | (rw [← HW1.out];(try simp only [← HXB.out])) | (rw [← HW2'.out];(try simp only [← HAB.out])))
  refine wp_region_till (fun W' => Below W2.heap.size W2 W') 8 (by kernel_rfl) (by exact (Below.refl _ _).drew) (fun hHeld => ?_)
  refine till_take (i:=0) rfl (by kernel_rfl) (by kernel_rfl) (by kernel_rfl) (fun _ _ _ h => h) (by kernel_rfl) (Or.inl ⟨by rfl,by intro w _;(go_simp <;> with_reducible rfl)⟩) (by assumption) ?_
  (try simp only [Act.put,List.setIfInBounds_toArray,List.set_cons_zero,List.set_cons_succ,List.getElem_toArray,List.getElem_cons_zero,List.getElem_cons_succ])
  refine till_take (i:=1) rfl (by kernel_rfl) (by kernel_rfl) (by kernel_rfl) (fun _ _ _ h => h) (by kernel_rfl) (Or.inl ⟨by rfl,by intro w _;(go_simp <;> with_reducible rfl)⟩) (by assumption) ?_
  (try simp only [Act.put,List.setIfInBounds_toArray,List.set_cons_zero,List.set_cons_succ,List.getElem_toArray,List.getElem_cons_zero,List.getElem_cons_succ])
  refine till_load (i:=2) rfl (by kernel_rfl) (by kernel_rfl) (by kernel_rfl) (fun _ _ _ h => h) (by kernel_rfl) (by kernel_rfl) (by kernel_rfl) (Or.inl ⟨by rfl,by intro w hSw;(have z0:=(hSw.cell (p:=⟨xb,0,none⟩) HXL2.out).trans x0);(go_simp <;> with_reducible rfl)⟩) (by assumption) ?_
  (try simp only [Act.put,List.setIfInBounds_toArray,List.set_cons_zero,List.set_cons_succ,List.getElem_toArray,List.getElem_cons_zero,List.getElem_cons_succ])
  refine till_take (i:=4) rfl (by kernel_rfl) (by kernel_rfl) (by kernel_rfl) (fun _ _ _ h => h) (by kernel_rfl) (Or.inl ⟨by rfl,by intro w _;(go_simp <;> with_reducible rfl)⟩) (by assumption) ?_
  (try simp only [Act.put,List.setIfInBounds_toArray,List.set_cons_zero,List.set_cons_succ,List.getElem_toArray,List.getElem_cons_zero,List.getElem_cons_succ])
  refine till_load (i:=5) rfl (by kernel_rfl) (by kernel_rfl) (by kernel_rfl) (fun _ _ _ h => h) (by kernel_rfl) (by kernel_rfl) (by kernel_rfl) (Or.inl ⟨by rfl,by intro w hSw;(have z1:=(hSw.cell (p:=⟨xb,1,none⟩) HXL2.out).trans x1;have z2:=(hSw.cell (p:=⟨xb,2,none⟩) HXL2.out).trans x2;have z3:=(hSw.cell (p:=⟨xb,3,none⟩) HXL2.out).trans x3;have z4:=(hSw.cell (p:=⟨xb,4,none⟩) HXL2.out).trans x4);(go_simp <;> with_reducible rfl)⟩) (by assumption) ?_
  (try simp only [Act.put,List.setIfInBounds_toArray,List.set_cons_zero,List.set_cons_succ,List.getElem_toArray,List.getElem_cons_zero,List.getElem_cons_succ])
  refine till_two (i:=3) (j:=6) (by kernel_rfl) rfl rfl (fun K hK => ?_) (fun K hK => ?_)
  · go_simp
    refine (HST.out _ ?_).mono ?_
    · (first | exact (Below.refl _ _).drew | exact Below.refl _ _ | exact ((Below.refl _ _).alloc (Nat.le_refl _) _).drew | exact ((Below.refl _ _).alloc (Nat.le_refl _) _) | exact ((((Below.refl _ _).alloc (Nat.le_refl _) _).alloc (by simp) _)) | exact ((((Below.refl _ _).alloc (Nat.le_refl _) _).alloc (by simp) _)).drew)
    rintro e w5 ⟨rfl,rfl⟩
    (try go_wp2_with fail)
    refine hK.out _ _ (by (first | exact (Below.refl _ _).drew | exact Below.refl _ _ | exact ((Below.refl _ _).alloc (Nat.le_refl _) _).drew | exact ((Below.refl _ _).alloc (Nat.le_refl _) _) | exact ((((Below.refl _ _).alloc (Nat.le_refl _) _).alloc (by simp) _)) | exact ((((Below.refl _ _).alloc (Nat.le_refl _) _).alloc (by simp) _)).drew)) (fun hHeld => ?_)
    clear hK K
    (try simp only [Act.put,List.setIfInBounds_toArray,List.set_cons_zero,List.set_cons_succ,List.getElem_toArray,List.getElem_cons_zero,List.getElem_cons_succ])
    refine till_one (i:=6) (by kernel_rfl) rfl (fun K hK => ?_)
    go_simp
    refine hK.out _ _ (by (first | exact (Below.refl _ _).drew | exact Below.refl _ _ | exact ((Below.refl _ _).alloc (Nat.le_refl _) _).drew | exact ((Below.refl _ _).alloc (Nat.le_refl _) _) | exact ((((Below.refl _ _).alloc (Nat.le_refl _) _).alloc (by simp) _)) | exact ((((Below.refl _ _).alloc (Nat.le_refl _) _).alloc (by simp) _)).drew)) (fun hHeld => ?_)
    clear hK K
    (try simp only [Act.put,List.setIfInBounds_toArray,List.set_cons_zero,List.set_cons_succ,List.getElem_toArray,List.getElem_cons_zero,List.getElem_cons_succ])
    refine till_take (i:=7) rfl (by kernel_rfl) (by kernel_rfl) (by kernel_rfl) (fun _ _ _ h => h) (by kernel_rfl) (Or.inl ⟨by rfl,by intro w _;(go_simp <;> with_reducible rfl)⟩) (by assumption) ?_
    (try simp only [Act.put,List.setIfInBounds_toArray,List.set_cons_zero,List.set_cons_succ,List.getElem_toArray,List.getElem_cons_zero,List.getElem_cons_succ])
    refine till_last (by kernel_rfl) rfl (fun K hK => ?_)
    go_simp
    refine hK.out _ _ ?_
    clear hK K
    (try simp only [Act.put,List.setIfInBounds_toArray,List.set_cons_zero,List.set_cons_succ,List.getElem_toArray,List.getElem_cons_zero,List.getElem_cons_succ])
    refine till_done (by kernel_rfl) ?_ _
    obtain ⟨V,hV⟩:∃ u,Hid (u = (W2.alloc (.cells #[.int .i64 x.part,.bool false,.slice none 0 0,.slice none 0 0] 59)).alloc (.cells #[.int .i64 x.op,.int .i64 x.port,.int .u64 x.addr,.slice x.ra x.rd.length x.rc] 39)):=⟨_,rfl⟩
    have hbV:Below W2.heap.size W2 V:=by rw [hV.out];exact ((Below.refl _ _).alloc (Nat.le_refl _) _).alloc (by simp) _
    have hsB:V.heap[W2.heap.size]? = some (.cells #[.int .i64 x.part,.bool false,.slice none 0 0,.slice none 0 0] 59 (0,0)):=by rw [hV.out,Below.heap_alloc _ _ _ (by simp)];exact heap_new_at10 _ _ rfl
    have hrB:V.heap[W2.heap.size + 1]? = some (.cells #[.int .i64 x.op,.int .i64 x.port,.int .u64 x.addr,.slice x.ra x.rd.length x.rc] 39 (0,0)):=by rw [hV.out];exact heap_new_at10 _ _ (by simp)
    (try simp only [World.size_alloc])
    rw [← hV.out]
    have hA:=bx' V hbV
    have HBW:=Lib.hid (HBW2.out.trans (hbV.mono HBW2.out.size))
    have HMW:=Lib.hid (MAt.still HW2.out hbV).1
    have HA:=Lib.hid hA
    have HABL:Hid (w.heap.size ≤ ab ∧ ab < V.heap.size):=Lib.hid ⟨HAB0.out.1,by have:=hbV.size;have:=HAB0.out.2;omega⟩
    have HRF:=Lib.hid (fun (d:Nat) (os:Array Obj) => Calls.regrown_of (prefused_is c A.x x.part false [] none 0 none 0 0 x.op x.port x.addr x.ra x.rd.length x.rc z (grow (redrawn V d) os) (HMW.out.cfg.1.later (below_regrown V d os)) wx lx ⟨fun h => absurd h (by simp),by simp⟩ hxw.port hxw.addr hrl (hT.later (HBW.out.trans ((below_regrown V d os).mono HBW.out.size))) HZ4.out))
    have rg0:∀ rg:Regrown,(grow (redrawn V rg.d) rg.os).cell? ⟨A.b,0,none⟩ = some (.slice A.x.pa c.parts.length A.x.pc):=fun rg => cell_regrown (blk_at HMW.out.head.2 (i:=0) rfl) rg.d rg.os
    have rg1:∀ rg:Regrown,(grow (redrawn V rg.d) rg.os).cell? ⟨A.b,1,none⟩ = some (.slice A.x.ca c.chans.length A.x.cc):=fun rg => cell_regrown (blk_at HMW.out.head.2 (i:=1) rfl) rg.d rg.os
    have rg2:∀ rg:Regrown,(grow (redrawn V rg.d) rg.os).cell? ⟨A.b,2,none⟩ = some (.int .i64 c.len0):=fun rg => cell_regrown (blk_at HMW.out.head.2 (i:=2) rfl) rg.d rg.os
    have rg3:∀ rg:Regrown,(grow (redrawn V rg.d) rg.os).cell? ⟨A.b,3,none⟩ = some (.slice A.x.aa c.win0.length A.x.ac):=fun rg => cell_regrown (blk_at HMW.out.head.2 (i:=3) rfl) rg.d rg.os
    have rg4:∀ rg:Regrown,(grow (redrawn V rg.d) rg.os).cell? ⟨A.b,4,none⟩ = some (.int .i64 c.len1):=fun rg => cell_regrown (blk_at HMW.out.head.2 (i:=4) rfl) rg.d rg.os
    have rg5:∀ rg:Regrown,(grow (redrawn V rg.d) rg.os).cell? ⟨A.b,5,none⟩ = some (.slice A.x.ba c.win1.length A.x.bc):=fun rg => cell_regrown (blk_at HMW.out.head.2 (i:=5) rfl) rg.d rg.os
    have rs0:∀ rg:Regrown,(grow (redrawn V rg.d) rg.os).cell? ⟨W2.heap.size,0,none⟩ = some (.int .i64 x.part):=fun rg => cell_regrown (blk_at hsB (i:=0) rfl) rg.d rg.os
    have rs1:∀ rg:Regrown,(grow (redrawn V rg.d) rg.os).cell? ⟨W2.heap.size,1,none⟩ = some (.bool false):=fun rg => cell_regrown (blk_at hsB (i:=1) rfl) rg.d rg.os
    have rs2:∀ rg:Regrown,(grow (redrawn V rg.d) rg.os).cell? ⟨W2.heap.size,2,none⟩ = some (.slice none 0 0):=fun rg => cell_regrown (blk_at hsB (i:=2) rfl) rg.d rg.os
    have rs3:∀ rg:Regrown,(grow (redrawn V rg.d) rg.os).cell? ⟨W2.heap.size,3,none⟩ = some (.slice none 0 0):=fun rg => cell_regrown (blk_at hsB (i:=3) rfl) rg.d rg.os
    have rq0:∀ rg:Regrown,(grow (redrawn V rg.d) rg.os).cell? ⟨(W2.heap.size + 1),0,none⟩ = some (.int .i64 x.op):=fun rg => cell_regrown (blk_at hrB (i:=0) rfl) rg.d rg.os
    have rq1:∀ rg:Regrown,(grow (redrawn V rg.d) rg.os).cell? ⟨(W2.heap.size + 1),1,none⟩ = some (.int .i64 x.port):=fun rg => cell_regrown (blk_at hrB (i:=1) rfl) rg.d rg.os
    have rq2:∀ rg:Regrown,(grow (redrawn V rg.d) rg.os).cell? ⟨(W2.heap.size + 1),2,none⟩ = some (.int .u64 x.addr):=fun rg => cell_regrown (blk_at hrB (i:=2) rfl) rg.d rg.os
    have rq3:∀ rg:Regrown,(grow (redrawn V rg.d) rg.os).cell? ⟨(W2.heap.size + 1),3,none⟩ = some (.slice x.ra x.rd.length x.rc):=fun rg => cell_regrown (blk_at hrB (i:=3) rfl) rg.d rg.os
    have hbc:Below V.heap.size V V.drew:=(Below.refl _ _).drew
    simp only [cfgCells,List.length_nil] at HRF
    clear hbV hsB hrB hA hV
    go_wp2_with fail
    ((first | with_reducible refine wpList_on hbc ?_ | with_reducible refine wp_on hbc (by kernel_rfl) (by kernel_rfl) ?_);(repeat (go_big_quiet_step (first | with_reducible exact HRF.out _ _ | fail)));with_reducible refine wpQuiet_nil ?_;intro wc hbc)
    have HBC:=Lib.hid hbc
    clear hbc HRF rg0 rg1 rg2 rg3 rg4 rg5 rs0 rs1 rs2 rs3 rq0 rq1 rq2 rq3
    have hzb:(z != 0) = true:=by simp [hz0]
    have HEQ:=Lib.hid (HRR.out.symm.trans (do8_no HZ0.out hz0))
    clear hz0
    have hAc:=(HBC.out.block ab (by have:=HABL.out;omega)).trans HA.out
    have hth:=there_blk (W:=wc) hAc (n:=(#[.int .i64 z,.slice none 0 0,.bool false,.int .i64 0]:Array Value).size) rfl
    have hsz4:(Tryz.prog.info? 42).map (·.size) = some (#[.int .i64 z,.slice none 0 0,.bool false,.int .i64 0]:Array Value).size:=ans8_size
    go_wp2_with (with_reducible refine wpList_store_mid (by kernel_rfl) _ _ _ rfl ab 0 #[.int .i64 z,.slice none 0 0,.bool false,.int .i64 0] (by kernel_rfl) (by kernel_rfl) hth hsz4 (by kernel_rfl) ?_)
    have hrg:=World.rangeAt_setCells_same (wc) (ab) 0 (#[.int .i64 z,.slice none 0 0,.bool false,.int .i64 0]:Array Value).toList (by simpa using hth)
    (try simp only [Exit.inBlock,Exit.then])
    refine bodyPost_ret (results_cell_mid rfl _ _ (ab) (#[.int .i64 z,.slice none 0 0,.bool false,.int .i64 0]:Array Value).toList _ rfl hrg Tryz.underlying42 rfl ans8_size) rfl ?_
    have hoF:Only (fun j => j = ab) wc (wc.setCells ab 0 (#[.int .i64 z,.slice none 0 0,.bool false,.int .i64 0]:Array Value).toList):=Only.sets (S:=fun j => j = ab) rfl _ 0 (Only.refl _ _)
    obtain ⟨rfl,rfl⟩:=pair8 HEQ.out
    exact ⟨none,0,rfl,(fun h => by simp [code8] at h),⟨by simp [code8],by simp [maxLen],fun _ => rfl⟩,Turn8.tick H.out (below_put4 (HBW.out.trans (HBC.out.mono HBW.out.size)) HABL.out.1 _)⟩
  · go_simp
    refine hK.out _ _ (by (first | exact (Below.refl _ _).drew | exact Below.refl _ _ | exact ((Below.refl _ _).alloc (Nat.le_refl _) _).drew | exact ((Below.refl _ _).alloc (Nat.le_refl _) _) | exact ((((Below.refl _ _).alloc (Nat.le_refl _) _).alloc (by simp) _)) | exact ((((Below.refl _ _).alloc (Nat.le_refl _) _).alloc (by simp) _)).drew)) (fun hHeld => ?_)
    clear hK K
    (try simp only [Act.put,List.setIfInBounds_toArray,List.set_cons_zero,List.set_cons_succ,List.getElem_toArray,List.getElem_cons_zero,List.getElem_cons_succ])
    refine till_one (i:=3) (by kernel_rfl) rfl (fun K hK => ?_)
    go_simp
    refine (HST.out _ ?_).mono ?_
    · (first | exact (Below.refl _ _).drew | exact Below.refl _ _ | exact ((Below.refl _ _).alloc (Nat.le_refl _) _).drew | exact ((Below.refl _ _).alloc (Nat.le_refl _) _) | exact ((((Below.refl _ _).alloc (Nat.le_refl _) _).alloc (by simp) _)) | exact ((((Below.refl _ _).alloc (Nat.le_refl _) _).alloc (by simp) _)).drew)
    rintro e w5 ⟨rfl,rfl⟩
    (try go_wp2_with fail)
    refine hK.out _ _ (by (first | exact (Below.refl _ _).drew | exact Below.refl _ _ | exact ((Below.refl _ _).alloc (Nat.le_refl _) _).drew | exact ((Below.refl _ _).alloc (Nat.le_refl _) _) | exact ((((Below.refl _ _).alloc (Nat.le_refl _) _).alloc (by simp) _)) | exact ((((Below.refl _ _).alloc (Nat.le_refl _) _).alloc (by simp) _)).drew)) (fun hHeld => ?_)
    clear hK K
    (try simp only [Act.put,List.setIfInBounds_toArray,List.set_cons_zero,List.set_cons_succ,List.getElem_toArray,List.getElem_cons_zero,List.getElem_cons_succ])
    refine till_take (i:=7) rfl (by kernel_rfl) (by kernel_rfl) (by kernel_rfl) (fun _ _ _ h => h) (by kernel_rfl) (Or.inl ⟨by rfl,by intro w _;(go_simp <;> with_reducible rfl)⟩) (by assumption) ?_
    (try simp only [Act.put,List.setIfInBounds_toArray,List.set_cons_zero,List.set_cons_succ,List.getElem_toArray,List.getElem_cons_zero,List.getElem_cons_succ])
    refine till_last (by kernel_rfl) rfl (fun K hK => ?_)
    go_simp
    refine hK.out _ _ ?_
    clear hK K
    (try simp only [Act.put,List.setIfInBounds_toArray,List.set_cons_zero,List.set_cons_succ,List.getElem_toArray,List.getElem_cons_zero,List.getElem_cons_succ])
    refine till_done (by kernel_rfl) ?_ _
    obtain ⟨V,hV⟩:∃ u,Hid (u = (W2.alloc (.cells #[.int .i64 x.op,.int .i64 x.port,.int .u64 x.addr,.slice x.ra x.rd.length x.rc] 39)).alloc (.cells #[.int .i64 x.part,.bool false,.slice none 0 0,.slice none 0 0] 59)):=⟨_,rfl⟩
    have hbV:Below W2.heap.size W2 V:=by rw [hV.out];exact ((Below.refl _ _).alloc (Nat.le_refl _) _).alloc (by simp) _
    have hrB:V.heap[W2.heap.size]? = some (.cells #[.int .i64 x.op,.int .i64 x.port,.int .u64 x.addr,.slice x.ra x.rd.length x.rc] 39 (0,0)):=by rw [hV.out,Below.heap_alloc _ _ _ (by simp)];exact heap_new_at10 _ _ rfl
    have hsB:V.heap[W2.heap.size + 1]? = some (.cells #[.int .i64 x.part,.bool false,.slice none 0 0,.slice none 0 0] 59 (0,0)):=by rw [hV.out];exact heap_new_at10 _ _ (by simp)
    (try simp only [World.size_alloc])
    rw [← hV.out]
    have hA:=bx' V hbV
    have HBW:=Lib.hid (HBW2.out.trans (hbV.mono HBW2.out.size))
    have HMW:=Lib.hid (MAt.still HW2.out hbV).1
    have HA:=Lib.hid hA
    have HABL:Hid (w.heap.size ≤ ab ∧ ab < V.heap.size):=Lib.hid ⟨HAB0.out.1,by have:=hbV.size;have:=HAB0.out.2;omega⟩
    have HRF:=Lib.hid (fun (d:Nat) (os:Array Obj) => Calls.regrown_of (prefused_is c A.x x.part false [] none 0 none 0 0 x.op x.port x.addr x.ra x.rd.length x.rc z (grow (redrawn V d) os) (HMW.out.cfg.1.later (below_regrown V d os)) wx lx ⟨fun h => absurd h (by simp),by simp⟩ hxw.port hxw.addr hrl (hT.later (HBW.out.trans ((below_regrown V d os).mono HBW.out.size))) HZ4.out))
    have rg0:∀ rg:Regrown,(grow (redrawn V rg.d) rg.os).cell? ⟨A.b,0,none⟩ = some (.slice A.x.pa c.parts.length A.x.pc):=fun rg => cell_regrown (blk_at HMW.out.head.2 (i:=0) rfl) rg.d rg.os
    have rg1:∀ rg:Regrown,(grow (redrawn V rg.d) rg.os).cell? ⟨A.b,1,none⟩ = some (.slice A.x.ca c.chans.length A.x.cc):=fun rg => cell_regrown (blk_at HMW.out.head.2 (i:=1) rfl) rg.d rg.os
    have rg2:∀ rg:Regrown,(grow (redrawn V rg.d) rg.os).cell? ⟨A.b,2,none⟩ = some (.int .i64 c.len0):=fun rg => cell_regrown (blk_at HMW.out.head.2 (i:=2) rfl) rg.d rg.os
    have rg3:∀ rg:Regrown,(grow (redrawn V rg.d) rg.os).cell? ⟨A.b,3,none⟩ = some (.slice A.x.aa c.win0.length A.x.ac):=fun rg => cell_regrown (blk_at HMW.out.head.2 (i:=3) rfl) rg.d rg.os
    have rg4:∀ rg:Regrown,(grow (redrawn V rg.d) rg.os).cell? ⟨A.b,4,none⟩ = some (.int .i64 c.len1):=fun rg => cell_regrown (blk_at HMW.out.head.2 (i:=4) rfl) rg.d rg.os
    have rg5:∀ rg:Regrown,(grow (redrawn V rg.d) rg.os).cell? ⟨A.b,5,none⟩ = some (.slice A.x.ba c.win1.length A.x.bc):=fun rg => cell_regrown (blk_at HMW.out.head.2 (i:=5) rfl) rg.d rg.os
    have rs0:∀ rg:Regrown,(grow (redrawn V rg.d) rg.os).cell? ⟨(W2.heap.size + 1),0,none⟩ = some (.int .i64 x.part):=fun rg => cell_regrown (blk_at hsB (i:=0) rfl) rg.d rg.os
    have rs1:∀ rg:Regrown,(grow (redrawn V rg.d) rg.os).cell? ⟨(W2.heap.size + 1),1,none⟩ = some (.bool false):=fun rg => cell_regrown (blk_at hsB (i:=1) rfl) rg.d rg.os
    have rs2:∀ rg:Regrown,(grow (redrawn V rg.d) rg.os).cell? ⟨(W2.heap.size + 1),2,none⟩ = some (.slice none 0 0):=fun rg => cell_regrown (blk_at hsB (i:=2) rfl) rg.d rg.os
    have rs3:∀ rg:Regrown,(grow (redrawn V rg.d) rg.os).cell? ⟨(W2.heap.size + 1),3,none⟩ = some (.slice none 0 0):=fun rg => cell_regrown (blk_at hsB (i:=3) rfl) rg.d rg.os
    have rq0:∀ rg:Regrown,(grow (redrawn V rg.d) rg.os).cell? ⟨W2.heap.size,0,none⟩ = some (.int .i64 x.op):=fun rg => cell_regrown (blk_at hrB (i:=0) rfl) rg.d rg.os
    have rq1:∀ rg:Regrown,(grow (redrawn V rg.d) rg.os).cell? ⟨W2.heap.size,1,none⟩ = some (.int .i64 x.port):=fun rg => cell_regrown (blk_at hrB (i:=1) rfl) rg.d rg.os
    have rq2:∀ rg:Regrown,(grow (redrawn V rg.d) rg.os).cell? ⟨W2.heap.size,2,none⟩ = some (.int .u64 x.addr):=fun rg => cell_regrown (blk_at hrB (i:=2) rfl) rg.d rg.os
    have rq3:∀ rg:Regrown,(grow (redrawn V rg.d) rg.os).cell? ⟨W2.heap.size,3,none⟩ = some (.slice x.ra x.rd.length x.rc):=fun rg => cell_regrown (blk_at hrB (i:=3) rfl) rg.d rg.os
    have hbc:Below V.heap.size V V.drew:=(Below.refl _ _).drew
    simp only [cfgCells,List.length_nil] at HRF
    clear hbV hsB hrB hA hV
    go_wp2_with fail
    ((first | with_reducible refine wpList_on hbc ?_ | with_reducible refine wp_on hbc (by kernel_rfl) (by kernel_rfl) ?_);(repeat (go_big_quiet_step (first | with_reducible exact HRF.out _ _ | fail)));with_reducible refine wpQuiet_nil ?_;intro wc hbc)
    have HBC:=Lib.hid hbc
    clear hbc HRF rg0 rg1 rg2 rg3 rg4 rg5 rs0 rs1 rs2 rs3 rq0 rq1 rq2 rq3
    have hzb:(z != 0) = true:=by simp [hz0]
    have HEQ:=Lib.hid (HRR.out.symm.trans (do8_no HZ0.out hz0))
    clear hz0
    have hAc:=(HBC.out.block ab (by have:=HABL.out;omega)).trans HA.out
    have hth:=there_blk (W:=wc) hAc (n:=(#[.int .i64 z,.slice none 0 0,.bool false,.int .i64 0]:Array Value).size) rfl
    have hsz4:(Tryz.prog.info? 42).map (·.size) = some (#[.int .i64 z,.slice none 0 0,.bool false,.int .i64 0]:Array Value).size:=ans8_size
    go_wp2_with (with_reducible refine wpList_store_mid (by kernel_rfl) _ _ _ rfl ab 0 #[.int .i64 z,.slice none 0 0,.bool false,.int .i64 0] (by kernel_rfl) (by kernel_rfl) hth hsz4 (by kernel_rfl) ?_)
    have hrg:=World.rangeAt_setCells_same (wc) (ab) 0 (#[.int .i64 z,.slice none 0 0,.bool false,.int .i64 0]:Array Value).toList (by simpa using hth)
    (try simp only [Exit.inBlock,Exit.then])
    refine bodyPost_ret (results_cell_mid rfl _ _ (ab) (#[.int .i64 z,.slice none 0 0,.bool false,.int .i64 0]:Array Value).toList _ rfl hrg Tryz.underlying42 rfl ans8_size) rfl ?_
    have hoF:Only (fun j => j = ab) wc (wc.setCells ab 0 (#[.int .i64 z,.slice none 0 0,.bool false,.int .i64 0]:Array Value).toList):=Only.sets (S:=fun j => j = ab) rfl _ 0 (Only.refl _ _)
    obtain ⟨rfl,rfl⟩:=pair8 HEQ.out
    exact ⟨none,0,rfl,(fun h => by simp [code8] at h),⟨by simp [code8],by simp [maxLen],fun _ => rfl⟩,Turn8.tick H.out (below_put4 (HBW.out.trans (HBC.out.mono HBW.out.size)) HABL.out.1 _)⟩
/-- Do,of any partition's call. -/
theorem do_any {w:World} {own:Nat → Tg8} {n0:Nat} {c:Cfg} {M:Md8} {A:Mx8} (h:MAt w own n0 c M A) (wx:CfgWf c) (lx:CfgFew c) (x:CV) (hxw:CWf x) (hxr:CRows w w.heap.size x) (hrl:x.rd.length ≤ 1000000) (hac:acceptsB c = true) (ht:M.t ≤ 100000) (hT:TabsAt w) (hxm:0 < x.rd.length → ∀ a,x.ra = some a → ¬ (own a.block).mut) (hst:-1 ≤ x.stamp ∧ x.stamp ≤ 1099511627776) (ht1:-1 ≤ x.t1 ∧ x.t1 ≤ 1099511627776) (R:An8) (M':Md8) (hR:do8 c M x = (R,M')):Calls Tryz.prog 12 #[.pointer (some ⟨A.b,0,none⟩),.agg (cCells x).toArray] w (Goes8 w own n0 c R M' A):=by
  by_cases hpo:x.part < 0 ∨ (c.parts.length:Int) ≤ x.part
  · exact do_out h wx lx x hxw hxr hrl hac ht hT hxm hpo R M' hR
  · obtain ⟨p,hp⟩:=Int.eq_ofNat_of_zero_le (show 0 ≤ x.part by omega)
    exact do_in h wx lx x hxw hxr hrl hac ht hT hxm p (by omega) hp hst ht1 R M' hR
end Go.Proofs.YtheeiklgblcjfaaGreatDoor
