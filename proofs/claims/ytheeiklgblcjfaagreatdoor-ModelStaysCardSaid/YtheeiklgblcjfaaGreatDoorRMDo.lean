/- Texts of the ring, joined, what is used of them. No condition but those in the statements. -/
import Derived.BigQuiet
import Derived.BigRegion
import Derived.Deep.MidRow
import Derived.Deep.RegionHeld3
import Derived.Deep.Upon
import Derived.IntWalk
import Derived.Test.YtheeiklgblcjfaaGreatDoorRgn
import Derived.Test.YtheeiklgblcjfaaGreatDoorRgq
namespace Go.Proofs.YtheeiklgblcjfaaGreatDoor
open Go.RowKit Go.Sort
set_option linter.unusedVariables false
set_option linter.unusedSimpArgs false
set_option linter.unusedVariables false
set_option linter.unusedSimpArgs false
set_option maxRecDepth 100000
theorem pair8 {α β:Type} {a c:α} {b d:β} (h:(a,b) = (c,d)):a = c ∧ b = d:=by injection h with h1 h2;exact ⟨h1,h2⟩
theorem do8_no {c:Cfg} {M:Md8} {x:CV} {z:Int} (h:ref8 c M x = z) (h0:z ≠ 0):do8 c M x = (code8 z,tick8 M):=by unfold do8;rw [h,if_neg h0]
theorem st8_is {M:Md8} {p:Nat} {s:St8} {x:CV} {made:List Int} (h:st8 M (p:Int) = s) (hp:x.part = (p:Int)) (hm:made = s.made):st8 M x.part = s ∧ made = s.made:=⟨by rw [hp];exact h,hm⟩
theorem do8_1 {c:Cfg} {M:Md8} {x:CV} {s:St8} {p:Nat} {made:List Int} (h:ref8 c M x = 0) (ho:x.op = 1) (hs:st8 M x.part = s ∧ made = s.made) (hp:x.part = (p:Int)):do8 c M x = (ok8,setSt8 M p { s with made:=made ++ [x.port] }):=by
  unfold do8 act8
  rw [if_pos h,if_pos ho,hs.1,hs.2,hp]
theorem do8_2 {c:Cfg} {M:Md8} {x:CV} {s:St8} {p:Nat} {made:List Int} (h:ref8 c M x = 0) (ho:x.op = 2) (hs:st8 M x.part = s ∧ made = s.made) (hp:x.part = (p:Int)):do8 c M x = (ok8,setSt8 M p { s with sn:=true }):=by
  unfold do8 act8
  rw [if_pos h,if_neg (by omega),if_pos ho,hs.1,hp]
theorem do8_8 {c:Cfg} {M:Md8} {x:CV} {y:Int} (h:ref8 c M x = 0) (ho:x.op = 8) (hy:M.wd x.addr = y):do8 c M x = (⟨0,[y],false,0⟩,tick8 M):=by
  unfold do8 act8
  rw [if_pos h,if_neg (by omega),if_neg (by omega),if_neg (by omega),if_neg (by omega),if_neg (by omega),if_neg (by omega),if_neg (by omega),if_pos ho,hy]
theorem do8_9 {c:Cfg} {M:Md8} {x:CV} {y:Int} (h:ref8 c M x = 0) (ho:x.op = 9) (hy:x.rd.getD 0 0 = y):do8 c M x = (ok8,{ M with wd:=upI M.wd x.addr y,t:=M.t + 1 }):=by
  unfold do8 act8
  rw [if_pos h,if_neg (by omega),if_neg (by omega),if_neg (by omega),if_neg (by omega),if_neg (by omega),if_neg (by omega),if_neg (by omega),if_neg (by omega),hy]
theorem fp8_get (wd:Int → Int) (a:Int):(fp8 wd a).getD (.int .u32 0) = .int .u32 (wd a):=by
  unfold fp8
  split
  · rename_i h;rw [h];rfl
  · rfl
theorem op_in {c:Cfg} {sp:Int} {sn:Bool} {made:List Int} {op port ad:Int} {n:Nat} (h:refusedN c sp sn made op port ad n = 0):1 ≤ op ∧ op ≤ 9:=by
  unfold refusedN at h
  split at h
  · cases h
  · by_cases h1:op = 1
    · omega
    · by_cases h2:op = 2
      · omega
      · by_cases h3:3 ≤ op ∧ op ≤ 7
        · omega
        · by_cases h4:op = 8 ∨ op = 9
          · omega
          · rw [if_neg h1,if_neg h2,if_neg h3,if_neg h4] at h;cases h
theorem op37 {c:Cfg} {M:Md8} {x:CV} (h:ref8 c M x = 0) (h1:x.op ≠ 1) (h2:x.op ≠ 2) (h8:x.op ≠ 8) (h9:x.op ≠ 9):3 ≤ x.op ∧ x.op ≤ 7:=by
  have:=op_in h
  omega
theorem poke_one {c:Cfg} {sp z:Int} {sn:Bool} {made:List Int} {op port ad:Int} {n:Nat} (h:refusedN c sp sn made op port ad n = z) (hz:z = 0) (ho:op = 9):n = 1:=by
  rw [hz] at h
  unfold refusedN at h
  split at h
  · cases h
  · rw [if_neg (by omega),if_neg (by omega),if_neg (by omega),if_pos (.inr ho)] at h
    by_cases hn:n = 1
    · exact hn
    · rw [if_pos ⟨ho,hn⟩] at h;cases h
/-- Two may come up. -/
theorem till_two {P:Program} {md:Region.Mode} {ops:Array Oper} {Q:Exit → Act → World → Prop} {S:World → Prop} {k i j:Nat} {oi oj:Oper} {n:Nat} {l:Array Bool} {a:Act} {w:World} (hr:Region.ready md ops l = [i,j]) (hoi:ops[i]? = some oi) (hoj:ops[j]? = some oj)
    (hi:∀ K':Act → World → Prop,Shut (∀ a w,S w → (S w → Till P md ops Q S k n (l.setIfInBounds i true) a w) → K' a w) → if Region.wanted oi (yielded ops a.tmps) = true then Oper.wp P oi a w K' Q else K' (a.put oi.dst undef) w)
    (hj:∀ K':Act → World → Prop,Shut (∀ a w,S w → (S w → Till P md ops Q S k n (l.setIfInBounds j true) a w) → K' a w) → if Region.wanted oj (yielded ops a.tmps) = true then Oper.wp P oj a w K' Q else K' (a.put oj.dst undef) w):Till P md ops Q S k (n + 1) l a w:=
  ⟨fun h0 => (by rw [hr] at h0;cases h0),fun m hm => by
    rw [hr] at hm
    rcases List.mem_cons.1 hm with rfl | hm
    · exact wpOp_step hoi (fun K' hK => hi K' (fun a w hS hW => hK a w ⟨fun _ _ => hS,hW hS⟩))
    · obtain rfl:=List.mem_singleton.1 hm
      exact wpOp_step hoj (fun K' hK => hj K' (fun a w hS hW => hK a w ⟨fun _ _ => hS,hW hS⟩))⟩
set_option maxHeartbeats 6400000 in
theorem do_in {w:World} {own:Nat → Tg8} {n0:Nat} {c:Cfg} {M:Md8} {A:Mx8} (h:MAt w own n0 c M A) (wx:CfgWf c) (lx:CfgFew c) (x:CV) (hxw:CWf x) (hxr:CRows w w.heap.size x) (hrl:x.rd.length ≤ 1000000) (hac:acceptsB c = true) (ht:M.t ≤ 100000) (hT:TabsAt w) (hxm:0 < x.rd.length → ∀ a,x.ra = some a → ¬ (own a.block).mut) (p:Nat) (hp:p < c.parts.length) (hpp:x.part = (p:Int)) (hst:-1 ≤ x.stamp ∧ x.stamp ≤ 1099511627776) (ht1:-1 ≤ x.t1 ∧ x.t1 ≤ 1099511627776) (R:An8) (M':Md8) (hR:do8 c M x = (R,M')):Calls Tryz.prog 12 #[.pointer (some ⟨A.b,0,none⟩),.agg (cCells x).toArray] w (Goes8 w own n0 c R M' A):=by
  have HPP:=Lib.hid hpp;have HRR:=Lib.hid hR
  clear hpp hR
  obtain ⟨W1,HW1,hB1,hs1,hX1⟩:=box17 w x
  obtain ⟨W2,HW2,hB2,hs2,bx⟩:=box_new W1 #[.int .i64 0,.slice none 0 0,.bool false,.int .i64 0] 42
  obtain ⟨W,HW,hB3,hs3,rx⟩:=box_new W2 #[.int .i64 x.op,.int .i64 x.port,.int .u64 x.addr,.slice x.ra x.rd.length x.rc] 39
  obtain ⟨xb,hxb⟩:∃ n,n = w.heap.size:=⟨_,rfl⟩
  obtain ⟨ab,hab⟩:∃ n,n = W1.heap.size:=⟨_,rfl⟩
  obtain ⟨rb,hrb⟩:∃ n,n = W2.heap.size:=⟨_,rfl⟩
  have hX2:=hX1.later hB2 hX1.lt
  have hX:=hX2.later hB3 hX2.lt
  have hA:=bx W hB3
  have hR:=rx W (Below.refl _ _)
  rw [← hab] at hA
  rw [← hrb] at hR
  rw [← hxb] at hX hX2
  have hBW2:=hB1.trans (hB2.mono hB1.size)
  have hBW:=hBW2.trans (hB3.mono hBW2.size)
  have hW2:=(MAt.still h hBW2).1
  have hW:=(MAt.still h hBW).1
  have x0:W2.cell? ⟨xb,0,none⟩ = some (.int .i64 (p:Int)):=by rw [← HPP.out];exact hX2.b_part
  have x1:=hX2.b_op;have x2:=hX2.b_port;have x3:=hX2.b_addr;have x4:=hX2.b_rd
  have HST:=Lib.hid (fun (V:World) (hV:Below W2.heap.size W2 V) => stands_in (MAt.still hW2 hV).1 p hp)
  have HXB:=Lib.hid hxb;have HAB:=Lib.hid hab;have HRB:=Lib.hid hrb
  have hxl:xb < W2.heap.size:=hX2.lt
  have HXL2:=Lib.hid hxl
  have HX:=Lib.hid hX;have HA:=Lib.hid hA;have HRQ:=Lib.hid hR;have HBW:=Lib.hid hBW;have HMW:=Lib.hid hW;have H:=Lib.hid h
  have HABL:Hid (w.heap.size ≤ ab ∧ ab < rb ∧ rb < W.heap.size ∧ xb < ab ∧ xb < W.heap.size):=Lib.hid ⟨by have:=hB1.size;omega,by omega,by omega,by omega,by have:=hB3.size;omega⟩
  clear hab hrb hxb hX1 hX2 hX hA hR hBW hBW2 hW hW2 hB1 hB2 hB3 hs1 hs2 hs3 bx rx
  go_enter Tryz.func12,Tryz.ntmps12
  go_wp2_with (first | (rw [← HW1.out];(try simp only [← HXB.out])) | (rw [← HW2.out];(try simp only [← HAB.out])))
  apply cutP
  rotate_left
  intro key
  · refine wp_region_till (fun W' => Below W2.heap.size W2 W') 8 (by kernel_rfl) (by exact (Below.refl _ _).drew) (fun hHeld => ?_)
    refine till_take (i:=0) rfl (by kernel_rfl) (by kernel_rfl) (by kernel_rfl) (fun _ _ _ h => h) (by kernel_rfl) (Or.inl ⟨by rfl,by intro w _;(go_simp <;> with_reducible rfl)⟩) (by assumption) ?_
    (try simp only [Act.put,List.setIfInBounds_toArray,List.set_cons_zero,List.set_cons_succ,List.getElem_toArray,List.getElem_cons_zero,List.getElem_cons_succ])
    refine till_take (i:=1) rfl (by kernel_rfl) (by kernel_rfl) (by kernel_rfl) (fun _ _ _ h => h) (by kernel_rfl) (Or.inl ⟨by rfl,by intro w _;(go_simp <;> with_reducible rfl)⟩) (by assumption) ?_
    (try simp only [Act.put,List.setIfInBounds_toArray,List.set_cons_zero,List.set_cons_succ,List.getElem_toArray,List.getElem_cons_zero,List.getElem_cons_succ])
    refine till_load (i:=2) rfl (by kernel_rfl) (by kernel_rfl) (by kernel_rfl) (fun _ _ _ h => h) (by kernel_rfl) (by kernel_rfl) (by kernel_rfl) (Or.inl ⟨by rfl,by intro w hSw;(have z0:=(hSw.cell (p:=⟨xb,0,none⟩) HXL2.out).trans x0);(go_simp <;> with_reducible rfl)⟩) (by assumption) ?_
    (try simp only [Act.put,List.setIfInBounds_toArray,List.set_cons_zero,List.set_cons_succ,List.getElem_toArray,List.getElem_cons_zero,List.getElem_cons_succ])
    refine till_take (i:=4) rfl (by kernel_rfl) (by kernel_rfl) (by kernel_rfl) (fun _ _ _ h => h) (by kernel_rfl) (Or.inl ⟨by rfl,by intro w _;(go_simp <;> with_reducible rfl)⟩) (by assumption) ?_
    (try simp only [Act.put,List.setIfInBounds_toArray,List.set_cons_zero,List.set_cons_succ,List.getElem_toArray,List.getElem_cons_zero,List.getElem_cons_succ])
    refine till_load (i:=5) rfl (by kernel_rfl) (by kernel_rfl) (by kernel_rfl) (fun _ _ _ h => h) (by kernel_rfl) (by kernel_rfl) (by kernel_rfl) (Or.inl ⟨by rfl,by intro w hSw;(have z1:=(hSw.cell (p:=⟨xb,1,none⟩) HXL2.out).trans x1;have z2:=(hSw.cell (p:=⟨xb,2,none⟩) HXL2.out).trans x2;have z3:=(hSw.cell (p:=⟨xb,3,none⟩) HXL2.out).trans x3;have z4:=(hSw.cell (p:=⟨xb,4,none⟩) HXL2.out).trans x4);(go_simp <;> with_reducible rfl)⟩) (by assumption) ?_
    (try simp only [Act.put,List.setIfInBounds_toArray,List.set_cons_zero,List.set_cons_succ,List.getElem_toArray,List.getElem_cons_zero,List.getElem_cons_succ])
    refine till_two (i:=3) (j:=6) (by kernel_rfl) rfl rfl (fun K hK => ?_) (fun K hK => ?_)
    · go_simp
      refine (HST.out _ ?_).mono ?_
      · (first | exact (Below.refl _ _).drew | exact Below.refl _ _ | exact ((Below.refl _ _).alloc (Nat.le_refl _) _).drew | exact ((Below.refl _ _).alloc (Nat.le_refl _) _))
      rintro e w5 ⟨rfl,rfl⟩
      (try go_wp2_with fail)
      refine hK.out _ _ (by (first | exact (Below.refl _ _).drew | exact Below.refl _ _ | exact ((Below.refl _ _).alloc (Nat.le_refl _) _).drew | exact ((Below.refl _ _).alloc (Nat.le_refl _) _))) (fun hHeld => ?_)
      clear hK K
      (try simp only [Act.put,List.setIfInBounds_toArray,List.set_cons_zero,List.set_cons_succ,List.getElem_toArray,List.getElem_cons_zero,List.getElem_cons_succ])
      refine till_one (i:=6) (by kernel_rfl) rfl (fun K hK => ?_)
      go_simp
      refine hK.out _ _ (by (first | exact (Below.refl _ _).drew | exact Below.refl _ _ | exact ((Below.refl _ _).alloc (Nat.le_refl _) _).drew | exact ((Below.refl _ _).alloc (Nat.le_refl _) _))) (fun hHeld => ?_)
      clear hK K
      (try simp only [Act.put,List.setIfInBounds_toArray,List.set_cons_zero,List.set_cons_succ,List.getElem_toArray,List.getElem_cons_zero,List.getElem_cons_succ])
      refine till_take (i:=7) rfl (by kernel_rfl) (by kernel_rfl) (by kernel_rfl) (fun _ _ _ h => h) (by kernel_rfl) (Or.inl ⟨by rfl,by intro w _;(go_simp <;> with_reducible rfl)⟩) (by assumption) ?_
      (try simp only [Act.put,List.setIfInBounds_toArray,List.set_cons_zero,List.set_cons_succ,List.getElem_toArray,List.getElem_cons_zero,List.getElem_cons_succ])
      refine till_last (by kernel_rfl) rfl (fun K hK => ?_)
      go_simp
      refine hK.out _ _ ?_
      clear hK K
      (try simp only [Act.put,List.setIfInBounds_toArray,List.set_cons_zero,List.set_cons_succ,List.getElem_toArray,List.getElem_cons_zero,List.getElem_cons_succ])
      refine till_done (by kernel_rfl) ?_ _
      exact key.get
    · go_simp
      refine hK.out _ _ (by (first | exact (Below.refl _ _).drew | exact Below.refl _ _ | exact ((Below.refl _ _).alloc (Nat.le_refl _) _).drew | exact ((Below.refl _ _).alloc (Nat.le_refl _) _))) (fun hHeld => ?_)
      clear hK K
      (try simp only [Act.put,List.setIfInBounds_toArray,List.set_cons_zero,List.set_cons_succ,List.getElem_toArray,List.getElem_cons_zero,List.getElem_cons_succ])
      refine till_one (i:=3) (by kernel_rfl) rfl (fun K hK => ?_)
      go_simp
      refine (HST.out _ ?_).mono ?_
      · (first | exact (Below.refl _ _).drew | exact Below.refl _ _ | exact ((Below.refl _ _).alloc (Nat.le_refl _) _).drew | exact ((Below.refl _ _).alloc (Nat.le_refl _) _))
      rintro e w5 ⟨rfl,rfl⟩
      (try go_wp2_with fail)
      refine hK.out _ _ (by (first | exact (Below.refl _ _).drew | exact Below.refl _ _ | exact ((Below.refl _ _).alloc (Nat.le_refl _) _).drew | exact ((Below.refl _ _).alloc (Nat.le_refl _) _))) (fun hHeld => ?_)
      clear hK K
      (try simp only [Act.put,List.setIfInBounds_toArray,List.set_cons_zero,List.set_cons_succ,List.getElem_toArray,List.getElem_cons_zero,List.getElem_cons_succ])
      refine till_take (i:=7) rfl (by kernel_rfl) (by kernel_rfl) (by kernel_rfl) (fun _ _ _ h => h) (by kernel_rfl) (Or.inl ⟨by rfl,by intro w _;(go_simp <;> with_reducible rfl)⟩) (by assumption) ?_
      (try simp only [Act.put,List.setIfInBounds_toArray,List.set_cons_zero,List.set_cons_succ,List.getElem_toArray,List.getElem_cons_zero,List.getElem_cons_succ])
      refine till_last (by kernel_rfl) rfl (fun K hK => ?_)
      go_simp
      refine hK.out _ _ ?_
      clear hK K
      (try simp only [Act.put,List.setIfInBounds_toArray,List.set_cons_zero,List.set_cons_succ,List.getElem_toArray,List.getElem_cons_zero,List.getElem_cons_succ])
      refine till_done (by kernel_rfl) ?_ _
      exact key.get
  clear HST x0 x1 x2 x3 x4 hxl
  rw [← HW.out,← HRB.out]
  obtain ⟨s,hs,est,hms⟩:=mat_at HMW.out hp
  obtain ⟨hmo,hmt⟩:=HMW.out.made p s hs (fun x => x)
  obtain ⟨hvo,hvt⟩:=HMW.out.valid p s hs (fun x => x)
  obtain ⟨ma,mk,hmv,-,-⟩:=hmo.slice
  obtain ⟨va,vk,hvv,-,-⟩:=hvo.slice
  obtain ⟨made,hmade⟩:∃ l,l = s.s.made:=⟨_,rfl⟩
  obtain ⟨sn,hsn⟩:∃ b,b = s.s.sn:=⟨_,rfl⟩
  obtain ⟨vn,hvn⟩:∃ n,n = s.s.valid.length:=⟨_,rfl⟩
  rw [← hmade] at hmv
  rw [← hvn] at hvv
  have hmsz:=(HMW.out.sz s.s (List.mem_of_getElem? hms)).1
  rw [← hmade] at hmsz
  have hSt:=(HMW.out.stand (fun x => x)).2
  have hin:SIn W made ma:=⟨by rw [hmv,← hmade] at hmo;exact own_row8 hmo,by omega⟩
  obtain ⟨z,hz⟩:∃ z,refusedN c (p:Int) sn made x.op x.port x.addr x.rd.length = z:=⟨_,rfl⟩
  have HZ0:Hid (ref8 c M x = z):=Lib.hid (by unfold ref8;rw [HPP.out,est,← hsn,← hmade];exact hz)
  have HRF:=Lib.hid (fun (d:Nat) (os:Array Obj) => Calls.regrown_of (prefused_is c A.x (p:Int) sn made ma mk va vn vk x.op x.port x.addr x.ra x.rd.length x.rc z (grow (redrawn W d) os) (HMW.out.cfg.1.later (below_regrown W d os)) wx lx ⟨hin.1.later8 (below_regrown W d os),hin.2⟩ hxw.port hxw.addr hrl (hT.later (HBW.out.trans ((below_regrown W d os).mono HBW.out.size))) hz))
  have rg0:∀ rg:Regrown,(grow (redrawn W rg.d) rg.os).cell? ⟨A.b,0,none⟩ = some (.slice A.x.pa c.parts.length A.x.pc):=fun rg => cell_regrown (blk_at HMW.out.head.2 (i:=0) rfl) rg.d rg.os
  have rg1:∀ rg:Regrown,(grow (redrawn W rg.d) rg.os).cell? ⟨A.b,1,none⟩ = some (.slice A.x.ca c.chans.length A.x.cc):=fun rg => cell_regrown (blk_at HMW.out.head.2 (i:=1) rfl) rg.d rg.os
  have rg2:∀ rg:Regrown,(grow (redrawn W rg.d) rg.os).cell? ⟨A.b,2,none⟩ = some (.int .i64 c.len0):=fun rg => cell_regrown (blk_at HMW.out.head.2 (i:=2) rfl) rg.d rg.os
  have rg3:∀ rg:Regrown,(grow (redrawn W rg.d) rg.os).cell? ⟨A.b,3,none⟩ = some (.slice A.x.aa c.win0.length A.x.ac):=fun rg => cell_regrown (blk_at HMW.out.head.2 (i:=3) rfl) rg.d rg.os
  have rg4:∀ rg:Regrown,(grow (redrawn W rg.d) rg.os).cell? ⟨A.b,4,none⟩ = some (.int .i64 c.len1):=fun rg => cell_regrown (blk_at HMW.out.head.2 (i:=4) rfl) rg.d rg.os
  have rg5:∀ rg:Regrown,(grow (redrawn W rg.d) rg.os).cell? ⟨A.b,5,none⟩ = some (.slice A.x.ba c.win1.length A.x.bc):=fun rg => cell_regrown (blk_at HMW.out.head.2 (i:=5) rfl) rg.d rg.os
  have rs0:∀ rg:Regrown,(grow (redrawn W rg.d) rg.os).cell? ⟨A.sg,A.so + p * 4,none⟩ = some (.int .i64 (p:Int)):=fun rg => cell_regrown (hSt.cell hs (j:=0) rfl) rg.d rg.os
  have rs1:∀ rg:Regrown,(grow (redrawn W rg.d) rg.os).cell? ⟨A.sg,A.so + p * 4 + 1,none⟩ = some (.bool sn):=fun rg => cell_regrown (by rw [hsn];exact hSt.cell hs (j:=1) rfl) rg.d rg.os
  have rs2:∀ rg:Regrown,(grow (redrawn W rg.d) rg.os).cell? ⟨A.sg,A.so + p * 4 + 2,none⟩ = some (.slice ma made.length mk):=fun rg => cell_regrown (by rw [← hmv];exact hSt.cell hs (j:=2) rfl) rg.d rg.os
  have rs3:∀ rg:Regrown,(grow (redrawn W rg.d) rg.os).cell? ⟨A.sg,A.so + p * 4 + 3,none⟩ = some (.slice va vn vk):=fun rg => cell_regrown (by rw [← hvv];exact hSt.cell hs (j:=3) rfl) rg.d rg.os
  have rq0:∀ rg:Regrown,(grow (redrawn W rg.d) rg.os).cell? ⟨rb,0,none⟩ = some (.int .i64 x.op):=fun rg => cell_regrown (blk_at HRQ.out (i:=0) rfl) rg.d rg.os
  have rq1:∀ rg:Regrown,(grow (redrawn W rg.d) rg.os).cell? ⟨rb,1,none⟩ = some (.int .i64 x.port):=fun rg => cell_regrown (blk_at HRQ.out (i:=1) rfl) rg.d rg.os
  have rq2:∀ rg:Regrown,(grow (redrawn W rg.d) rg.os).cell? ⟨rb,2,none⟩ = some (.int .u64 x.addr):=fun rg => cell_regrown (blk_at HRQ.out (i:=2) rfl) rg.d rg.os
  have rq3:∀ rg:Regrown,(grow (redrawn W rg.d) rg.os).cell? ⟨rb,3,none⟩ = some (.slice x.ra x.rd.length x.rc):=fun rg => cell_regrown (blk_at HRQ.out (i:=3) rfl) rg.d rg.os
  have hbc:Below W.heap.size W W.drew:=(Below.refl _ _).drew
  simp only [cfgCells] at HRF
  have HS:=Lib.hid hs;have HST8:=Lib.hid est;have HMV:=Lib.hid hmv;have HVV:=Lib.hid hvv;have HMA:=Lib.hid hmade;have HSN:=Lib.hid hsn;have HMZ:=Lib.hid hmsz;have HTT:=Lib.hid hT;have HWX:=Lib.hid wx;have HLX:=Lib.hid lx;have HXW:=Lib.hid hxw;have HXR:=Lib.hid hxr;have HXM:=Lib.hid hxm;have HRL:=Lib.hid hrl;have HST:=Lib.hid hst;have HT1:=Lib.hid ht1;have HZR:=Lib.hid hz
  clear hs est hms hmo hmt hvo hvt hmv hvv hmade hsn hvn hmsz hSt hin hz hT wx lx hxw hxr hxm hrl hst ht1 h
  go_wp2_with fail
  ((first | with_reducible refine wpList_on hbc ?_ | with_reducible refine wp_on hbc (by kernel_rfl) (by kernel_rfl) ?_);(repeat (go_big_quiet_step (first | with_reducible exact HRF.out _ _ | fail)));with_reducible refine wpQuiet_nil ?_;intro wc hbc)
  have HBC:=Lib.hid hbc
  have HMC:=Lib.hid (MAt.still HMW.out hbc).1
  have HRC:=Lib.hid ((hbc.block rb HABL.out.2.2.1).trans HRQ.out)
  have q0:wc.cell? ⟨rb,0,none⟩ = some (.int .i64 x.op):=blk_at HRC.out (i:=0) rfl
  have HSGL:=Lib.hid (mat_lt HMC.out (HMC.out.stand (fun x => x)).1 (by decide))
  have HRBC:=Lib.hid (Nat.lt_of_lt_of_le HABL.out.2.2.1 hbc.size)
  clear hbc HRF rg0 rg1 rg2 rg3 rg4 rg5 rs0 rs1 rs2 rs3 rq0 rq1 rq2 rq3
  by_cases hz0:z = 0
  rotate_left
  · have hzb:(z != 0) = true:=by simp [hz0]
    have HEQ:=Lib.hid (HRR.out.symm.trans (do8_no HZ0.out hz0))
    clear hz0
    have hAc:=(HBC.out.block ab (by have:=HABL.out;omega)).trans HA.out
    have hth:=there_blk (W:=wc) hAc (n:=(#[.int .i64 z,.slice none 0 0,.bool false,.int .i64 0]:Array Value).size) rfl
    have hsz4:(Tryz.prog.info? 42).map (·.size) = some (#[.int .i64 z,.slice none 0 0,.bool false,.int .i64 0]:Array Value).size:=ans8_size
    go_wp2_with (with_reducible refine wpList_store_mid (by kernel_rfl) _ _ _ rfl ab 0 #[.int .i64 z,.slice none 0 0,.bool false,.int .i64 0] (by kernel_rfl) (by kernel_rfl) hth hsz4 (by kernel_rfl) ?_)
    have hrg:=World.rangeAt_setCells_same (wc) (ab) 0 (#[.int .i64 z,.slice none 0 0,.bool false,.int .i64 0]:Array Value).toList (by simpa using hth)
    (try simp only [Exit.inBlock,Exit.then])
    refine bodyPost_ret (results_cell_mid rfl _ _ (ab) (#[.int .i64 z,.slice none 0 0,.bool false,.int .i64 0]:Array Value).toList _ rfl hrg Tryz.underlying42 rfl ans8_size) rfl ?_
    have hoF:Only (fun j => j = ab) wc (wc.setCells ab 0 (#[.int .i64 z,.slice none 0 0,.bool false,.int .i64 0]:Array Value).toList):=Only.sets (S:=fun j => j = ab) rfl _ 0 (Only.refl _ _)
    obtain ⟨rfl,rfl⟩:=pair8 HEQ.out
    exact ⟨none,0,rfl,(fun h => by simp [code8] at h),⟨by simp [code8],by simp [maxLen],fun _ => rfl⟩,Turn8.tick H.out (below_put4 (HBW.out.trans (HBC.out.mono HBW.out.size)) HABL.out.1 _)⟩
  have hzb:(z != 0) = false:=by simp [hz0]
  have HZ1:Hid (ref8 c M x = 0):=Lib.hid (by rw [HZ0.out];exact hz0)
  clear hz0 HZ0
  have HZ0:=HZ1
  clear HZ1
  by_cases ho:x.op = 1
  · have e1:(x.op == 1) = true:=by simp [ho]
    obtain ⟨i0,hi0,hz0',hz1',hz2'⟩:=info_parts Tryz.infoI8
    have HMD:Hid (OwnsOff wc n0 3 1 (.slice ma made.length mk) made.length (icells made)):=Lib.hid (by have:=(HMC.out.made p s HS.out (fun x => x)).1;rw [HMV.out,← HMA.out] at this;exact this)
    have m2:wc.cell? ⟨A.sg,A.so + p * 4 + 2,none⟩ = some (.slice ma made.length mk):=by rw [← HMV.out];exact (HMC.out.stand (fun x => x)).2.cell HS.out (j:=2) rfl
    have q1:wc.cell? ⟨rb,1,none⟩ = some (.int .i64 x.port):=blk_at HRC.out (i:=1) rfl
    have HSGN:Hid ((Value.slice ma made.length mk).ownBlock ≠ some A.sg):=Lib.hid (fun e => by have h1:=(HMC.out.made p s HS.out (fun x => x)).2 A.sg (by rw [HMV.out];exact e);rw [(HMC.out.stand (fun x => x)).1] at h1;cases h1)
    have HRBN:Hid ((Value.slice ma made.length mk).ownBlock ≠ some rb):=Lib.hid (fun e => by have h1:=(HMC.out.made p s HS.out (fun x => x)).2 rb (by rw [HMV.out];exact e);rw [H.out.free rb (by have:=HABL.out;omega)] at h1;cases h1)
    go_wp2_with fail
    refine wp_region_till (fun W' => W'.heap[A.sg]? = wc.heap[A.sg]? ∧ W'.heap[rb]? = wc.heap[rb]?) 11 (by kernel_rfl) (by exact ⟨rfl,rfl⟩) (fun hHeld => ?_)
    refine till_take (i:=0) rfl (by kernel_rfl) (by kernel_rfl) (by kernel_rfl) (fun _ _ _ h => h) (by kernel_rfl) (Or.inl ⟨by rfl,by intro w _;(go_simp <;> with_reducible rfl)⟩) (by assumption) ?_
    (try simp only [Act.put,List.setIfInBounds_toArray,List.set_cons_zero,List.set_cons_succ,List.getElem_toArray,List.getElem_cons_zero,List.getElem_cons_succ])
    refine till_take (i:=1) rfl (by kernel_rfl) (by kernel_rfl) (by kernel_rfl) (fun _ _ _ h => h) (by kernel_rfl) (Or.inl ⟨by rfl,by intro w _;(go_simp <;> with_reducible rfl)⟩) (by assumption) ?_
    (try simp only [Act.put,List.setIfInBounds_toArray,List.set_cons_zero,List.set_cons_succ,List.getElem_toArray,List.getElem_cons_zero,List.getElem_cons_succ])
    refine till_take (i:=2) rfl (by kernel_rfl) (by kernel_rfl) (by kernel_rfl) (fun _ _ _ h => h) (by kernel_rfl) (Or.inl ⟨by rfl,by intro w _;(go_simp <;> with_reducible rfl)⟩) (by assumption) ?_
    (try simp only [Act.put,List.setIfInBounds_toArray,List.set_cons_zero,List.set_cons_succ,List.getElem_toArray,List.getElem_cons_zero,List.getElem_cons_succ])
    refine till_take (i:=3) rfl (by kernel_rfl) (by kernel_rfl) (by kernel_rfl) (fun _ _ _ h => h) (by kernel_rfl) (Or.inl ⟨by rfl,by intro w _;(go_simp <;> with_reducible rfl)⟩) (by assumption) ?_
    (try simp only [Act.put,List.setIfInBounds_toArray,List.set_cons_zero,List.set_cons_succ,List.getElem_toArray,List.getElem_cons_zero,List.getElem_cons_succ])
    refine till_load (i:=4) rfl (by kernel_rfl) (by kernel_rfl) (by kernel_rfl) (fun _ _ _ h => h) (by kernel_rfl) (by kernel_rfl) (by kernel_rfl) (Or.inl ⟨by rfl,by intro w hSw;(have z0:=(cell_same hSw.1 (A.so + p * 4 + 2)).trans m2);(go_simp <;> with_reducible rfl)⟩) (by assumption) ?_
    (try simp only [Act.put,List.setIfInBounds_toArray,List.set_cons_zero,List.set_cons_succ,List.getElem_toArray,List.getElem_cons_zero,List.getElem_cons_succ])
    refine till_take (i:=5) rfl (by kernel_rfl) (by kernel_rfl) (by kernel_rfl) (fun _ _ _ h => h) (by kernel_rfl) (Or.inl ⟨by rfl,by intro w _;(go_simp <;> with_reducible rfl)⟩) (by assumption) ?_
    (try simp only [Act.put,List.setIfInBounds_toArray,List.set_cons_zero,List.set_cons_succ,List.getElem_toArray,List.getElem_cons_zero,List.getElem_cons_succ])
    refine till_load (i:=6) rfl (by kernel_rfl) (by kernel_rfl) (by kernel_rfl) (fun _ _ _ h => h) (by kernel_rfl) (by kernel_rfl) (by kernel_rfl) (Or.inl ⟨by rfl,by intro w hSw;(have z1:=(cell_same hSw.2 1).trans q1);(go_simp <;> with_reducible rfl)⟩) (by assumption) ?_
    (try simp only [Act.put,List.setIfInBounds_toArray,List.set_cons_zero,List.set_cons_succ,List.getElem_toArray,List.getElem_cons_zero,List.getElem_cons_succ])
    refine till_one (i:=7) (by kernel_rfl) rfl (fun K hK => ?_)
    go_simp
    obtain ⟨w5,hw5⟩:∃ u,Hid (u = (wc.alloc (.cells #[.int .i64 x.port] 3)).drew):=⟨_,rfl⟩
    rw [← hw5.out]
    have hb5:Below wc.heap.size wc w5:=by rw [hw5.out];exact ((Below.refl _ _).alloc (Nat.le_refl _) _).drew
    have HE5:Hid (w5.heap[wc.heap.size]? = some (.cells #[.int .i64 x.port] 3 (0,0))):=Lib.hid (by rw [hw5.out];exact heap_alloc_new _ _)
    have HO5:=Lib.hid (HMD.out.keptB hb5)
    have HB5:=Lib.hid hb5
    have HS5:=Lib.hid (Nat.le_trans HMC.out.n0le hb5.size)
    clear hb5 hHeld
    refine hK.out _ _ (by exact ⟨HB5.out.block _ HSGL.out,HB5.out.block _ HRBC.out⟩) (fun hHeld => ?_)
    clear hK K
    (try simp only [Act.put,List.setIfInBounds_toArray,List.set_cons_zero,List.set_cons_succ,List.getElem_toArray,List.getElem_cons_zero,List.getElem_cons_succ])
    refine till_one (i:=8) (by kernel_rfl) rfl (fun K hK => ?_)
    refine step_append_off rfl _ _ 55 rfl n0 3 i0 (.int .i64 0) 1 8 Tryz.underlying55 hi0 hz0' hz1' hz2' rfl (by decide) _ made.length (icells made) rfl HO5.out ⟨wc.heap.size,0,none⟩ 1 1 [.int .i64 x.port] rfl rfl (news_block HE5.out) (by simp [Value.oneCell']) (by have:=HMZ.out;unfold maxLen;omega) (by have:=HMZ.out;omega) HS5.out ?_
    intro v6 w6 hown6 hgr6 hfr6
    obtain ⟨a6,k6,rfl,-,-⟩:=hown6.slice
    obtain ⟨d2,g2,hT⟩:=app_made HMC.out HS.out (w2:=w6) (tmp:=.cells #[.int .i64 x.port] 3) (v':=.slice a6 (made.length + 1) k6) (l:=made ++ [x.port]) (by rw [HMV.out];have:=hgr6;rw [hw5.out] at this;exact grown_undrew this) (by have:=hown6;simpa [icells] using this) (fun g e => by rw [HMV.out];have:=hfr6 g e;rw [hw5.out] at this;exact fresh_undrew this) (by rw [List.length_append];have:=HMZ.out;simp;omega)
    rw [HMV.out] at d2
    have HT:=Lib.hid hT
    have HGR:=Lib.hid hgr6
    clear hT hown6 hgr6 hfr6 hHeld
    refine hK.out _ _ (by exact ⟨(HGR.out.block _ (Nat.lt_of_lt_of_le HSGL.out HB5.out.size) (fun e => HSGN.out e.symm)).trans (HB5.out.block _ HSGL.out),(HGR.out.block _ (Nat.lt_of_lt_of_le HRBC.out HB5.out.size) (fun e => HRBN.out e.symm)).trans (HB5.out.block _ HRBC.out)⟩) (fun hHeld => ?_)
    clear hK K
    (try simp only [Act.put,List.setIfInBounds_toArray,List.set_cons_zero,List.set_cons_succ,List.getElem_toArray,List.getElem_cons_zero,List.getElem_cons_succ])
    refine till_take (i:=9) rfl (by kernel_rfl) (by kernel_rfl) (by kernel_rfl) (fun _ _ _ h => h) (by kernel_rfl) (Or.inl ⟨by rfl,by intro w _;(go_simp <;> with_reducible rfl)⟩) (by assumption) ?_
    (try simp only [Act.put,List.setIfInBounds_toArray,List.set_cons_zero,List.set_cons_succ,List.getElem_toArray,List.getElem_cons_zero,List.getElem_cons_succ])
    refine till_take (i:=10) rfl (by kernel_rfl) (by kernel_rfl) (by kernel_rfl) (fun _ _ _ h => h) (by kernel_rfl) (Or.inl ⟨by rfl,by intro w _;(go_simp <;> with_reducible rfl)⟩) (by assumption) ?_
    (try simp only [Act.put,List.setIfInBounds_toArray,List.set_cons_zero,List.set_cons_succ,List.getElem_toArray,List.getElem_cons_zero,List.getElem_cons_succ])
    refine till_last (by kernel_rfl) rfl (fun K hK => ?_)
    go_simp
    refine hK.out _ _ ?_
    clear hK K
    (try simp only [Act.put,List.setIfInBounds_toArray,List.set_cons_zero,List.set_cons_succ,List.getElem_toArray,List.getElem_cons_zero,List.getElem_cons_succ])
    refine till_done (by kernel_rfl) ?_ _
    obtain ⟨w7,hw7⟩:∃ u,Hid (u = w6.setCell ⟨A.sg,A.so + p * 4 + 2,none⟩ (.slice a6 (made.length + 1) k6)):=⟨_,rfl⟩
    rw [← hw7.out]
    have HT7:Hid (Turn8 wc own n0 c (setSt8 M p { s.s with made:=made ++ [x.port] }) A w7):=Lib.hid (by rw [hw7.out];exact HT.out)
    have hA7:w7.heap[ab]? = some (.cells #[.int .i64 0,.slice none 0 0,.bool false,.int .i64 0] 42 (0,0)):=by
      obtain ⟨_,_,_,_,_,_,_,h3⟩:=HT7.out
      exact (h3.at_ ((HBC.out.block ab (by have:=HABL.out;omega)).trans HA.out) (by rw [H.out.free ab HABL.out.1];exact fun h => h))
    have HEQ:=Lib.hid (HRR.out.symm.trans (do8_1 HZ0.out ho (st8_is HST8.out HPP.out HMA.out) HPP.out))
    clear HT d2 g2
    have hth:=there_blk (W:=w7) hA7 (n:=(#[.int .i64 0,.slice none 0 0,.bool false,.int .i64 0]:Array Value).size) rfl
    have hsz4:(Tryz.prog.info? 42).map (·.size) = some (#[.int .i64 0,.slice none 0 0,.bool false,.int .i64 0]:Array Value).size:=ans8_size
    go_wp2_with (with_reducible refine wpList_store_mid (by kernel_rfl) _ _ _ rfl ab 0 #[.int .i64 0,.slice none 0 0,.bool false,.int .i64 0] (by kernel_rfl) (by kernel_rfl) hth hsz4 (by kernel_rfl) ?_)
    have hrg:=World.rangeAt_setCells_same (w7) (ab) 0 (#[.int .i64 0,.slice none 0 0,.bool false,.int .i64 0]:Array Value).toList (by simpa using hth)
    (try simp only [Exit.inBlock,Exit.then])
    refine bodyPost_ret (results_cell_mid rfl _ _ (ab) (#[.int .i64 0,.slice none 0 0,.bool false,.int .i64 0]:Array Value).toList _ rfl hrg Tryz.underlying42 rfl ans8_size) rfl ?_
    have hoF:Only (fun j => j = ab) w7 (w7.setCells ab 0 (#[.int .i64 0,.slice none 0 0,.bool false,.int .i64 0]:Array Value).toList):=Only.sets (S:=fun j => j = ab) rfl _ 0 (Only.refl _ _)
    obtain ⟨rfl,rfl⟩:=pair8 HEQ.out
    exact ⟨none,0,rfl,(fun h => by simp [ok8] at h),⟨by simp [ok8],by simp [maxLen],fun _ => rfl⟩,Turn8.from_ (HBW.out.trans (HBC.out.mono HBW.out.size)) HT7.out hoF (H.out.free ab HABL.out.1) (by have:=HABL.out;have:=HBC.out.size;have h9:wc.drew.heap.size = wc.heap.size:=rfl;omega) HABL.out.1⟩
  have e1:(x.op == 1) = false:=by simp [ho]
  by_cases ho2:x.op = 2
  · have e2:(x.op == 2) = true:=by simp [ho2]
    have n1:wc.cell? ⟨A.sg,A.so + p * 4 + 1,none⟩ = some (.bool s.s.sn):=(HMC.out.stand (fun x => x)).2.cell HS.out (j:=1) rfl
    obtain ⟨n1',f1,hT2⟩:=set_normal HMC.out HS.out
    obtain ⟨V,hV⟩:∃ u,Hid (u = wc.setCell ⟨A.sg,A.so + p * 4 + 1,none⟩ (.bool true)):=⟨_,rfl⟩
    rw [← hV.out] at hT2
    have HT2:=Lib.hid hT2
    have hAV:V.heap[ab]? = some (.cells #[.int .i64 0,.slice none 0 0,.bool false,.int .i64 0] 42 (0,0)):=by
      obtain ⟨_,_,_,_,_,_,_,h3⟩:=hT2
      exact (h3.at_ ((HBC.out.block ab (by have:=HABL.out;omega)).trans HA.out) (by rw [H.out.free ab HABL.out.1];exact fun h => h))
    have HEQ:=Lib.hid (HRR.out.symm.trans (do8_2 HZ0.out ho2 (st8_is HST8.out HPP.out HMA.out) HPP.out))
    clear hT2 n1'
    have hth:=there_blk (W:=V) hAV (n:=(#[.int .i64 0,.slice none 0 0,.bool false,.int .i64 0]:Array Value).size) rfl
    have hsz4:(Tryz.prog.info? 42).map (·.size) = some (#[.int .i64 0,.slice none 0 0,.bool false,.int .i64 0]:Array Value).size:=ans8_size
    go_wp2_with (first | (rw [← hV.out]) | (with_reducible refine wpList_store_mid (by kernel_rfl) _ _ _ rfl ab 0 #[.int .i64 0,.slice none 0 0,.bool false,.int .i64 0] (by kernel_rfl) (by kernel_rfl) hth hsz4 (by kernel_rfl) ?_))
    have hrg:=World.rangeAt_setCells_same (V) (ab) 0 (#[.int .i64 0,.slice none 0 0,.bool false,.int .i64 0]:Array Value).toList (by simpa using hth)
    (try simp only [Exit.inBlock,Exit.then])
    refine bodyPost_ret (results_cell_mid rfl _ _ (ab) (#[.int .i64 0,.slice none 0 0,.bool false,.int .i64 0]:Array Value).toList _ rfl hrg Tryz.underlying42 rfl ans8_size) rfl ?_
    have hoF:Only (fun j => j = ab) V (V.setCells ab 0 (#[.int .i64 0,.slice none 0 0,.bool false,.int .i64 0]:Array Value).toList):=Only.sets (S:=fun j => j = ab) rfl _ 0 (Only.refl _ _)
    obtain ⟨rfl,rfl⟩:=pair8 HEQ.out
    exact ⟨none,0,rfl,(fun h => by simp [ok8] at h),⟨by simp [ok8],by simp [maxLen],fun _ => rfl⟩,Turn8.from_ (HBW.out.trans (HBC.out.mono HBW.out.size)) HT2.out hoF (H.out.free ab HABL.out.1) (by have:=HABL.out;have:=HBC.out.size;have h9:wc.drew.heap.size = wc.heap.size:=rfl;omega) HABL.out.1⟩
  have e2:(x.op == 2) = false:=by simp [ho2]
  by_cases ho8:x.op = 8
  · have e8:(x.op == 8) = true:=by simp [ho8]
    obtain ⟨y,hy⟩:∃ y,M.wd x.addr = y:=⟨_,rfl⟩
    have HLK:=Lib.hid (fun (V:World) (hV:Below wc.heap.size wc V) => (show (Instr.lookup 85 (.map (some A.mp)) (.int .u64 x.addr) false).run Tryz.prog V = .ok (.int .u32 y) V from by
      have h1:=((MAt.still HMC.out hV).1.mp (fun x => x)).2.look (t:=85) (et:=89) Tryz.underlying36 Tryz.underlying85 (z:=.int .u32 0) (by kernel_rfl) HXW.out.addr false
      rw [fp8_get,hy] at h1
      exact h1))
    have HEQ:=Lib.hid (HRR.out.symm.trans (do8_8 HZ0.out ho8 hy))
    have m9:wc.cell? ⟨A.b,9,none⟩ = some (.map (some A.mp)):=blk_at HMC.out.head.2 (i:=9) rfl
    have q2:wc.cell? ⟨rb,2,none⟩ = some (.int .u64 x.addr):=blk_at HRC.out (i:=2) rfl
    have HBLC:=Lib.hid (Array.getElem?_eq_some_iff.1 HMC.out.head.2).1
    clear hy
    go_wp2_with fail
    refine wp_region_till (fun W' => Below wc.heap.size wc W') 9 (by kernel_rfl) (by exact (Below.refl _ _).drew) (fun hHeld => ?_)
    refine till_take (i:=0) rfl (by kernel_rfl) (by kernel_rfl) (by kernel_rfl) (fun _ _ _ h => h) (by kernel_rfl) (Or.inl ⟨by rfl,by intro w _;(go_simp <;> with_reducible rfl)⟩) (by assumption) ?_
    (try simp only [Act.put,List.setIfInBounds_toArray,List.set_cons_zero,List.set_cons_succ,List.getElem_toArray,List.getElem_cons_zero,List.getElem_cons_succ])
    refine till_take (i:=1) rfl (by kernel_rfl) (by kernel_rfl) (by kernel_rfl) (fun _ _ _ h => h) (by kernel_rfl) (Or.inl ⟨by rfl,by intro w _;(go_simp <;> with_reducible rfl)⟩) (by assumption) ?_
    (try simp only [Act.put,List.setIfInBounds_toArray,List.set_cons_zero,List.set_cons_succ,List.getElem_toArray,List.getElem_cons_zero,List.getElem_cons_succ])
    refine till_take (i:=2) rfl (by kernel_rfl) (by kernel_rfl) (by kernel_rfl) (fun _ _ _ h => h) (by kernel_rfl) (Or.inl ⟨by rfl,by intro w _;(go_simp <;> with_reducible rfl)⟩) (by assumption) ?_
    (try simp only [Act.put,List.setIfInBounds_toArray,List.set_cons_zero,List.set_cons_succ,List.getElem_toArray,List.getElem_cons_zero,List.getElem_cons_succ])
    refine till_load (i:=3) rfl (by kernel_rfl) (by kernel_rfl) (by kernel_rfl) (fun _ _ _ h => h) (by kernel_rfl) (by kernel_rfl) (by kernel_rfl) (Or.inl ⟨by rfl,by intro w hSw;(have z0:=(hSw.cell (p:=⟨A.b,9,none⟩) HBLC.out).trans m9);(go_simp <;> with_reducible rfl)⟩) (by assumption) ?_
    (try simp only [Act.put,List.setIfInBounds_toArray,List.set_cons_zero,List.set_cons_succ,List.getElem_toArray,List.getElem_cons_zero,List.getElem_cons_succ])
    refine till_take (i:=4) rfl (by kernel_rfl) (by kernel_rfl) (by kernel_rfl) (fun _ _ _ h => h) (by kernel_rfl) (Or.inl ⟨by rfl,by intro w _;(go_simp <;> with_reducible rfl)⟩) (by assumption) ?_
    (try simp only [Act.put,List.setIfInBounds_toArray,List.set_cons_zero,List.set_cons_succ,List.getElem_toArray,List.getElem_cons_zero,List.getElem_cons_succ])
    refine till_load (i:=5) rfl (by kernel_rfl) (by kernel_rfl) (by kernel_rfl) (fun _ _ _ h => h) (by kernel_rfl) (by kernel_rfl) (by kernel_rfl) (Or.inl ⟨by rfl,by intro w hSw;(have z1:=(hSw.cell (p:=⟨rb,2,none⟩) HRBC.out).trans q2);(go_simp <;> with_reducible rfl)⟩) (by assumption) ?_
    (try simp only [Act.put,List.setIfInBounds_toArray,List.set_cons_zero,List.set_cons_succ,List.getElem_toArray,List.getElem_cons_zero,List.getElem_cons_succ])
    refine till_load (i:=6) rfl (by kernel_rfl) (by kernel_rfl) (by kernel_rfl) (fun _ _ _ h => h) (by kernel_rfl) (by kernel_rfl) (by kernel_rfl) (Or.inl ⟨by rfl,by intro w hSw;(have zl:(Instr.lookup 85 (.map (some A.mp)) (.int .u64 x.addr) false).run Tryz.prog w = .ok (.int .u32 y) w:=HLK.out w hSw);(go_simp <;> with_reducible rfl)⟩) (by assumption) ?_
    (try simp only [Act.put,List.setIfInBounds_toArray,List.set_cons_zero,List.set_cons_succ,List.getElem_toArray,List.getElem_cons_zero,List.getElem_cons_succ])
    refine till_one (i:=7) (by kernel_rfl) rfl (fun K hK => ?_)
    go_simp
    obtain ⟨w5,hw5⟩:∃ u,Hid (u = (wc.alloc (.cells #[.int .u32 y] 89)).drew):=⟨_,rfl⟩
    rw [← hw5.out]
    have hb5:Below wc.heap.size wc w5:=by rw [hw5.out];exact ((Below.refl _ _).alloc (Nat.le_refl _) _).drew
    have HE5:Hid (w5.heap[wc.heap.size]? = some (.cells #[.int .u32 y] 89 (0,0))):=Lib.hid (by rw [hw5.out];exact heap_alloc_new _ _)
    have HB5:=Lib.hid hb5
    clear hb5 hHeld
    refine hK.out _ _ (by exact HB5.out) (fun hHeld => ?_)
    clear hK K
    (try simp only [Act.put,List.setIfInBounds_toArray,List.set_cons_zero,List.set_cons_succ,List.getElem_toArray,List.getElem_cons_zero,List.getElem_cons_succ])
    refine till_one (i:=8) (by kernel_rfl) rfl (fun K hK => ?_)
    go_simp
    refine hK.out _ _ (by exact HB5.out) (fun hHeld => ?_)
    clear hK K
    (try simp only [Act.put,List.setIfInBounds_toArray,List.set_cons_zero,List.set_cons_succ,List.getElem_toArray,List.getElem_cons_zero,List.getElem_cons_succ])
    refine till_last (by kernel_rfl) rfl (fun K hK => ?_)
    rw [if_pos (by rfl)]
    have hA5:=(HB5.out.block ab (by have:=HABL.out;have:=HBC.out.size;omega)).trans ((HBC.out.block ab (by have:=HABL.out;omega)).trans HA.out)
    have hth:=there_blk (W:=w5) hA5 (n:=(#[.int .i64 0,.slice (some ⟨wc.heap.size,0,none⟩) 1 1,.bool false,.int .i64 0]:Array Value).size) rfl
    have hsz4:(Tryz.prog.info? 42).map (·.size) = some (#[.int .i64 0,.slice (some ⟨wc.heap.size,0,none⟩) 1 1,.bool false,.int .i64 0]:Array Value).size:=ans8_size
    refine wp_store_mid _ _ _ rfl ab 0 #[.int .i64 0,.slice (some ⟨wc.heap.size,0,none⟩) 1 1,.bool false,.int .i64 0] rfl rfl hth hsz4 (by kernel_rfl) ?_
    have HTH:=Lib.hid hth
    clear hth hA5
    refine hK.out _ _ ?_
    clear hK K
    (try simp only [Act.put,List.setIfInBounds_toArray,List.set_cons_zero,List.set_cons_succ,List.getElem_toArray,List.getElem_cons_zero,List.getElem_cons_succ])
    refine till_done (by kernel_rfl) ?_ _
    go_wp2
    have hth:=HTH.out
    have hrg:=World.rangeAt_setCells_same (w5) (ab) 0 (#[.int .i64 0,.slice (some ⟨wc.heap.size,0,none⟩) 1 1,.bool false,.int .i64 0]:Array Value).toList (by simpa using hth)
    (try simp only [Exit.inBlock,Exit.then])
    refine bodyPost_ret (results_cell_mid rfl _ _ (ab) (#[.int .i64 0,.slice (some ⟨wc.heap.size,0,none⟩) 1 1,.bool false,.int .i64 0]:Array Value).toList _ rfl hrg Tryz.underlying42 rfl ans8_size) rfl ?_
    obtain ⟨rfl,rfl⟩:=pair8 HEQ.out
    have hoF:Only (fun j => j = ab) w5 (w5.setCells ab 0 (#[.int .i64 0,.slice (some ⟨wc.heap.size,0,none⟩) 1 1,.bool false,.int .i64 0]:Array Value).toList):=Only.sets (S:=fun j => j = ab) rfl _ 0 (Only.refl _ _)
    refine ⟨some ⟨wc.heap.size,0,none⟩,1,rfl,fun _ => ⟨fun _ => ⟨wc.heap.size,0,rfl,Nat.lt_of_lt_of_le (Array.getElem?_eq_some_iff.1 HE5.out).1 hoF.size,fun i hi => ?_⟩,fun a ha => .inr (by cases ha;have:=HBC.out.size;have:=HBW.out.size;show w.heap.size ≤ wc.heap.size;omega)⟩,⟨by simp,by unfold maxLen;omega,fun h => by cases h⟩,Turn8.tick H.out (below_put4 (HBW.out.trans ((HBC.out.trans (HB5.out.mono HBC.out.size)).mono HBW.out.size)) HABL.out.1 _)⟩
    have hi0:i = 0:=by simp at hi;omega
    subst hi0
    exact blk_at (hoF.at_ HE5.out (by have:=HABL.out;have:=HBC.out.size;omega)) (i:=0) rfl
  have e8:(x.op == 8) = false:=by simp [ho8]
  by_cases ho9:x.op = 9
  · have e9:(x.op == 9) = true:=by simp [ho9]
    have hn1:=poke_one (show refusedN c x.part (st8 M x.part).sn (st8 M x.part).made x.op x.port x.addr x.rd.length = 0 from HZ0.out) rfl ho9
    obtain ⟨g,o,hra,hgl,hd⟩:=HXR.out.rr (by omega)
    have hd0:=hd 0 (by omega)
    rw [Nat.add_zero] at hd0
    obtain ⟨y,hy⟩:∃ y,x.rd.getD 0 0 = y:=⟨_,rfl⟩
    have HGM:Hid (¬ (own g).mut):=Lib.hid (HXM.out (by omega) _ hra)
    rw [hy] at hd0
    have hbwc:=HBW.out.trans (HBC.out.mono HBW.out.size)
    have d0:wc.cell? ⟨g,o,none⟩ = some (.int .u32 y):=(hbwc.cell (p:=⟨g,o,none⟩) hgl).trans hd0
    have HGL:Hid (g < wc.heap.size):=Lib.hid (Nat.lt_of_lt_of_le hgl hbwc.size)
    have q2:wc.cell? ⟨rb,2,none⟩ = some (.int .u64 x.addr):=blk_at HRC.out (i:=2) rfl
    have q3:wc.cell? ⟨rb,3,none⟩ = some (.slice (some ⟨g,o,none⟩) 1 x.rc):=by rw [← hra,← hn1];exact blk_at HRC.out (i:=3) rfl
    have HPK:=Lib.hid (poke_b (MAt.still HMC.out (Below.refl _ _).drew).1 x.addr y HXW.out.addr ht)
    have HEQ:=Lib.hid (HRR.out.symm.trans (do8_9 HZ0.out ho9 hy))
    have HQ2:=Lib.hid q2;have HQ3:=Lib.hid q3;have HD0:=Lib.hid d0;have HGW:=Lib.hid hgl
    have KEEP57:Hid (∀ (w6:World),Turn8 wc.drew own n0 c { M with wd:=upI M.wd x.addr y,t:=M.t + 1 } A w6 → w6.cell? ⟨rb,2,none⟩ = some (.int .u64 x.addr) ∧ w6.cell? ⟨rb,3,none⟩ = some (.slice (some ⟨g,o,none⟩) 1 x.rc) ∧ w6.cell? ⟨g,o,none⟩ = some (.int .u32 y)):=Lib.hid (fun w6 hT => by
      obtain ⟨_,_,_,_,_,_,_,h3⟩:=hT
      have e1:=h3.block rb HRBC.out (by rw [H.out.free rb (by have:=HABL.out;omega)];exact fun h => h)
      have e2:=h3.block g HGL.out (HGM.out)
      exact ⟨(cell_same e1 2).trans HQ2.out,(cell_same e1 3).trans HQ3.out,(cell_same e2 o).trans HD0.out⟩)
    clear hy hd0 hd hra hgl hbwc hn1
    go_wp2_with fail
    go_region_held3 (fun W' => W'.cell? ⟨rb,2,none⟩ = some (.int .u64 x.addr) ∧ W'.cell? ⟨rb,3,none⟩ = some (.slice (some ⟨g,o,none⟩) 1 x.rc) ∧ W'.cell? ⟨g,o,none⟩ = some (.int .u32 y)) ((first | exact ⟨q2,q3,d0⟩ | assumption)) ((go_at_call 41;((with_reducible refine HPK.out.mono ?_);rintro e w6 ⟨rfl,hT6⟩;(have HT6:=Lib.hid hT6);(have hk6:w6.cell? ⟨rb,2,none⟩ = some (.int .u64 x.addr) ∧ w6.cell? ⟨rb,3,none⟩ = some (.slice (some ⟨g,o,none⟩) 1 x.rc) ∧ w6.cell? ⟨g,o,none⟩ = some (.int .u32 y):=KEEP57.out w6 hT6);clear hT6)))
    have hA6:w6.heap[ab]? = some (.cells #[.int .i64 0,.slice none 0 0,.bool false,.int .i64 0] 42 (0,0)):=by
      obtain ⟨_,_,_,_,_,_,_,h3⟩:=HT6.out
      exact (h3.at_ ((HBC.out.block ab (by have:=HABL.out;omega)).trans HA.out) (by rw [H.out.free ab HABL.out.1];exact fun h => h))
    have hth:=there_blk (W:=w6) hA6 (n:=(#[.int .i64 0,.slice none 0 0,.bool false,.int .i64 0]:Array Value).size) rfl
    have hsz4:(Tryz.prog.info? 42).map (·.size) = some (#[.int .i64 0,.slice none 0 0,.bool false,.int .i64 0]:Array Value).size:=ans8_size
    go_wp2_with (with_reducible refine wpList_store_mid (by kernel_rfl) _ _ _ rfl ab 0 #[.int .i64 0,.slice none 0 0,.bool false,.int .i64 0] (by kernel_rfl) (by kernel_rfl) hth hsz4 (by kernel_rfl) ?_)
    have hrg:=World.rangeAt_setCells_same (w6) (ab) 0 (#[.int .i64 0,.slice none 0 0,.bool false,.int .i64 0]:Array Value).toList (by simpa using hth)
    (try simp only [Exit.inBlock,Exit.then])
    refine bodyPost_ret (results_cell_mid rfl _ _ (ab) (#[.int .i64 0,.slice none 0 0,.bool false,.int .i64 0]:Array Value).toList _ rfl hrg Tryz.underlying42 rfl ans8_size) rfl ?_
    have hoF:Only (fun j => j = ab) w6 (w6.setCells ab 0 (#[.int .i64 0,.slice none 0 0,.bool false,.int .i64 0]:Array Value).toList):=Only.sets (S:=fun j => j = ab) rfl _ 0 (Only.refl _ _)
    obtain ⟨rfl,rfl⟩:=pair8 HEQ.out
    exact ⟨none,0,rfl,(fun h => by simp [ok8] at h),⟨by simp [ok8],by simp [maxLen],fun _ => rfl⟩,Turn8.from_ (HBW.out.trans ((HBC.out.trans (Below.refl _ _).drew).mono HBW.out.size)) HT6.out hoF (H.out.free ab HABL.out.1) (by have:=HABL.out;have:=HBC.out.size;have h9:wc.drew.heap.size = wc.heap.size:=rfl;omega) HABL.out.1⟩
  have e9:(x.op == 9) = false:=by simp [ho9]
  have h37:=op37 HZ0.out ho ho2 ho8 ho9
  have HXC:=Lib.hid (HX.out.later HBC.out HABL.out.2.2.2.2)
  have HXRC:=Lib.hid ((HXR.out.below (HBW.out.trans (HBC.out.mono HBW.out.size))).more (Nat.le_trans HBW.out.size HBC.out.size))
  obtain ⟨F,hF⟩:∃ F,(act8 c M x).1 = F:=⟨_,rfl⟩
  obtain ⟨M2,hM2⟩:∃ M2,(act8 c M x).2 = M2:=⟨_,rfl⟩
  have HPS:=Lib.hid (pass_b HMC.out HWX.out HLX.out p hp x HPP.out HXW.out HXRC.out HRL.out ht HZ0.out h37.1 h37.2 HST.out HT1.out)
  rw [hF,hM2] at HPS
  have HEQ:=Lib.hid (show (R,M') = (F,M2) from HRR.out.symm.trans (by unfold do8;rw [if_pos HZ0.out,← hF,← hM2]))
  clear h37 hF hM2
  go_wp2_with (with_reducible refine wpList_loadC (by with_unfolding_all rfl) _ rfl _ _ _ (by with_unfolding_all rfl) HXC.out ?_)
  refine HPS.out.mono ?_
  rintro e w6 ⟨rA,rk,rfl,hr6,hc6,hT6⟩
  have hA6:w6.heap[ab]? = some (.cells #[.int .i64 0,.slice none 0 0,.bool false,.int .i64 0] 42 (0,0)):=by
    obtain ⟨_,_,_,_,_,_,_,h3⟩:=hT6
    exact (h3.at_ ((HBC.out.block ab (by have:=HABL.out;omega)).trans HA.out) (by rw [H.out.free ab HABL.out.1];exact fun h => h))
  have HT6:=Lib.hid hT6;have HR6:=Lib.hid hr6;have HC6:=Lib.hid hc6
  clear hT6 hr6 hc6
  have hth:=there_blk (W:=w6) hA6 (n:=(#[.int .i64 F.code,.slice rA F.data.length rk,.bool F.valid,.int .i64 F.count]:Array Value).size) rfl
  have hsz4:(Tryz.prog.info? 42).map (·.size) = some (#[.int .i64 F.code,.slice rA F.data.length rk,.bool F.valid,.int .i64 F.count]:Array Value).size:=ans8_size
  go_wp2_with (with_reducible refine wpList_store_mid (by kernel_rfl) _ _ _ rfl ab 0 #[.int .i64 F.code,.slice rA F.data.length rk,.bool F.valid,.int .i64 F.count] (by kernel_rfl) (by kernel_rfl) hth hsz4 (by kernel_rfl) ?_)
  have hrg:=World.rangeAt_setCells_same (w6) (ab) 0 (#[.int .i64 F.code,.slice rA F.data.length rk,.bool F.valid,.int .i64 F.count]:Array Value).toList (by simpa using hth)
  (try simp only [Exit.inBlock,Exit.then])
  refine bodyPost_ret (results_cell_mid rfl _ _ (ab) (#[.int .i64 F.code,.slice rA F.data.length rk,.bool F.valid,.int .i64 F.count]:Array Value).toList _ rfl hrg Tryz.underlying42 rfl ans8_size) rfl ?_
  have hoF:Only (fun j => j = ab) w6 (w6.setCells ab 0 (#[.int .i64 F.code,.slice rA F.data.length rk,.bool F.valid,.int .i64 F.count]:Array Value).toList):=Only.sets (S:=fun j => j = ab) rfl _ 0 (Only.refl _ _)
  obtain ⟨rfl,rfl⟩:=pair8 HEQ.out
  refine ⟨rA,rk,rfl,?_,HC6.out,Turn8.from_ (HBW.out.trans (HBC.out.mono HBW.out.size)) HT6.out hoF (H.out.free ab HABL.out.1) (by have:=HABL.out;have:=HBC.out.size;have h9:wc.drew.heap.size = wc.heap.size:=rfl;omega) HABL.out.1⟩
  intro hp
  obtain ⟨h1,h2⟩:=HR6.out hp
  have hx:∀ a,rA = some a → (own a.block = .msg ∨ wc.heap.size ≤ a.block) ∧ a.block ≠ ab:=fun a ha => ⟨h2 a ha,fun e => by
    rcases h2 a ha with h3 | h3
    · rw [e,H.out.free ab HABL.out.1] at h3;cases h3
    · have:=HABL.out;have:=HBC.out.size;omega⟩
  exact ⟨(h1.only8 (Nat.le_refl _) hoF (fun _ a ha e => (hx a ha).2 e)).more hoF.size,fun a ha => (hx a ha).1.imp id (fun h3 => by have:=HBC.out.size;have:=HBW.out.size;omega)⟩
end Go.Proofs.YtheeiklgblcjfaaGreatDoor
