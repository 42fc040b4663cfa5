/- Texts of the ring, joined, what is used of them. No condition but those in the statements. -/
import Derived.BigQuiet
import Derived.BigRegion
import Derived.Deep.MidRow
import Derived.Deep.RegionHeld3
import Derived.Deep.Upon
import Derived.IntWalk
import Derived.Test.YtmhpcgcloojfbaaGreatRgD
namespace Go.Proofs.YtmhpcgcloojfbaaGreat
open Go.RowKit Go.Sort
set_option linter.unusedVariables false
set_option linter.unusedSimpArgs false
set_option linter.unusedVariables false
set_option linter.unusedSimpArgs false
set_option maxRecDepth 100000
set_option maxHeartbeats 1600000 in
theorem w_buffer_b (wb:Nat) (nx:Value) (A:Pl8) (dv:Value) (p i:Nat) (mk:Bool) (w:World) (hw:WBlk w wb nx A dv p i mk) (hp:p ≤ 1) (hi:i ≤ 1):Calls Tryz.prog 106 #[.pointer (some ⟨wb,0,none⟩)] w fun e w' => e = .returned (.int .i64 (A.buf p i:Nat)) ∧ w' = w.drew:=by
  have hp2:p = 0 ∨ p = 1:=by omega
  have hi2:i = 0 ∨ i = 1:=by omega
  have c10:w.cell? ⟨wb,10,none⟩ = some (.int .u32 p):=hw.cell rfl
  have c11:w.cell? ⟨wb,11,none⟩ = some (.int .u32 i):=hw.cell rfl
  have c5:w.cell? ⟨wb,5,none⟩ = some (.int .i64 A.b00):=hw.cell rfl
  have c6:w.cell? ⟨wb,6,none⟩ = some (.int .i64 A.b01):=hw.cell rfl
  have c7:w.cell? ⟨wb,7,none⟩ = some (.int .i64 A.b10):=hw.cell rfl
  have c8:w.cell? ⟨wb,8,none⟩ = some (.int .i64 A.b11):=hw.cell rfl
  clear hw hp hi
  rcases hp2 with rfl | rfl <;> rcases hi2 with rfl | rfl
  · show Calls Tryz.prog 106 #[.pointer (some ⟨wb,0,none⟩)] w fun e w' => e = .returned (.int .i64 (A.b00:Nat)) ∧ w' = w.drew
    go_enter Tryz.func106,Tryz.ntmps106
    go_wp2
    go_region
    go_wp2
    go_ret
    exact ⟨rfl,rfl⟩
  · show Calls Tryz.prog 106 #[.pointer (some ⟨wb,0,none⟩)] w fun e w' => e = .returned (.int .i64 (A.b01:Nat)) ∧ w' = w.drew
    go_enter Tryz.func106,Tryz.ntmps106
    go_wp2
    go_region
    go_wp2
    go_ret
    exact ⟨rfl,rfl⟩
  · show Calls Tryz.prog 106 #[.pointer (some ⟨wb,0,none⟩)] w fun e w' => e = .returned (.int .i64 (A.b10:Nat)) ∧ w' = w.drew
    go_enter Tryz.func106,Tryz.ntmps106
    go_wp2
    go_region
    go_wp2
    go_ret
    exact ⟨rfl,rfl⟩
  · show Calls Tryz.prog 106 #[.pointer (some ⟨wb,0,none⟩)] w fun e w' => e = .returned (.int .i64 (A.b11:Nat)) ∧ w' = w.drew
    go_enter Tryz.func106,Tryz.ntmps106
    go_wp2
    go_region
    go_wp2
    go_ret
    exact ⟨rfl,rfl⟩
set_option maxHeartbeats 1600000 in
theorem w_len_b (mb rb wb:Nat) (ws:List Int) (nx:Value) (A:Pl8) (dA:Option Addr) (n dc:Nat) (p i:Nat) (mk:Bool) (now:Int) (w:World) (hw:WBlk w wb nx A (.slice dA n dc) p i mk) (hm:MemAt w mb rb ws) (hl:ws.length ≤ 1000000) (hp:p ≤ 1) (hi:i ≤ 1) (hn:n ≤ 1000) (ha:A.buf p i < ws.length):Calls Tryz.prog 95 #[.pointer (some ⟨wb,0,none⟩),.pointer (some ⟨mb,0,none⟩),.int .i64 now] w fun e w' => e = .returned (.tuple #[.agg (didV false 0 (.slice none 0 0) false false false (1 + 2 * (p:Int) + i)),.func (.func 108) #[.pointer (some ⟨wb,0,none⟩)] #[]]) ∧ StepW w mb rb wb (ws.set (A.buf p i) n) nx A (.slice dA n dc) (p) (i) (mk) w':=by
  obtain ⟨W,HW,hsz,hO,hz⟩:=did_new w
  have hwl:=hw.lt
  have hml:=hm.lt
  have hW:=hw.only hO (fun h => h)
  have hM:=hm.only hO (fun h => h) (fun h => h)
  have hO2:Only (New w.heap.size fun k => k = wb ∨ k = rb) w W:=hO.mono (fun k _ h => h.elim)
  have c9:W.cell? ⟨wb,9,none⟩ = some (.slice dA n dc):=hW.cell rfl
  have c10:W.cell? ⟨wb,10,none⟩ = some (.int .u32 p):=hW.cell rfl
  have c11:W.cell? ⟨wb,11,none⟩ = some (.int .u32 i):=hW.cell rfl
  have HBF:=Lib.hid (fun (W':World) (h:WBlk W' wb nx A (.slice dA n dc) p i mk) => w_buffer_b wb nx A (.slice dA n dc) p i mk W' h hp hi)
  have HNU:=Lib.hid (fun (W':World) => number_b p i hp hi W')
  obtain ⟨k,hk⟩:∃ k,A.buf p i = k:=⟨_,rfl⟩
  rw [hk] at ha HBF ⊢
  have HS:=Lib.hid (fun (W':World) (av xv:Int) (hav:av = ((k:Nat):Int)) (hxv:xv = (n:Int)) (h:MemAt W' mb rb ws) => (show Calls Tryz.prog 96 #[.pointer (some ⟨mb,0,none⟩),.int .i64 av,.int .u32 xv] W' fun e w' => e = .returned (.tuple #[]) ∧ w' = W'.setCell ⟨rb,k,none⟩ (.int .u32 ((n:Int))) from by subst hav;subst hxv;exact store_b mb rb ws _ _ W' h hl ha))
  have HNE:=Lib.hid (hw.ne_mem hm);have HWB:=Lib.hid hW;have HM:=Lib.hid hM;have HO2:=Lib.hid hO2;have HZ:=Lib.hid hz
  clear hk hw hm hO hW hO2 hz hM
  obtain ⟨X,HX⟩:∃ X,Hid (X = (W.setCell ⟨rb,k,none⟩ (.int .u32 (n:Int))).drew.drew):=⟨_,rfl⟩
  have HZX:Hid (X.heap[w.heap.size]? = some (.cells (didV false 0 (.slice none 0 0) false false false 0) 56 (0,0))):=Lib.hid (by rw [HX.out];exact (Below.heap_setCell _ _ _ _ (by show w.heap.size ≠ rb;omega)).trans HZ.out)
  have HBX:Hid (WBlk X wb nx A (.slice dA n dc) p i mk):=Lib.hid (by rw [HX.out];exact (HWB.out.only (Only.setCell W ⟨rb,k,none⟩ (.int .u32 (n:Int))) (fun h => HNE.out.2 h.symm)).drew.drew)
  have HOX:Hid (Only (New w.heap.size fun k => k = wb ∨ k = rb) w X):=Lib.hid (by rw [HX.out];exact (HO2.out.set (p:=⟨rb,k,none⟩) (.inr (.inr rfl)) _).drew.drew)
  have HMX:Hid (MemAt X mb rb (ws.set k (n:Int))):=Lib.hid (by rw [HX.out];exact (HM.out.set k _).drew.drew)
  go_enter Tryz.func95,Tryz.ntmps95
  go_wp2_with (rw [← HW.out])
  go_region_held3 (fun W' => W'.cell? ⟨wb,9,none⟩ = some (.slice dA n dc)) ((first | exact c9 | exact cell_set_ne c9 HNE.out.2)) ((first | (go_at_call 106;((with_reducible refine (HBF.out _ ?_).mono ?_);(first | exact HWB.out | exact HWB.out.drew);rintro e w5 ⟨rfl,rfl⟩)) | (go_at_call 96;((with_reducible refine (HS.out _ _ _ ?_ ?_ ?_).mono ?_);(first | (with_reducible rfl) | omega | exact IntWalk.i64_in _ (by omega) | (rw [IntWalk.i64_in _ (by omega)] <;> omega) | (rw [IntWalk.i64_in (_ + 2) (by omega),IntWalk.i64_in _ (by omega)] <;> omega));(first | (with_reducible rfl) | (rw [IntKind.wrap_u32];omega) | (rw [IntKind.wrap_u32];with_reducible rfl));(first | exact HM.out | exact HM.out.drew | exact HM.out.drew.drew | exact HM.out.drew.drew.drew);rintro e w5 ⟨rfl,rfl⟩))))
  rw [← HX.out]
  clear c9 c10 c11
  have e10:X.cell? ⟨wb,10,none⟩ = some (.int .u32 p):=HBX.out.cell rfl
  have e11:X.cell? ⟨wb,11,none⟩ = some (.int .u32 i):=HBX.out.cell rfl
  go_wp2
  have hth:=there_at (W:=X.drew) HZX.out (n:=(didV false 0 (.slice none 0 0) false false false (1 + 2 * (p:Int) + i):Array Value).size) rfl
  have hsd:(Tryz.prog.info? 56).map (·.size) = some (didV false 0 (.slice none 0 0) false false false (1 + 2 * (p:Int) + i):Array Value).size:=did_size
  refine wp_region_held_drew (S:=fun W' => W'.cell? ⟨wb,10,none⟩ = some (.int .u32 p) ∧ W'.cell? ⟨wb,11,none⟩ = some (.int .u32 i)) (by kernel_rfl) (⟨e10,e11⟩) (fun hHeld => ?_)
  refine wpAnyH_take (i:=0) rfl (by kernel_rfl) (by kernel_rfl) (by kernel_rfl) (fun _ _ _ h => h) (Or.inl ⟨by rfl,by intro w hSw;(skip);(go_simp <;> with_reducible rfl)⟩) (by assumption) ?_
  (try simp only [Act.put,List.setIfInBounds_toArray,List.set_cons_zero,List.set_cons_succ,List.getElem_toArray,List.getElem_cons_zero,List.getElem_cons_succ])
  refine wpAnyH_take (i:=1) rfl (by kernel_rfl) (by kernel_rfl) (by kernel_rfl) (fun _ _ _ h => h) (Or.inl ⟨by rfl,by intro w hSw;(skip);(go_simp <;> with_reducible rfl)⟩) (by assumption) ?_
  (try simp only [Act.put,List.setIfInBounds_toArray,List.set_cons_zero,List.set_cons_succ,List.getElem_toArray,List.getElem_cons_zero,List.getElem_cons_succ])
  refine wpAnyH_take (i:=2) rfl (by kernel_rfl) (by kernel_rfl) (by kernel_rfl) (fun _ _ _ h => h) (Or.inl ⟨by rfl,by intro w hSw;(skip);(go_simp <;> with_reducible rfl)⟩) (by assumption) ?_
  (try simp only [Act.put,List.setIfInBounds_toArray,List.set_cons_zero,List.set_cons_succ,List.getElem_toArray,List.getElem_cons_zero,List.getElem_cons_succ])
  refine wpAnyH_take (i:=3) rfl (by kernel_rfl) (by kernel_rfl) (by kernel_rfl) (fun _ _ _ h => h) (Or.inl ⟨by rfl,by intro w hSw;(skip);(go_simp <;> with_reducible rfl)⟩) (by assumption) ?_
  (try simp only [Act.put,List.setIfInBounds_toArray,List.set_cons_zero,List.set_cons_succ,List.getElem_toArray,List.getElem_cons_zero,List.getElem_cons_succ])
  refine wpAnyH_take (i:=4) rfl (by kernel_rfl) (by kernel_rfl) (by kernel_rfl) (fun _ _ _ h => h) (Or.inl ⟨by rfl,by intro w hSw;(skip);(go_simp <;> with_reducible rfl)⟩) (by assumption) ?_
  (try simp only [Act.put,List.setIfInBounds_toArray,List.set_cons_zero,List.set_cons_succ,List.getElem_toArray,List.getElem_cons_zero,List.getElem_cons_succ])
  refine wpAnyH_take (i:=5) rfl (by kernel_rfl) (by kernel_rfl) (by kernel_rfl) (fun _ _ _ h => h) (Or.inl ⟨by rfl,by intro w hSw;(skip);(go_simp <;> with_reducible rfl)⟩) (by assumption) ?_
  (try simp only [Act.put,List.setIfInBounds_toArray,List.set_cons_zero,List.set_cons_succ,List.getElem_toArray,List.getElem_cons_zero,List.getElem_cons_succ])
  refine wpAnyH_take (i:=6) rfl (by kernel_rfl) (by kernel_rfl) (by kernel_rfl) (fun _ _ _ h => h) (Or.inl ⟨by rfl,by intro w hSw;(skip);(go_simp <;> with_reducible rfl)⟩) (by assumption) ?_
  (try simp only [Act.put,List.setIfInBounds_toArray,List.set_cons_zero,List.set_cons_succ,List.getElem_toArray,List.getElem_cons_zero,List.getElem_cons_succ])
  refine wpAnyH_take (i:=7) rfl (by kernel_rfl) (by kernel_rfl) (by kernel_rfl) (fun _ _ _ h => h) (Or.inl ⟨by rfl,by intro w hSw;(skip);(go_simp <;> with_reducible rfl)⟩) (by assumption) ?_
  (try simp only [Act.put,List.setIfInBounds_toArray,List.set_cons_zero,List.set_cons_succ,List.getElem_toArray,List.getElem_cons_zero,List.getElem_cons_succ])
  refine wpAnyH_take (i:=10) rfl (by kernel_rfl) (by kernel_rfl) (by kernel_rfl) (fun _ _ _ h => h) (Or.inl ⟨by rfl,by intro w hSw;(skip);(go_simp <;> with_reducible rfl)⟩) (by assumption) ?_
  (try simp only [Act.put,List.setIfInBounds_toArray,List.set_cons_zero,List.set_cons_succ,List.getElem_toArray,List.getElem_cons_zero,List.getElem_cons_succ])
  refine wpAnyH_ready (rs:=[8,11]) (by kernel_rfl) (by simp) (AllReadyH.cons rfl (fun K hK => ?_) (AllReadyH.cons rfl (fun K hK => ?_) AllReadyH.nil))
  go_simp
  refine (HNU.out _).mono ?_
  rintro e w5 ⟨rfl,rfl⟩
  refine hK.out _ _ (by exact hHeld) (fun hHeld => ?_)
  clear hK K
  (try simp only [Act.put,List.setIfInBounds_toArray,List.set_cons_zero,List.set_cons_succ,List.getElem_toArray,List.getElem_cons_zero,List.getElem_cons_succ])
  refine wpAnyH_take (i:=9) rfl (by kernel_rfl) (by kernel_rfl) (by kernel_rfl) (fun _ _ _ h => h) (Or.inl ⟨by rfl,by intro w hSw;(skip);(go_simp <;> with_reducible rfl)⟩) (by assumption) ?_
  (try simp only [Act.put,List.setIfInBounds_toArray,List.set_cons_zero,List.set_cons_succ,List.getElem_toArray,List.getElem_cons_zero,List.getElem_cons_succ])
  refine wpAnyH_ready (rs:=[11,12]) (by kernel_rfl) (by simp) (AllReadyH.cons rfl (fun K hK => ?_) (AllReadyH.cons rfl (fun K hK => ?_) AllReadyH.nil))
  go_simp
  refine hK.out _ _ (by exact hHeld) (fun hHeld => ?_)
  clear hK K
  (try simp only [Act.put,List.setIfInBounds_toArray,List.set_cons_zero,List.set_cons_succ,List.getElem_toArray,List.getElem_cons_zero,List.getElem_cons_succ])
  refine wpAnyH_ready (rs:=[12]) (by kernel_rfl) (by simp) (AllReadyH.cons rfl (fun K hK => ?_) AllReadyH.nil)
  rw [if_pos (by rfl)]
  refine wp_store_mid _ _ _ rfl w.heap.size 0 (didV false 0 (.slice none 0 0) false false false (1 + 2 * (p:Int) + i)) rfl rfl hth hsd (by kernel_rfl) ?_
  refine hK.out _ _ (keep_box hHeld (by omega)) (fun hHeld => ?_)
  clear hK K
  (try simp only [Act.put,List.setIfInBounds_toArray,List.set_cons_zero,List.set_cons_succ,List.getElem_toArray,List.getElem_cons_zero,List.getElem_cons_succ])
  refine wpAnyH_take (i:=13) rfl (by kernel_rfl) (by kernel_rfl) (by kernel_rfl) (fun _ _ _ h => h) (Or.inl ⟨by rfl,by intro w hSw;(skip);(go_simp <;> with_reducible rfl)⟩) (by assumption) ?_
  (try simp only [Act.put,List.setIfInBounds_toArray,List.set_cons_zero,List.set_cons_succ,List.getElem_toArray,List.getElem_cons_zero,List.getElem_cons_succ])
  refine wpAnyH_done (by kernel_rfl) ?_ _
  rotate_left
  rw [if_pos (by rfl)]
  refine wp_store_mid _ _ _ rfl w.heap.size 0 (didV false 0 (.slice none 0 0) false false false (1 + 2 * (p:Int) + i)) rfl rfl hth hsd (by kernel_rfl) ?_
  refine hK.out _ _ (keep_box hHeld (by omega)) (fun hHeld => ?_)
  clear hK K
  (try simp only [Act.put,List.setIfInBounds_toArray,List.set_cons_zero,List.set_cons_succ,List.getElem_toArray,List.getElem_cons_zero,List.getElem_cons_succ])
  refine wpAnyH_ready (rs:=[11]) (by kernel_rfl) (by simp) (AllReadyH.cons rfl (fun K hK => ?_) AllReadyH.nil)
  go_simp
  refine hK.out _ _ (by exact hHeld) (fun hHeld => ?_)
  clear hK K
  (try simp only [Act.put,List.setIfInBounds_toArray,List.set_cons_zero,List.set_cons_succ,List.getElem_toArray,List.getElem_cons_zero,List.getElem_cons_succ])
  refine wpAnyH_take (i:=13) rfl (by kernel_rfl) (by kernel_rfl) (by kernel_rfl) (fun _ _ _ h => h) (Or.inl ⟨by rfl,by intro w hSw;(skip);(go_simp <;> with_reducible rfl)⟩) (by assumption) ?_
  (try simp only [Act.put,List.setIfInBounds_toArray,List.set_cons_zero,List.set_cons_succ,List.getElem_toArray,List.getElem_cons_zero,List.getElem_cons_succ])
  refine wpAnyH_done (by kernel_rfl) ?_ _
  rotate_left
  go_simp
  refine hK.out _ _ (by exact hHeld) (fun hHeld => ?_)
  clear hK K
  (try simp only [Act.put,List.setIfInBounds_toArray,List.set_cons_zero,List.set_cons_succ,List.getElem_toArray,List.getElem_cons_zero,List.getElem_cons_succ])
  refine wpAnyH_ready (rs:=[8]) (by kernel_rfl) (by simp) (AllReadyH.cons rfl (fun K hK => ?_) AllReadyH.nil)
  go_simp
  refine (HNU.out _).mono ?_
  rintro e w5 ⟨rfl,rfl⟩
  refine hK.out _ _ (by exact hHeld) (fun hHeld => ?_)
  clear hK K
  (try simp only [Act.put,List.setIfInBounds_toArray,List.set_cons_zero,List.set_cons_succ,List.getElem_toArray,List.getElem_cons_zero,List.getElem_cons_succ])
  refine wpAnyH_take (i:=9) rfl (by kernel_rfl) (by kernel_rfl) (by kernel_rfl) (fun _ _ _ h => h) (Or.inl ⟨by rfl,by intro w hSw;(skip);(go_simp <;> with_reducible rfl)⟩) (by assumption) ?_
  (try simp only [Act.put,List.setIfInBounds_toArray,List.set_cons_zero,List.set_cons_succ,List.getElem_toArray,List.getElem_cons_zero,List.getElem_cons_succ])
  refine wpAnyH_ready (rs:=[12]) (by kernel_rfl) (by simp) (AllReadyH.cons rfl (fun K hK => ?_) AllReadyH.nil)
  rw [if_pos (by rfl)]
  refine wp_store_mid _ _ _ rfl w.heap.size 0 (didV false 0 (.slice none 0 0) false false false (1 + 2 * (p:Int) + i)) rfl rfl hth hsd (by kernel_rfl) ?_
  refine hK.out _ _ (keep_box hHeld (by omega)) (fun hHeld => ?_)
  clear hK K
  (try simp only [Act.put,List.setIfInBounds_toArray,List.set_cons_zero,List.set_cons_succ,List.getElem_toArray,List.getElem_cons_zero,List.getElem_cons_succ])
  refine wpAnyH_take (i:=13) rfl (by kernel_rfl) (by kernel_rfl) (by kernel_rfl) (fun _ _ _ h => h) (Or.inl ⟨by rfl,by intro w hSw;(skip);(go_simp <;> with_reducible rfl)⟩) (by assumption) ?_
  (try simp only [Act.put,List.setIfInBounds_toArray,List.set_cons_zero,List.set_cons_succ,List.getElem_toArray,List.getElem_cons_zero,List.getElem_cons_succ])
  refine wpAnyH_done (by kernel_rfl) ?_ _
  all_goals go_wp2
  all_goals (have hrg:=World.rangeAt_setCells_same (X.drew) w.heap.size 0 (didV false 0 (.slice none 0 0) false false false (1 + 2 * (p:Int) + i):Array Value).toList hth;(try simp only [Exit.inBlock,Exit.then]);refine bodyPost_ret (results_cell_tmp rfl _ _ w.heap.size (didV false 0 (.slice none 0 0) false false false (1 + 2 * (p:Int) + i):Array Value).toList _ rfl hrg Tryz.underlying56 rfl did_size) rfl ?_;exact ⟨rfl,StepW.fin HBX.out.drew HMX.out.drew HOX.out.drew hwl hml.1 hml.2 _⟩)
end Go.Proofs.YtmhpcgcloojfbaaGreat
namespace Go.Proofs.YtmhpcgcloojfbaaGreat
open Go.RowKit Go.Sort
set_option linter.unusedVariables false
set_option linter.unusedSimpArgs false
set_option linter.unusedVariables false
set_option linter.unusedSimpArgs false
open Go.Proofs.YtmhpcgcloojfbaaGreat.Simp (oddN oddN_le)
set_option maxRecDepth 100000
set_option maxHeartbeats 1600000 in
theorem w_pick_b (mb rb wb:Nat) (ws:List Int) (nx:Value) (A:Pl8) (dv:Value) (p i:Nat) (mk:Bool) (now:Int) (w:World) (hw:WBlk w wb nx A dv p i mk) (hm:MemAt w mb rb ws) (hl:ws.length ≤ 1000000) (ha:A.re < ws.length) (h0:0 ≤ ws.getD A.re 0):Calls Tryz.prog 35 #[.pointer (some ⟨wb,0,none⟩),.pointer (some ⟨mb,0,none⟩),.int .i64 now] w fun e w' => e = .returned (.tuple #[.agg (didV false 0 (.slice none 0 0) false false false 0),.func (.func 68) #[.pointer (some ⟨wb,0,none⟩)] #[]]) ∧ StepW w mb rb wb (ws) nx A dv (1 - oddN (ws.getD A.re 0)) (i) (mk) w':=by
  obtain ⟨W,HW,hsz,hO,hz⟩:=did_new w
  have hwl:=hw.lt
  have hml:=hm.lt
  have hW:=hw.only hO (fun h => h)
  have hM:=hm.only hO (fun h => h) (fun h => h)
  have hO2:Only (New w.heap.size fun k => k = wb ∨ k = rb) w W:=hO.mono (fun k _ h => h.elim)
  have c2:W.cell? ⟨wb,2,none⟩ = some (.int .i64 A.re):=hW.cell rfl
  have c10:W.cell? ⟨wb,10,none⟩ = some (.int .u32 p):=hW.cell rfl
  have g10:=hW.frozen 10
  have HL:=Lib.hid (load_b mb rb ws A.re W hM hl ha)
  obtain ⟨x,hx⟩:∃ x,ws.getD A.re 0 = x:=⟨_,rfl⟩
  rw [hx] at HL h0 ⊢
  have HO:=Lib.hid (odd_b x W h0)
  have hq:=oddN_le x
  obtain ⟨q,hq'⟩:∃ q,oddN x = q:=⟨_,rfl⟩
  rw [hq'] at HO hq ⊢
  have HNE:=Lib.hid (hw.ne_mem hm);have HWB:=Lib.hid hW;have HM:=Lib.hid hM;have HO2:=Lib.hid hO2;have HZ:=Lib.hid hz
  clear hx hq' h0 hw hm hO hM hW hO2 hz
  have hq2:q = 0 ∨ q = 1:=by omega
  rcases hq2 with rfl | rfl
  · obtain ⟨X,HX⟩:∃ X,Hid (X = W.setCell ⟨wb,10,none⟩ (.int .u32 1)):=⟨_,rfl⟩
    have HZX:Hid (X.heap[w.heap.size]? = some (.cells (didV false 0 (.slice none 0 0) false false false 0) 56 (0,0))):=Lib.hid (by rw [HX.out,Below.heap_setCell _ _ _ _ (by show w.heap.size ≠ wb;omega)];exact HZ.out)
    have HBX:Hid (WBlk X wb nx A dv 1 i mk):=Lib.hid (by rw [HX.out];exact HWB.out.setPair 1)
    have HOX:Hid (Only (New w.heap.size fun k => k = wb ∨ k = rb) w X):=Lib.hid (by rw [HX.out];exact HO2.out.set (p:=⟨wb,10,none⟩) (.inr (.inl rfl)) _)
    have HMX:Hid (MemAt X mb rb ws):=Lib.hid (by rw [HX.out];exact HM.out.only (Only.setCell W ⟨wb,10,none⟩ _) HNE.out.1 HNE.out.2)
    have hth:=there_at (W:=X) HZX.out (n:=(didV false 0 (.slice none 0 0) false false false 0:Array Value).size) rfl
    have hsd:(Tryz.prog.info? 56).map (·.size) = some (didV false 0 (.slice none 0 0) false false false 0:Array Value).size:=did_size
    go_enter Tryz.func35,Tryz.ntmps35
    go_wp2_with (first | (rw [← HW.out]) | (go_at_call 67;((with_reducible refine HL.out.mono ?_);rintro e w5 ⟨rfl,rfl⟩)) | (go_at_call 66;((with_reducible refine HO.out.mono ?_);rintro e w5 ⟨rfl,rfl⟩)) | (rw [← HX.out]) | (with_reducible refine wpList_store_mid (by kernel_rfl) _ _ _ rfl w.heap.size 0 (didV false 0 (.slice none 0 0) false false false 0) (by kernel_rfl) (by kernel_rfl) hth hsd (by kernel_rfl) ?_))
    have hrg:=World.rangeAt_setCells_same (X) w.heap.size 0 (didV false 0 (.slice none 0 0) false false false 0:Array Value).toList hth
    (try simp only [Exit.inBlock,Exit.then])
    refine bodyPost_ret (results_cell_tmp rfl _ _ w.heap.size (didV false 0 (.slice none 0 0) false false false 0:Array Value).toList _ rfl hrg Tryz.underlying56 rfl did_size) rfl ?_
    exact ⟨rfl,StepW.fin HBX.out HMX.out HOX.out hwl hml.1 hml.2 _⟩
  · obtain ⟨X,HX⟩:∃ X,Hid (X = W.setCell ⟨wb,10,none⟩ (.int .u32 0)):=⟨_,rfl⟩
    have HZX:Hid (X.heap[w.heap.size]? = some (.cells (didV false 0 (.slice none 0 0) false false false 0) 56 (0,0))):=Lib.hid (by rw [HX.out,Below.heap_setCell _ _ _ _ (by show w.heap.size ≠ wb;omega)];exact HZ.out)
    have HBX:Hid (WBlk X wb nx A dv 0 i mk):=Lib.hid (by rw [HX.out];exact HWB.out.setPair 0)
    have HOX:Hid (Only (New w.heap.size fun k => k = wb ∨ k = rb) w X):=Lib.hid (by rw [HX.out];exact HO2.out.set (p:=⟨wb,10,none⟩) (.inr (.inl rfl)) _)
    have HMX:Hid (MemAt X mb rb ws):=Lib.hid (by rw [HX.out];exact HM.out.only (Only.setCell W ⟨wb,10,none⟩ _) HNE.out.1 HNE.out.2)
    have hth:=there_at (W:=X) HZX.out (n:=(didV false 0 (.slice none 0 0) false false false 0:Array Value).size) rfl
    have hsd:(Tryz.prog.info? 56).map (·.size) = some (didV false 0 (.slice none 0 0) false false false 0:Array Value).size:=did_size
    go_enter Tryz.func35,Tryz.ntmps35
    go_wp2_with (first | (rw [← HW.out]) | (go_at_call 67;((with_reducible refine HL.out.mono ?_);rintro e w5 ⟨rfl,rfl⟩)) | (go_at_call 66;((with_reducible refine HO.out.mono ?_);rintro e w5 ⟨rfl,rfl⟩)) | (rw [← HX.out]) | (with_reducible refine wpList_store_mid (by kernel_rfl) _ _ _ rfl w.heap.size 0 (didV false 0 (.slice none 0 0) false false false 0) (by kernel_rfl) (by kernel_rfl) hth hsd (by kernel_rfl) ?_))
    have hrg:=World.rangeAt_setCells_same (X) w.heap.size 0 (didV false 0 (.slice none 0 0) false false false 0:Array Value).toList hth
    (try simp only [Exit.inBlock,Exit.then])
    refine bodyPost_ret (results_cell_tmp rfl _ _ w.heap.size (didV false 0 (.slice none 0 0) false false false 0:Array Value).toList _ rfl hrg Tryz.underlying56 rfl did_size) rfl ?_
    exact ⟨rfl,StepW.fin HBX.out HMX.out HOX.out hwl hml.1 hml.2 _⟩
set_option maxHeartbeats 1600000 in
theorem w_index_b (mb rb wb:Nat) (ws:List Int) (nx:Value) (A:Pl8) (dv:Value) (p i:Nat) (mk:Bool) (now:Int) (w:World) (hw:WBlk w wb nx A dv p i mk) (hm:MemAt w mb rb ws) (hl:ws.length ≤ 1000000) (hp:p ≤ 1) (ha:A.slot p < ws.length) (h0:0 ≤ ws.getD (A.slot p) 0):Calls Tryz.prog 68 #[.pointer (some ⟨wb,0,none⟩),.pointer (some ⟨mb,0,none⟩),.int .i64 now] w fun e w' => e = .returned (.tuple #[.agg (didV false 0 (.slice none 0 0) false false false 0),.func (.func 95) #[.pointer (some ⟨wb,0,none⟩)] #[]]) ∧ StepW w mb rb wb (ws) nx A dv (p) (1 - oddN (ws.getD (A.slot p) 0)) (mk) w':=by
  obtain ⟨W,HW,hsz,hO,hz⟩:=did_new w
  have hwl:=hw.lt
  have hml:=hm.lt
  have hW:=hw.only hO (fun h => h)
  have hM:=hm.only hO (fun h => h) (fun h => h)
  have hO2:Only (New w.heap.size fun k => k = wb ∨ k = rb) w W:=hO.mono (fun k _ h => h.elim)
  have c3:W.cell? ⟨wb,3,none⟩ = some (.int .i64 A.s0):=hW.cell rfl
  have c4:W.cell? ⟨wb,4,none⟩ = some (.int .i64 A.s1):=hW.cell rfl
  have c10:W.cell? ⟨wb,10,none⟩ = some (.int .u32 p):=hW.cell rfl
  have c11:W.cell? ⟨wb,11,none⟩ = some (.int .u32 i):=hW.cell rfl
  have g11:=hW.frozen 11
  obtain ⟨sl,hsl⟩:∃ sl,A.slot p = sl:=⟨_,rfl⟩
  rw [hsl] at ha h0 ⊢
  have HL:=Lib.hid (fun W' (h:MemAt W' mb rb ws) => load_b mb rb ws sl W' h hl ha)
  obtain ⟨x,hx⟩:∃ x,ws.getD sl 0 = x:=⟨_,rfl⟩
  rw [hx] at HL h0 ⊢
  have HO:=Lib.hid (fun W' => odd_b x W' h0)
  have hq:=oddN_le x
  obtain ⟨q,hq'⟩:∃ q,oddN x = q:=⟨_,rfl⟩
  rw [hq'] at HO hq ⊢
  have HNE:=Lib.hid (hw.ne_mem hm);have HWB:=Lib.hid hW;have HM:=Lib.hid hM;have HO2:=Lib.hid hO2;have HZ:=Lib.hid hz
  clear hx hq' h0 hw hm hO hW hO2 hz ha hM
  have hq2:q = 0 ∨ q = 1:=by omega
  clear hq
  have hp2:p = 0 ∨ p = 1:=by omega
  clear hp
  rcases hp2 with rfl | rfl
  · obtain rfl:sl = A.s0:=(show sl = A.s0 from hsl.symm)
    clear hsl
    rcases hq2 with rfl | rfl
    · obtain ⟨X,HX⟩:∃ X,Hid (X = (W.setCell ⟨wb,11,none⟩ (.int .u32 (IntKind.u32.wrap 1))).drew):=⟨_,rfl⟩
      have HZX:Hid (X.heap[w.heap.size]? = some (.cells (didV false 0 (.slice none 0 0) false false false 0) 56 (0,0))):=Lib.hid (by rw [HX.out];exact (Below.heap_setCell _ _ _ _ (by show w.heap.size ≠ wb;omega)).trans HZ.out)
      have HBX:Hid (WBlk X wb nx A dv 0 1 mk):=Lib.hid (by rw [HX.out];exact (HWB.out.setIndex 1).drew)
      have HOX:Hid (Only (New w.heap.size fun k => k = wb ∨ k = rb) w X):=Lib.hid (by rw [HX.out];exact (HO2.out.set (p:=⟨wb,11,none⟩) (.inr (.inl rfl)) _).drew)
      have HMX:Hid (MemAt X mb rb ws):=Lib.hid (by rw [HX.out];exact (HM.out.only (Only.setCell W ⟨wb,11,none⟩ _) HNE.out.1 HNE.out.2).drew)
      have hth:=there_at (W:=X) HZX.out (n:=(didV false 0 (.slice none 0 0) false false false 0:Array Value).size) rfl
      have hsd:(Tryz.prog.info? 56).map (·.size) = some (didV false 0 (.slice none 0 0) false false false 0:Array Value).size:=did_size
      go_enter Tryz.func68,Tryz.ntmps68
      go_wp2_with (rw [← HW.out])
      go_region_with (first | (go_at_call 67;((with_reducible refine (HL.out _ ?_).mono ?_);(first | exact HM.out.drew | exact HM.out);rintro e w5 ⟨rfl,rfl⟩)) | (go_at_call 66;((with_reducible refine (HO.out _).mono ?_);rintro e w5 ⟨rfl,rfl⟩)))
      rw [← HX.out]
      go_wp2_with (with_reducible refine wpList_store_mid (by kernel_rfl) _ _ _ rfl w.heap.size 0 (didV false 0 (.slice none 0 0) false false false 0) (by kernel_rfl) (by kernel_rfl) hth hsd (by kernel_rfl) ?_)
      have hrg:=World.rangeAt_setCells_same (X) w.heap.size 0 (didV false 0 (.slice none 0 0) false false false 0:Array Value).toList hth
      (try simp only [Exit.inBlock,Exit.then])
      refine bodyPost_ret (results_cell_tmp rfl _ _ w.heap.size (didV false 0 (.slice none 0 0) false false false 0:Array Value).toList _ rfl hrg Tryz.underlying56 rfl did_size) rfl ?_
      exact ⟨rfl,StepW.fin HBX.out HMX.out HOX.out hwl hml.1 hml.2 _⟩
    · obtain ⟨X,HX⟩:∃ X,Hid (X = (W.setCell ⟨wb,11,none⟩ (.int .u32 (IntKind.u32.wrap 0))).drew):=⟨_,rfl⟩
      have HZX:Hid (X.heap[w.heap.size]? = some (.cells (didV false 0 (.slice none 0 0) false false false 0) 56 (0,0))):=Lib.hid (by rw [HX.out];exact (Below.heap_setCell _ _ _ _ (by show w.heap.size ≠ wb;omega)).trans HZ.out)
      have HBX:Hid (WBlk X wb nx A dv 0 0 mk):=Lib.hid (by rw [HX.out];exact (HWB.out.setIndex 0).drew)
      have HOX:Hid (Only (New w.heap.size fun k => k = wb ∨ k = rb) w X):=Lib.hid (by rw [HX.out];exact (HO2.out.set (p:=⟨wb,11,none⟩) (.inr (.inl rfl)) _).drew)
      have HMX:Hid (MemAt X mb rb ws):=Lib.hid (by rw [HX.out];exact (HM.out.only (Only.setCell W ⟨wb,11,none⟩ _) HNE.out.1 HNE.out.2).drew)
      have hth:=there_at (W:=X) HZX.out (n:=(didV false 0 (.slice none 0 0) false false false 0:Array Value).size) rfl
      have hsd:(Tryz.prog.info? 56).map (·.size) = some (didV false 0 (.slice none 0 0) false false false 0:Array Value).size:=did_size
      go_enter Tryz.func68,Tryz.ntmps68
      go_wp2_with (rw [← HW.out])
      go_region_with (first | (go_at_call 67;((with_reducible refine (HL.out _ ?_).mono ?_);(first | exact HM.out.drew | exact HM.out);rintro e w5 ⟨rfl,rfl⟩)) | (go_at_call 66;((with_reducible refine (HO.out _).mono ?_);rintro e w5 ⟨rfl,rfl⟩)))
      rw [← HX.out]
      go_wp2_with (with_reducible refine wpList_store_mid (by kernel_rfl) _ _ _ rfl w.heap.size 0 (didV false 0 (.slice none 0 0) false false false 0) (by kernel_rfl) (by kernel_rfl) hth hsd (by kernel_rfl) ?_)
      have hrg:=World.rangeAt_setCells_same (X) w.heap.size 0 (didV false 0 (.slice none 0 0) false false false 0:Array Value).toList hth
      (try simp only [Exit.inBlock,Exit.then])
      refine bodyPost_ret (results_cell_tmp rfl _ _ w.heap.size (didV false 0 (.slice none 0 0) false false false 0:Array Value).toList _ rfl hrg Tryz.underlying56 rfl did_size) rfl ?_
      exact ⟨rfl,StepW.fin HBX.out HMX.out HOX.out hwl hml.1 hml.2 _⟩
  · obtain rfl:sl = A.s1:=(show sl = A.s1 from hsl.symm)
    clear hsl
    rcases hq2 with rfl | rfl
    · obtain ⟨X,HX⟩:∃ X,Hid (X = (W.setCell ⟨wb,11,none⟩ (.int .u32 (IntKind.u32.wrap 1))).drew):=⟨_,rfl⟩
      have HZX:Hid (X.heap[w.heap.size]? = some (.cells (didV false 0 (.slice none 0 0) false false false 0) 56 (0,0))):=Lib.hid (by rw [HX.out];exact (Below.heap_setCell _ _ _ _ (by show w.heap.size ≠ wb;omega)).trans HZ.out)
      have HBX:Hid (WBlk X wb nx A dv 1 1 mk):=Lib.hid (by rw [HX.out];exact (HWB.out.setIndex 1).drew)
      have HOX:Hid (Only (New w.heap.size fun k => k = wb ∨ k = rb) w X):=Lib.hid (by rw [HX.out];exact (HO2.out.set (p:=⟨wb,11,none⟩) (.inr (.inl rfl)) _).drew)
      have HMX:Hid (MemAt X mb rb ws):=Lib.hid (by rw [HX.out];exact (HM.out.only (Only.setCell W ⟨wb,11,none⟩ _) HNE.out.1 HNE.out.2).drew)
      have hth:=there_at (W:=X) HZX.out (n:=(didV false 0 (.slice none 0 0) false false false 0:Array Value).size) rfl
      have hsd:(Tryz.prog.info? 56).map (·.size) = some (didV false 0 (.slice none 0 0) false false false 0:Array Value).size:=did_size
      go_enter Tryz.func68,Tryz.ntmps68
      go_wp2_with (rw [← HW.out])
      go_region_with (first | (go_at_call 67;((with_reducible refine (HL.out _ ?_).mono ?_);(first | exact HM.out.drew | exact HM.out);rintro e w5 ⟨rfl,rfl⟩)) | (go_at_call 66;((with_reducible refine (HO.out _).mono ?_);rintro e w5 ⟨rfl,rfl⟩)))
      rw [← HX.out]
      go_wp2_with (with_reducible refine wpList_store_mid (by kernel_rfl) _ _ _ rfl w.heap.size 0 (didV false 0 (.slice none 0 0) false false false 0) (by kernel_rfl) (by kernel_rfl) hth hsd (by kernel_rfl) ?_)
      have hrg:=World.rangeAt_setCells_same (X) w.heap.size 0 (didV false 0 (.slice none 0 0) false false false 0:Array Value).toList hth
      (try simp only [Exit.inBlock,Exit.then])
      refine bodyPost_ret (results_cell_tmp rfl _ _ w.heap.size (didV false 0 (.slice none 0 0) false false false 0:Array Value).toList _ rfl hrg Tryz.underlying56 rfl did_size) rfl ?_
      exact ⟨rfl,StepW.fin HBX.out HMX.out HOX.out hwl hml.1 hml.2 _⟩
    · obtain ⟨X,HX⟩:∃ X,Hid (X = (W.setCell ⟨wb,11,none⟩ (.int .u32 (IntKind.u32.wrap 0))).drew):=⟨_,rfl⟩
      have HZX:Hid (X.heap[w.heap.size]? = some (.cells (didV false 0 (.slice none 0 0) false false false 0) 56 (0,0))):=Lib.hid (by rw [HX.out];exact (Below.heap_setCell _ _ _ _ (by show w.heap.size ≠ wb;omega)).trans HZ.out)
      have HBX:Hid (WBlk X wb nx A dv 1 0 mk):=Lib.hid (by rw [HX.out];exact (HWB.out.setIndex 0).drew)
      have HOX:Hid (Only (New w.heap.size fun k => k = wb ∨ k = rb) w X):=Lib.hid (by rw [HX.out];exact (HO2.out.set (p:=⟨wb,11,none⟩) (.inr (.inl rfl)) _).drew)
      have HMX:Hid (MemAt X mb rb ws):=Lib.hid (by rw [HX.out];exact (HM.out.only (Only.setCell W ⟨wb,11,none⟩ _) HNE.out.1 HNE.out.2).drew)
      have hth:=there_at (W:=X) HZX.out (n:=(didV false 0 (.slice none 0 0) false false false 0:Array Value).size) rfl
      have hsd:(Tryz.prog.info? 56).map (·.size) = some (didV false 0 (.slice none 0 0) false false false 0:Array Value).size:=did_size
      go_enter Tryz.func68,Tryz.ntmps68
      go_wp2_with (rw [← HW.out])
      go_region_with (first | (go_at_call 67;((with_reducible refine (HL.out _ ?_).mono ?_);(first | exact HM.out.drew | exact HM.out);rintro e w5 ⟨rfl,rfl⟩)) | (go_at_call 66;((with_reducible refine (HO.out _).mono ?_);rintro e w5 ⟨rfl,rfl⟩)))
      rw [← HX.out]
      go_wp2_with (with_reducible refine wpList_store_mid (by kernel_rfl) _ _ _ rfl w.heap.size 0 (didV false 0 (.slice none 0 0) false false false 0) (by kernel_rfl) (by kernel_rfl) hth hsd (by kernel_rfl) ?_)
      have hrg:=World.rangeAt_setCells_same (X) w.heap.size 0 (didV false 0 (.slice none 0 0) false false false 0:Array Value).toList hth
      (try simp only [Exit.inBlock,Exit.then])
      refine bodyPost_ret (results_cell_tmp rfl _ _ w.heap.size (didV false 0 (.slice none 0 0) false false false 0:Array Value).toList _ rfl hrg Tryz.underlying56 rfl did_size) rfl ?_
      exact ⟨rfl,StepW.fin HBX.out HMX.out HOX.out hwl hml.1 hml.2 _⟩
end Go.Proofs.YtmhpcgcloojfbaaGreat
namespace Go.Proofs.YtmhpcgcloojfbaaGreat
open Go.RowKit Go.Sort
set_option linter.unusedVariables false
set_option linter.unusedSimpArgs false
set_option linter.unusedVariables false
set_option linter.unusedSimpArgs false
open Go.Proofs.YtmhpcgcloojfbaaGreat.Simp (oddN oddN_le)
set_option maxRecDepth 100000
set_option maxHeartbeats 1600000
/-- The world behind the making of a step that stores word i. -/
def wordW (w:World) (wb i:Nat):World:=((w.alloc (.cells #[.pointer (some ⟨wb,0,none⟩)] 46)).alloc (.cells #[.int .i64 (i:Int)] 3)).drew
theorem w_word_in (wb:Nat) (nx:Value) (A:Pl8) (dA:Option Addr) (n dc:Nat) (p i:Nat) (mk:Bool) (j:Nat) (w:World) (hw:WBlk w wb nx A (.slice dA n dc) p i mk) (hj:j < n) (hn:n ≤ 1000) :
    Calls Tryz.prog 112 #[.pointer (some ⟨wb,0,none⟩),.int .i64 (j:Int)] w fun e w' => e = .returned (.func (.func 117) #[] #[.pointer (some ⟨w.heap.size,0,none⟩),.pointer (some ⟨w.heap.size + 1,0,none⟩)]) ∧ w' = wordW w wb j:=by
  have c9:w.cell? ⟨wb,9,none⟩ = some (.slice dA n dc):=hw.cell rfl
  have hl:=hw.lt
  have d1:¬ ((n:Int) ≤ (j:Int)):=by omega
  have d2:decide ((n:Int) ≤ (j:Int)) = false:=decide_eq_false d1
  unfold wordW
  clear hw
  go_enter Tryz.func112,Tryz.ntmps112
  go_wp2
  go_region
  go_wp2
  go_ret
  exact ⟨rfl,rfl⟩
theorem w_word_out (wb:Nat) (nx:Value) (A:Pl8) (dA:Option Addr) (n dc:Nat) (p i:Nat) (mk:Bool) (j:Nat) (w:World) (hw:WBlk w wb nx A (.slice dA n dc) p i mk) (hj:n ≤ j) (hn:j ≤ 1000) :
    Calls Tryz.prog 112 #[.pointer (some ⟨wb,0,none⟩),.int .i64 (j:Int)] w fun e w' => e = .returned (.func (.func 116) #[.pointer (some ⟨wb,0,none⟩)] #[]) ∧ w' = wordW w wb j:=by
  have c9:w.cell? ⟨wb,9,none⟩ = some (.slice dA n dc):=hw.cell rfl
  have hl:=hw.lt
  have d1:((n:Int) ≤ (j:Int)):=by omega
  have d2:decide ((n:Int) ≤ (j:Int)) = true:=decide_eq_true d1
  unfold wordW
  clear hw
  go_enter Tryz.func112,Tryz.ntmps112
  go_wp2
  go_region
  go_wp2
  go_ret
  exact ⟨rfl,rfl⟩
/-- What comes behind word i - 1. -/
def NextWord (w w':World) (wb j n:Nat) (nx:Value):Prop:=
  (j < n → ∃ bw bi,nx = .func (.func 117) #[] #[.pointer (some ⟨bw,0,none⟩),.pointer (some ⟨bi,0,none⟩)] ∧ w.heap.size ≤ bw ∧ w.heap.size ≤ bi ∧ w'.heap[bw]? = some (.cells #[.pointer (some ⟨wb,0,none⟩)] 46 (0,0)) ∧ w'.heap[bi]? = some (.cells #[.int .i64 (j:Int)] 3 (0,0))) ∧ (n ≤ j → nx = .func (.func 116) #[.pointer (some ⟨wb,0,none⟩)] #[])
theorem wordW_only (w:World) (wb j:Nat):Only (fun _ => False) w (wordW w wb j):=(((Only.refl _ w).alloc _).alloc _).drew
theorem wordW_box (w:World) (wb j:Nat):(wordW w wb j).heap[w.heap.size]? = some (.cells #[.pointer (some ⟨wb,0,none⟩)] 46 (0,0)) ∧ (wordW w wb j).heap[w.heap.size + 1]? = some (.cells #[.int .i64 (j:Int)] 3 (0,0)):=by
  refine ⟨?_,?_⟩
  · show ((w.alloc (.cells #[.pointer (some ⟨wb,0,none⟩)] 46)).alloc (.cells #[.int .i64 (j:Int)] 3)).heap[w.heap.size]? = _
    rw [Below.heap_alloc _ _ _ (by simp)];exact heap_alloc_new w _
  · have:=heap_alloc_new (w.alloc (.cells #[.pointer (some ⟨wb,0,none⟩)] 46)) (.cells #[.int .i64 (j:Int)] 3)
    rw [World.size_alloc] at this
    exact this
theorem NextWord.of_in {w W w':World} {wb j n:Nat} (hj:j < n) (hs:w.heap.size ≤ W.heap.size) (h:Only (fun k => k = w.heap.size) (wordW W wb j) w') (hne:w.heap.size < W.heap.size) :
    NextWord w w' wb j n (.func (.func 117) #[] #[.pointer (some ⟨W.heap.size,0,none⟩),.pointer (some ⟨W.heap.size + 1,0,none⟩)]):=
  ⟨fun _ => ⟨_,_,rfl,hs,by omega,h.at_ (wordW_box W wb j).1 (by omega),h.at_ (wordW_box W wb j).2 (by omega)⟩,fun x => by omega⟩
theorem NextWord.of_out {w w':World} {wb j n:Nat} (hj:n ≤ j):NextWord w w' wb j n (.func (.func 116) #[.pointer (some ⟨wb,0,none⟩)] #[]):=⟨fun x => by omega,fun _ => rfl⟩
end Go.Proofs.YtmhpcgcloojfbaaGreat
namespace Go.Proofs.YtmhpcgcloojfbaaGreat
open Go.RowKit Go.Sort
set_option linter.unusedVariables false
set_option linter.unusedSimpArgs false
set_option linter.unusedVariables false
set_option linter.unusedSimpArgs false
set_option maxRecDepth 100000
set_option maxHeartbeats 1600000
theorem w_stamp_b (mb rb wb:Nat) (ws:List Int) (nx:Value) (A:Pl8) (dA:Option Addr) (n dc:Nat) (p i:Nat) (mk:Bool) (now:Int) (w:World) (hw:WBlk w wb nx A (.slice dA n dc) p i mk) (hm:MemAt w mb rb ws) (hl:ws.length ≤ 1000000) (hp:p ≤ 1) (hi:i ≤ 1) (hn:n ≤ 1000) (h0:0 < n) (ha:A.buf p i + 1 < ws.length):Calls Tryz.prog 108 #[.pointer (some ⟨wb,0,none⟩),.pointer (some ⟨mb,0,none⟩),.int .i64 now] w fun e w' => ∃ nx',e = .returned (.tuple #[.agg (didV false 0 (.slice none 0 0) false false true 0),nx']) ∧ NextWord w w' wb (0) n nx' ∧ StepW w mb rb wb (ws.set (A.buf p i + 1) (now % 4294967296)) nx A (.slice dA n dc) p i mk w':=by
  obtain ⟨W,HW,hsz,hO,hz⟩:=did_new w
  have hwl:=hw.lt
  have hml:=hm.lt
  have hW:=hw.only hO (fun h => h)
  have hM:=hm.only hO (fun h => h) (fun h => h)
  have hO2:Only (New w.heap.size fun k => k = wb ∨ k = rb) w W:=hO.mono (fun k _ h => h.elim)
  have c9:W.cell? ⟨wb,9,none⟩ = some (.slice dA n dc):=hW.cell rfl
  have c10:W.cell? ⟨wb,10,none⟩ = some (.int .u32 p):=hW.cell rfl
  have c11:W.cell? ⟨wb,11,none⟩ = some (.int .u32 i):=hW.cell rfl
  have HBF:=Lib.hid (fun (W':World) (h:WBlk W' wb nx A (.slice dA n dc) p i mk) => w_buffer_b wb nx A (.slice dA n dc) p i mk W' h hp hi)
  obtain ⟨k,hk⟩:∃ k,A.buf p i = k:=⟨_,rfl⟩
  rw [hk] at ha HBF ⊢
  have HS:=Lib.hid (fun (W':World) (av xv:Int) (hav:av = ((k + 1:Nat):Int)) (hxv:xv = now % 4294967296) (h:MemAt W' mb rb ws) => (show Calls Tryz.prog 96 #[.pointer (some ⟨mb,0,none⟩),.int .i64 av,.int .u32 xv] W' fun e w' => e = .returned (.tuple #[]) ∧ w' = W'.setCell ⟨rb,k + 1,none⟩ (.int .u32 (now % 4294967296)) from by subst hav;subst hxv;exact store_b mb rb ws _ _ W' h hl ha))
  have HNE:=Lib.hid (hw.ne_mem hm);have HWB:=Lib.hid hW;have HM:=Lib.hid hM;have HO2:=Lib.hid hO2;have HZ:=Lib.hid hz
  clear hk hw hm hO hW hO2 hz hM c9 c10 c11
  obtain ⟨X,HX⟩:∃ X,Hid (X = (W.setCell ⟨rb,k + 1,none⟩ (.int .u32 (now % 4294967296))).drew):=⟨_,rfl⟩
  have HZX:Hid (X.heap[w.heap.size]? = some (.cells (didV false 0 (.slice none 0 0) false false false 0) 56 (0,0))):=Lib.hid (by rw [HX.out];exact (Below.heap_setCell _ _ _ _ (by show w.heap.size ≠ rb;omega)).trans HZ.out)
  have HBX:Hid (WBlk X wb nx A (.slice dA n dc) p i mk):=Lib.hid (by rw [HX.out];exact (HWB.out.only (Only.setCell W ⟨rb,(k + 1),none⟩ (.int .u32 (now % 4294967296))) (fun h => HNE.out.2 h.symm)).drew)
  have HOX:Hid (Only (New w.heap.size fun k => k = wb ∨ k = rb) w X):=Lib.hid (by rw [HX.out];exact (HO2.out.set (p:=⟨rb,(k + 1),none⟩) (.inr (.inr rfl)) _).drew)
  have HMX:Hid (MemAt X mb rb (ws.set (k + 1) (now % 4294967296))):=Lib.hid (by rw [HX.out];exact (HM.out.set (k + 1) _).drew)
  have HWD:Hid (Calls Tryz.prog 112 #[.pointer (some ⟨wb,0,none⟩),.int .i64 0] X fun e w' => e = .returned (.func (.func 117) #[] #[.pointer (some ⟨X.heap.size,0,none⟩),.pointer (some ⟨X.heap.size + 1,0,none⟩)]) ∧ w' = wordW X wb 0):=Lib.hid (w_word_in wb nx A dA n dc p i mk 0 X HBX.out h0 hn)
  have hXs:W.heap.size ≤ X.heap.size:=by rw [HX.out];exact Nat.le_of_eq (by simp [World.setCell])
  obtain ⟨Y,HY⟩:∃ Y,Hid (Y = wordW X wb 0):=⟨_,rfl⟩
  have HOY:=Lib.hid (wordW_only X wb 0)
  rw [← HY.out] at HOY
  have HZX:=Lib.hid (HOY.out.at_ HZX.out (fun h => h))
  have hth:=there_at (W:=Y) HZX.out (n:=(didV false 0 (.slice none 0 0) false false true 0:Array Value).size) rfl
  have hsd:(Tryz.prog.info? 56).map (·.size) = some (didV false 0 (.slice none 0 0) false false true 0:Array Value).size:=did_size
  go_enter Tryz.func108,Tryz.ntmps108
  go_wp2_with (first | (rw [← HW.out]) | (go_at_call 106;((with_reducible refine (HBF.out _ ?_).mono ?_);(first | exact HWB.out | exact HWB.out.drew);rintro e w5 ⟨rfl,rfl⟩)) | (go_at_call 96;((with_reducible refine (HS.out _ _ _ ?_ ?_ ?_).mono ?_);(first | (with_reducible rfl) | omega | exact IntWalk.i64_in _ (by omega) | (rw [IntWalk.i64_in _ (by omega)] <;> omega) | (rw [IntWalk.i64_in (_ + 2) (by omega),IntWalk.i64_in _ (by omega)] <;> omega));(first | (with_reducible rfl) | (rw [IntKind.wrap_u32];omega) | (rw [IntKind.wrap_u32];with_reducible rfl));(first | exact HM.out | exact HM.out.drew | exact HM.out.drew.drew | exact HM.out.drew.drew.drew);rintro e w5 ⟨rfl,rfl⟩)) | (rw [← HX.out]) | (go_at_call 112;((with_reducible refine (HWD.out).mono ?_);rintro e w5 ⟨rfl,rfl⟩)) | (rw [← HY.out]) | (with_reducible refine wpList_store_mid (by kernel_rfl) _ _ _ rfl w.heap.size 0 (didV false 0 (.slice none 0 0) false false true 0) (by kernel_rfl) (by kernel_rfl) hth hsd (by kernel_rfl) ?_))
  have hrg:=World.rangeAt_setCells_same (Y) w.heap.size 0 (didV false 0 (.slice none 0 0) false false true 0:Array Value).toList hth
  (try simp only [Exit.inBlock,Exit.then])
  refine bodyPost_ret (results_cell_tmp rfl _ _ w.heap.size (didV false 0 (.slice none 0 0) false false true 0:Array Value).toList _ rfl hrg Tryz.underlying56 rfl did_size) rfl ?_
  exact ⟨_,rfl,NextWord.of_in h0 (by omega) (by rw [HY.out];exact Only.sets (S:=fun k => k = w.heap.size) rfl _ 0 (Only.refl _ _)) (by omega),StepW.fin (HBX.out.only HOY.out (fun h => h)) (HMX.out.only HOY.out (fun h => h) (fun h => h)) (HOX.out.trans (HOY.out.mono (fun _ _ h => h.elim))) hwl hml.1 hml.2 _⟩
theorem w_word1_b (mb rb wb:Nat) (ws:List Int) (nx:Value) (A:Pl8) (db do_:Nat) (n dc:Nat) (p i:Nat) (mk:Bool) (now:Int) (w:World) (bw bi j:Nat) (x:Int) (hw:WBlk w wb nx A (.slice (some ⟨db,do_,none⟩) n dc) p i mk) (hm:MemAt w mb rb ws) (hl:ws.length ≤ 1000000) (hp:p ≤ 1) (hi:i ≤ 1) (hn:n ≤ 1000) (hj:j < n) (ha:A.buf p i + 2 + j < ws.length)
    (hbw:w.heap[bw]? = some (.cells #[.pointer (some ⟨wb,0,none⟩)] 46 (0,0))) (hbi:w.heap[bi]? = some (.cells #[.int .i64 (j:Int)] 3 (0,0))) (hx:w.cell? ⟨db,do_ + j,none⟩ = some (.int .u32 x)) (hd:db ≠ rb) :
    Calls Tryz.prog 117 #[.pointer (some ⟨mb,0,none⟩),.int .i64 now,.pointer (some ⟨bw,0,none⟩),.pointer (some ⟨bi,0,none⟩)] w fun e w' => ∃ nx',e = .returned (.tuple #[.agg (didV false 0 (.slice none 0 0) false false false 0),nx']) ∧ NextWord w w' wb (j + 1) n nx' ∧ StepW w mb rb wb (ws.set (A.buf p i + 2 + j) x) nx A (.slice (some ⟨db,do_,none⟩) n dc) p i mk w':=by
  obtain ⟨W,HW,hsz,hO,hz⟩:=did_new w
  have hwl:=hw.lt
  have hml:=hm.lt
  have hW:=hw.only hO (fun h => h)
  have hM:=hm.only hO (fun h => h) (fun h => h)
  have hO2:Only (New w.heap.size fun k => k = wb ∨ k = rb) w W:=hO.mono (fun k _ h => h.elim)
  have c9:W.cell? ⟨wb,9,none⟩ = some (.slice (some ⟨db,do_,none⟩) n dc):=hW.cell rfl
  have hbw1:bw ≠ rb:=by rintro rfl;have:=hbw.symm.trans hm.row;simp at this
  have hbi1:bi ≠ rb:=by rintro rfl;have:=hbi.symm.trans hm.row;simp at this
  have hdl:db < w.heap.size:=World.block_lt_of_cell? w ⟨db,do_ + j,none⟩ hx
  have HBW:=Lib.hid (hO.at_ hbw (fun h => h));have HBI:=Lib.hid (hO.at_ hbi (fun h => h))
  have b0:W.cell? ⟨bw,0,none⟩ = some (.pointer (some ⟨wb,0,none⟩)):=blk_cell HBW.out rfl
  have i0:W.cell? ⟨bi,0,none⟩ = some (.int .i64 (j:Int)):=blk_cell HBI.out rfl
  have x0:W.cell? ⟨db,do_ + j,none⟩ = some (.int .u32 x):=by
    have:=hO.block db hdl (fun h => h)
    unfold World.cell? at hx ⊢;rw [this];exact hx
  have HBF:=Lib.hid (fun (W':World) (h:WBlk W' wb nx A (.slice (some ⟨db,do_,none⟩) n dc) p i mk) => w_buffer_b wb nx A (.slice (some ⟨db,do_,none⟩) n dc) p i mk W' h hp hi)
  obtain ⟨k,hk⟩:∃ k,A.buf p i = k:=⟨_,rfl⟩
  rw [hk] at ha HBF ⊢
  have HS:=Lib.hid (fun (W':World) (av xv:Int) (hav:av = ((k + 2 + j:Nat):Int)) (hxv:xv = x) (h:MemAt W' mb rb ws) => (show Calls Tryz.prog 96 #[.pointer (some ⟨mb,0,none⟩),.int .i64 av,.int .u32 xv] W' fun e w' => e = .returned (.tuple #[]) ∧ w' = W'.setCell ⟨rb,k + 2 + j,none⟩ (.int .u32 (x)) from by subst hav;subst hxv;exact store_b mb rb ws _ _ W' h hl ha))
  have HNE:=Lib.hid (hw.ne_mem hm);have HWB:=Lib.hid hW;have HM:=Lib.hid hM;have HO2:=Lib.hid hO2;have HZ:=Lib.hid hz
  have HNB:=Lib.hid (And.intro hbw1 (And.intro hbi1 (Ne.symm hd)))
  have j1:(j:Int) < (n:Int):=by omega
  clear hk hw hm hO hW hO2 hz hM hbw hbi hx hbw1 hbi1 hd
  obtain ⟨X,HX⟩:∃ X,Hid (X = (W.setCell ⟨rb,k + 2 + j,none⟩ (.int .u32 x)).drew.drew):=⟨_,rfl⟩
  have HZX:Hid (X.heap[w.heap.size]? = some (.cells (didV false 0 (.slice none 0 0) false false false 0) 56 (0,0))):=Lib.hid (by rw [HX.out];exact (Below.heap_setCell _ _ _ _ (by show w.heap.size ≠ rb;omega)).trans HZ.out)
  have HBX:Hid (WBlk X wb nx A (.slice (some ⟨db,do_,none⟩) n dc) p i mk):=Lib.hid (by rw [HX.out];exact (HWB.out.only (Only.setCell W ⟨rb,(k + 2 + j),none⟩ (.int .u32 x)) (fun h => HNE.out.2 h.symm)).drew.drew)
  have HOX:Hid (Only (New w.heap.size fun k => k = wb ∨ k = rb) w X):=Lib.hid (by rw [HX.out];exact (HO2.out.set (p:=⟨rb,(k + 2 + j),none⟩) (.inr (.inr rfl)) _).drew.drew)
  have HMX:Hid (MemAt X mb rb (ws.set (k + 2 + j) x)):=Lib.hid (by rw [HX.out];exact (HM.out.set (k + 2 + j) _).drew.drew)
  have HOR:=Lib.hid (Only.setCell W ⟨rb,k + 2 + j,none⟩ (.int .u32 x))
  have HBWX:Hid (X.heap[bw]? = some (.cells #[.pointer (some ⟨wb,0,none⟩)] 46 (0,0))):=Lib.hid (by rw [HX.out];exact HOR.out.at_ HBW.out HNB.out.1)
  have HBIX:Hid (X.heap[bi]? = some (.cells #[.int .i64 (j:Int)] 3 (0,0))):=Lib.hid (by rw [HX.out];exact HOR.out.at_ HBI.out HNB.out.2.1)
  have hXs:W.heap.size ≤ X.heap.size:=by rw [HX.out];exact Nat.le_of_eq (by simp [World.setCell])
  obtain ⟨Y,HY⟩:∃ Y,Hid (Y = wordW X wb (j + 1)):=⟨_,rfl⟩
  have HOY:=Lib.hid (wordW_only X wb (j + 1))
  rw [← HY.out] at HOY
  have HZX:=Lib.hid (HOY.out.at_ HZX.out (fun h => h))
  have hth:=there_at (W:=Y) HZX.out (n:=(didV false 0 (.slice none 0 0) false false false 0:Array Value).size) rfl
  have hsd:(Tryz.prog.info? 56).map (·.size) = some (didV false 0 (.slice none 0 0) false false false 0:Array Value).size:=did_size
  go_enter Tryz.func117,Tryz.ntmps117
  go_wp2_with (rw [← HW.out])
  go_region_held3 (fun W' => W'.cell? ⟨bw,0,none⟩ = some (.pointer (some ⟨wb,0,none⟩)) ∧ W'.cell? ⟨bi,0,none⟩ = some (.int .i64 (j:Int)) ∧ W'.cell? ⟨wb,9,none⟩ = some (.slice (some ⟨db,do_,none⟩) n dc) ∧ W'.cell? ⟨db,do_ + j,none⟩ = some (.int .u32 x)) ((first | exact ⟨b0,i0,c9,x0⟩ | exact ⟨cell_set_ne b0 HNB.out.1.symm,cell_set_ne i0 HNB.out.2.1.symm,cell_set_ne c9 HNE.out.2,cell_set_ne x0 HNB.out.2.2⟩)) ((first | (go_at_call 106;((with_reducible refine (HBF.out _ ?_).mono ?_);(first | exact HWB.out | exact HWB.out.drew);rintro e w5 ⟨rfl,rfl⟩)) | (go_at_call 96;((with_reducible refine (HS.out _ _ _ ?_ ?_ ?_).mono ?_);(first | (with_reducible rfl) | omega | exact IntWalk.i64_in _ (by omega) | (rw [IntWalk.i64_in _ (by omega)] <;> omega) | (rw [IntWalk.i64_in (_ + 2) (by omega),IntWalk.i64_in _ (by omega)] <;> omega));(first | (with_reducible rfl) | (rw [IntKind.wrap_u32];omega) | (rw [IntKind.wrap_u32];with_reducible rfl));(first | exact HM.out | exact HM.out.drew | exact HM.out.drew.drew | exact HM.out.drew.drew.drew);rintro e w5 ⟨rfl,rfl⟩))))
  rw [← HX.out]
  rename_i hlast
  clear hlast b0 i0 c9 x0
  have b0:X.cell? ⟨bw,0,none⟩ = some (.pointer (some ⟨wb,0,none⟩)):=blk_cell HBWX.out rfl
  have i0:X.cell? ⟨bi,0,none⟩ = some (.int .i64 (j:Int)):=blk_cell HBIX.out rfl
  by_cases hjn:j + 1 < n
  · have HWD:=Lib.hid (fun (a:Int) (hq:a = ((j + 1:Nat):Int)) => (show Calls Tryz.prog 112 #[.pointer (some ⟨wb,0,none⟩),.int .i64 a] X _ from by subst hq;exact w_word_in wb nx A (some ⟨db,do_,none⟩) n dc p i mk (j + 1) X HBX.out hjn hn))
    go_wp2_with (first | (go_at_call 112;((with_reducible refine (HWD.out _ ?_).mono ?_);(first | rfl | exact IntWalk.i64_in _ (by omega) | omega);rintro e w5 ⟨rfl,rfl⟩)) | (rw [← HY.out]) | (with_reducible refine wpList_store_mid (by kernel_rfl) _ _ _ rfl w.heap.size 0 (didV false 0 (.slice none 0 0) false false false 0) (by kernel_rfl) (by kernel_rfl) hth hsd (by kernel_rfl) ?_))
    have hrg:=World.rangeAt_setCells_same (Y) w.heap.size 0 (didV false 0 (.slice none 0 0) false false false 0:Array Value).toList hth
    (try simp only [Exit.inBlock,Exit.then])
    refine bodyPost_ret (results_cell_tmp rfl _ _ w.heap.size (didV false 0 (.slice none 0 0) false false false 0:Array Value).toList _ rfl hrg Tryz.underlying56 rfl did_size) rfl ?_
    exact ⟨_,rfl,NextWord.of_in hjn (by omega) (by rw [HY.out];exact Only.sets (S:=fun k => k = w.heap.size) rfl _ 0 (Only.refl _ _)) (by omega),StepW.fin (HBX.out.only HOY.out (fun h => h)) (HMX.out.only HOY.out (fun h => h) (fun h => h)) (HOX.out.trans (HOY.out.mono (fun _ _ h => h.elim))) hwl hml.1 hml.2 _⟩
  · have HWD:=Lib.hid (fun (a:Int) (hq:a = ((j + 1:Nat):Int)) => (show Calls Tryz.prog 112 #[.pointer (some ⟨wb,0,none⟩),.int .i64 a] X _ from by subst hq;exact w_word_out wb nx A (some ⟨db,do_,none⟩) n dc p i mk (j + 1) X HBX.out (by omega) (by omega)))
    go_wp2_with (first | (go_at_call 112;((with_reducible refine (HWD.out _ ?_).mono ?_);(first | rfl | exact IntWalk.i64_in _ (by omega) | omega);rintro e w5 ⟨rfl,rfl⟩)) | (rw [← HY.out]) | (with_reducible refine wpList_store_mid (by kernel_rfl) _ _ _ rfl w.heap.size 0 (didV false 0 (.slice none 0 0) false false false 0) (by kernel_rfl) (by kernel_rfl) hth hsd (by kernel_rfl) ?_))
    have hrg:=World.rangeAt_setCells_same (Y) w.heap.size 0 (didV false 0 (.slice none 0 0) false false false 0:Array Value).toList hth
    (try simp only [Exit.inBlock,Exit.then])
    refine bodyPost_ret (results_cell_tmp rfl _ _ w.heap.size (didV false 0 (.slice none 0 0) false false false 0:Array Value).toList _ rfl hrg Tryz.underlying56 rfl did_size) rfl ?_
    exact ⟨_,rfl,NextWord.of_out (by omega),StepW.fin (HBX.out.only HOY.out (fun h => h)) (HMX.out.only HOY.out (fun h => h) (fun h => h)) (HOX.out.trans (HOY.out.mono (fun _ _ h => h.elim))) hwl hml.1 hml.2 _⟩
end Go.Proofs.YtmhpcgcloojfbaaGreat
namespace Go.Proofs.YtmhpcgcloojfbaaGreat
open Go.RowKit Go.Sort
set_option linter.unusedVariables false
set_option linter.unusedSimpArgs false
set_option linter.unusedVariables false
set_option linter.unusedSimpArgs false
open Go.Proofs.YtmhpcgcloojfbaaGreat.Simp (oddN oddN_le)
set_option maxRecDepth 100000
set_option maxHeartbeats 3200000
theorem cells_set2 {W:World} {b i j k:Nat} {u v x:Value} (h:W.cell? ⟨b,i,none⟩ = some u ∧ W.cell? ⟨b,j,none⟩ = some v) (h1:i ≠ k) (h2:j ≠ k):(W.setCell ⟨b,k,none⟩ x).cell? ⟨b,i,none⟩ = some u ∧ (W.setCell ⟨b,k,none⟩ x).cell? ⟨b,j,none⟩ = some v:=by
  constructor
  · rw [World.cell?_setCell_other (h:=fun e => by cases e;exact h1 rfl)];exact h.1
  · rw [World.cell?_setCell_other (h:=fun e => by cases e;exact h2 rfl)];exact h.2
theorem w_pair_b (mb rb wb:Nat) (ws:List Int) (nx:Value) (A:Pl8) (dv:Value) (p i:Nat) (mk:Bool) (now:Int) (w:World) (hw:WBlk w wb nx A dv p i mk) (hm:MemAt w mb rb ws) (hl:ws.length ≤ 1000000) (hp:p ≤ 1) (ha:A.la < ws.length):Calls Tryz.prog 121 #[.pointer (some ⟨wb,0,none⟩),.pointer (some ⟨mb,0,none⟩),.int .i64 now] w fun e w' => e = .returned (.tuple #[.agg (didV true 0 (.slice none 0 0) false (!mk) false 0),.nilFunc]) ∧ StepW w mb rb wb (ws.set A.la p) nx A dv (p) (i) (mk) w':=by
  obtain ⟨W,HW,hsz,hO,hz⟩:=did_new w
  have hwl:=hw.lt
  have hml:=hm.lt
  have hW:=hw.only hO (fun h => h)
  have hM:=hm.only hO (fun h => h) (fun h => h)
  have hO2:Only (New w.heap.size fun k => k = wb ∨ k = rb) w W:=hO.mono (fun k _ h => h.elim)
  have c1:W.cell? ⟨wb,1,none⟩ = some (.int .i64 A.la):=hW.cell rfl
  have c10:W.cell? ⟨wb,10,none⟩ = some (.int .u32 p):=hW.cell rfl
  have c12:W.cell? ⟨wb,12,none⟩ = some (.bool mk):=hW.cell rfl
  have HS:=Lib.hid (fun (W':World) (av xv:Int) (hav:av = ((A.la:Nat):Int)) (hxv:xv = (p:Int)) (h:MemAt W' mb rb ws) => (show Calls Tryz.prog 96 #[.pointer (some ⟨mb,0,none⟩),.int .i64 av,.int .u32 xv] W' fun e w' => e = .returned (.tuple #[]) ∧ w' = W'.setCell ⟨rb,A.la,none⟩ (.int .u32 ((p:Int))) from by subst hav;subst hxv;exact store_b mb rb ws _ _ W' h hl ha))
  have HNE:=Lib.hid (hw.ne_mem hm);have HWB:=Lib.hid hW;have HM:=Lib.hid hM;have HO2:=Lib.hid hO2;have HZ:=Lib.hid hz
  clear hw hm hO hW hO2 hz hM
  obtain ⟨X,HX⟩:∃ X,Hid (X = (W.setCell ⟨rb,A.la,none⟩ (.int .u32 (p:Int))).drew):=⟨_,rfl⟩
  have HZX:Hid (X.heap[w.heap.size]? = some (.cells (didV false 0 (.slice none 0 0) false false false 0) 56 (0,0))):=Lib.hid (by rw [HX.out];exact (Below.heap_setCell _ _ _ _ (by show w.heap.size ≠ rb;omega)).trans HZ.out)
  have HBX:Hid (WBlk X wb nx A dv p i mk):=Lib.hid (by rw [HX.out];exact (HWB.out.only (Only.setCell W ⟨rb,A.la,none⟩ (.int .u32 (p:Int))) (fun h => HNE.out.2 h.symm)).drew)
  have HOX:Hid (Only (New w.heap.size fun k => k = wb ∨ k = rb) w X):=Lib.hid (by rw [HX.out];exact (HO2.out.set (p:=⟨rb,A.la,none⟩) (.inr (.inr rfl)) _).drew)
  have HMX:Hid (MemAt X mb rb (ws.set A.la (p:Int))):=Lib.hid (by rw [HX.out];exact (HM.out.set A.la _).drew)
  have hth:=there_at (W:=X) HZX.out (n:=(didV true 0 (.slice none 0 0) false (!mk) false 0:Array Value).size) rfl
  have hsd:(Tryz.prog.info? 56).map (·.size) = some (didV true 0 (.slice none 0 0) false (!mk) false 0:Array Value).size:=did_size
  go_enter Tryz.func121,Tryz.ntmps121
  go_wp2_with (rw [← HW.out])
  go_region_held3 (fun W' => W'.cell? ⟨wb,1,none⟩ = some (.int .i64 A.la) ∧ W'.cell? ⟨wb,10,none⟩ = some (.int .u32 (p:Int))) ((first | exact ⟨c1,c10⟩ | exact ⟨cell_set_ne c1 HNE.out.2,cell_set_ne c10 HNE.out.2⟩)) ((go_at_call 96;((with_reducible refine (HS.out _ _ _ ?_ ?_ ?_).mono ?_);(first | (with_reducible rfl) | omega | exact IntWalk.i64_in _ (by omega) | (rw [IntWalk.i64_in _ (by omega)] <;> omega) | (rw [IntWalk.i64_in (_ + 2) (by omega),IntWalk.i64_in _ (by omega)] <;> omega));(first | (with_reducible rfl) | (rw [IntKind.wrap_u32];omega) | (rw [IntKind.wrap_u32];with_reducible rfl));(first | exact HM.out | exact HM.out.drew | exact HM.out.drew.drew | exact HM.out.drew.drew.drew);rintro e w5 ⟨rfl,rfl⟩)))
  rw [← HX.out]
  clear c1 c10 c12
  have e12:X.cell? ⟨wb,12,none⟩ = some (.bool mk):=HBX.out.cell rfl
  go_wp2_with (with_reducible refine wpList_store_mid (by kernel_rfl) _ _ _ rfl w.heap.size 0 (didV true 0 (.slice none 0 0) false (!mk) false 0) (by kernel_rfl) (by kernel_rfl) hth hsd (by kernel_rfl) ?_)
  have hrg:=World.rangeAt_setCells_same (X) w.heap.size 0 (didV true 0 (.slice none 0 0) false (!mk) false 0:Array Value).toList hth
  (try simp only [Exit.inBlock,Exit.then])
  refine bodyPost_ret (results_cell_tmp rfl _ _ w.heap.size (didV true 0 (.slice none 0 0) false (!mk) false 0:Array Value).toList _ rfl hrg Tryz.underlying56 rfl did_size) rfl ?_
  exact ⟨rfl,StepW.fin HBX.out HMX.out HOX.out hwl hml.1 hml.2 _⟩
theorem w_slot_b (mb rb wb:Nat) (ws:List Int) (nx:Value) (A:Pl8) (dv:Value) (p i:Nat) (mk:Bool) (now:Int) (w:World) (hw:WBlk w wb nx A dv p i mk) (hm:MemAt w mb rb ws) (hl:ws.length ≤ 1000000) (hp:p ≤ 1) (hi:i ≤ 1) (ha:A.slot p < ws.length) (hb:A.la < ws.length) (h0:0 ≤ (ws.set (A.slot p) i).getD A.la 0):Calls Tryz.prog 116 #[.pointer (some ⟨wb,0,none⟩),.pointer (some ⟨mb,0,none⟩),.int .i64 now] w fun e w' => e = .returned (.tuple #[.agg (didV false 0 (.slice none 0 0) false (decide (oddN ((ws.set (A.slot p) i).getD A.la 0) = p)) false 0),.func (.func 121) #[.pointer (some ⟨wb,0,none⟩)] #[]]) ∧ StepW w mb rb wb (ws.set (A.slot p) i) nx A dv (p) (i) (decide (oddN ((ws.set (A.slot p) i).getD A.la 0) = p)) w':=by
  obtain ⟨W,HW,hsz,hO,hz⟩:=did_new w
  have hwl:=hw.lt
  have hml:=hm.lt
  have hW:=hw.only hO (fun h => h)
  have hM:=hm.only hO (fun h => h) (fun h => h)
  have hO2:Only (New w.heap.size fun k => k = wb ∨ k = rb) w W:=hO.mono (fun k _ h => h.elim)
  have c3:W.cell? ⟨wb,3,none⟩ = some (.int .i64 A.s0):=hW.cell rfl
  have c4:W.cell? ⟨wb,4,none⟩ = some (.int .i64 A.s1):=hW.cell rfl
  have c10:W.cell? ⟨wb,10,none⟩ = some (.int .u32 p):=hW.cell rfl
  have c11:W.cell? ⟨wb,11,none⟩ = some (.int .u32 i):=hW.cell rfl
  obtain ⟨sl,hsl⟩:∃ sl,A.slot p = sl:=⟨_,rfl⟩
  rw [hsl] at ha h0 ⊢
  have HS:=Lib.hid (fun (W':World) (av xv:Int) (hav:av = ((sl:Nat):Int)) (hxv:xv = (i:Int)) (h:MemAt W' mb rb ws) => (show Calls Tryz.prog 96 #[.pointer (some ⟨mb,0,none⟩),.int .i64 av,.int .u32 xv] W' fun e w' => e = .returned (.tuple #[]) ∧ w' = W'.setCell ⟨rb,sl,none⟩ (.int .u32 ((i:Int))) from by subst hav;subst hxv;exact store_b mb rb ws _ _ W' h hl ha))
  have HL:=Lib.hid (fun W' (h:MemAt W' mb rb (ws.set sl i)) => load_b mb rb (ws.set sl i) A.la W' h (by rw [List.length_set];exact hl) (by rw [List.length_set];exact hb))
  obtain ⟨x,hx⟩:∃ x,(ws.set sl i).getD A.la 0 = x:=⟨_,rfl⟩
  rw [hx] at HL h0 ⊢
  have HO:=Lib.hid (fun W' => odd_b x W' h0)
  have hq:=oddN_le x
  obtain ⟨q,hq'⟩:∃ q,oddN x = q:=⟨_,rfl⟩
  rw [hq'] at HO hq ⊢
  have HNE:=Lib.hid (hw.ne_mem hm);have HWB:=Lib.hid hW;have HM:=Lib.hid hM;have HO2:=Lib.hid hO2;have HZ:=Lib.hid hz
  clear hx hq' h0 hw hm hO hW hO2 hz ha hM hb
  have hq2:q = 0 ∨ q = 1:=by omega
  clear hq
  have hp2:p = 0 ∨ p = 1:=by omega
  clear hp
  rcases hp2 with rfl | rfl
  · obtain rfl:sl = A.s0:=(show sl = A.s0 from hsl.symm)
    clear hsl
    obtain ⟨X,HX⟩:∃ X,Hid (X = (W.setCell ⟨rb,A.s0,none⟩ (.int .u32 (i:Int))).drew):=⟨_,rfl⟩
    have HZX:Hid (X.heap[w.heap.size]? = some (.cells (didV false 0 (.slice none 0 0) false false false 0) 56 (0,0))):=Lib.hid (by rw [HX.out];exact (Below.heap_setCell _ _ _ _ (by show w.heap.size ≠ rb;omega)).trans HZ.out)
    have HBX:Hid (WBlk X wb nx A dv 0 i mk):=Lib.hid (by rw [HX.out];exact (HWB.out.only (Only.setCell W ⟨rb,A.s0,none⟩ (.int .u32 (i:Int))) (fun h => HNE.out.2 h.symm)).drew)
    have HOX:Hid (Only (New w.heap.size fun k => k = wb ∨ k = rb) w X):=Lib.hid (by rw [HX.out];exact (HO2.out.set (p:=⟨rb,A.s0,none⟩) (.inr (.inr rfl)) _).drew)
    have HMX:Hid (MemAt X mb rb (ws.set A.s0 (i:Int))):=Lib.hid (by rw [HX.out];exact (HM.out.set A.s0 _).drew)
    go_enter Tryz.func116,Tryz.ntmps116
    go_wp2_with (rw [← HW.out])
    go_region_held3 (fun W' => W'.cell? ⟨wb,3,none⟩ = some (.int .i64 A.s0) ∧ W'.cell? ⟨wb,10,none⟩ = some (.int .u32 0) ∧ W'.cell? ⟨wb,11,none⟩ = some (.int .u32 (i:Int))) ((first | exact ⟨c3,c10,c11⟩ | exact ⟨cell_set_ne c3 HNE.out.2,cell_set_ne c10 HNE.out.2,cell_set_ne c11 HNE.out.2⟩)) ((go_at_call 96;((with_reducible refine (HS.out _ _ _ ?_ ?_ ?_).mono ?_);(first | (with_reducible rfl) | omega | exact IntWalk.i64_in _ (by omega) | (rw [IntWalk.i64_in _ (by omega)] <;> omega) | (rw [IntWalk.i64_in (_ + 2) (by omega),IntWalk.i64_in _ (by omega)] <;> omega));(first | (with_reducible rfl) | (rw [IntKind.wrap_u32];omega) | (rw [IntKind.wrap_u32];with_reducible rfl));(first | exact HM.out | exact HM.out.drew | exact HM.out.drew.drew | exact HM.out.drew.drew.drew);rintro e w5 ⟨rfl,rfl⟩)))
    rw [← HX.out]
    clear c3 c4 c10 c11
    have e1:X.cell? ⟨wb,1,none⟩ = some (.int .i64 A.la):=HBX.out.cell rfl
    have e10:X.cell? ⟨wb,10,none⟩ = some (.int .u32 0):=HBX.out.cell rfl
    have f12:=HBX.out.frozen 12
    have e12:X.cell? ⟨wb,12,none⟩ = some (.bool mk):=HBX.out.cell rfl
    rcases hq2 with rfl | rfl
    · obtain ⟨Y,HY⟩:∃ Y,Hid (Y = (X.setCell ⟨wb,12,none⟩ (.bool true)).drew):=⟨_,rfl⟩
      have HZY:Hid (Y.heap[w.heap.size]? = some (.cells (didV false 0 (.slice none 0 0) false false false 0) 56 (0,0))):=Lib.hid (by rw [HY.out];exact (Below.heap_setCell _ _ _ _ (by show w.heap.size ≠ wb;omega)).trans HZX.out)
      have HBY:Hid (WBlk Y wb nx A dv 0 i true):=Lib.hid (by rw [HY.out];exact (HBX.out.setMark true).drew)
      have HOY:Hid (Only (New w.heap.size fun k => k = wb ∨ k = rb) w Y):=Lib.hid (by rw [HY.out];exact (HOX.out.set (p:=⟨wb,12,none⟩) (.inr (.inl rfl)) _).drew)
      have HMY:Hid (MemAt Y mb rb (ws.set A.s0 i)):=Lib.hid (by rw [HY.out];exact (HMX.out.only (Only.setCell X ⟨wb,12,none⟩ _) HNE.out.1 HNE.out.2).drew)
      go_wp2
      go_region_held3 (fun W' => W'.cell? ⟨wb,1,none⟩ = some (.int .i64 A.la) ∧ W'.cell? ⟨wb,10,none⟩ = some (.int .u32 0)) ((first | exact ⟨e1,e10⟩ | exact cells_set2 ⟨e1,e10⟩ (by decide) (by decide))) ((first | (go_at_call 67;((with_reducible refine (HL.out _ ?_).mono ?_);(first | exact HMX.out | exact HMX.out.drew);rintro e w5 ⟨rfl,rfl⟩)) | (go_at_call 66;((with_reducible refine (HO.out _).mono ?_);rintro e w5 ⟨rfl,rfl⟩))))
      rw [← HY.out]
      have HZX:=HZY
      clear e1 e10
      have hth:=there_at (W:=Y) HZX.out (n:=(didV false 0 (.slice none 0 0) false (true) false 0:Array Value).size) rfl
      have hsd:(Tryz.prog.info? 56).map (·.size) = some (didV false 0 (.slice none 0 0) false (true) false 0:Array Value).size:=did_size
      have y12:Y.cell? ⟨wb,12,none⟩ = some (.bool true):=HBY.out.cell rfl
      go_wp2_with (with_reducible refine wpList_store_mid (by kernel_rfl) _ _ _ rfl w.heap.size 0 (didV false 0 (.slice none 0 0) false (true) false 0) (by kernel_rfl) (by kernel_rfl) hth hsd (by kernel_rfl) ?_)
      have hrg:=World.rangeAt_setCells_same (Y) w.heap.size 0 (didV false 0 (.slice none 0 0) false (true) false 0:Array Value).toList hth
      (try simp only [Exit.inBlock,Exit.then])
      refine bodyPost_ret (results_cell_tmp rfl _ _ w.heap.size (didV false 0 (.slice none 0 0) false (true) false 0:Array Value).toList _ rfl hrg Tryz.underlying56 rfl did_size) rfl ?_
      exact ⟨rfl,StepW.fin HBY.out HMY.out HOY.out hwl hml.1 hml.2 _⟩
    · obtain ⟨Y,HY⟩:∃ Y,Hid (Y = (X.setCell ⟨wb,12,none⟩ (.bool false)).drew):=⟨_,rfl⟩
      have HZY:Hid (Y.heap[w.heap.size]? = some (.cells (didV false 0 (.slice none 0 0) false false false 0) 56 (0,0))):=Lib.hid (by rw [HY.out];exact (Below.heap_setCell _ _ _ _ (by show w.heap.size ≠ wb;omega)).trans HZX.out)
      have HBY:Hid (WBlk Y wb nx A dv 0 i false):=Lib.hid (by rw [HY.out];exact (HBX.out.setMark false).drew)
      have HOY:Hid (Only (New w.heap.size fun k => k = wb ∨ k = rb) w Y):=Lib.hid (by rw [HY.out];exact (HOX.out.set (p:=⟨wb,12,none⟩) (.inr (.inl rfl)) _).drew)
      have HMY:Hid (MemAt Y mb rb (ws.set A.s0 i)):=Lib.hid (by rw [HY.out];exact (HMX.out.only (Only.setCell X ⟨wb,12,none⟩ _) HNE.out.1 HNE.out.2).drew)
      go_wp2
      go_region_held3 (fun W' => W'.cell? ⟨wb,1,none⟩ = some (.int .i64 A.la) ∧ W'.cell? ⟨wb,10,none⟩ = some (.int .u32 0)) ((first | exact ⟨e1,e10⟩ | exact cells_set2 ⟨e1,e10⟩ (by decide) (by decide))) ((first | (go_at_call 67;((with_reducible refine (HL.out _ ?_).mono ?_);(first | exact HMX.out | exact HMX.out.drew);rintro e w5 ⟨rfl,rfl⟩)) | (go_at_call 66;((with_reducible refine (HO.out _).mono ?_);rintro e w5 ⟨rfl,rfl⟩))))
      rw [← HY.out]
      have HZX:=HZY
      clear e1 e10
      have hth:=there_at (W:=Y) HZX.out (n:=(didV false 0 (.slice none 0 0) false (false) false 0:Array Value).size) rfl
      have hsd:(Tryz.prog.info? 56).map (·.size) = some (didV false 0 (.slice none 0 0) false (false) false 0:Array Value).size:=did_size
      have y12:Y.cell? ⟨wb,12,none⟩ = some (.bool false):=HBY.out.cell rfl
      go_wp2_with (with_reducible refine wpList_store_mid (by kernel_rfl) _ _ _ rfl w.heap.size 0 (didV false 0 (.slice none 0 0) false (false) false 0) (by kernel_rfl) (by kernel_rfl) hth hsd (by kernel_rfl) ?_)
      have hrg:=World.rangeAt_setCells_same (Y) w.heap.size 0 (didV false 0 (.slice none 0 0) false (false) false 0:Array Value).toList hth
      (try simp only [Exit.inBlock,Exit.then])
      refine bodyPost_ret (results_cell_tmp rfl _ _ w.heap.size (didV false 0 (.slice none 0 0) false (false) false 0:Array Value).toList _ rfl hrg Tryz.underlying56 rfl did_size) rfl ?_
      exact ⟨rfl,StepW.fin HBY.out HMY.out HOY.out hwl hml.1 hml.2 _⟩
  · obtain rfl:sl = A.s1:=(show sl = A.s1 from hsl.symm)
    clear hsl
    obtain ⟨X,HX⟩:∃ X,Hid (X = (W.setCell ⟨rb,A.s1,none⟩ (.int .u32 (i:Int))).drew):=⟨_,rfl⟩
    have HZX:Hid (X.heap[w.heap.size]? = some (.cells (didV false 0 (.slice none 0 0) false false false 0) 56 (0,0))):=Lib.hid (by rw [HX.out];exact (Below.heap_setCell _ _ _ _ (by show w.heap.size ≠ rb;omega)).trans HZ.out)
    have HBX:Hid (WBlk X wb nx A dv 1 i mk):=Lib.hid (by rw [HX.out];exact (HWB.out.only (Only.setCell W ⟨rb,A.s1,none⟩ (.int .u32 (i:Int))) (fun h => HNE.out.2 h.symm)).drew)
    have HOX:Hid (Only (New w.heap.size fun k => k = wb ∨ k = rb) w X):=Lib.hid (by rw [HX.out];exact (HO2.out.set (p:=⟨rb,A.s1,none⟩) (.inr (.inr rfl)) _).drew)
    have HMX:Hid (MemAt X mb rb (ws.set A.s1 (i:Int))):=Lib.hid (by rw [HX.out];exact (HM.out.set A.s1 _).drew)
    go_enter Tryz.func116,Tryz.ntmps116
    go_wp2_with (rw [← HW.out])
    go_region_held3 (fun W' => W'.cell? ⟨wb,4,none⟩ = some (.int .i64 A.s1) ∧ W'.cell? ⟨wb,10,none⟩ = some (.int .u32 1) ∧ W'.cell? ⟨wb,11,none⟩ = some (.int .u32 (i:Int))) ((first | exact ⟨c4,c10,c11⟩ | exact ⟨cell_set_ne c4 HNE.out.2,cell_set_ne c10 HNE.out.2,cell_set_ne c11 HNE.out.2⟩)) ((go_at_call 96;((with_reducible refine (HS.out _ _ _ ?_ ?_ ?_).mono ?_);(first | (with_reducible rfl) | omega | exact IntWalk.i64_in _ (by omega) | (rw [IntWalk.i64_in _ (by omega)] <;> omega) | (rw [IntWalk.i64_in (_ + 2) (by omega),IntWalk.i64_in _ (by omega)] <;> omega));(first | (with_reducible rfl) | (rw [IntKind.wrap_u32];omega) | (rw [IntKind.wrap_u32];with_reducible rfl));(first | exact HM.out | exact HM.out.drew | exact HM.out.drew.drew | exact HM.out.drew.drew.drew);rintro e w5 ⟨rfl,rfl⟩)))
    rw [← HX.out]
    clear c3 c4 c10 c11
    have e1:X.cell? ⟨wb,1,none⟩ = some (.int .i64 A.la):=HBX.out.cell rfl
    have e10:X.cell? ⟨wb,10,none⟩ = some (.int .u32 1):=HBX.out.cell rfl
    have f12:=HBX.out.frozen 12
    have e12:X.cell? ⟨wb,12,none⟩ = some (.bool mk):=HBX.out.cell rfl
    rcases hq2 with rfl | rfl
    · obtain ⟨Y,HY⟩:∃ Y,Hid (Y = (X.setCell ⟨wb,12,none⟩ (.bool false)).drew):=⟨_,rfl⟩
      have HZY:Hid (Y.heap[w.heap.size]? = some (.cells (didV false 0 (.slice none 0 0) false false false 0) 56 (0,0))):=Lib.hid (by rw [HY.out];exact (Below.heap_setCell _ _ _ _ (by show w.heap.size ≠ wb;omega)).trans HZX.out)
      have HBY:Hid (WBlk Y wb nx A dv 1 i false):=Lib.hid (by rw [HY.out];exact (HBX.out.setMark false).drew)
      have HOY:Hid (Only (New w.heap.size fun k => k = wb ∨ k = rb) w Y):=Lib.hid (by rw [HY.out];exact (HOX.out.set (p:=⟨wb,12,none⟩) (.inr (.inl rfl)) _).drew)
      have HMY:Hid (MemAt Y mb rb (ws.set A.s1 i)):=Lib.hid (by rw [HY.out];exact (HMX.out.only (Only.setCell X ⟨wb,12,none⟩ _) HNE.out.1 HNE.out.2).drew)
      go_wp2
      go_region_held3 (fun W' => W'.cell? ⟨wb,1,none⟩ = some (.int .i64 A.la) ∧ W'.cell? ⟨wb,10,none⟩ = some (.int .u32 1)) ((first | exact ⟨e1,e10⟩ | exact cells_set2 ⟨e1,e10⟩ (by decide) (by decide))) ((first | (go_at_call 67;((with_reducible refine (HL.out _ ?_).mono ?_);(first | exact HMX.out | exact HMX.out.drew);rintro e w5 ⟨rfl,rfl⟩)) | (go_at_call 66;((with_reducible refine (HO.out _).mono ?_);rintro e w5 ⟨rfl,rfl⟩))))
      rw [← HY.out]
      have HZX:=HZY
      clear e1 e10
      have hth:=there_at (W:=Y) HZX.out (n:=(didV false 0 (.slice none 0 0) false (false) false 0:Array Value).size) rfl
      have hsd:(Tryz.prog.info? 56).map (·.size) = some (didV false 0 (.slice none 0 0) false (false) false 0:Array Value).size:=did_size
      have y12:Y.cell? ⟨wb,12,none⟩ = some (.bool false):=HBY.out.cell rfl
      go_wp2_with (with_reducible refine wpList_store_mid (by kernel_rfl) _ _ _ rfl w.heap.size 0 (didV false 0 (.slice none 0 0) false (false) false 0) (by kernel_rfl) (by kernel_rfl) hth hsd (by kernel_rfl) ?_)
      have hrg:=World.rangeAt_setCells_same (Y) w.heap.size 0 (didV false 0 (.slice none 0 0) false (false) false 0:Array Value).toList hth
      (try simp only [Exit.inBlock,Exit.then])
      refine bodyPost_ret (results_cell_tmp rfl _ _ w.heap.size (didV false 0 (.slice none 0 0) false (false) false 0:Array Value).toList _ rfl hrg Tryz.underlying56 rfl did_size) rfl ?_
      exact ⟨rfl,StepW.fin HBY.out HMY.out HOY.out hwl hml.1 hml.2 _⟩
    · obtain ⟨Y,HY⟩:∃ Y,Hid (Y = (X.setCell ⟨wb,12,none⟩ (.bool true)).drew):=⟨_,rfl⟩
      have HZY:Hid (Y.heap[w.heap.size]? = some (.cells (didV false 0 (.slice none 0 0) false false false 0) 56 (0,0))):=Lib.hid (by rw [HY.out];exact (Below.heap_setCell _ _ _ _ (by show w.heap.size ≠ wb;omega)).trans HZX.out)
      have HBY:Hid (WBlk Y wb nx A dv 1 i true):=Lib.hid (by rw [HY.out];exact (HBX.out.setMark true).drew)
      have HOY:Hid (Only (New w.heap.size fun k => k = wb ∨ k = rb) w Y):=Lib.hid (by rw [HY.out];exact (HOX.out.set (p:=⟨wb,12,none⟩) (.inr (.inl rfl)) _).drew)
      have HMY:Hid (MemAt Y mb rb (ws.set A.s1 i)):=Lib.hid (by rw [HY.out];exact (HMX.out.only (Only.setCell X ⟨wb,12,none⟩ _) HNE.out.1 HNE.out.2).drew)
      go_wp2
      go_region_held3 (fun W' => W'.cell? ⟨wb,1,none⟩ = some (.int .i64 A.la) ∧ W'.cell? ⟨wb,10,none⟩ = some (.int .u32 1)) ((first | exact ⟨e1,e10⟩ | exact cells_set2 ⟨e1,e10⟩ (by decide) (by decide))) ((first | (go_at_call 67;((with_reducible refine (HL.out _ ?_).mono ?_);(first | exact HMX.out | exact HMX.out.drew);rintro e w5 ⟨rfl,rfl⟩)) | (go_at_call 66;((with_reducible refine (HO.out _).mono ?_);rintro e w5 ⟨rfl,rfl⟩))))
      rw [← HY.out]
      have HZX:=HZY
      clear e1 e10
      have hth:=there_at (W:=Y) HZX.out (n:=(didV false 0 (.slice none 0 0) false (true) false 0:Array Value).size) rfl
      have hsd:(Tryz.prog.info? 56).map (·.size) = some (didV false 0 (.slice none 0 0) false (true) false 0:Array Value).size:=did_size
      have y12:Y.cell? ⟨wb,12,none⟩ = some (.bool true):=HBY.out.cell rfl
      go_wp2_with (with_reducible refine wpList_store_mid (by kernel_rfl) _ _ _ rfl w.heap.size 0 (didV false 0 (.slice none 0 0) false (true) false 0) (by kernel_rfl) (by kernel_rfl) hth hsd (by kernel_rfl) ?_)
      have hrg:=World.rangeAt_setCells_same (Y) w.heap.size 0 (didV false 0 (.slice none 0 0) false (true) false 0:Array Value).toList hth
      (try simp only [Exit.inBlock,Exit.then])
      refine bodyPost_ret (results_cell_tmp rfl _ _ w.heap.size (didV false 0 (.slice none 0 0) false (true) false 0:Array Value).toList _ rfl hrg Tryz.underlying56 rfl did_size) rfl ?_
      exact ⟨rfl,StepW.fin HBY.out HMY.out HOY.out hwl hml.1 hml.2 _⟩
end Go.Proofs.YtmhpcgcloojfbaaGreat
