/- Texts of the ring, joined, what is used of them. No condition but those in the statements. -/
import Derived.BigQuiet
import Derived.BigRegion
import Derived.Deep.MidRow
import Derived.Deep.RegionHeld3
import Derived.Deep.Upon
import Derived.IntWalk
import Derived.Test.YtmhpcgcloojfbaaGreatQgD
namespace Go.Proofs.YtmhpcgcloojfbaaGreat
open Go.RowKit Go.Sort
set_option linter.unusedVariables false
set_option linter.unusedSimpArgs false
set_option linter.unusedVariables false
set_option linter.unusedSimpArgs false
open Go.Proofs.YtmhpcgcloojfbaaGreat.Simp
set_option maxRecDepth 100000
set_option maxHeartbeats 1600000
theorem una_b (ob:Nat) (own:Int) (d n tl hd ce be:Nat) (sv:Value) (w:World) (ho:OBlk w ob own d n tl hd ce be sv) :
    Calls Tryz.prog 74 #[.pointer (some ⟨ob,0,none⟩)] w fun e w' => e = .returned (.agg (qdV true (2) (.slice none 0 0) (0) true false)) ∧ OBlk w' ob own d n tl hd ce be (.slice none 0 0) ∧ Only (fun k => k = ob) w w':=by
  obtain ⟨W,HW,hsz,hO,hz⟩:=did_new w
  have hol:=ho.lt
  have hW:=ho.only hO (fun h => h)
  have c7:W.cell? ⟨ob,7,none⟩ = some sv:=hW.cell rfl
  have g7:=hW.frozen 7
  have hO2:Only (New w.heap.size fun k => k = ob) w W:=hO.mono (fun k _ h => h.elim)
  obtain ⟨X,HX⟩:∃ X,Hid (X = W.setCell ⟨ob,7,none⟩ (.slice none 0 0)):=⟨_,rfl⟩
  have HZX:Hid (X.heap[w.heap.size]? = some (.cells #[.bool false,.int .i64 0,.slice none 0 0,.bool false,.int .i64 0,.bool false,.bool false,.bool false,.int .i64 0] 56 (0,0))):=Lib.hid (by rw [HX.out];exact (Below.heap_setCell _ _ _ _ (by show w.heap.size ≠ ob;omega)).trans hz)
  have HBX:Hid (OBlk X ob own d n tl hd ce be (.slice none 0 0)):=Lib.hid (by rw [HX.out];exact hW.setSteps _)
  have HOX:Hid (Only (New w.heap.size fun k => k = ob) w X):=Lib.hid (by rw [HX.out];exact hO2.set (p:=⟨ob,7,none⟩) (.inr rfl) _)
  have hth:=there_at (W:=X) HZX.out (n:=(qdV true (2) (.slice none 0 0) (0) true false:Array Value).size) rfl
  have hsd:(Tryz.prog.info? 56).map (·.size) = some (qdV true (2) (.slice none 0 0) (0) true false:Array Value).size:=did_size
  clear hW hO hO2 hz ho
  go_enter Tryz.func74,Tryz.ntmps74
  go_wp2_with (first | (rw [← HW.out]) | (rw [← HX.out]) | (with_reducible refine wpList_store_mid (by kernel_rfl) _ _ _ rfl w.heap.size 0 (qdV true (2) (.slice none 0 0) (0) true false) (by kernel_rfl) (by kernel_rfl) hth hsd (by kernel_rfl) ?_))
  have hs:=Only.sets (S:=fun k => k = w.heap.size) rfl [.bool true,.int .i64 (2),.slice none 0 0,.bool false,.int .i64 (0),.bool true,.bool false,.bool false,.int .i64 0] 0 (Only.refl _ X)
  have hrg:=World.rangeAt_setCells_same (X) w.heap.size 0 [.bool true,.int .i64 (2),.slice none 0 0,.bool false,.int .i64 (0),.bool true,.bool false,.bool false,.int .i64 0] (there_at (cs:=#[.bool false,.int .i64 0,.slice none 0 0,.bool false,.int .i64 0,.bool false,.bool false,.bool false,.int .i64 0]) (n:=9) (show (X).heap[w.heap.size]? = _ from HZX.out) rfl)
  (try simp only [Exit.inBlock,Exit.then])
  refine bodyPost_ret (results_cell_row rfl _ _ w.heap.size [.bool true,.int .i64 (2),.slice none 0 0,.bool false,.int .i64 (0),.bool true,.bool false,.bool false,.int .i64 0] _ rfl hrg Tryz.underlying56 rfl did_size) rfl ?_
  exact ⟨rfl,HBX.out.only hs (by omega),(HOX.out.trans (hs.mono fun k _ hk => .inl (by omega))).old⟩
theorem q_head_b (mb rb ob:Nat) (bp:Value) (ws:List Int) (own:Int) (d n tl hd ce be:Nat) (sv:Value) (w:World) (ho:OBlk w ob own d n tl hd ce be sv) (hm:MemAt w mb rb ws) (hl:ws.length ≤ 1000000) (ha:hd < ws.length) (hb2:¬ ((d:Int) ≤ (own - ws.getD hd 0) % 4294967296)):Calls Tryz.prog 44 #[.pointer (some ⟨ob,0,none⟩),.pointer (some ⟨mb,0,none⟩),bp] w fun e w' => e = .returned (.agg (qdV false (0) (.slice none 0 0) (0) false false)) ∧ StepQ (fun k => k = ob ∨ k = rb) w mb rb ob (ws) own d n tl hd ce be sv w':=by
  obtain ⟨W,HW,hsz,hO,hz⟩:=did_new w
  have hol:=ho.lt
  have hml:=hm.lt
  have hne:=ho.ne_mem hm
  have hW:=ho.only hO (fun h => h)
  have hM:=hm.only hO (fun h => h) (fun h => h)
  have hO2:Only (New w.heap.size (fun k => k = ob ∨ k = rb)) w W:=hO.mono (fun k _ h => h.elim)
  have q0:∀ rg:Regrown,(grow (redrawn W rg.d) rg.os).cell? ⟨ob,0,none⟩ = some (.int .u32 own):=fun rg => cell_regrown (hW.cell rfl) rg.d rg.os
  have q1:∀ rg:Regrown,(grow (redrawn W rg.d) rg.os).cell? ⟨ob,1,none⟩ = some (.int .u32 d):=fun rg => cell_regrown (hW.cell rfl) rg.d rg.os
  have q4:∀ rg:Regrown,(grow (redrawn W rg.d) rg.os).cell? ⟨ob,4,none⟩ = some (.int .i64 (hd:Int)):=fun rg => cell_regrown (hW.cell rfl) rg.d rg.os
  have hbc:=Below.refl W.heap.size W
  have HHW:=Lib.hid hW;have HM:=Lib.hid hM;have HO:=Lib.hid hO;have HO2:=Lib.hid hO2;have HZ:=Lib.hid hz;have HNE:=Lib.hid hne
  obtain ⟨x,hx⟩:∃ x,ws.getD hd 0 = x:=⟨_,rfl⟩
  have HL:Hid (∀ d os,Calls Tryz.prog 73 #[.pointer (some ⟨mb,0,none⟩),.int .i64 ((hd:Nat):Int)] (grow (redrawn W d) os) (fun e w'' => e = .returned (.int .u32 (ws.getD hd 0)) ∧ ∃ p:Regrown,w'' = grow (redrawn W p.d) p.os)):=Lib.hid (fun d os => Calls.regrown_of ((rload_b mb rb ws hd _ (hM.below ((below_regrown W d os).mono (by exact Nat.le_refl _))) hl ha).mono fun e w' ⟨h1,h2⟩ => ⟨h1,h2 ▸ Below.refl _ _⟩))
  rw [hx] at HL hb2
  have hb:decide ((d:Int) ≤ (own - x) % 4294967296) = false:=decide_eq_false hb2
  clear hx
  clear hW hM hO hO2 hz hne ho hm
  have HZC:=Lib.hid (fun (W':World) (h:Below W.heap.size W W') => (h.block w.heap.size (Array.getElem?_eq_some_iff.1 HZ.out).1).trans HZ.out)
  have hth:=fun (W':World) (h:Below W.heap.size W W') => there_at (HZC.out W' h) (n:=(qdV false (0) (.slice none 0 0) (0) false false:Array Value).size) rfl
  have hsd:(Tryz.prog.info? 56).map (·.size) = some (qdV false (0) (.slice none 0 0) (0) false false:Array Value).size:=did_size
  
  go_enter Tryz.func44,Tryz.ntmps44
  go_wp2_with (first | (rw [← HW.out]) | fail | (with_reducible refine wpList_store_mid (by kernel_rfl) _ _ _ rfl w.heap.size 0 (qdV false (0) (.slice none 0 0) (0) false false) (by kernel_rfl) (by kernel_rfl) (hth wc hbc) hsd (by kernel_rfl) ?_) | ((first | with_reducible refine wpList_on hbc ?_ | with_reducible refine wp_on hbc (by kernel_rfl) (by kernel_rfl) ?_);(repeat (go_big_quiet_step (first | with_reducible exact HL.out _ _)));with_reducible refine wpQuiet_nil ?_;intro wc hbc))
  have HZX:=Lib.hid (HZC.out wc hbc)
  have hrg:=World.rangeAt_setCells_same (wc) w.heap.size 0 [.bool false,.int .i64 (0),.slice none 0 0,.bool false,.int .i64 (0),.bool false,.bool false,.bool false,.int .i64 0] (there_at (cs:=#[.bool false,.int .i64 0,.slice none 0 0,.bool false,.int .i64 0,.bool false,.bool false,.bool false,.int .i64 0]) (n:=9) (show (wc).heap[w.heap.size]? = _ from HZX.out) rfl)
  (try simp only [Exit.inBlock,Exit.then])
  refine bodyPost_ret (results_cell_row rfl _ _ w.heap.size [.bool false,.int .i64 (0),.slice none 0 0,.bool false,.int .i64 (0),.bool false,.bool false,.bool false,.int .i64 0] _ rfl hrg Tryz.underlying56 rfl did_size) rfl ?_
  exact ⟨rfl,StepQ.fin (HHW.out.at_ (hbc.block _ (by omega))) (HM.out.below hbc) (HO2.out.trans (Only.of_below (S:=New w.heap.size (fun k => k = ob ∨ k = rb)) hbc)) hol hml.1 hml.2 _⟩
theorem q_full_b (mb rb ob:Nat) (bp:Value) (ws:List Int) (own:Int) (d n tl hd ce be:Nat) (sv:Value) (w:World) (ho:OBlk w ob own d n tl hd ce be sv) (hm:MemAt w mb rb ws) (hl:ws.length ≤ 1000000) (ha:hd < ws.length) (hb2:(d:Int) ≤ (own - ws.getD hd 0) % 4294967296):Calls Tryz.prog 44 #[.pointer (some ⟨ob,0,none⟩),.pointer (some ⟨mb,0,none⟩),bp] w fun e w' => e = .returned (.agg (qdV true (2) (.slice none 0 0) (0) true false)) ∧ StepQ (fun k => k = ob ∨ k = rb) w mb rb ob (ws) own d n tl hd ce be (.slice none 0 0) w':=by
  obtain ⟨W,HW,hsz,hO,hz⟩:=did_new w
  have hol:=ho.lt
  have hml:=hm.lt
  have hne:=ho.ne_mem hm
  have hW:=ho.only hO (fun h => h)
  have hM:=hm.only hO (fun h => h) (fun h => h)
  have hO2:Only (New w.heap.size (fun k => k = ob ∨ k = rb)) w W:=hO.mono (fun k _ h => h.elim)
  have q0:∀ rg:Regrown,(grow (redrawn W rg.d) rg.os).cell? ⟨ob,0,none⟩ = some (.int .u32 own):=fun rg => cell_regrown (hW.cell rfl) rg.d rg.os
  have q1:∀ rg:Regrown,(grow (redrawn W rg.d) rg.os).cell? ⟨ob,1,none⟩ = some (.int .u32 d):=fun rg => cell_regrown (hW.cell rfl) rg.d rg.os
  have q4:∀ rg:Regrown,(grow (redrawn W rg.d) rg.os).cell? ⟨ob,4,none⟩ = some (.int .i64 (hd:Int)):=fun rg => cell_regrown (hW.cell rfl) rg.d rg.os
  have hbc:=Below.refl W.heap.size W
  have HHW:=Lib.hid hW;have HM:=Lib.hid hM;have HO:=Lib.hid hO;have HO2:=Lib.hid hO2;have HZ:=Lib.hid hz;have HNE:=Lib.hid hne
  obtain ⟨x,hx⟩:∃ x,ws.getD hd 0 = x:=⟨_,rfl⟩
  have HL:Hid (∀ d os,Calls Tryz.prog 73 #[.pointer (some ⟨mb,0,none⟩),.int .i64 ((hd:Nat):Int)] (grow (redrawn W d) os) (fun e w'' => e = .returned (.int .u32 (ws.getD hd 0)) ∧ ∃ p:Regrown,w'' = grow (redrawn W p.d) p.os)):=Lib.hid (fun d os => Calls.regrown_of ((rload_b mb rb ws hd _ (hM.below ((below_regrown W d os).mono (by exact Nat.le_refl _))) hl ha).mono fun e w' ⟨h1,h2⟩ => ⟨h1,h2 ▸ Below.refl _ _⟩))
  rw [hx] at HL hb2
  have hb:decide ((d:Int) ≤ (own - x) % 4294967296) = true:=decide_eq_true hb2
  clear hx
  clear hW hM hO hO2 hz hne ho hm
  have HZC:=Lib.hid (fun (W':World) (h:Below W.heap.size W W') => (h.block w.heap.size (Array.getElem?_eq_some_iff.1 HZ.out).1).trans HZ.out)

  have hsd:(Tryz.prog.info? 56).map (·.size) = some (qdV true (2) (.slice none 0 0) (0) true false:Array Value).size:=did_size
  go_enter Tryz.func44,Tryz.ntmps44
  go_wp2_with (first | (rw [← HW.out]) | (go_at_call 74;((with_reducible refine (una_b ob own d n tl hd ce be sv _ (HHW.out.at_ (hbc.block _ (by omega)))).mono ?_);rintro e w5 ⟨rfl,hb5,ho5⟩;(have HB5:=Lib.hid hb5);(have HO5:=Lib.hid ho5);(have HZX:Hid (w5.heap[w.heap.size]? = some (.cells #[.bool false,.int .i64 0,.slice none 0 0,.bool false,.int .i64 0,.bool false,.bool false,.bool false,.int .i64 0] 56 (0,0))):=Lib.hid (ho5.at_ (HZC.out wc hbc) (by omega)));(have hth:=there_at HZX.out (n:=(qdV true (2) (.slice none 0 0) (0) true false:Array Value).size) rfl);clear hb5 ho5)) | (with_reducible refine wpList_store_mid (by kernel_rfl) _ _ _ rfl w.heap.size 0 (qdV true (2) (.slice none 0 0) (0) true false) (by kernel_rfl) (by kernel_rfl) hth hsd (by kernel_rfl) ?_) | ((first | with_reducible refine wpList_on hbc ?_ | with_reducible refine wp_on hbc (by kernel_rfl) (by kernel_rfl) ?_);(repeat (go_big_quiet_step (first | with_reducible exact HL.out _ _)));with_reducible refine wpQuiet_nil ?_;intro wc hbc))
  
  have hrg:=World.rangeAt_setCells_same (w5) w.heap.size 0 [.bool true,.int .i64 (2),.slice none 0 0,.bool false,.int .i64 (0),.bool true,.bool false,.bool false,.int .i64 0] (there_at (cs:=#[.bool false,.int .i64 0,.slice none 0 0,.bool false,.int .i64 0,.bool false,.bool false,.bool false,.int .i64 0]) (n:=9) (show (w5).heap[w.heap.size]? = _ from HZX.out) rfl)
  (try simp only [Exit.inBlock,Exit.then])
  refine bodyPost_ret (results_cell_row rfl _ _ w.heap.size [.bool true,.int .i64 (2),.slice none 0 0,.bool false,.int .i64 (0),.bool true,.bool false,.bool false,.int .i64 0] _ rfl hrg Tryz.underlying56 rfl did_size) rfl ?_
  exact ⟨rfl,StepQ.fin HB5.out ((HM.out.below hbc).only HO5.out HNE.out.1 HNE.out.2) ((HO2.out.trans (Only.of_below (S:=New w.heap.size (fun k => k = ob ∨ k = rb)) hbc)).trans (HO5.out.mono fun _ _ h => .inr (.inl h))) hol hml.1 hml.2 _⟩
theorem q_tail_b (mb rb ob:Nat) (bp:Value) (ws:List Int) (own:Int) (d n tl hd ce be:Nat) (sv:Value) (w:World) (ho:OBlk w ob own d n tl hd ce be sv) (hm:MemAt w mb rb ws) (hl:ws.length ≤ 1000000) (ha:tl < ws.length) (hb2:(ws.getD tl 0 == own) = false):Calls Tryz.prog 51 #[.pointer (some ⟨ob,0,none⟩),.pointer (some ⟨mb,0,none⟩),bp] w fun e w' => e = .returned (.agg (qdV false (0) (.slice none 0 0) (0) false false)) ∧ StepQ (fun k => k = ob ∨ k = rb) w mb rb ob (ws) own d n tl hd ce be sv w':=by
  obtain ⟨W,HW,hsz,hO,hz⟩:=did_new w
  have hol:=ho.lt
  have hml:=hm.lt
  have hne:=ho.ne_mem hm
  have hW:=ho.only hO (fun h => h)
  have hM:=hm.only hO (fun h => h) (fun h => h)
  have hO2:Only (New w.heap.size (fun k => k = ob ∨ k = rb)) w W:=hO.mono (fun k _ h => h.elim)
  have q0:∀ rg:Regrown,(grow (redrawn W rg.d) rg.os).cell? ⟨ob,0,none⟩ = some (.int .u32 own):=fun rg => cell_regrown (hW.cell rfl) rg.d rg.os
  have q3:∀ rg:Regrown,(grow (redrawn W rg.d) rg.os).cell? ⟨ob,3,none⟩ = some (.int .i64 (tl:Int)):=fun rg => cell_regrown (hW.cell rfl) rg.d rg.os
  have hbc:=Below.refl W.heap.size W
  have HHW:=Lib.hid hW;have HM:=Lib.hid hM;have HO:=Lib.hid hO;have HO2:=Lib.hid hO2;have HZ:=Lib.hid hz;have HNE:=Lib.hid hne
  obtain ⟨x,hx⟩:∃ x,ws.getD tl 0 = x:=⟨_,rfl⟩
  have HL:Hid (∀ d os,Calls Tryz.prog 73 #[.pointer (some ⟨mb,0,none⟩),.int .i64 ((tl:Nat):Int)] (grow (redrawn W d) os) (fun e w'' => e = .returned (.int .u32 (ws.getD tl 0)) ∧ ∃ p:Regrown,w'' = grow (redrawn W p.d) p.os)):=Lib.hid (fun d os => Calls.regrown_of ((rload_b mb rb ws tl _ (hM.below ((below_regrown W d os).mono (by exact Nat.le_refl _))) hl ha).mono fun e w' ⟨h1,h2⟩ => ⟨h1,h2 ▸ Below.refl _ _⟩))
  rw [hx] at HL hb2
  skip
  clear hx
  clear hW hM hO hO2 hz hne ho hm
  have HZC:=Lib.hid (fun (W':World) (h:Below W.heap.size W W') => (h.block w.heap.size (Array.getElem?_eq_some_iff.1 HZ.out).1).trans HZ.out)
  have hth:=fun (W':World) (h:Below W.heap.size W W') => there_at (HZC.out W' h) (n:=(qdV false (0) (.slice none 0 0) (0) false false:Array Value).size) rfl
  have hsd:(Tryz.prog.info? 56).map (·.size) = some (qdV false (0) (.slice none 0 0) (0) false false:Array Value).size:=did_size
  
  go_enter Tryz.func51,Tryz.ntmps51
  go_wp2_with (first | (rw [← HW.out]) | fail | (with_reducible refine wpList_store_mid (by kernel_rfl) _ _ _ rfl w.heap.size 0 (qdV false (0) (.slice none 0 0) (0) false false) (by kernel_rfl) (by kernel_rfl) (hth wc hbc) hsd (by kernel_rfl) ?_) | ((first | with_reducible refine wpList_on hbc ?_ | with_reducible refine wp_on hbc (by kernel_rfl) (by kernel_rfl) ?_);(repeat (go_big_quiet_step (first | with_reducible exact HL.out _ _)));with_reducible refine wpQuiet_nil ?_;intro wc hbc))
  have HZX:=Lib.hid (HZC.out wc hbc)
  have hrg:=World.rangeAt_setCells_same (wc) w.heap.size 0 [.bool false,.int .i64 (0),.slice none 0 0,.bool false,.int .i64 (0),.bool false,.bool false,.bool false,.int .i64 0] (there_at (cs:=#[.bool false,.int .i64 0,.slice none 0 0,.bool false,.int .i64 0,.bool false,.bool false,.bool false,.int .i64 0]) (n:=9) (show (wc).heap[w.heap.size]? = _ from HZX.out) rfl)
  (try simp only [Exit.inBlock,Exit.then])
  refine bodyPost_ret (results_cell_row rfl _ _ w.heap.size [.bool false,.int .i64 (0),.slice none 0 0,.bool false,.int .i64 (0),.bool false,.bool false,.bool false,.int .i64 0] _ rfl hrg Tryz.underlying56 rfl did_size) rfl ?_
  exact ⟨rfl,StepQ.fin (HHW.out.at_ (hbc.block _ (by omega))) (HM.out.below hbc) (HO2.out.trans (Only.of_below (S:=New w.heap.size (fun k => k = ob ∨ k = rb)) hbc)) hol hml.1 hml.2 _⟩
theorem q_none_b (mb rb ob:Nat) (bp:Value) (ws:List Int) (own:Int) (d n tl hd ce be:Nat) (sv:Value) (w:World) (ho:OBlk w ob own d n tl hd ce be sv) (hm:MemAt w mb rb ws) (hl:ws.length ≤ 1000000) (ha:tl < ws.length) (hb2:(ws.getD tl 0 == own) = true):Calls Tryz.prog 51 #[.pointer (some ⟨ob,0,none⟩),.pointer (some ⟨mb,0,none⟩),bp] w fun e w' => e = .returned (.agg (qdV true (2) (.slice none 0 0) (0) true false)) ∧ StepQ (fun k => k = ob ∨ k = rb) w mb rb ob (ws) own d n tl hd ce be (.slice none 0 0) w':=by
  obtain ⟨W,HW,hsz,hO,hz⟩:=did_new w
  have hol:=ho.lt
  have hml:=hm.lt
  have hne:=ho.ne_mem hm
  have hW:=ho.only hO (fun h => h)
  have hM:=hm.only hO (fun h => h) (fun h => h)
  have hO2:Only (New w.heap.size (fun k => k = ob ∨ k = rb)) w W:=hO.mono (fun k _ h => h.elim)
  have q0:∀ rg:Regrown,(grow (redrawn W rg.d) rg.os).cell? ⟨ob,0,none⟩ = some (.int .u32 own):=fun rg => cell_regrown (hW.cell rfl) rg.d rg.os
  have q3:∀ rg:Regrown,(grow (redrawn W rg.d) rg.os).cell? ⟨ob,3,none⟩ = some (.int .i64 (tl:Int)):=fun rg => cell_regrown (hW.cell rfl) rg.d rg.os
  have hbc:=Below.refl W.heap.size W
  have HHW:=Lib.hid hW;have HM:=Lib.hid hM;have HO:=Lib.hid hO;have HO2:=Lib.hid hO2;have HZ:=Lib.hid hz;have HNE:=Lib.hid hne
  obtain ⟨x,hx⟩:∃ x,ws.getD tl 0 = x:=⟨_,rfl⟩
  have HL:Hid (∀ d os,Calls Tryz.prog 73 #[.pointer (some ⟨mb,0,none⟩),.int .i64 ((tl:Nat):Int)] (grow (redrawn W d) os) (fun e w'' => e = .returned (.int .u32 (ws.getD tl 0)) ∧ ∃ p:Regrown,w'' = grow (redrawn W p.d) p.os)):=Lib.hid (fun d os => Calls.regrown_of ((rload_b mb rb ws tl _ (hM.below ((below_regrown W d os).mono (by exact Nat.le_refl _))) hl ha).mono fun e w' ⟨h1,h2⟩ => ⟨h1,h2 ▸ Below.refl _ _⟩))
  rw [hx] at HL hb2
  skip
  clear hx
  clear hW hM hO hO2 hz hne ho hm
  have HZC:=Lib.hid (fun (W':World) (h:Below W.heap.size W W') => (h.block w.heap.size (Array.getElem?_eq_some_iff.1 HZ.out).1).trans HZ.out)

  have hsd:(Tryz.prog.info? 56).map (·.size) = some (qdV true (2) (.slice none 0 0) (0) true false:Array Value).size:=did_size
  go_enter Tryz.func51,Tryz.ntmps51
  go_wp2_with (first | (rw [← HW.out]) | (go_at_call 74;((with_reducible refine (una_b ob own d n tl hd ce be sv _ (HHW.out.at_ (hbc.block _ (by omega)))).mono ?_);rintro e w5 ⟨rfl,hb5,ho5⟩;(have HB5:=Lib.hid hb5);(have HO5:=Lib.hid ho5);(have HZX:Hid (w5.heap[w.heap.size]? = some (.cells #[.bool false,.int .i64 0,.slice none 0 0,.bool false,.int .i64 0,.bool false,.bool false,.bool false,.int .i64 0] 56 (0,0))):=Lib.hid (ho5.at_ (HZC.out wc hbc) (by omega)));(have hth:=there_at HZX.out (n:=(qdV true (2) (.slice none 0 0) (0) true false:Array Value).size) rfl);clear hb5 ho5)) | (with_reducible refine wpList_store_mid (by kernel_rfl) _ _ _ rfl w.heap.size 0 (qdV true (2) (.slice none 0 0) (0) true false) (by kernel_rfl) (by kernel_rfl) hth hsd (by kernel_rfl) ?_) | ((first | with_reducible refine wpList_on hbc ?_ | with_reducible refine wp_on hbc (by kernel_rfl) (by kernel_rfl) ?_);(repeat (go_big_quiet_step (first | with_reducible exact HL.out _ _)));with_reducible refine wpQuiet_nil ?_;intro wc hbc))
  
  have hrg:=World.rangeAt_setCells_same (w5) w.heap.size 0 [.bool true,.int .i64 (2),.slice none 0 0,.bool false,.int .i64 (0),.bool true,.bool false,.bool false,.int .i64 0] (there_at (cs:=#[.bool false,.int .i64 0,.slice none 0 0,.bool false,.int .i64 0,.bool false,.bool false,.bool false,.int .i64 0]) (n:=9) (show (w5).heap[w.heap.size]? = _ from HZX.out) rfl)
  (try simp only [Exit.inBlock,Exit.then])
  refine bodyPost_ret (results_cell_row rfl _ _ w.heap.size [.bool true,.int .i64 (2),.slice none 0 0,.bool false,.int .i64 (0),.bool true,.bool false,.bool false,.int .i64 0] _ rfl hrg Tryz.underlying56 rfl did_size) rfl ?_
  exact ⟨rfl,StepQ.fin HB5.out ((HM.out.below hbc).only HO5.out HNE.out.1 HNE.out.2) ((HO2.out.trans (Only.of_below (S:=New w.heap.size (fun k => k = ob ∨ k = rb)) hbc)).trans (HO5.out.mono fun _ _ h => .inr (.inl h))) hol hml.1 hml.2 _⟩
theorem counted_b (x:Int) (w:World) (hx:0 ≤ x ∧ x ≤ 4294967295):Calls Tryz.prog 83 #[.int .u32 x] w fun e w' => e = .returned (.agg (qdV true (0) (.slice none 0 0) (x) true false)) ∧ Below w.heap.size w w':=by
  obtain ⟨W,HW,hsz,hO,hz⟩:=did_new w
  have hxw:IntKind.i64.wrap x = x:=IntWalk.i64_in _ (by omega)
  have HZX:=Lib.hid hz
  have hth:=there_at (W:=W) HZX.out (n:=(qdV true (0) (.slice none 0 0) (x) true false:Array Value).size) rfl
  have hsd:(Tryz.prog.info? 56).map (·.size) = some (qdV true (0) (.slice none 0 0) (x) true false:Array Value).size:=did_size
  have HB:Hid (Below w.heap.size w W):=Lib.hid ⟨hO.os,hO.tape,hO.output,hO.size,fun k hk => hO.block k hk (fun h => h)⟩
  clear hO hz
  go_enter Tryz.func83,Tryz.ntmps83
  go_wp2_with (first | (rw [← HW.out]) | (with_reducible refine wpList_store_mid (by kernel_rfl) _ _ _ rfl w.heap.size 0 (qdV true (0) (.slice none 0 0) (x) true false) (by kernel_rfl) (by kernel_rfl) hth hsd (by kernel_rfl) ?_))
  have hs:=Only.sets (S:=fun k => k = w.heap.size) rfl [.bool true,.int .i64 (0),.slice none 0 0,.bool false,.int .i64 (x),.bool true,.bool false,.bool false,.int .i64 0] 0 (Only.refl _ W)
  have hrg:=World.rangeAt_setCells_same (W) w.heap.size 0 [.bool true,.int .i64 (0),.slice none 0 0,.bool false,.int .i64 (x),.bool true,.bool false,.bool false,.int .i64 0] (there_at (cs:=#[.bool false,.int .i64 0,.slice none 0 0,.bool false,.int .i64 0,.bool false,.bool false,.bool false,.int .i64 0]) (n:=9) (show (W).heap[w.heap.size]? = _ from HZX.out) rfl)
  (try simp only [Exit.inBlock,Exit.then])
  refine bodyPost_ret (results_cell_row rfl _ _ w.heap.size [.bool true,.int .i64 (0),.slice none 0 0,.bool false,.int .i64 (x),.bool true,.bool false,.bool false,.int .i64 0] _ rfl hrg Tryz.underlying56 rfl did_size) rfl ?_
  exact ⟨rfl,HB.out.trans ⟨hs.os,hs.tape,hs.output,hs.size,fun k hk => hs.block k (by omega) (by omega)⟩⟩
theorem clo_cell {w W:World} {b:Nat} {v:Value} {t:TypeId} (h:w.heap[b]? = some (.cells #[v] t (0,0))) (hO:Only (fun _ => False) w W):W.cell? ⟨b,0,none⟩ = some v:=blk_cell (hO.at_ h (fun h => h)) rfl
theorem q_len_b (mb rb ob:Nat) (bp:Value) (ws:List Int) (own:Int) (d n tl hd ce be:Nat) (sv:Value) (w:World) (b1 b2:Nat) (m:Nat) (ho:OBlk w ob own d n tl hd ce be sv) (hm:MemAt w mb rb ws) (hl:ws.length ≤ 1000000) (hb1:w.heap[b1]? = some (.cells #[.pointer (some ⟨ob,0,none⟩)] 66 (0,0))) (hb2:w.heap[b2]? = some (.cells #[.int .i64 (m:Int)] 3 (0,0))) (hmn:m ≤ 1000) (ha:ce < ws.length):Calls Tryz.prog 75 #[.pointer (some ⟨mb,0,none⟩),bp,.pointer (some ⟨b1,0,none⟩),.pointer (some ⟨b2,0,none⟩)] w fun e w' => e = .returned (.agg (qdV false (0) (.slice none 0 0) (0) false false)) ∧ StepQ (fun k => k = ob ∨ k = rb) w mb rb ob (ws.set (ce) (m:Int)) own d n tl hd ce be sv w':=by
  obtain ⟨W,HW,hsz,hO,hz⟩:=did_new w
  have hol:=ho.lt
  have hml:=hm.lt
  have hne:=ho.ne_mem hm
  have hW:=ho.only hO (fun h => h)
  have hM:=hm.only hO (fun h => h) (fun h => h)
  have hO2:Only (New w.heap.size (fun k => k = ob ∨ k = rb)) w W:=hO.mono (fun k _ h => h.elim)

  have hbc:=Below.refl W.heap.size W
  have HHW:=Lib.hid hW;have HM:=Lib.hid hM;have HO:=Lib.hid hO;have HO2:=Lib.hid hO2;have HZ:=Lib.hid hz;have HNE:=Lib.hid hne
  have c5:W.cell? ⟨ob,5,none⟩ = some (.int .i64 (ce:Int)):=hW.cell rfl
  have kb1:W.cell? ⟨b1,0,none⟩ = some (.pointer (some ⟨ob,0,none⟩)):=clo_cell hb1 hO
  have kb2:W.cell? ⟨b2,0,none⟩ = some (.int .i64 (m:Int)):=clo_cell hb2 hO
  have rb1:rb ≠ b1:=by rintro rfl;have:=hb1.symm.trans hm.row;simp at this
  have rb2:rb ≠ b2:=by rintro rfl;have:=hb2.symm.trans hm.row;simp at this
  have HS:=Lib.hid (fun (W':World) (av xv:Int) (hav:av = ((ce:Nat):Int)) (hxv:xv = (m:Int)) (h:MemAt W' mb rb ws) => (show Calls Tryz.prog 76 #[.pointer (some ⟨mb,0,none⟩),.int .i64 av,.int .u32 xv] W' fun e w' => e = .returned (.tuple #[]) ∧ w' = W'.setCell ⟨rb,ce,none⟩ (.int .u32 ((m:Int))) from by subst hav;subst hxv;exact rstore_b mb rb ws _ _ W' h hl ha))
  clear hW hM hO hO2 hz hne ho hm
  clear hb1 hb2 hbc
  obtain ⟨X,HX⟩:∃ X,Hid (X = W.drew.setCell ⟨rb,ce,none⟩ (.int .u32 (m:Int))):=⟨_,rfl⟩
  have HZX:Hid (X.heap[w.heap.size]? = some (.cells #[.bool false,.int .i64 0,.slice none 0 0,.bool false,.int .i64 0,.bool false,.bool false,.bool false,.int .i64 0] 56 (0,0))):=Lib.hid (by rw [HX.out];exact (Below.heap_setCell _ _ _ _ (by show w.heap.size ≠ rb;omega)).trans HZ.out)
  have HBX:Hid (OBlk X ob own d n tl hd ce be sv):=Lib.hid (by rw [HX.out];exact (HHW.out.drew.at_ (Below.heap_setCell _ _ _ _ (by show ob ≠ rb;exact fun h => HNE.out.2 h.symm))))
  have HOX:Hid (Only (New w.heap.size (fun k => k = ob ∨ k = rb)) w X):=Lib.hid (by rw [HX.out];exact (HO2.out.drew.set (p:=⟨rb,ce,none⟩) (.inr (.inr rfl)) _))
  have HMX:Hid (MemAt X mb rb (ws.set (ce) (m:Int))):=Lib.hid (by rw [HX.out];exact (HM.out.drew.set (ce) _))
  have hth:=there_at (W:=X) HZX.out (n:=(qdV false (0) (.slice none 0 0) (0) false false:Array Value).size) rfl
  have hsd:(Tryz.prog.info? 56).map (·.size) = some (qdV false (0) (.slice none 0 0) (0) false false:Array Value).size:=did_size
  go_enter Tryz.func75,Tryz.ntmps75
  go_wp2_with (rw [← HW.out])
  refine wp_region_held_drew (S:=(fun W' => W'.cell? ⟨ob,5,none⟩ = some (.int .i64 (ce:Int)) ∧ W'.cell? ⟨b1,0,none⟩ = some (.pointer (some ⟨ob,0,none⟩)) ∧ W'.cell? ⟨b2,0,none⟩ = some (.int .i64 (m:Int)))) (by kernel_rfl) (by exact ⟨c5,kb1,kb2⟩) (fun hHeld => ?_)
  refine wpAnyH_take (i:=0) rfl (by kernel_rfl) (by kernel_rfl) (by kernel_rfl) (fun _ _ _ h => h) (Or.inl ⟨by rfl,by intro w hSw;(skip);(go_simp <;> with_reducible rfl)⟩) (by assumption) ?_
  (try simp only [Act.put,List.setIfInBounds_toArray,List.set_cons_zero,List.set_cons_succ,List.getElem_toArray,List.getElem_cons_zero,List.getElem_cons_succ])
  refine wpAnyH_take (i:=1) rfl (by kernel_rfl) (by kernel_rfl) (by kernel_rfl) (fun _ _ _ h => h) (Or.inl ⟨by rfl,by intro w hSw;(skip);(go_simp <;> with_reducible rfl)⟩) (by assumption) ?_
  (try simp only [Act.put,List.setIfInBounds_toArray,List.set_cons_zero,List.set_cons_succ,List.getElem_toArray,List.getElem_cons_zero,List.getElem_cons_succ])
  refine wpAnyH_take (i:=2) rfl (by kernel_rfl) (by kernel_rfl) (by kernel_rfl) (fun _ _ _ h => h) (Or.inl ⟨by rfl,by intro w hSw;(skip);(go_simp <;> with_reducible rfl)⟩) (by assumption) ?_
  (try simp only [Act.put,List.setIfInBounds_toArray,List.set_cons_zero,List.set_cons_succ,List.getElem_toArray,List.getElem_cons_zero,List.getElem_cons_succ])
  refine wpAnyH_take (i:=3) rfl (by kernel_rfl) (by kernel_rfl) (by kernel_rfl) (fun _ _ _ h => h) (Or.inl ⟨by rfl,by intro w hSw;(skip);(go_simp <;> with_reducible rfl)⟩) (by assumption) ?_
  (try simp only [Act.put,List.setIfInBounds_toArray,List.set_cons_zero,List.set_cons_succ,List.getElem_toArray,List.getElem_cons_zero,List.getElem_cons_succ])
  refine wpAnyH_take (i:=4) rfl (by kernel_rfl) (by kernel_rfl) (by kernel_rfl) (fun _ _ _ h => h) (Or.inl ⟨by rfl,by intro w hSw;(skip);(go_simp <;> with_reducible rfl)⟩) (by assumption) ?_
  (try simp only [Act.put,List.setIfInBounds_toArray,List.set_cons_zero,List.set_cons_succ,List.getElem_toArray,List.getElem_cons_zero,List.getElem_cons_succ])
  refine wpAnyH_take (i:=5) rfl (by kernel_rfl) (by kernel_rfl) (by kernel_rfl) (fun _ _ _ h => h) (Or.inl ⟨by rfl,by intro w hSw;(skip);(go_simp <;> with_reducible rfl)⟩) (by assumption) ?_
  (try simp only [Act.put,List.setIfInBounds_toArray,List.set_cons_zero,List.set_cons_succ,List.getElem_toArray,List.getElem_cons_zero,List.getElem_cons_succ])
  refine wpAnyH_take (i:=6) rfl (by kernel_rfl) (by kernel_rfl) (by kernel_rfl) (fun _ _ _ h => h) (Or.inl ⟨by rfl,by intro w hSw;(skip);(go_simp <;> with_reducible rfl)⟩) (by assumption) ?_
  (try simp only [Act.put,List.setIfInBounds_toArray,List.set_cons_zero,List.set_cons_succ,List.getElem_toArray,List.getElem_cons_zero,List.getElem_cons_succ])
  refine wpAnyH_take (i:=7) rfl (by kernel_rfl) (by kernel_rfl) (by kernel_rfl) (fun _ _ _ h => h) (Or.inl ⟨by rfl,by intro w hSw;(skip);(go_simp <;> with_reducible rfl)⟩) (by assumption) ?_
  (try simp only [Act.put,List.setIfInBounds_toArray,List.set_cons_zero,List.set_cons_succ,List.getElem_toArray,List.getElem_cons_zero,List.getElem_cons_succ])
  refine wpAnyH_ready (rs:=[8]) (by kernel_rfl) (by simp) (AllReadyH.cons rfl (fun K hK => ?_) AllReadyH.nil)
  go_simp
  refine (HS.out _ _ _ ?_ ?_ ?_).mono ?_
  · first | (with_reducible rfl) | omega | exact IntWalk.i64_in _ (by omega) | (rw [IntWalk.i64_in _ (by omega)] <;> omega) | (rw [IntWalk.i64_in (_ + 1) (by omega),IntWalk.i64_in _ (by omega)] <;> omega)
  · first | (with_reducible rfl) | (rw [IntKind.wrap_u32];omega) | (rw [IntKind.wrap_u32];with_reducible rfl)
  · first | exact HM.out | exact HM.out.drew
  rintro e w5 ⟨rfl,rfl⟩
  refine hK.out _ _ (by exact ⟨cell_set_ne (And.left hHeld) HNE.out.2,cell_set_ne (And.left (And.right (hHeld))) rb1,cell_set_ne (And.right (And.right (hHeld))) rb2⟩) (fun hHeld => ?_)
  clear hK K
  (try simp only [Act.put,List.setIfInBounds_toArray,List.set_cons_zero,List.set_cons_succ,List.getElem_toArray,List.getElem_cons_zero,List.getElem_cons_succ])
  refine wpAnyH_done (by kernel_rfl) ?_ _
  rw [← HX.out]
  go_wp2_with (with_reducible refine wpList_store_mid (by kernel_rfl) _ _ _ rfl w.heap.size 0 (qdV false (0) (.slice none 0 0) (0) false false) (by kernel_rfl) (by kernel_rfl) hth hsd (by kernel_rfl) ?_)
  have hrg:=World.rangeAt_setCells_same (X) w.heap.size 0 [.bool false,.int .i64 (0),.slice none 0 0,.bool false,.int .i64 (0),.bool false,.bool false,.bool false,.int .i64 0] (there_at (cs:=#[.bool false,.int .i64 0,.slice none 0 0,.bool false,.int .i64 0,.bool false,.bool false,.bool false,.int .i64 0]) (n:=9) (show (X).heap[w.heap.size]? = _ from HZX.out) rfl)
  (try simp only [Exit.inBlock,Exit.then])
  refine bodyPost_ret (results_cell_row rfl _ _ w.heap.size [.bool false,.int .i64 (0),.slice none 0 0,.bool false,.int .i64 (0),.bool false,.bool false,.bool false,.int .i64 0] _ rfl hrg Tryz.underlying56 rfl did_size) rfl ?_
  exact ⟨rfl,StepQ.fin HBX.out HMX.out HOX.out hol hml.1 hml.2 _⟩
theorem q_word_b (mb rb ob:Nat) (bp:Value) (ws:List Int) (own:Int) (d n tl hd ce be:Nat) (sv:Value) (w:World) (b1 b2 b3:Nat) (i:Nat) (x:Int) (ho:OBlk w ob own d n tl hd ce be sv) (hm:MemAt w mb rb ws) (hl:ws.length ≤ 1000000) (hb1:w.heap[b1]? = some (.cells #[.pointer (some ⟨ob,0,none⟩)] 66 (0,0))) (hb2:w.heap[b2]? = some (.cells #[.int .i64 (i:Int)] 3 (0,0))) (hb3:w.heap[b3]? = some (.cells #[.int .u32 x] 34 (0,0))) (sb3:rb ≠ b3) (ha:ce + 1 + i < ws.length):Calls Tryz.prog 78 #[.pointer (some ⟨mb,0,none⟩),bp,.pointer (some ⟨b1,0,none⟩),.pointer (some ⟨b2,0,none⟩),.pointer (some ⟨b3,0,none⟩)] w fun e w' => e = .returned (.agg (qdV false (0) (.slice none 0 0) (0) false false)) ∧ StepQ (fun k => k = ob ∨ k = rb) w mb rb ob (ws.set (ce + 1 + i) x) own d n tl hd ce be sv w':=by
  obtain ⟨W,HW,hsz,hO,hz⟩:=did_new w
  have hol:=ho.lt
  have hml:=hm.lt
  have hne:=ho.ne_mem hm
  have hW:=ho.only hO (fun h => h)
  have hM:=hm.only hO (fun h => h) (fun h => h)
  have hO2:Only (New w.heap.size (fun k => k = ob ∨ k = rb)) w W:=hO.mono (fun k _ h => h.elim)

  have hbc:=Below.refl W.heap.size W
  have HHW:=Lib.hid hW;have HM:=Lib.hid hM;have HO:=Lib.hid hO;have HO2:=Lib.hid hO2;have HZ:=Lib.hid hz;have HNE:=Lib.hid hne
  have c5:W.cell? ⟨ob,5,none⟩ = some (.int .i64 (ce:Int)):=hW.cell rfl
  have kb1:W.cell? ⟨b1,0,none⟩ = some (.pointer (some ⟨ob,0,none⟩)):=clo_cell hb1 hO
  have kb2:W.cell? ⟨b2,0,none⟩ = some (.int .i64 (i:Int)):=clo_cell hb2 hO
  have kb3:W.cell? ⟨b3,0,none⟩ = some (.int .u32 x):=clo_cell hb3 hO
  have rb1:rb ≠ b1:=by rintro rfl;have:=hb1.symm.trans hm.row;simp at this
  have rb2:rb ≠ b2:=by rintro rfl;have:=hb2.symm.trans hm.row;simp at this
  have rb3:rb ≠ b3:=sb3
  have HS:=Lib.hid (fun (W':World) (av xv:Int) (hav:av = ((ce + 1 + i:Nat):Int)) (hxv:xv = x) (h:MemAt W' mb rb ws) => (show Calls Tryz.prog 76 #[.pointer (some ⟨mb,0,none⟩),.int .i64 av,.int .u32 xv] W' fun e w' => e = .returned (.tuple #[]) ∧ w' = W'.setCell ⟨rb,ce + 1 + i,none⟩ (.int .u32 (x)) from by subst hav;subst hxv;exact rstore_b mb rb ws _ _ W' h hl ha))
  clear hW hM hO hO2 hz hne ho hm
  clear hb1 hb2 hb3 hbc
  obtain ⟨X,HX⟩:∃ X,Hid (X = W.drew.setCell ⟨rb,ce + 1 + i,none⟩ (.int .u32 x)):=⟨_,rfl⟩
  have HZX:Hid (X.heap[w.heap.size]? = some (.cells #[.bool false,.int .i64 0,.slice none 0 0,.bool false,.int .i64 0,.bool false,.bool false,.bool false,.int .i64 0] 56 (0,0))):=Lib.hid (by rw [HX.out];exact (Below.heap_setCell _ _ _ _ (by show w.heap.size ≠ rb;omega)).trans HZ.out)
  have HBX:Hid (OBlk X ob own d n tl hd ce be sv):=Lib.hid (by rw [HX.out];exact (HHW.out.drew.at_ (Below.heap_setCell _ _ _ _ (by show ob ≠ rb;exact fun h => HNE.out.2 h.symm))))
  have HOX:Hid (Only (New w.heap.size (fun k => k = ob ∨ k = rb)) w X):=Lib.hid (by rw [HX.out];exact (HO2.out.drew.set (p:=⟨rb,ce + 1 + i,none⟩) (.inr (.inr rfl)) _))
  have HMX:Hid (MemAt X mb rb (ws.set (ce + 1 + i) x)):=Lib.hid (by rw [HX.out];exact (HM.out.drew.set (ce + 1 + i) _))
  have hth:=there_at (W:=X) HZX.out (n:=(qdV false (0) (.slice none 0 0) (0) false false:Array Value).size) rfl
  have hsd:(Tryz.prog.info? 56).map (·.size) = some (qdV false (0) (.slice none 0 0) (0) false false:Array Value).size:=did_size
  go_enter Tryz.func78,Tryz.ntmps78
  go_wp2_with (rw [← HW.out])
  refine wp_region_held_drew (S:=(fun W' => W'.cell? ⟨ob,5,none⟩ = some (.int .i64 (ce:Int)) ∧ W'.cell? ⟨b1,0,none⟩ = some (.pointer (some ⟨ob,0,none⟩)) ∧ W'.cell? ⟨b2,0,none⟩ = some (.int .i64 (i:Int)) ∧ W'.cell? ⟨b3,0,none⟩ = some (.int .u32 x))) (by kernel_rfl) (by exact ⟨c5,kb1,kb2,kb3⟩) (fun hHeld => ?_)
  refine wpAnyH_take (i:=0) rfl (by kernel_rfl) (by kernel_rfl) (by kernel_rfl) (fun _ _ _ h => h) (Or.inl ⟨by rfl,by intro w hSw;(skip);(go_simp <;> with_reducible rfl)⟩) (by assumption) ?_
  (try simp only [Act.put,List.setIfInBounds_toArray,List.set_cons_zero,List.set_cons_succ,List.getElem_toArray,List.getElem_cons_zero,List.getElem_cons_succ])
  refine wpAnyH_take (i:=1) rfl (by kernel_rfl) (by kernel_rfl) (by kernel_rfl) (fun _ _ _ h => h) (Or.inl ⟨by rfl,by intro w hSw;(skip);(go_simp <;> with_reducible rfl)⟩) (by assumption) ?_
  (try simp only [Act.put,List.setIfInBounds_toArray,List.set_cons_zero,List.set_cons_succ,List.getElem_toArray,List.getElem_cons_zero,List.getElem_cons_succ])
  refine wpAnyH_take (i:=2) rfl (by kernel_rfl) (by kernel_rfl) (by kernel_rfl) (fun _ _ _ h => h) (Or.inl ⟨by rfl,by intro w hSw;(skip);(go_simp <;> with_reducible rfl)⟩) (by assumption) ?_
  (try simp only [Act.put,List.setIfInBounds_toArray,List.set_cons_zero,List.set_cons_succ,List.getElem_toArray,List.getElem_cons_zero,List.getElem_cons_succ])
  refine wpAnyH_take (i:=3) rfl (by kernel_rfl) (by kernel_rfl) (by kernel_rfl) (fun _ _ _ h => h) (Or.inl ⟨by rfl,by intro w hSw;(skip);(go_simp <;> with_reducible rfl)⟩) (by assumption) ?_
  (try simp only [Act.put,List.setIfInBounds_toArray,List.set_cons_zero,List.set_cons_succ,List.getElem_toArray,List.getElem_cons_zero,List.getElem_cons_succ])
  refine wpAnyH_take (i:=4) rfl (by kernel_rfl) (by kernel_rfl) (by kernel_rfl) (fun _ _ _ h => h) (Or.inl ⟨by rfl,by intro w hSw;(skip);(go_simp <;> with_reducible rfl)⟩) (by assumption) ?_
  (try simp only [Act.put,List.setIfInBounds_toArray,List.set_cons_zero,List.set_cons_succ,List.getElem_toArray,List.getElem_cons_zero,List.getElem_cons_succ])
  refine wpAnyH_take (i:=5) rfl (by kernel_rfl) (by kernel_rfl) (by kernel_rfl) (fun _ _ _ h => h) (Or.inl ⟨by rfl,by intro w hSw;(skip);(go_simp <;> with_reducible rfl)⟩) (by assumption) ?_
  (try simp only [Act.put,List.setIfInBounds_toArray,List.set_cons_zero,List.set_cons_succ,List.getElem_toArray,List.getElem_cons_zero,List.getElem_cons_succ])
  refine wpAnyH_take (i:=6) rfl (by kernel_rfl) (by kernel_rfl) (by kernel_rfl) (fun _ _ _ h => h) (Or.inl ⟨by rfl,by intro w hSw;(skip);(go_simp <;> with_reducible rfl)⟩) (by assumption) ?_
  (try simp only [Act.put,List.setIfInBounds_toArray,List.set_cons_zero,List.set_cons_succ,List.getElem_toArray,List.getElem_cons_zero,List.getElem_cons_succ])
  refine wpAnyH_take (i:=7) rfl (by kernel_rfl) (by kernel_rfl) (by kernel_rfl) (fun _ _ _ h => h) (Or.inl ⟨by rfl,by intro w hSw;(skip);(go_simp <;> with_reducible rfl)⟩) (by assumption) ?_
  (try simp only [Act.put,List.setIfInBounds_toArray,List.set_cons_zero,List.set_cons_succ,List.getElem_toArray,List.getElem_cons_zero,List.getElem_cons_succ])
  refine wpAnyH_take (i:=8) rfl (by kernel_rfl) (by kernel_rfl) (by kernel_rfl) (fun _ _ _ h => h) (Or.inl ⟨by rfl,by intro w hSw;(skip);(go_simp <;> with_reducible rfl)⟩) (by assumption) ?_
  (try simp only [Act.put,List.setIfInBounds_toArray,List.set_cons_zero,List.set_cons_succ,List.getElem_toArray,List.getElem_cons_zero,List.getElem_cons_succ])
  refine wpAnyH_ready (rs:=[9]) (by kernel_rfl) (by simp) (AllReadyH.cons rfl (fun K hK => ?_) AllReadyH.nil)
  go_simp
  refine (HS.out _ _ _ ?_ ?_ ?_).mono ?_
  · first | (with_reducible rfl) | omega | exact IntWalk.i64_in _ (by omega) | (rw [IntWalk.i64_in _ (by omega)] <;> omega) | (rw [IntWalk.i64_in (_ + 1) (by omega),IntWalk.i64_in _ (by omega)] <;> omega)
  · first | (with_reducible rfl) | (rw [IntKind.wrap_u32];omega) | (rw [IntKind.wrap_u32];with_reducible rfl)
  · first | exact HM.out | exact HM.out.drew
  rintro e w5 ⟨rfl,rfl⟩
  refine hK.out _ _ (by exact ⟨cell_set_ne (And.left hHeld) HNE.out.2,cell_set_ne (And.left (And.right (hHeld))) rb1,cell_set_ne (And.left (And.right (And.right (hHeld)))) rb2,cell_set_ne (And.right (And.right (And.right (hHeld)))) rb3⟩) (fun hHeld => ?_)
  clear hK K
  (try simp only [Act.put,List.setIfInBounds_toArray,List.set_cons_zero,List.set_cons_succ,List.getElem_toArray,List.getElem_cons_zero,List.getElem_cons_succ])
  refine wpAnyH_done (by kernel_rfl) ?_ _
  rw [← HX.out]
  go_wp2_with (with_reducible refine wpList_store_mid (by kernel_rfl) _ _ _ rfl w.heap.size 0 (qdV false (0) (.slice none 0 0) (0) false false) (by kernel_rfl) (by kernel_rfl) hth hsd (by kernel_rfl) ?_)
  have hrg:=World.rangeAt_setCells_same (X) w.heap.size 0 [.bool false,.int .i64 (0),.slice none 0 0,.bool false,.int .i64 (0),.bool false,.bool false,.bool false,.int .i64 0] (there_at (cs:=#[.bool false,.int .i64 0,.slice none 0 0,.bool false,.int .i64 0,.bool false,.bool false,.bool false,.int .i64 0]) (n:=9) (show (X).heap[w.heap.size]? = _ from HZX.out) rfl)
  (try simp only [Exit.inBlock,Exit.then])
  refine bodyPost_ret (results_cell_row rfl _ _ w.heap.size [.bool false,.int .i64 (0),.slice none 0 0,.bool false,.int .i64 (0),.bool false,.bool false,.bool false,.int .i64 0] _ rfl hrg Tryz.underlying56 rfl did_size) rfl ?_
  exact ⟨rfl,StepQ.fin HBX.out HMX.out HOX.out hol hml.1 hml.2 _⟩
theorem q_mark_b (mb rb ob:Nat) (bp:Value) (ws:List Int) (own:Int) (d n tl hd ce be:Nat) (sv:Value) (w:World)  (ho:OBlk w ob own d n tl hd ce be sv) (hm:MemAt w mb rb ws) (hl:ws.length ≤ 1000000)  (ha:tl < ws.length):Calls Tryz.prog 49 #[.pointer (some ⟨ob,0,none⟩),.pointer (some ⟨mb,0,none⟩),bp] w fun e w' => e = .returned (.agg (qdV false (0) (.slice none 0 0) (0) true false)) ∧ StepQ (fun k => k = ob ∨ k = rb) w mb rb ob (ws.set tl ((own + 1) % 4294967296)) (((own + 1) % 4294967296)) d n tl hd ce be sv w':=by
  obtain ⟨W,HW,hsz,hO,hz⟩:=did_new w
  have hol:=ho.lt
  have hml:=hm.lt
  have hne:=ho.ne_mem hm
  have hW:=ho.only hO (fun h => h)
  have hM:=hm.only hO (fun h => h) (fun h => h)
  have hO2:Only (New w.heap.size (fun k => k = ob ∨ k = rb)) w W:=hO.mono (fun k _ h => h.elim)

  have hbc:=Below.refl W.heap.size W
  have HHW:=Lib.hid hW;have HM:=Lib.hid hM;have HO:=Lib.hid hO;have HO2:=Lib.hid hO2;have HZ:=Lib.hid hz;have HNE:=Lib.hid hne
  obtain ⟨own1,ho1⟩:∃ x,((own + 1) % 4294967296) = x:=⟨_,rfl⟩
  rw [ho1]
  have hw1:IntKind.u32.wrap (own + 1) = own1:=by rw [IntKind.wrap_u32];exact ho1
  have c0:W.cell? ⟨ob,0,none⟩ = some (.int .u32 own):=hW.cell rfl
  have g0:=hW.frozen 0



  have HS:=Lib.hid (fun (W':World) (av xv:Int) (hav:av = ((tl:Nat):Int)) (hxv:xv = own1) (h:MemAt W' mb rb ws) => (show Calls Tryz.prog 76 #[.pointer (some ⟨mb,0,none⟩),.int .i64 av,.int .u32 xv] W' fun e w' => e = .returned (.tuple #[]) ∧ w' = W'.setCell ⟨rb,tl,none⟩ (.int .u32 (own1)) from by subst hav;subst hxv;exact rstore_b mb rb ws _ _ W' h hl ha))
  obtain ⟨V,HV⟩:∃ V,Hid (V = W.setCell ⟨ob,0,none⟩ (.int .u32 own1)):=⟨_,rfl⟩
  have HBV:Hid (OBlk V ob (own1) d n tl hd ce be sv):=Lib.hid (by rw [HV.out];exact hW.setOwn _)
  have hM2:MemAt V mb rb ws:=by rw [HV.out];exact hM.only (Only.setCell W ⟨ob,0,none⟩ _) hne.1 hne.2
  have HOV:Hid (Only (New w.heap.size (fun k => k = ob ∨ k = rb)) w V):=Lib.hid (by rw [HV.out];exact hO2.set (p:=⟨ob,0,none⟩) (.inr (.inl rfl)) _)
  have HZV:Hid (V.heap[w.heap.size]? = some (.cells #[.bool false,.int .i64 0,.slice none 0 0,.bool false,.int .i64 0,.bool false,.bool false,.bool false,.int .i64 0] 56 (0,0))):=Lib.hid (by rw [HV.out];exact (Below.heap_setCell _ _ _ _ (by show w.heap.size ≠ ob;omega)).trans hz)
  have d0:V.cell? ⟨ob,0,none⟩ = some (.int .u32 own1):=HBV.out.cell rfl
  have d1:V.cell? ⟨ob,3,none⟩ = some (.int .i64 (tl:Int)):=HBV.out.cell rfl

  clear HM
  have HM:=Lib.hid hM2
  clear hW hM hO hO2 hz hne ho hm
  clear hM2 hbc ho1
  obtain ⟨X,HX⟩:∃ X,Hid (X = V.drew.setCell ⟨rb,tl,none⟩ (.int .u32 own1)):=⟨_,rfl⟩
  have HZX:Hid (X.heap[w.heap.size]? = some (.cells #[.bool false,.int .i64 0,.slice none 0 0,.bool false,.int .i64 0,.bool false,.bool false,.bool false,.int .i64 0] 56 (0,0))):=Lib.hid (by rw [HX.out];exact (Below.heap_setCell _ _ _ _ (by show w.heap.size ≠ rb;omega)).trans HZV.out)
  have HBX:Hid (OBlk X ob (own1) d n tl hd ce be sv):=Lib.hid (by rw [HX.out];exact (HBV.out.drew.at_ (Below.heap_setCell _ _ _ _ (by show ob ≠ rb;exact fun h => HNE.out.2 h.symm))))
  have HOX:Hid (Only (New w.heap.size (fun k => k = ob ∨ k = rb)) w X):=Lib.hid (by rw [HX.out];exact (HOV.out.drew.set (p:=⟨rb,tl,none⟩) (.inr (.inr rfl)) _))
  have HMX:Hid (MemAt X mb rb (ws.set (tl) own1)):=Lib.hid (by rw [HX.out];exact (HM.out.drew.set (tl) _))
  have hth:=there_at (W:=X) HZX.out (n:=(qdV false (0) (.slice none 0 0) (0) true false:Array Value).size) rfl
  have hsd:(Tryz.prog.info? 56).map (·.size) = some (qdV false (0) (.slice none 0 0) (0) true false:Array Value).size:=did_size

  go_enter Tryz.func49,Tryz.ntmps49
  go_wp2_with (first | (rw [← HW.out]) | (rw [← HV.out]))
  refine wp_region_held_drew (S:=(fun W' => W'.cell? ⟨ob,3,none⟩ = some (.int .i64 (tl:Int)) ∧ W'.cell? ⟨ob,0,none⟩ = some (.int .u32 own1))) (by kernel_rfl) (by exact ⟨d1,d0⟩) (fun hHeld => ?_)
  refine wpAnyH_take (i:=0) rfl (by kernel_rfl) (by kernel_rfl) (by kernel_rfl) (fun _ _ _ h => h) (Or.inl ⟨by rfl,by intro w hSw;(skip);(go_simp <;> with_reducible rfl)⟩) (by assumption) ?_
  (try simp only [Act.put,List.setIfInBounds_toArray,List.set_cons_zero,List.set_cons_succ,List.getElem_toArray,List.getElem_cons_zero,List.getElem_cons_succ])
  refine wpAnyH_take (i:=1) rfl (by kernel_rfl) (by kernel_rfl) (by kernel_rfl) (fun _ _ _ h => h) (Or.inl ⟨by rfl,by intro w hSw;(skip);(go_simp <;> with_reducible rfl)⟩) (by assumption) ?_
  (try simp only [Act.put,List.setIfInBounds_toArray,List.set_cons_zero,List.set_cons_succ,List.getElem_toArray,List.getElem_cons_zero,List.getElem_cons_succ])
  refine wpAnyH_take (i:=2) rfl (by kernel_rfl) (by kernel_rfl) (by kernel_rfl) (fun _ _ _ h => h) (Or.inl ⟨by rfl,by intro w hSw;(skip);(go_simp <;> with_reducible rfl)⟩) (by assumption) ?_
  (try simp only [Act.put,List.setIfInBounds_toArray,List.set_cons_zero,List.set_cons_succ,List.getElem_toArray,List.getElem_cons_zero,List.getElem_cons_succ])
  refine wpAnyH_take (i:=3) rfl (by kernel_rfl) (by kernel_rfl) (by kernel_rfl) (fun _ _ _ h => h) (Or.inl ⟨by rfl,by intro w hSw;(skip);(go_simp <;> with_reducible rfl)⟩) (by assumption) ?_
  (try simp only [Act.put,List.setIfInBounds_toArray,List.set_cons_zero,List.set_cons_succ,List.getElem_toArray,List.getElem_cons_zero,List.getElem_cons_succ])
  refine wpAnyH_take (i:=4) rfl (by kernel_rfl) (by kernel_rfl) (by kernel_rfl) (fun _ _ _ h => h) (Or.inl ⟨by rfl,by intro w hSw;(skip);(go_simp <;> with_reducible rfl)⟩) (by assumption) ?_
  (try simp only [Act.put,List.setIfInBounds_toArray,List.set_cons_zero,List.set_cons_succ,List.getElem_toArray,List.getElem_cons_zero,List.getElem_cons_succ])
  refine wpAnyH_take (i:=5) rfl (by kernel_rfl) (by kernel_rfl) (by kernel_rfl) (fun _ _ _ h => h) (Or.inl ⟨by rfl,by intro w hSw;(skip);(go_simp <;> with_reducible rfl)⟩) (by assumption) ?_
  (try simp only [Act.put,List.setIfInBounds_toArray,List.set_cons_zero,List.set_cons_succ,List.getElem_toArray,List.getElem_cons_zero,List.getElem_cons_succ])
  refine wpAnyH_take (i:=6) rfl (by kernel_rfl) (by kernel_rfl) (by kernel_rfl) (fun _ _ _ h => h) (Or.inl ⟨by rfl,by intro w hSw;(skip);(go_simp <;> with_reducible rfl)⟩) (by assumption) ?_
  (try simp only [Act.put,List.setIfInBounds_toArray,List.set_cons_zero,List.set_cons_succ,List.getElem_toArray,List.getElem_cons_zero,List.getElem_cons_succ])
  refine wpAnyH_take (i:=7) rfl (by kernel_rfl) (by kernel_rfl) (by kernel_rfl) (fun _ _ _ h => h) (Or.inl ⟨by rfl,by intro w hSw;(skip);(go_simp <;> with_reducible rfl)⟩) (by assumption) ?_
  (try simp only [Act.put,List.setIfInBounds_toArray,List.set_cons_zero,List.set_cons_succ,List.getElem_toArray,List.getElem_cons_zero,List.getElem_cons_succ])
  refine wpAnyH_take (i:=8) rfl (by kernel_rfl) (by kernel_rfl) (by kernel_rfl) (fun _ _ _ h => h) (Or.inl ⟨by rfl,by intro w hSw;(skip);(go_simp <;> with_reducible rfl)⟩) (by assumption) ?_
  (try simp only [Act.put,List.setIfInBounds_toArray,List.set_cons_zero,List.set_cons_succ,List.getElem_toArray,List.getElem_cons_zero,List.getElem_cons_succ])
  refine wpAnyH_ready (rs:=[9]) (by kernel_rfl) (by simp) (AllReadyH.cons rfl (fun K hK => ?_) AllReadyH.nil)
  go_simp
  refine (HS.out _ _ _ ?_ ?_ ?_).mono ?_
  · first | (with_reducible rfl) | omega | exact IntWalk.i64_in _ (by omega) | (rw [IntWalk.i64_in _ (by omega)] <;> omega) | (rw [IntWalk.i64_in (_ + 1) (by omega),IntWalk.i64_in _ (by omega)] <;> omega)
  · first | (with_reducible rfl) | (rw [IntKind.wrap_u32];omega) | (rw [IntKind.wrap_u32];with_reducible rfl)
  · first | exact HM.out | exact HM.out.drew
  rintro e w5 ⟨rfl,rfl⟩
  refine hK.out _ _ (by exact ⟨cell_set_ne (And.left hHeld) HNE.out.2,cell_set_ne (And.right hHeld) HNE.out.2⟩) (fun hHeld => ?_)
  clear hK K
  (try simp only [Act.put,List.setIfInBounds_toArray,List.set_cons_zero,List.set_cons_succ,List.getElem_toArray,List.getElem_cons_zero,List.getElem_cons_succ])
  refine wpAnyH_done (by kernel_rfl) ?_ _
  rw [← HX.out]
  go_wp2_with (with_reducible refine wpList_store_mid (by kernel_rfl) _ _ _ rfl w.heap.size 0 (qdV false (0) (.slice none 0 0) (0) true false) (by kernel_rfl) (by kernel_rfl) hth hsd (by kernel_rfl) ?_)
  have hrg:=World.rangeAt_setCells_same (X) w.heap.size 0 [.bool false,.int .i64 (0),.slice none 0 0,.bool false,.int .i64 (0),.bool true,.bool false,.bool false,.int .i64 0] (there_at (cs:=#[.bool false,.int .i64 0,.slice none 0 0,.bool false,.int .i64 0,.bool false,.bool false,.bool false,.int .i64 0]) (n:=9) (show (X).heap[w.heap.size]? = _ from HZX.out) rfl)
  (try simp only [Exit.inBlock,Exit.then])
  refine bodyPost_ret (results_cell_row rfl _ _ w.heap.size [.bool false,.int .i64 (0),.slice none 0 0,.bool false,.int .i64 (0),.bool true,.bool false,.bool false,.int .i64 0] _ rfl hrg Tryz.underlying56 rfl did_size) rfl ?_
  exact ⟨rfl,StepQ.fin HBX.out HMX.out HOX.out hol hml.1 hml.2 _⟩
theorem q_free_b (mb rb ob:Nat) (bp:Value) (ws:List Int) (own:Int) (d n tl hd ce be:Nat) (sv:Value) (w:World) (b1 b2:Nat) (dA:Option Addr) (dn dc:Nat) (ho:OBlk w ob own d n tl hd ce be sv) (hm:MemAt w mb rb ws) (hl:ws.length ≤ 1000000) (hb1:w.heap[b1]? = some (.cells #[.pointer (some ⟨ob,0,none⟩)] 66 (0,0))) (hb2:w.heap[b2]? = some (.cells #[.slice dA dn dc] 30 (0,0))) (ha:hd < ws.length):Calls Tryz.prog 100 #[.pointer (some ⟨mb,0,none⟩),bp,.pointer (some ⟨b1,0,none⟩),.pointer (some ⟨b2,0,none⟩)] w fun e w' => e = .returned (.agg (qdV true (0) (.slice dA dn dc) (0) true false)) ∧ StepQ (fun k => k = ob ∨ k = rb) w mb rb ob (ws.set hd ((own + 1) % 4294967296)) (((own + 1) % 4294967296)) d n tl hd ce be sv w':=by
  obtain ⟨W,HW,hsz,hO,hz⟩:=did_new w
  have hol:=ho.lt
  have hml:=hm.lt
  have hne:=ho.ne_mem hm
  have hW:=ho.only hO (fun h => h)
  have hM:=hm.only hO (fun h => h) (fun h => h)
  have hO2:Only (New w.heap.size (fun k => k = ob ∨ k = rb)) w W:=hO.mono (fun k _ h => h.elim)

  have hbc:=Below.refl W.heap.size W
  have HHW:=Lib.hid hW;have HM:=Lib.hid hM;have HO:=Lib.hid hO;have HO2:=Lib.hid hO2;have HZ:=Lib.hid hz;have HNE:=Lib.hid hne
  obtain ⟨own1,ho1⟩:∃ x,((own + 1) % 4294967296) = x:=⟨_,rfl⟩
  rw [ho1]
  have hw1:IntKind.u32.wrap (own + 1) = own1:=by rw [IntKind.wrap_u32];exact ho1
  have c0:W.cell? ⟨ob,0,none⟩ = some (.int .u32 own):=hW.cell rfl
  have g0:=hW.frozen 0
  have kb1:W.cell? ⟨b1,0,none⟩ = some (.pointer (some ⟨ob,0,none⟩)):=clo_cell hb1 hO
  have kb2:W.cell? ⟨b2,0,none⟩ = some (.slice dA dn dc):=clo_cell hb2 hO
  have rb1:rb ≠ b1:=by rintro rfl;have:=hb1.symm.trans hm.row;simp at this
  have rb2:rb ≠ b2:=by rintro rfl;have:=hb2.symm.trans hm.row;simp at this
  have ob1:ob ≠ b1:=by rintro rfl;have:=hb1.symm.trans ho;simp at this
  have ob2:ob ≠ b2:=by rintro rfl;have:=hb2.symm.trans ho;simp at this
  have HS:=Lib.hid (fun (W':World) (av xv:Int) (hav:av = ((hd:Nat):Int)) (hxv:xv = own1) (h:MemAt W' mb rb ws) => (show Calls Tryz.prog 76 #[.pointer (some ⟨mb,0,none⟩),.int .i64 av,.int .u32 xv] W' fun e w' => e = .returned (.tuple #[]) ∧ w' = W'.setCell ⟨rb,hd,none⟩ (.int .u32 (own1)) from by subst hav;subst hxv;exact rstore_b mb rb ws _ _ W' h hl ha))
  obtain ⟨V,HV⟩:∃ V,Hid (V = W.setCell ⟨ob,0,none⟩ (.int .u32 own1)):=⟨_,rfl⟩
  have HBV:Hid (OBlk V ob (own1) d n tl hd ce be sv):=Lib.hid (by rw [HV.out];exact hW.setOwn _)
  have hM2:MemAt V mb rb ws:=by rw [HV.out];exact hM.only (Only.setCell W ⟨ob,0,none⟩ _) hne.1 hne.2
  have HOV:Hid (Only (New w.heap.size (fun k => k = ob ∨ k = rb)) w V):=Lib.hid (by rw [HV.out];exact hO2.set (p:=⟨ob,0,none⟩) (.inr (.inl rfl)) _)
  have HZV:Hid (V.heap[w.heap.size]? = some (.cells #[.bool false,.int .i64 0,.slice none 0 0,.bool false,.int .i64 0,.bool false,.bool false,.bool false,.int .i64 0] 56 (0,0))):=Lib.hid (by rw [HV.out];exact (Below.heap_setCell _ _ _ _ (by show w.heap.size ≠ ob;omega)).trans hz)
  have d0:V.cell? ⟨ob,0,none⟩ = some (.int .u32 own1):=HBV.out.cell rfl
  have d1:V.cell? ⟨ob,4,none⟩ = some (.int .i64 (hd:Int)):=HBV.out.cell rfl
  have eb1:V.cell? ⟨b1,0,none⟩ = some (.pointer (some ⟨ob,0,none⟩)):=by rw [HV.out];exact cell_set_ne kb1 ob1
  have eb2:V.cell? ⟨b2,0,none⟩ = some (.slice dA dn dc):=by rw [HV.out];exact cell_set_ne kb2 ob2
  clear HM
  have HM:=Lib.hid hM2
  clear hW hM hO hO2 hz hne ho hm
  clear hM2 hbc ho1 hb1 hb2
  obtain ⟨X,HX⟩:∃ X,Hid (X = V.drew.setCell ⟨rb,hd,none⟩ (.int .u32 own1)):=⟨_,rfl⟩
  have HZX:Hid (X.heap[w.heap.size]? = some (.cells #[.bool false,.int .i64 0,.slice none 0 0,.bool false,.int .i64 0,.bool false,.bool false,.bool false,.int .i64 0] 56 (0,0))):=Lib.hid (by rw [HX.out];exact (Below.heap_setCell _ _ _ _ (by show w.heap.size ≠ rb;omega)).trans HZV.out)
  have HBX:Hid (OBlk X ob (own1) d n tl hd ce be sv):=Lib.hid (by rw [HX.out];exact (HBV.out.drew.at_ (Below.heap_setCell _ _ _ _ (by show ob ≠ rb;exact fun h => HNE.out.2 h.symm))))
  have HOX:Hid (Only (New w.heap.size (fun k => k = ob ∨ k = rb)) w X):=Lib.hid (by rw [HX.out];exact (HOV.out.drew.set (p:=⟨rb,hd,none⟩) (.inr (.inr rfl)) _))
  have HMX:Hid (MemAt X mb rb (ws.set (hd) own1)):=Lib.hid (by rw [HX.out];exact (HM.out.drew.set (hd) _))
  have hth:=there_at (W:=X) HZX.out (n:=(qdV true (0) (.slice dA dn dc) (0) true false:Array Value).size) rfl
  have hsd:(Tryz.prog.info? 56).map (·.size) = some (qdV true (0) (.slice dA dn dc) (0) true false:Array Value).size:=did_size
  have x2:X.cell? ⟨b2,0,none⟩ = some (.slice dA dn dc):=by rw [HX.out];exact cell_set_ne (b:=rb) (c:=b2) (show V.drew.cell? ⟨b2,0,none⟩ = _ from eb2) rb2
  go_enter Tryz.func100,Tryz.ntmps100
  go_wp2_with (first | (rw [← HW.out]) | (rw [← HV.out]))
  refine wp_region_held_drew (S:=(fun W' => W'.cell? ⟨ob,4,none⟩ = some (.int .i64 (hd:Int)) ∧ W'.cell? ⟨ob,0,none⟩ = some (.int .u32 own1) ∧ W'.cell? ⟨b1,0,none⟩ = some (.pointer (some ⟨ob,0,none⟩)))) (by kernel_rfl) (by exact ⟨d1,d0,eb1⟩) (fun hHeld => ?_)
  refine wpAnyH_take (i:=0) rfl (by kernel_rfl) (by kernel_rfl) (by kernel_rfl) (fun _ _ _ h => h) (Or.inl ⟨by rfl,by intro w hSw;(skip);(go_simp <;> with_reducible rfl)⟩) (by assumption) ?_
  (try simp only [Act.put,List.setIfInBounds_toArray,List.set_cons_zero,List.set_cons_succ,List.getElem_toArray,List.getElem_cons_zero,List.getElem_cons_succ])
  refine wpAnyH_take (i:=1) rfl (by kernel_rfl) (by kernel_rfl) (by kernel_rfl) (fun _ _ _ h => h) (Or.inl ⟨by rfl,by intro w hSw;(skip);(go_simp <;> with_reducible rfl)⟩) (by assumption) ?_
  (try simp only [Act.put,List.setIfInBounds_toArray,List.set_cons_zero,List.set_cons_succ,List.getElem_toArray,List.getElem_cons_zero,List.getElem_cons_succ])
  refine wpAnyH_take (i:=2) rfl (by kernel_rfl) (by kernel_rfl) (by kernel_rfl) (fun _ _ _ h => h) (Or.inl ⟨by rfl,by intro w hSw;(skip);(go_simp <;> with_reducible rfl)⟩) (by assumption) ?_
  (try simp only [Act.put,List.setIfInBounds_toArray,List.set_cons_zero,List.set_cons_succ,List.getElem_toArray,List.getElem_cons_zero,List.getElem_cons_succ])
  refine wpAnyH_take (i:=3) rfl (by kernel_rfl) (by kernel_rfl) (by kernel_rfl) (fun _ _ _ h => h) (Or.inl ⟨by rfl,by intro w hSw;(skip);(go_simp <;> with_reducible rfl)⟩) (by assumption) ?_
  (try simp only [Act.put,List.setIfInBounds_toArray,List.set_cons_zero,List.set_cons_succ,List.getElem_toArray,List.getElem_cons_zero,List.getElem_cons_succ])
  refine wpAnyH_take (i:=4) rfl (by kernel_rfl) (by kernel_rfl) (by kernel_rfl) (fun _ _ _ h => h) (Or.inl ⟨by rfl,by intro w hSw;(skip);(go_simp <;> with_reducible rfl)⟩) (by assumption) ?_
  (try simp only [Act.put,List.setIfInBounds_toArray,List.set_cons_zero,List.set_cons_succ,List.getElem_toArray,List.getElem_cons_zero,List.getElem_cons_succ])
  refine wpAnyH_take (i:=5) rfl (by kernel_rfl) (by kernel_rfl) (by kernel_rfl) (fun _ _ _ h => h) (Or.inl ⟨by rfl,by intro w hSw;(skip);(go_simp <;> with_reducible rfl)⟩) (by assumption) ?_
  (try simp only [Act.put,List.setIfInBounds_toArray,List.set_cons_zero,List.set_cons_succ,List.getElem_toArray,List.getElem_cons_zero,List.getElem_cons_succ])
  refine wpAnyH_take (i:=6) rfl (by kernel_rfl) (by kernel_rfl) (by kernel_rfl) (fun _ _ _ h => h) (Or.inl ⟨by rfl,by intro w hSw;(skip);(go_simp <;> with_reducible rfl)⟩) (by assumption) ?_
  (try simp only [Act.put,List.setIfInBounds_toArray,List.set_cons_zero,List.set_cons_succ,List.getElem_toArray,List.getElem_cons_zero,List.getElem_cons_succ])
  refine wpAnyH_take (i:=7) rfl (by kernel_rfl) (by kernel_rfl) (by kernel_rfl) (fun _ _ _ h => h) (Or.inl ⟨by rfl,by intro w hSw;(skip);(go_simp <;> with_reducible rfl)⟩) (by assumption) ?_
  (try simp only [Act.put,List.setIfInBounds_toArray,List.set_cons_zero,List.set_cons_succ,List.getElem_toArray,List.getElem_cons_zero,List.getElem_cons_succ])
  refine wpAnyH_take (i:=8) rfl (by kernel_rfl) (by kernel_rfl) (by kernel_rfl) (fun _ _ _ h => h) (Or.inl ⟨by rfl,by intro w hSw;(skip);(go_simp <;> with_reducible rfl)⟩) (by assumption) ?_
  (try simp only [Act.put,List.setIfInBounds_toArray,List.set_cons_zero,List.set_cons_succ,List.getElem_toArray,List.getElem_cons_zero,List.getElem_cons_succ])
  refine wpAnyH_ready (rs:=[9]) (by kernel_rfl) (by simp) (AllReadyH.cons rfl (fun K hK => ?_) AllReadyH.nil)
  go_simp
  refine (HS.out _ _ _ ?_ ?_ ?_).mono ?_
  · first | (with_reducible rfl) | omega | exact IntWalk.i64_in _ (by omega) | (rw [IntWalk.i64_in _ (by omega)] <;> omega) | (rw [IntWalk.i64_in (_ + 1) (by omega),IntWalk.i64_in _ (by omega)] <;> omega)
  · first | (with_reducible rfl) | (rw [IntKind.wrap_u32];omega) | (rw [IntKind.wrap_u32];with_reducible rfl)
  · first | exact HM.out | exact HM.out.drew
  rintro e w5 ⟨rfl,rfl⟩
  refine hK.out _ _ (by exact ⟨cell_set_ne (And.left hHeld) HNE.out.2,cell_set_ne (And.left (And.right hHeld)) HNE.out.2,cell_set_ne (And.right (And.right hHeld)) rb1⟩) (fun hHeld => ?_)
  clear hK K
  (try simp only [Act.put,List.setIfInBounds_toArray,List.set_cons_zero,List.set_cons_succ,List.getElem_toArray,List.getElem_cons_zero,List.getElem_cons_succ])
  refine wpAnyH_done (by kernel_rfl) ?_ _
  rw [← HX.out]
  go_wp2_with (with_reducible refine wpList_store_mid (by kernel_rfl) _ _ _ rfl w.heap.size 0 (qdV true (0) (.slice dA dn dc) (0) true false) (by kernel_rfl) (by kernel_rfl) hth hsd (by kernel_rfl) ?_)
  have hrg:=World.rangeAt_setCells_same (X) w.heap.size 0 [.bool true,.int .i64 (0),.slice dA dn dc,.bool false,.int .i64 (0),.bool true,.bool false,.bool false,.int .i64 0] (there_at (cs:=#[.bool false,.int .i64 0,.slice none 0 0,.bool false,.int .i64 0,.bool false,.bool false,.bool false,.int .i64 0]) (n:=9) (show (X).heap[w.heap.size]? = _ from HZX.out) rfl)
  (try simp only [Exit.inBlock,Exit.then])
  refine bodyPost_ret (results_cell_row rfl _ _ w.heap.size [.bool true,.int .i64 (0),.slice dA dn dc,.bool false,.int .i64 (0),.bool true,.bool false,.bool false,.int .i64 0] _ rfl hrg Tryz.underlying56 rfl did_size) rfl ?_
  exact ⟨rfl,StepQ.fin HBX.out HMX.out HOX.out hol hml.1 hml.2 _⟩
theorem q_ring_b (br bb:Nat) (bs:List Bool) (mb rb ob:Nat) (ws:List Int) (own:Int) (d n tl hd ce be:Nat) (sv:Value) (w:World) (ho:OBlk w ob own d n tl hd ce be sv) (hm:MemAt w mb rb ws) (hl:ws.length ≤ 1000000) (hs:Bel.SetAt w bb br bs) (hk:be < bs.length):Calls Tryz.prog 50 #[.pointer (some ⟨ob,0,none⟩),.pointer (some ⟨mb,0,none⟩),.pointer (some ⟨bb,0,none⟩)] w fun e w' => e = .returned (.agg (qdV true (0) (.slice none 0 0) (0) false true)) ∧ StepQ (fun k => k = br) w mb rb ob ws own d n tl hd ce be sv w' ∧ Bel.SetAt w' bb br (bs.set be true):=by
  obtain ⟨W,HW,hsz,hO,hz⟩:=did_new w
  have hol:=ho.lt
  have hml:=hm.lt
  have hne:=ho.ne_mem hm
  have hW:=ho.only hO (fun h => h)
  have hM:=hm.only hO (fun h => h) (fun h => h)
  have hO2:Only (New w.heap.size (fun k => k = ob ∨ k = rb)) w W:=hO.mono (fun k _ h => h.elim)

  have hbc:=Below.refl W.heap.size W
  have HHW:=Lib.hid hW;have HM:=Lib.hid hM;have HO:=Lib.hid hO;have HO2:=Lib.hid hO2;have HZ:=Lib.hid hz;have HNE:=Lib.hid hne
  have c6:W.cell? ⟨ob,6,none⟩ = some (.int .i64 (be:Int)):=hW.cell rfl
  have hS:=hs.kept hO (fun h => h) (fun h => h)
  have HR:=Lib.hid (Bel.ring_in bb br bs be W hS hk)
  have hbl:=hs.lt
  have n1:ob ≠ br:=by rintro rfl;have:=ho.symm.trans hs.row;simp at this
  have n2:mb ≠ br:=by rintro rfl;have:=hm.head.symm.trans hs.row;simp at this
  have n3:rb ≠ br:=by rintro rfl;have:=hm.row.symm.trans hs.row;simp at this
  have HN:=Lib.hid (And.intro n1 (And.intro n2 n3))
  have hO3:Only (New w.heap.size (fun k => k = br)) w W:=hO.mono (fun k _ h => h.elim)
  obtain ⟨X,HX⟩:∃ X,Hid (X = W.setCell ⟨br,be,none⟩ (.bool true)):=⟨_,rfl⟩
  have hX:=Only.setCell W ⟨br,be,none⟩ (.bool true)
  rw [← HX.out] at hX
  have HZX:Hid (X.heap[w.heap.size]? = some (.cells #[.bool false,.int .i64 0,.slice none 0 0,.bool false,.int .i64 0,.bool false,.bool false,.bool false,.int .i64 0] 56 (0,0))):=Lib.hid (hX.at_ hz (by show w.heap.size ≠ br;omega))
  have HBX:Hid (OBlk X ob own d n tl hd ce be sv):=Lib.hid (hW.only hX n1)
  have HMX:Hid (MemAt X mb rb ws):=Lib.hid (hM.only hX n2 n3)
  have HSX:Hid (Bel.SetAt X bb br (bs.set be true)):=Lib.hid (by rw [HX.out];exact hS.set _ _)
  have HOX:Hid (Only (New w.heap.size (fun k => k = br)) w X):=Lib.hid (hO3.trans (hX.mono fun _ _ h => .inr h))
  have hth:=there_at (W:=X) HZX.out (n:=(qdV true (0) (.slice none 0 0) (0) false true:Array Value).size) rfl
  have hsd:(Tryz.prog.info? 56).map (·.size) = some (qdV true (0) (.slice none 0 0) (0) false true:Array Value).size:=did_size
  clear hW hM hO hO2 hz hne ho hm
  clear hs hS hX hbc n1 n2 n3 hO3
  go_enter Tryz.func50,Tryz.ntmps50
  go_wp2_with (first | (rw [← HW.out]) | (go_at_call 79;((with_reducible refine (HR.out).mono ?_);rintro e w5 ⟨rfl,rfl⟩)) | (rw [← HX.out]) | (with_reducible refine wpList_store_mid (by kernel_rfl) _ _ _ rfl w.heap.size 0 (qdV true (0) (.slice none 0 0) (0) false true) (by kernel_rfl) (by kernel_rfl) hth hsd (by kernel_rfl) ?_))
  have hs9:=Only.sets (S:=fun k => k = w.heap.size) rfl [.bool true,.int .i64 (0),.slice none 0 0,.bool false,.int .i64 (0),.bool false,.bool true,.bool false,.int .i64 0] 0 (Only.refl _ X)
  have hrg:=World.rangeAt_setCells_same (X) w.heap.size 0 [.bool true,.int .i64 (0),.slice none 0 0,.bool false,.int .i64 (0),.bool false,.bool true,.bool false,.int .i64 0] (there_at (cs:=#[.bool false,.int .i64 0,.slice none 0 0,.bool false,.int .i64 0,.bool false,.bool false,.bool false,.int .i64 0]) (n:=9) (show (X).heap[w.heap.size]? = _ from HZX.out) rfl)
  (try simp only [Exit.inBlock,Exit.then])
  refine bodyPost_ret (results_cell_row rfl _ _ w.heap.size [.bool true,.int .i64 (0),.slice none 0 0,.bool false,.int .i64 (0),.bool false,.bool true,.bool false,.int .i64 0] _ rfl hrg Tryz.underlying56 rfl did_size) rfl ?_
  exact ⟨rfl,StepQ.fin HBX.out HMX.out HOX.out hol hml.1 hml.2 _,HSX.out.kept hs9 (by omega) (by omega)⟩
theorem there_below {X Y:World} {b n B:Nat} (h:X.there b 0 n) (hb:Below B X Y) (hl:b < B):Y.there b 0 n:=fun j hj => by
  have:=h j hj
  rw [hb.cell (p:=⟨b,0 + j,none⟩) hl,hb.frozen (p:=⟨b,0 + j,none⟩) hl]
  exact this
theorem sets_size {b:Nat}:∀ (vs:List Value) (o:Nat) (W:World),(W.setCells b o vs).heap.size = W.heap.size
  | [],_,_ => rfl
  | v :: r,o,W => (sets_size r (o + 1) (W.setCell ⟨b,o,none⟩ v)).trans (by simp [World.setCell])
theorem below_sets {B b:Nat} {w W:World} (h:Below B w W) (hb:B ≤ b) (vs:List Value):Below B w (W.setCells b 0 vs):=by
  have hs:=Only.sets (S:=fun k => k = b) rfl vs 0 (Only.refl _ W)
  refine h.trans ⟨hs.os,hs.tape,hs.output,hs.size,fun k hk => ?_⟩
  rcases Nat.lt_or_ge k W.heap.size with hl | hl
  · exact hs.block k hl (by omega)
  · have h2:=sets_size (b:=b) vs 0 W
    rw [Array.getElem?_eq_none (by omega),Array.getElem?_eq_none hl]
theorem q_cs_b (mb rb ob:Nat) (bp:Value) (ws:List Int) (own:Int) (d n tl hd ce be:Nat) (sv:Value) (w:World) (ho:OBlk w ob own d n tl hd ce be sv) (hm:MemAt w mb rb ws) (hl:ws.length ≤ 1000000) (ha:hd < ws.length):Calls Tryz.prog 54 #[.pointer (some ⟨ob,0,none⟩),.pointer (some ⟨mb,0,none⟩),bp] w fun e w' => e = .returned (.agg (qdV true (0) (.slice none 0 0) ((own - ws.getD hd 0) % 4294967296) true false)) ∧ StepQ (fun k => k = ob ∨ k = rb) w mb rb ob (ws) own d n tl hd ce be sv w':=by
  obtain ⟨W,HW,hsz,hO,hz⟩:=did_new w
  have hol:=ho.lt
  have hml:=hm.lt
  have hne:=ho.ne_mem hm
  have hW:=ho.only hO (fun h => h)
  have hM:=hm.only hO (fun h => h) (fun h => h)
  have hO2:Only (New w.heap.size (fun k => k = ob ∨ k = rb)) w W:=hO.mono (fun k _ h => h.elim)

  have hbc:=Below.refl W.heap.size W
  have HHW:=Lib.hid hW;have HM:=Lib.hid hM;have HO:=Lib.hid hO;have HO2:=Lib.hid hO2;have HZ:=Lib.hid hz;have HNE:=Lib.hid hne
  have hbw:Below w.heap.size w W:=⟨hO.os,hO.tape,hO.output,hO.size,fun k hk => hO.block k hk (fun h => h)⟩
  have HQ:=Lib.hid (fun (W':World) (h:Below w.heap.size w W') => (show W'.cell? ⟨ob,4,none⟩ = some (.int .i64 (hd:Int)) ∧ W'.cell? ⟨ob,0,none⟩ = some (.int .u32 own) from ⟨(ho.at_ (h.block _ (by omega))).cell rfl,(ho.at_ (h.block _ (by omega))).cell rfl⟩))
  have HL:=Lib.hid (fun (W':World) (h:Below w.heap.size w W') => rload_b mb rb ws hd W' (hm.below h) hl ha)
  have HFO:=Lib.hid (fun (W':World) (h:Below w.heap.size w W') => ho.at_ (h.block _ hol))
  have HFM:=Lib.hid (fun (W':World) (h:Below w.heap.size w W') => hm.below h)
  obtain ⟨x,hx⟩:∃ x,ws.getD hd 0 = x:=⟨_,rfl⟩
  rw [hx] at HL ⊢
  obtain ⟨y,hy⟩:∃ y,(own - x) % 4294967296 = y:=⟨_,rfl⟩
  rw [hy]
  have HC:=Lib.hid (fun (W':World) => counted_b y W' (by omega))
  have hwr:IntKind.u32.wrap (own - x) = y:=by rw [IntKind.wrap_u32];exact hy
  have hsd:(Tryz.prog.info? 56).map (·.size) = some (qdV true (0) (.slice none 0 0) (y) true false:Array Value).size:=did_size
  have ht0:W.there w.heap.size 0 (qdV true (0) (.slice none 0 0) (y) true false:Array Value).size:=there_at hz rfl
  have hzl:w.heap.size < W.heap.size:=by omega
  have h0:Below w.heap.size w W ∧ W.there w.heap.size 0 (qdV true (0) (.slice none 0 0) (y) true false:Array Value).size:=⟨hbw,ht0⟩
  clear hx hy hbw ht0
  clear hW hM hO hO2 hz hne ho hm
  clear hbc
  have hzl:w.heap.size < W.heap.size:=by omega
  go_enter Tryz.func54,Tryz.ntmps54
  go_wp2_with (rw [← HW.out])
  refine wp_region_held_drew (S:=(fun W' => (Below w.heap.size w W' ∧ W'.there w.heap.size 0 (qdV true (0) (.slice none 0 0) (y) true false:Array Value).size) ∧ w.heap.size < W'.heap.size)) (by kernel_rfl) (by exact ⟨⟨h0.1.drew,(World.there_drew _ _ _ _).2 h0.2⟩,hzl⟩) (fun hHeld => ?_)
  refine wpAnyH_take (i:=0) rfl (by kernel_rfl) (by kernel_rfl) (by kernel_rfl) (fun _ _ _ h => h) (Or.inl ⟨by rfl,by intro w hSw;(have zz:=HQ.out _ (And.left (And.left hSw));have z0:=zz.1;have z1:=zz.2);(go_simp <;> with_reducible rfl)⟩) (by assumption) ?_
  (try simp only [Act.put,List.setIfInBounds_toArray,List.set_cons_zero,List.set_cons_succ,List.getElem_toArray,List.getElem_cons_zero,List.getElem_cons_succ])
  refine wpAnyH_take (i:=1) rfl (by kernel_rfl) (by kernel_rfl) (by kernel_rfl) (fun _ _ _ h => h) (Or.inl ⟨by rfl,by intro w hSw;(have zz:=HQ.out _ (And.left (And.left hSw));have z0:=zz.1;have z1:=zz.2);(go_simp <;> with_reducible rfl)⟩) (by assumption) ?_
  (try simp only [Act.put,List.setIfInBounds_toArray,List.set_cons_zero,List.set_cons_succ,List.getElem_toArray,List.getElem_cons_zero,List.getElem_cons_succ])
  refine wpAnyH_take (i:=2) rfl (by kernel_rfl) (by kernel_rfl) (by kernel_rfl) (fun _ _ _ h => h) (Or.inl ⟨by rfl,by intro w hSw;(have zz:=HQ.out _ (And.left (And.left hSw));have z0:=zz.1;have z1:=zz.2);(go_simp <;> with_reducible rfl)⟩) (by assumption) ?_
  (try simp only [Act.put,List.setIfInBounds_toArray,List.set_cons_zero,List.set_cons_succ,List.getElem_toArray,List.getElem_cons_zero,List.getElem_cons_succ])
  refine wpAnyH_take (i:=3) rfl (by kernel_rfl) (by kernel_rfl) (by kernel_rfl) (fun _ _ _ h => h) (Or.inl ⟨by rfl,by intro w hSw;(have zz:=HQ.out _ (And.left (And.left hSw));have z0:=zz.1;have z1:=zz.2);(go_simp <;> with_reducible rfl)⟩) (by assumption) ?_
  (try simp only [Act.put,List.setIfInBounds_toArray,List.set_cons_zero,List.set_cons_succ,List.getElem_toArray,List.getElem_cons_zero,List.getElem_cons_succ])
  refine wpAnyH_take (i:=4) rfl (by kernel_rfl) (by kernel_rfl) (by kernel_rfl) (fun _ _ _ h => h) (Or.inl ⟨by rfl,by intro w hSw;(have zz:=HQ.out _ (And.left (And.left hSw));have z0:=zz.1;have z1:=zz.2);(go_simp <;> with_reducible rfl)⟩) (by assumption) ?_
  (try simp only [Act.put,List.setIfInBounds_toArray,List.set_cons_zero,List.set_cons_succ,List.getElem_toArray,List.getElem_cons_zero,List.getElem_cons_succ])
  refine wpAnyH_take (i:=5) rfl (by kernel_rfl) (by kernel_rfl) (by kernel_rfl) (fun _ _ _ h => h) (Or.inl ⟨by rfl,by intro w hSw;(have zz:=HQ.out _ (And.left (And.left hSw));have z0:=zz.1;have z1:=zz.2);(go_simp <;> with_reducible rfl)⟩) (by assumption) ?_
  (try simp only [Act.put,List.setIfInBounds_toArray,List.set_cons_zero,List.set_cons_succ,List.getElem_toArray,List.getElem_cons_zero,List.getElem_cons_succ])
  refine wpAnyH_take (i:=6) rfl (by kernel_rfl) (by kernel_rfl) (by kernel_rfl) (fun _ _ _ h => h) (Or.inl ⟨by rfl,by intro w hSw;(have zz:=HQ.out _ (And.left (And.left hSw));have z0:=zz.1;have z1:=zz.2);(go_simp <;> with_reducible rfl)⟩) (by assumption) ?_
  (try simp only [Act.put,List.setIfInBounds_toArray,List.set_cons_zero,List.set_cons_succ,List.getElem_toArray,List.getElem_cons_zero,List.getElem_cons_succ])
  refine wpAnyH_take (i:=7) rfl (by kernel_rfl) (by kernel_rfl) (by kernel_rfl) (fun _ _ _ h => h) (Or.inl ⟨by rfl,by intro w hSw;(have zz:=HQ.out _ (And.left (And.left hSw));have z0:=zz.1;have z1:=zz.2);(go_simp <;> with_reducible rfl)⟩) (by assumption) ?_
  (try simp only [Act.put,List.setIfInBounds_toArray,List.set_cons_zero,List.set_cons_succ,List.getElem_toArray,List.getElem_cons_zero,List.getElem_cons_succ])
  refine wpAnyH_take (i:=8) rfl (by kernel_rfl) (by kernel_rfl) (by kernel_rfl) (fun _ _ _ h => h) (Or.inl ⟨by rfl,by intro w hSw;(have zz:=HQ.out _ (And.left (And.left hSw));have z0:=zz.1;have z1:=zz.2);(go_simp <;> with_reducible rfl)⟩) (by assumption) ?_
  (try simp only [Act.put,List.setIfInBounds_toArray,List.set_cons_zero,List.set_cons_succ,List.getElem_toArray,List.getElem_cons_zero,List.getElem_cons_succ])
  refine wpAnyH_ready (rs:=[9]) (by kernel_rfl) (by simp) (AllReadyH.cons rfl (fun K hK => ?_) AllReadyH.nil)
  go_simp
  refine (HL.out _ (And.left (And.left hHeld))).mono ?_
  rintro e w5 ⟨rfl,rfl⟩
  refine hK.out _ _ (by exact hHeld) (fun hHeld => ?_)
  clear hK K
  (try simp only [Act.put,List.setIfInBounds_toArray,List.set_cons_zero,List.set_cons_succ,List.getElem_toArray,List.getElem_cons_zero,List.getElem_cons_succ])
  refine wpAnyH_take (i:=10) rfl (by kernel_rfl) (by kernel_rfl) (by kernel_rfl) (fun _ _ _ h => h) (Or.inl ⟨by rfl,by intro w hSw;(have zz:=HQ.out _ (And.left (And.left hSw));have z0:=zz.1;have z1:=zz.2);(go_simp <;> with_reducible rfl)⟩) (by assumption) ?_
  (try simp only [Act.put,List.setIfInBounds_toArray,List.set_cons_zero,List.set_cons_succ,List.getElem_toArray,List.getElem_cons_zero,List.getElem_cons_succ])
  refine wpAnyH_ready (rs:=[11]) (by kernel_rfl) (by simp) (AllReadyH.cons rfl (fun K hK => ?_) AllReadyH.nil)
  go_simp
  refine (HC.out _).mono ?_
  rintro e w6 ⟨rfl,hb6⟩
  refine hK.out _ _ (by exact ⟨⟨(And.left (And.left hHeld)).trans (hb6.mono (Nat.le_of_lt (hHeld.2))),there_below (And.right (And.left hHeld)) hb6 (hHeld.2)⟩,Nat.lt_of_lt_of_le (hHeld.2) hb6.size⟩) (fun hHeld => ?_)
  clear hK K
  (try simp only [Act.put,List.setIfInBounds_toArray,List.set_cons_zero,List.set_cons_succ,List.getElem_toArray,List.getElem_cons_zero,List.getElem_cons_succ])
  refine wpAnyH_ready (rs:=[12]) (by kernel_rfl) (by simp) (AllReadyH.cons rfl (fun K hK => ?_) AllReadyH.nil)
  rw [if_pos (by rfl)]
  have hth:_:=(And.right (And.left hHeld))
  refine wp_store_mid _ _ _ rfl w.heap.size 0 (qdV true (0) (.slice none 0 0) (y) true false) rfl rfl hth hsd (by kernel_rfl) ?_
  refine hK.out _ _ (by exact ⟨⟨below_sets (And.left (And.left hHeld)) (Nat.le_refl _) _,World.there_setCells (And.right (And.left hHeld)) _ _ _⟩,Nat.lt_of_lt_of_le hHeld.2 (Nat.le_of_eq (sets_size _ _ _).symm)⟩) (fun hHeld => ?_)
  clear hK K
  (try simp only [Act.put,List.setIfInBounds_toArray,List.set_cons_zero,List.set_cons_succ,List.getElem_toArray,List.getElem_cons_zero,List.getElem_cons_succ])
  refine wpAnyH_done (by kernel_rfl) ?_ _
  have hBE:=Lib.hid hHeld.1.1
  have HTH:=Lib.hid hth
  clear hHeld
  go_wp2
  have hrg:=World.rangeAt_setCells_same (w6) w.heap.size 0 [.bool true,.int .i64 (0),.slice none 0 0,.bool false,.int .i64 (y),.bool true,.bool false,.bool false,.int .i64 0] HTH.out
  (try simp only [Exit.inBlock,Exit.then])
  refine bodyPost_ret (results_cell_row rfl _ _ w.heap.size [.bool true,.int .i64 (0),.slice none 0 0,.bool false,.int .i64 (y),.bool true,.bool false,.bool false,.int .i64 0] _ rfl hrg Tryz.underlying56 rfl did_size) rfl ?_
  exact ⟨rfl,HFO.out _ hBE.out,HFM.out _ hBE.out,Only.of_below hBE.out⟩
theorem q_cr_b (mb rb ob:Nat) (bp:Value) (ws:List Int) (own:Int) (d n tl hd ce be:Nat) (sv:Value) (w:World) (ho:OBlk w ob own d n tl hd ce be sv) (hm:MemAt w mb rb ws) (hl:ws.length ≤ 1000000) (ha:tl < ws.length):Calls Tryz.prog 53 #[.pointer (some ⟨ob,0,none⟩),.pointer (some ⟨mb,0,none⟩),bp] w fun e w' => e = .returned (.agg (qdV true (0) (.slice none 0 0) ((ws.getD tl 0 - own) % 4294967296) true false)) ∧ StepQ (fun k => k = ob ∨ k = rb) w mb rb ob (ws) own d n tl hd ce be sv w':=by
  obtain ⟨W,HW,hsz,hO,hz⟩:=did_new w
  have hol:=ho.lt
  have hml:=hm.lt
  have hne:=ho.ne_mem hm
  have hW:=ho.only hO (fun h => h)
  have hM:=hm.only hO (fun h => h) (fun h => h)
  have hO2:Only (New w.heap.size (fun k => k = ob ∨ k = rb)) w W:=hO.mono (fun k _ h => h.elim)

  have hbc:=Below.refl W.heap.size W
  have HHW:=Lib.hid hW;have HM:=Lib.hid hM;have HO:=Lib.hid hO;have HO2:=Lib.hid hO2;have HZ:=Lib.hid hz;have HNE:=Lib.hid hne
  have hbw:Below w.heap.size w W:=⟨hO.os,hO.tape,hO.output,hO.size,fun k hk => hO.block k hk (fun h => h)⟩
  have HQ:=Lib.hid (fun (W':World) (h:Below w.heap.size w W') => (show W'.cell? ⟨ob,3,none⟩ = some (.int .i64 (tl:Int)) ∧ W'.cell? ⟨ob,0,none⟩ = some (.int .u32 own) from ⟨(ho.at_ (h.block _ (by omega))).cell rfl,(ho.at_ (h.block _ (by omega))).cell rfl⟩))
  have HL:=Lib.hid (fun (W':World) (h:Below w.heap.size w W') => rload_b mb rb ws tl W' (hm.below h) hl ha)
  have HFO:=Lib.hid (fun (W':World) (h:Below w.heap.size w W') => ho.at_ (h.block _ hol))
  have HFM:=Lib.hid (fun (W':World) (h:Below w.heap.size w W') => hm.below h)
  obtain ⟨x,hx⟩:∃ x,ws.getD tl 0 = x:=⟨_,rfl⟩
  rw [hx] at HL ⊢
  obtain ⟨y,hy⟩:∃ y,(x - own) % 4294967296 = y:=⟨_,rfl⟩
  rw [hy]
  have HC:=Lib.hid (fun (W':World) => counted_b y W' (by omega))
  have hwr:IntKind.u32.wrap (x - own) = y:=by rw [IntKind.wrap_u32];exact hy
  have hsd:(Tryz.prog.info? 56).map (·.size) = some (qdV true (0) (.slice none 0 0) (y) true false:Array Value).size:=did_size
  have ht0:W.there w.heap.size 0 (qdV true (0) (.slice none 0 0) (y) true false:Array Value).size:=there_at hz rfl
  have hzl:w.heap.size < W.heap.size:=by omega
  have h0:Below w.heap.size w W ∧ W.there w.heap.size 0 (qdV true (0) (.slice none 0 0) (y) true false:Array Value).size:=⟨hbw,ht0⟩
  clear hx hy hbw ht0
  clear hW hM hO hO2 hz hne ho hm
  clear hbc
  have hzl:w.heap.size < W.heap.size:=by omega
  go_enter Tryz.func53,Tryz.ntmps53
  go_wp2_with (rw [← HW.out])
  refine wp_region_held_drew (S:=(fun W' => (Below w.heap.size w W' ∧ W'.there w.heap.size 0 (qdV true (0) (.slice none 0 0) (y) true false:Array Value).size) ∧ w.heap.size < W'.heap.size)) (by kernel_rfl) (by exact ⟨⟨h0.1.drew,(World.there_drew _ _ _ _).2 h0.2⟩,hzl⟩) (fun hHeld => ?_)
  refine wpAnyH_take (i:=0) rfl (by kernel_rfl) (by kernel_rfl) (by kernel_rfl) (fun _ _ _ h => h) (Or.inl ⟨by rfl,by intro w hSw;(have zz:=HQ.out _ (And.left (And.left hSw));have z0:=zz.1;have z1:=zz.2);(go_simp <;> with_reducible rfl)⟩) (by assumption) ?_
  (try simp only [Act.put,List.setIfInBounds_toArray,List.set_cons_zero,List.set_cons_succ,List.getElem_toArray,List.getElem_cons_zero,List.getElem_cons_succ])
  refine wpAnyH_take (i:=1) rfl (by kernel_rfl) (by kernel_rfl) (by kernel_rfl) (fun _ _ _ h => h) (Or.inl ⟨by rfl,by intro w hSw;(have zz:=HQ.out _ (And.left (And.left hSw));have z0:=zz.1;have z1:=zz.2);(go_simp <;> with_reducible rfl)⟩) (by assumption) ?_
  (try simp only [Act.put,List.setIfInBounds_toArray,List.set_cons_zero,List.set_cons_succ,List.getElem_toArray,List.getElem_cons_zero,List.getElem_cons_succ])
  refine wpAnyH_take (i:=2) rfl (by kernel_rfl) (by kernel_rfl) (by kernel_rfl) (fun _ _ _ h => h) (Or.inl ⟨by rfl,by intro w hSw;(have zz:=HQ.out _ (And.left (And.left hSw));have z0:=zz.1;have z1:=zz.2);(go_simp <;> with_reducible rfl)⟩) (by assumption) ?_
  (try simp only [Act.put,List.setIfInBounds_toArray,List.set_cons_zero,List.set_cons_succ,List.getElem_toArray,List.getElem_cons_zero,List.getElem_cons_succ])
  refine wpAnyH_take (i:=3) rfl (by kernel_rfl) (by kernel_rfl) (by kernel_rfl) (fun _ _ _ h => h) (Or.inl ⟨by rfl,by intro w hSw;(have zz:=HQ.out _ (And.left (And.left hSw));have z0:=zz.1;have z1:=zz.2);(go_simp <;> with_reducible rfl)⟩) (by assumption) ?_
  (try simp only [Act.put,List.setIfInBounds_toArray,List.set_cons_zero,List.set_cons_succ,List.getElem_toArray,List.getElem_cons_zero,List.getElem_cons_succ])
  refine wpAnyH_take (i:=4) rfl (by kernel_rfl) (by kernel_rfl) (by kernel_rfl) (fun _ _ _ h => h) (Or.inl ⟨by rfl,by intro w hSw;(have zz:=HQ.out _ (And.left (And.left hSw));have z0:=zz.1;have z1:=zz.2);(go_simp <;> with_reducible rfl)⟩) (by assumption) ?_
  (try simp only [Act.put,List.setIfInBounds_toArray,List.set_cons_zero,List.set_cons_succ,List.getElem_toArray,List.getElem_cons_zero,List.getElem_cons_succ])
  refine wpAnyH_take (i:=6) rfl (by kernel_rfl) (by kernel_rfl) (by kernel_rfl) (fun _ _ _ h => h) (Or.inl ⟨by rfl,by intro w hSw;(have zz:=HQ.out _ (And.left (And.left hSw));have z0:=zz.1;have z1:=zz.2);(go_simp <;> with_reducible rfl)⟩) (by assumption) ?_
  (try simp only [Act.put,List.setIfInBounds_toArray,List.set_cons_zero,List.set_cons_succ,List.getElem_toArray,List.getElem_cons_zero,List.getElem_cons_succ])
  refine wpAnyH_take (i:=7) rfl (by kernel_rfl) (by kernel_rfl) (by kernel_rfl) (fun _ _ _ h => h) (Or.inl ⟨by rfl,by intro w hSw;(have zz:=HQ.out _ (And.left (And.left hSw));have z0:=zz.1;have z1:=zz.2);(go_simp <;> with_reducible rfl)⟩) (by assumption) ?_
  (try simp only [Act.put,List.setIfInBounds_toArray,List.set_cons_zero,List.set_cons_succ,List.getElem_toArray,List.getElem_cons_zero,List.getElem_cons_succ])
  refine wpAnyH_take (i:=8) rfl (by kernel_rfl) (by kernel_rfl) (by kernel_rfl) (fun _ _ _ h => h) (Or.inl ⟨by rfl,by intro w hSw;(have zz:=HQ.out _ (And.left (And.left hSw));have z0:=zz.1;have z1:=zz.2);(go_simp <;> with_reducible rfl)⟩) (by assumption) ?_
  (try simp only [Act.put,List.setIfInBounds_toArray,List.set_cons_zero,List.set_cons_succ,List.getElem_toArray,List.getElem_cons_zero,List.getElem_cons_succ])
  refine wpAnyH_take (i:=9) rfl (by kernel_rfl) (by kernel_rfl) (by kernel_rfl) (fun _ _ _ h => h) (Or.inl ⟨by rfl,by intro w hSw;(have zz:=HQ.out _ (And.left (And.left hSw));have z0:=zz.1;have z1:=zz.2);(go_simp <;> with_reducible rfl)⟩) (by assumption) ?_
  (try simp only [Act.put,List.setIfInBounds_toArray,List.set_cons_zero,List.set_cons_succ,List.getElem_toArray,List.getElem_cons_zero,List.getElem_cons_succ])
  refine wpAnyH_ready (rs:=[5]) (by kernel_rfl) (by simp) (AllReadyH.cons rfl (fun K hK => ?_) AllReadyH.nil)
  go_simp
  refine (HL.out _ (And.left (And.left hHeld))).mono ?_
  rintro e w5 ⟨rfl,rfl⟩
  refine hK.out _ _ (by exact hHeld) (fun hHeld => ?_)
  clear hK K
  (try simp only [Act.put,List.setIfInBounds_toArray,List.set_cons_zero,List.set_cons_succ,List.getElem_toArray,List.getElem_cons_zero,List.getElem_cons_succ])
  refine wpAnyH_take (i:=10) rfl (by kernel_rfl) (by kernel_rfl) (by kernel_rfl) (fun _ _ _ h => h) (Or.inl ⟨by rfl,by intro w hSw;(have zz:=HQ.out _ (And.left (And.left hSw));have z0:=zz.1;have z1:=zz.2);(go_simp <;> with_reducible rfl)⟩) (by assumption) ?_
  (try simp only [Act.put,List.setIfInBounds_toArray,List.set_cons_zero,List.set_cons_succ,List.getElem_toArray,List.getElem_cons_zero,List.getElem_cons_succ])
  refine wpAnyH_ready (rs:=[11]) (by kernel_rfl) (by simp) (AllReadyH.cons rfl (fun K hK => ?_) AllReadyH.nil)
  go_simp
  refine (HC.out _).mono ?_
  rintro e w6 ⟨rfl,hb6⟩
  refine hK.out _ _ (by exact ⟨⟨(And.left (And.left hHeld)).trans (hb6.mono (Nat.le_of_lt (hHeld.2))),there_below (And.right (And.left hHeld)) hb6 (hHeld.2)⟩,Nat.lt_of_lt_of_le (hHeld.2) hb6.size⟩) (fun hHeld => ?_)
  clear hK K
  (try simp only [Act.put,List.setIfInBounds_toArray,List.set_cons_zero,List.set_cons_succ,List.getElem_toArray,List.getElem_cons_zero,List.getElem_cons_succ])
  refine wpAnyH_ready (rs:=[12]) (by kernel_rfl) (by simp) (AllReadyH.cons rfl (fun K hK => ?_) AllReadyH.nil)
  rw [if_pos (by rfl)]
  have hth:_:=(And.right (And.left hHeld))
  refine wp_store_mid _ _ _ rfl w.heap.size 0 (qdV true (0) (.slice none 0 0) (y) true false) rfl rfl hth hsd (by kernel_rfl) ?_
  refine hK.out _ _ (by exact ⟨⟨below_sets (And.left (And.left hHeld)) (Nat.le_refl _) _,World.there_setCells (And.right (And.left hHeld)) _ _ _⟩,Nat.lt_of_lt_of_le hHeld.2 (Nat.le_of_eq (sets_size _ _ _).symm)⟩) (fun hHeld => ?_)
  clear hK K
  (try simp only [Act.put,List.setIfInBounds_toArray,List.set_cons_zero,List.set_cons_succ,List.getElem_toArray,List.getElem_cons_zero,List.getElem_cons_succ])
  refine wpAnyH_done (by kernel_rfl) ?_ _
  have hBE:=Lib.hid hHeld.1.1
  have HTH:=Lib.hid hth
  clear hHeld
  go_wp2
  have hrg:=World.rangeAt_setCells_same (w6) w.heap.size 0 [.bool true,.int .i64 (0),.slice none 0 0,.bool false,.int .i64 (y),.bool true,.bool false,.bool false,.int .i64 0] HTH.out
  (try simp only [Exit.inBlock,Exit.then])
  refine bodyPost_ret (results_cell_row rfl _ _ w.heap.size [.bool true,.int .i64 (0),.slice none 0 0,.bool false,.int .i64 (y),.bool true,.bool false,.bool false,.int .i64 0] _ rfl hrg Tryz.underlying56 rfl did_size) rfl ?_
  exact ⟨rfl,HFO.out _ hBE.out,HFM.out _ hBE.out,Only.of_below hBE.out⟩
theorem q_get_b (mb rb ob:Nat) (bp:Value) (ws:List Int) (own:Int) (d n tl hd ce be:Nat) (sv:Value) (w:World) (b1 b2 b3 db i m:Nat) (ds:List Int) (ho:OBlk w ob own d n tl hd ce be sv) (hm:MemAt w mb rb ws) (hl:ws.length ≤ 1000000) (hb1:w.heap[b1]? = some (.cells #[.pointer (some ⟨ob,0,none⟩)] 66 (0,0))) (hb2:w.heap[b2]? = some (.cells #[.int .i64 (i:Int)] 3 (0,0))) (hb3:w.heap[b3]? = some (.cells #[.slice (some ⟨db,0,none⟩) m m] 30 (0,0)))
    (hdb:WordsAt w db ds) (hrd:db ≠ rb) (hi:i < m) (hmd:m ≤ ds.length) (hml2:m ≤ 1000) (ha:ce + 1 + i < ws.length):Calls Tryz.prog 99 #[.pointer (some ⟨mb,0,none⟩),bp,.pointer (some ⟨b1,0,none⟩),.pointer (some ⟨b2,0,none⟩),.pointer (some ⟨b3,0,none⟩)] w fun e w' =>
    e = .returned (.agg (qdV false (0) (.slice none 0 0) (0) false false)) ∧ StepQ (fun k => k = db) w mb rb ob ws own d n tl hd ce be sv w' ∧ WordsAt w' db (ds.set i (ws.getD (ce + 1 + i) 0)):=by
  obtain ⟨W,HW,hsz,hO,hz⟩:=did_new w
  have hol:=ho.lt
  have hml:=hm.lt
  have hne:=ho.ne_mem hm
  have hW:=ho.only hO (fun h => h)
  have hM:=hm.only hO (fun h => h) (fun h => h)
  have hO2:Only (New w.heap.size (fun k => k = ob ∨ k = rb)) w W:=hO.mono (fun k _ h => h.elim)

  have hbc:=Below.refl W.heap.size W
  have HHW:=Lib.hid hW;have HM:=Lib.hid hM;have HO:=Lib.hid hO;have HO2:=Lib.hid hO2;have HZ:=Lib.hid hz;have HNE:=Lib.hid hne
  have c5:W.cell? ⟨ob,5,none⟩ = some (.int .i64 (ce:Int)):=hW.cell rfl
  have kb1:W.cell? ⟨b1,0,none⟩ = some (.pointer (some ⟨ob,0,none⟩)):=clo_cell hb1 hO
  have kb2:W.cell? ⟨b2,0,none⟩ = some (.int .i64 (i:Int)):=clo_cell hb2 hO
  have kb3:W.cell? ⟨b3,0,none⟩ = some (.slice (some ⟨db,0,none⟩) m m):=clo_cell hb3 hO
  have hdl:=hdb.lt
  have hD:=hdb.of (hO.block db hdl (fun h => h))
  have gdb:=hD.frozen i
  have cdb:=hD.cell (k:=i) (by omega)
  have n1:db ≠ ob:=by rintro rfl;have:=ho.symm.trans hdb;simp at this
  have n2:db ≠ mb:=by rintro rfl;have:=hm.head.symm.trans hdb;simp at this
  have n3:db ≠ b1:=by rintro rfl;have:=hb1.symm.trans hdb;simp at this
  have n4:db ≠ b2:=by rintro rfl;have:=hb2.symm.trans hdb;simp at this
  have n5:db ≠ b3:=by rintro rfl;have:=hb3.symm.trans hdb;simp at this
  obtain ⟨x,hx⟩:∃ x,ws.getD (ce + 1 + i) 0 = x:=⟨_,rfl⟩
  have HL:=Lib.hid (fun (W':World) (av:Int) (hav:av = ((ce + 1 + i:Nat):Int)) (h:MemAt W' mb rb ws) => (show Calls Tryz.prog 73 #[.pointer (some ⟨mb,0,none⟩),.int .i64 av] W' fun e w' => e = .returned (.int .u32 x) ∧ W' = w' from by subst hav;rw [← hx];exact rload_b mb rb ws _ W' h hl ha))
  rw [hx]
  obtain ⟨X,HX⟩:∃ X,Hid (X = (W.setCell ⟨db,i,none⟩ (.int .u32 x)).drew):=⟨_,rfl⟩
  have hX:=Only.setCell W ⟨db,i,none⟩ (.int .u32 x)
  have hX2:Only (fun k => k = db) W X:=by rw [HX.out];exact hX.drew
  have HZX:Hid (X.heap[w.heap.size]? = some (.cells #[.bool false,.int .i64 0,.slice none 0 0,.bool false,.int .i64 0,.bool false,.bool false,.bool false,.int .i64 0] 56 (0,0))):=Lib.hid (hX2.at_ hz (by show w.heap.size ≠ db;omega))
  have HBX:Hid (OBlk X ob own d n tl hd ce be sv):=Lib.hid (hW.only hX2 (fun h => n1 h.symm))
  have HMX:Hid (MemAt X mb rb ws):=Lib.hid (hM.only hX2 (fun h => n2 h.symm) (fun h => hrd h.symm))
  have HSX:Hid (WordsAt X db (ds.set i x)):=Lib.hid (by rw [HX.out];exact hD.set _ _)
  have HOX:Hid (Only (New w.heap.size (fun k => k = db)) w X):=Lib.hid ((hO.mono (fun k _ h => h.elim)).trans (hX2.mono fun _ _ h => .inr h))
  have i1:(i:Int) < (m:Int):=by omega
  have hiw:IntKind.i64.wrap (i:Int) = i:=IntWalk.i64_in _ (by omega)
  have hth:=there_at (W:=X) HZX.out (n:=(qdV false (0) (.slice none 0 0) (0) false false:Array Value).size) rfl
  have hsd:(Tryz.prog.info? 56).map (·.size) = some (qdV false (0) (.slice none 0 0) (0) false false:Array Value).size:=did_size
  clear hW hM hO hO2 hz hne ho hm
  clear hX hX2 hbc hb1 hb2 hb3 hdb hx
  go_enter Tryz.func99,Tryz.ntmps99
  go_wp2_with (rw [← HW.out])
  refine wp_region_held_drew (S:=(fun W' => W'.cell? ⟨ob,5,none⟩ = some (.int .i64 (ce:Int)) ∧ W'.cell? ⟨b1,0,none⟩ = some (.pointer (some ⟨ob,0,none⟩)) ∧ W'.cell? ⟨b2,0,none⟩ = some (.int .i64 (i:Int)) ∧ W'.cell? ⟨b3,0,none⟩ = some (.slice (some ⟨db,0,none⟩) m m))) (by kernel_rfl) (by exact ⟨c5,kb1,kb2,kb3⟩) (fun hHeld => ?_)
  refine wpAnyH_take (i:=0) rfl (by kernel_rfl) (by kernel_rfl) (by kernel_rfl) (fun _ _ _ h => h) (Or.inl ⟨by rfl,by intro w hSw;(skip);(go_simp <;> with_reducible rfl)⟩) (by assumption) ?_
  (try simp only [Act.put,List.setIfInBounds_toArray,List.set_cons_zero,List.set_cons_succ,List.getElem_toArray,List.getElem_cons_zero,List.getElem_cons_succ])
  refine wpAnyH_take (i:=1) rfl (by kernel_rfl) (by kernel_rfl) (by kernel_rfl) (fun _ _ _ h => h) (Or.inl ⟨by rfl,by intro w hSw;(skip);(go_simp <;> with_reducible rfl)⟩) (by assumption) ?_
  (try simp only [Act.put,List.setIfInBounds_toArray,List.set_cons_zero,List.set_cons_succ,List.getElem_toArray,List.getElem_cons_zero,List.getElem_cons_succ])
  refine wpAnyH_take (i:=2) rfl (by kernel_rfl) (by kernel_rfl) (by kernel_rfl) (fun _ _ _ h => h) (Or.inl ⟨by rfl,by intro w hSw;(skip);(go_simp <;> with_reducible rfl)⟩) (by assumption) ?_
  (try simp only [Act.put,List.setIfInBounds_toArray,List.set_cons_zero,List.set_cons_succ,List.getElem_toArray,List.getElem_cons_zero,List.getElem_cons_succ])
  refine wpAnyH_take (i:=3) rfl (by kernel_rfl) (by kernel_rfl) (by kernel_rfl) (fun _ _ _ h => h) (Or.inl ⟨by rfl,by intro w hSw;(skip);(go_simp <;> with_reducible rfl)⟩) (by assumption) ?_
  (try simp only [Act.put,List.setIfInBounds_toArray,List.set_cons_zero,List.set_cons_succ,List.getElem_toArray,List.getElem_cons_zero,List.getElem_cons_succ])
  refine wpAnyH_take (i:=4) rfl (by kernel_rfl) (by kernel_rfl) (by kernel_rfl) (fun _ _ _ h => h) (Or.inl ⟨by rfl,by intro w hSw;(skip);(go_simp <;> with_reducible rfl)⟩) (by assumption) ?_
  (try simp only [Act.put,List.setIfInBounds_toArray,List.set_cons_zero,List.set_cons_succ,List.getElem_toArray,List.getElem_cons_zero,List.getElem_cons_succ])
  refine wpAnyH_take (i:=5) rfl (by kernel_rfl) (by kernel_rfl) (by kernel_rfl) (fun _ _ _ h => h) (Or.inl ⟨by rfl,by intro w hSw;(skip);(go_simp <;> with_reducible rfl)⟩) (by assumption) ?_
  (try simp only [Act.put,List.setIfInBounds_toArray,List.set_cons_zero,List.set_cons_succ,List.getElem_toArray,List.getElem_cons_zero,List.getElem_cons_succ])
  refine wpAnyH_take (i:=6) rfl (by kernel_rfl) (by kernel_rfl) (by kernel_rfl) (fun _ _ _ h => h) (Or.inl ⟨by rfl,by intro w hSw;(skip);(go_simp <;> with_reducible rfl)⟩) (by assumption) ?_
  (try simp only [Act.put,List.setIfInBounds_toArray,List.set_cons_zero,List.set_cons_succ,List.getElem_toArray,List.getElem_cons_zero,List.getElem_cons_succ])
  refine wpAnyH_take (i:=7) rfl (by kernel_rfl) (by kernel_rfl) (by kernel_rfl) (fun _ _ _ h => h) (Or.inl ⟨by rfl,by intro w hSw;(skip);(go_simp <;> with_reducible rfl)⟩) (by assumption) ?_
  (try simp only [Act.put,List.setIfInBounds_toArray,List.set_cons_zero,List.set_cons_succ,List.getElem_toArray,List.getElem_cons_zero,List.getElem_cons_succ])
  refine wpAnyH_take (i:=8) rfl (by kernel_rfl) (by kernel_rfl) (by kernel_rfl) (fun _ _ _ h => h) (Or.inl ⟨by rfl,by intro w hSw;(skip);(go_simp <;> with_reducible rfl)⟩) (by assumption) ?_
  (try simp only [Act.put,List.setIfInBounds_toArray,List.set_cons_zero,List.set_cons_succ,List.getElem_toArray,List.getElem_cons_zero,List.getElem_cons_succ])
  refine wpAnyH_take (i:=9) rfl (by kernel_rfl) (by kernel_rfl) (by kernel_rfl) (fun _ _ _ h => h) (Or.inl ⟨by rfl,by intro w hSw;(skip);(go_simp <;> with_reducible rfl)⟩) (by assumption) ?_
  (try simp only [Act.put,List.setIfInBounds_toArray,List.set_cons_zero,List.set_cons_succ,List.getElem_toArray,List.getElem_cons_zero,List.getElem_cons_succ])
  refine wpAnyH_ready (rs:=[10]) (by kernel_rfl) (by simp) (AllReadyH.cons rfl (fun K hK => ?_) AllReadyH.nil)
  go_simp
  refine (HL.out _ _ ?_ ?_).mono ?_
  · first | (with_reducible rfl) | omega | (rw [IntWalk.i64_in (_ + 1) (by omega),IntWalk.i64_in _ (by omega)] <;> omega)
  · first | exact HM.out | exact HM.out.drew
  rintro e w5 ⟨rfl,rfl⟩
  refine hK.out _ _ (by exact hHeld) (fun hHeld => ?_)
  clear hK K
  (try simp only [Act.put,List.setIfInBounds_toArray,List.set_cons_zero,List.set_cons_succ,List.getElem_toArray,List.getElem_cons_zero,List.getElem_cons_succ])
  refine wpAnyH_take (i:=11) rfl (by kernel_rfl) (by kernel_rfl) (by kernel_rfl) (fun _ _ _ h => h) (Or.inl ⟨by rfl,by intro w hSw;(skip);(go_simp <;> with_reducible rfl)⟩) (by assumption) ?_
  (try simp only [Act.put,List.setIfInBounds_toArray,List.set_cons_zero,List.set_cons_succ,List.getElem_toArray,List.getElem_cons_zero,List.getElem_cons_succ])
  refine wpAnyH_ready (rs:=[12]) (by kernel_rfl) (by simp) (AllReadyH.cons rfl (fun K hK => ?_) AllReadyH.nil)
  go_simp
  refine hK.out _ _ (by exact ⟨cell_set_ne (And.left hHeld) n1,cell_set_ne (And.left (And.right hHeld)) n3,cell_set_ne (And.left (And.right (And.right hHeld))) n4,cell_set_ne (And.right (And.right (And.right hHeld))) n5⟩) (fun hHeld => ?_)
  clear hK K
  (try simp only [Act.put,List.setIfInBounds_toArray,List.set_cons_zero,List.set_cons_succ,List.getElem_toArray,List.getElem_cons_zero,List.getElem_cons_succ])
  refine wpAnyH_done (by kernel_rfl) ?_ _
  rw [← HX.out]
  go_wp2_with (with_reducible refine wpList_store_mid (by kernel_rfl) _ _ _ rfl w.heap.size 0 (qdV false (0) (.slice none 0 0) (0) false false) (by kernel_rfl) (by kernel_rfl) hth hsd (by kernel_rfl) ?_)
  have hs9:=Only.sets (S:=fun k => k = w.heap.size) rfl [.bool false,.int .i64 (0),.slice none 0 0,.bool false,.int .i64 (0),.bool false,.bool false,.bool false,.int .i64 0] 0 (Only.refl _ X)
  have hrg:=World.rangeAt_setCells_same (X) w.heap.size 0 [.bool false,.int .i64 (0),.slice none 0 0,.bool false,.int .i64 (0),.bool false,.bool false,.bool false,.int .i64 0] (there_at (cs:=#[.bool false,.int .i64 0,.slice none 0 0,.bool false,.int .i64 0,.bool false,.bool false,.bool false,.int .i64 0]) (n:=9) (show (X).heap[w.heap.size]? = _ from HZX.out) rfl)
  (try simp only [Exit.inBlock,Exit.then])
  refine bodyPost_ret (results_cell_row rfl _ _ w.heap.size [.bool false,.int .i64 (0),.slice none 0 0,.bool false,.int .i64 (0),.bool false,.bool false,.bool false,.int .i64 0] _ rfl hrg Tryz.underlying56 rfl did_size) rfl ?_
  exact ⟨rfl,StepQ.fin HBX.out HMX.out HOX.out hol hml.1 hml.2 _,HSX.out.of (hs9.block db (by have:=HOX.out.size;omega) (by omega))⟩
end Go.Proofs.YtmhpcgcloojfbaaGreat
