/- Texts of the ring, joined, what is used of them. No condition but those in the statements. -/
import Derived.BigQuiet
import Derived.BigRegion
import Derived.Deep.MidRow
import Derived.Deep.RegionHeld3
import Derived.Deep.Upon
import Derived.IntWalk
import Derived.Laws.EntriesVeiled
import Derived.LoopIn
import Derived.LoopNIn
import Derived.OwnWalkIn
import Derived.RangeFuncBound
import Derived.RangeFuncBox
import Derived.RangeFuncCalls
import Derived.RangeFuncLeaves
import Derived.RangeFuncNested
import Derived.Shelf.Abstract
import Derived.Shelf.RegionOpen
import Derived.TacticsInMore
import Derived.Test.YtmhpcgcloojfbaaGreatQRSf
import Derived.Test.YtmhpcgcloojfbaaGreatQgT
section
namespace Go.Proofs.YtmhpcgcloojfbaaGreat
open Go.RowKit Go.Sort
set_option linter.unusedVariables false
set_option linter.unusedSimpArgs false
set_option linter.unusedVariables false
set_option linter.unusedSimpArgs false
set_option maxRecDepth 100000
set_option maxHeartbeats 1600000
theorem heap_new_q (w:World) (o:Obj) {k:Nat} (h:k = w.heap.size):(w.alloc o).heap[k]? = some o:=by subst h;exact heap_alloc_new w o
theorem mk_len_b (ob:Nat) (m:Nat) (w:World):Calls Tryz.prog 45 #[.pointer (some ⟨ob,0,none⟩),.int .i64 (m:Int)] w fun e w' => e = .returned (.func (.func 75) #[] #[.pointer (some ⟨w.heap.size,0,none⟩),.pointer (some ⟨w.heap.size + 1,0,none⟩)]) ∧ Below w.heap.size w w' ∧ w'.heap.size = w.heap.size + 2 ∧ w'.heap[w.heap.size]? = some (.cells #[.pointer (some ⟨ob,0,none⟩)] 66 (0,0)) ∧ w'.heap[w.heap.size + 1]? = some (.cells #[.int .i64 (m:Int)] 3 (0,0)):=by
  obtain ⟨W,HW⟩:∃ W,Hid (W = ((w.alloc (.cells #[.pointer (some ⟨ob,0,none⟩)] 66)).alloc (.cells #[.int .i64 (m:Int)] 3))):=⟨_,rfl⟩
  have hB:Below w.heap.size w W:=by rw [HW.out];exact ((Below.refl _ _).alloc (Nat.le_refl _) _).alloc (by simp;try omega) _
  have hS:W.heap.size = w.heap.size + 2:=by rw [HW.out];simp
  have h0:W.heap[w.heap.size]? = some (.cells #[.pointer (some ⟨ob,0,none⟩)] 66 (0,0)):=by rw [HW.out];rw [Below.heap_alloc _ _ _ (by simp;try omega)];exact heap_new_q _ _ (by simp)
  have h1:W.heap[w.heap.size + 1]? = some (.cells #[.int .i64 (m:Int)] 3 (0,0)):=by rw [HW.out];exact heap_new_q _ _ (by simp)
  have HF:=Lib.hid (And.intro hB (And.intro hS (And.intro h0 h1)))
  clear hB hS h0 h1
  go_enter Tryz.func45,Tryz.ntmps45
  go_wp2_with (rw [← HW.out])
  go_ret
  exact ⟨by simp [Nat.add_assoc],HF.out⟩
theorem mk_word_b (ob:Nat) (i:Nat) (x:Int) (w:World):Calls Tryz.prog 48 #[.pointer (some ⟨ob,0,none⟩),.int .i64 (i:Int),.int .u32 x] w fun e w' => e = .returned (.func (.func 78) #[] #[.pointer (some ⟨w.heap.size,0,none⟩),.pointer (some ⟨w.heap.size + 1,0,none⟩),.pointer (some ⟨w.heap.size + 2,0,none⟩)]) ∧ Below w.heap.size w w' ∧ w'.heap.size = w.heap.size + 3 ∧ w'.heap[w.heap.size]? = some (.cells #[.pointer (some ⟨ob,0,none⟩)] 66 (0,0)) ∧ w'.heap[w.heap.size + 1]? = some (.cells #[.int .i64 (i:Int)] 3 (0,0)) ∧ w'.heap[w.heap.size + 2]? = some (.cells #[.int .u32 x] 34 (0,0)):=by
  obtain ⟨W,HW⟩:∃ W,Hid (W = (((w.alloc (.cells #[.pointer (some ⟨ob,0,none⟩)] 66)).alloc (.cells #[.int .i64 (i:Int)] 3)).alloc (.cells #[.int .u32 x] 34))):=⟨_,rfl⟩
  have hB:Below w.heap.size w W:=by rw [HW.out];exact (((Below.refl _ _).alloc (Nat.le_refl _) _).alloc (by simp;try omega) _).alloc (by simp;try omega) _
  have hS:W.heap.size = w.heap.size + 3:=by rw [HW.out];simp
  have h0:W.heap[w.heap.size]? = some (.cells #[.pointer (some ⟨ob,0,none⟩)] 66 (0,0)):=by rw [HW.out];rw [Below.heap_alloc _ _ _ (by simp;try omega)];rw [Below.heap_alloc _ _ _ (by simp;try omega)];exact heap_new_q _ _ (by simp)
  have h1:W.heap[w.heap.size + 1]? = some (.cells #[.int .i64 (i:Int)] 3 (0,0)):=by rw [HW.out];rw [Below.heap_alloc _ _ _ (by simp;try omega)];exact heap_new_q _ _ (by simp)
  have h2:W.heap[w.heap.size + 2]? = some (.cells #[.int .u32 x] 34 (0,0)):=by rw [HW.out];exact heap_new_q _ _ (by simp)
  have HF:=Lib.hid (And.intro hB (And.intro hS (And.intro h0 (And.intro h1 h2))))
  clear hB hS h0 h1 h2
  go_enter Tryz.func48,Tryz.ntmps48
  go_wp2_with (rw [← HW.out])
  go_ret
  exact ⟨by simp [Nat.add_assoc],HF.out⟩
theorem mk_get_b (ob:Nat) (i:Nat) (A:Option Addr) (l c:Nat) (w:World):Calls Tryz.prog 81 #[.pointer (some ⟨ob,0,none⟩),.int .i64 (i:Int),.slice A l c] w fun e w' => e = .returned (.func (.func 99) #[] #[.pointer (some ⟨w.heap.size,0,none⟩),.pointer (some ⟨w.heap.size + 1,0,none⟩),.pointer (some ⟨w.heap.size + 2,0,none⟩)]) ∧ Below w.heap.size w w' ∧ w'.heap.size = w.heap.size + 3 ∧ w'.heap[w.heap.size]? = some (.cells #[.pointer (some ⟨ob,0,none⟩)] 66 (0,0)) ∧ w'.heap[w.heap.size + 1]? = some (.cells #[.int .i64 (i:Int)] 3 (0,0)) ∧ w'.heap[w.heap.size + 2]? = some (.cells #[.slice A l c] 30 (0,0)):=by
  obtain ⟨W,HW⟩:∃ W,Hid (W = (((w.alloc (.cells #[.pointer (some ⟨ob,0,none⟩)] 66)).alloc (.cells #[.int .i64 (i:Int)] 3)).alloc (.cells #[.slice A l c] 30))):=⟨_,rfl⟩
  have hB:Below w.heap.size w W:=by rw [HW.out];exact (((Below.refl _ _).alloc (Nat.le_refl _) _).alloc (by simp;try omega) _).alloc (by simp;try omega) _
  have hS:W.heap.size = w.heap.size + 3:=by rw [HW.out];simp
  have h0:W.heap[w.heap.size]? = some (.cells #[.pointer (some ⟨ob,0,none⟩)] 66 (0,0)):=by rw [HW.out];rw [Below.heap_alloc _ _ _ (by simp;try omega)];rw [Below.heap_alloc _ _ _ (by simp;try omega)];exact heap_new_q _ _ (by simp)
  have h1:W.heap[w.heap.size + 1]? = some (.cells #[.int .i64 (i:Int)] 3 (0,0)):=by rw [HW.out];rw [Below.heap_alloc _ _ _ (by simp;try omega)];exact heap_new_q _ _ (by simp)
  have h2:W.heap[w.heap.size + 2]? = some (.cells #[.slice A l c] 30 (0,0)):=by rw [HW.out];exact heap_new_q _ _ (by simp)
  have HF:=Lib.hid (And.intro hB (And.intro hS (And.intro h0 (And.intro h1 h2))))
  clear hB hS h0 h1 h2
  go_enter Tryz.func81,Tryz.ntmps81
  go_wp2_with (rw [← HW.out])
  go_ret
  exact ⟨by simp [Nat.add_assoc],HF.out⟩
theorem mk_free_b (ob:Nat) (A:Option Addr) (l c:Nat) (w:World):Calls Tryz.prog 82 #[.pointer (some ⟨ob,0,none⟩),.slice A l c] w fun e w' => e = .returned (.func (.func 100) #[] #[.pointer (some ⟨w.heap.size,0,none⟩),.pointer (some ⟨w.heap.size + 1,0,none⟩)]) ∧ Below w.heap.size w w' ∧ w'.heap.size = w.heap.size + 2 ∧ w'.heap[w.heap.size]? = some (.cells #[.pointer (some ⟨ob,0,none⟩)] 66 (0,0)) ∧ w'.heap[w.heap.size + 1]? = some (.cells #[.slice A l c] 30 (0,0)):=by
  obtain ⟨W,HW⟩:∃ W,Hid (W = ((w.alloc (.cells #[.pointer (some ⟨ob,0,none⟩)] 66)).alloc (.cells #[.slice A l c] 30))):=⟨_,rfl⟩
  have hB:Below w.heap.size w W:=by rw [HW.out];exact ((Below.refl _ _).alloc (Nat.le_refl _) _).alloc (by simp;try omega) _
  have hS:W.heap.size = w.heap.size + 2:=by rw [HW.out];simp
  have h0:W.heap[w.heap.size]? = some (.cells #[.pointer (some ⟨ob,0,none⟩)] 66 (0,0)):=by rw [HW.out];rw [Below.heap_alloc _ _ _ (by simp;try omega)];exact heap_new_q _ _ (by simp)
  have h1:W.heap[w.heap.size + 1]? = some (.cells #[.slice A l c] 30 (0,0)):=by rw [HW.out];exact heap_new_q _ _ (by simp)
  have HF:=Lib.hid (And.intro hB (And.intro hS (And.intro h0 h1)))
  clear hB hS h0 h1
  go_enter Tryz.func82,Tryz.ntmps82
  go_wp2_with (rw [← HW.out])
  go_ret
  exact ⟨by simp [Nat.add_assoc],HF.out⟩
theorem mk_msg_b (m g:Nat) (cs:Array Value) (w:World):Calls Tryz.prog 46 #[.int .i64 (m:Int),.func (.func g) #[] cs] w fun e w' => e = .returned (.func (.func 77) #[] #[.pointer (some ⟨w.heap.size,0,none⟩),.pointer (some ⟨w.heap.size + 1,0,none⟩)]) ∧ Below w.heap.size w w' ∧ w'.heap.size = w.heap.size + 2 ∧ w'.heap[w.heap.size]? = some (.cells #[.int .i64 (m:Int)] 3 (0,0)) ∧ w'.heap[w.heap.size + 1]? = some (.cells #[.func (.func g) #[] cs] 108 (0,0)):=by
  obtain ⟨W,HW⟩:∃ W,Hid (W = ((w.alloc (.cells #[.int .i64 (m:Int)] 3)).alloc (.cells #[.func (.func g) #[] cs] 108))):=⟨_,rfl⟩
  have hB:Below w.heap.size w W:=by rw [HW.out];exact ((Below.refl _ _).alloc (Nat.le_refl _) _).alloc (by simp;try omega) _
  have hS:W.heap.size = w.heap.size + 2:=by rw [HW.out];simp
  have h0:W.heap[w.heap.size]? = some (.cells #[.int .i64 (m:Int)] 3 (0,0)):=by rw [HW.out];rw [Below.heap_alloc _ _ _ (by simp;try omega)];exact heap_new_q _ _ (by simp)
  have h1:W.heap[w.heap.size + 1]? = some (.cells #[.func (.func g) #[] cs] 108 (0,0)):=by rw [HW.out];exact heap_new_q _ _ (by simp)
  have HF:=Lib.hid (And.intro hB (And.intro hS (And.intro h0 h1)))
  clear hB hS h0 h1
  go_enter Tryz.func46,Tryz.ntmps46
  go_wp2_with (rw [← HW.out])
  go_ret
  exact ⟨by simp [Nat.add_assoc],HF.out⟩
end Go.Proofs.YtmhpcgcloojfbaaGreat
end
section
namespace Go.Proofs.YtmhpcgcloojfbaaGreat
open Go.RowKit Go.Sort
set_option linter.unusedVariables false
set_option linter.unusedSimpArgs false
set_option linter.unusedVariables false
set_option linter.unusedSimpArgs false
set_option maxRecDepth 100000
set_option maxHeartbeats 3200000
theorem Tryz.infoF12:(Tryz.prog.info? 107).map (fun i => (i.zero,i.size,i.bytes)) = some (some .nilFunc,1,8):=by kernel_rfl
theorem cell_of_blk12 {w w':World} {b o:Nat} {v:Value} (h:w.cell? ⟨b,o,none⟩ = some v) (e:w'.heap[b]? = w.heap[b]?):w'.cell? ⟨b,o,none⟩ = some v:=by
  unfold World.cell? at h ⊢;rw [e];exact h
theorem qstep_nil (mb bb ob:Nat) (now:Int) (own:Int) (d n tl hd ce be:Nat) (sv:Value) (w:World) (ho:OBlk w ob own d n tl hd ce be sv) (hr:OwnsOff w 0 107 1 sv 0 []):Calls Tryz.prog 25 #[.pointer (some ⟨ob,0,none⟩),.pointer (some ⟨mb,0,none⟩),.pointer (some ⟨bb,0,none⟩),.int .i64 now] w fun e w' => e = .returned (.agg (qdV false (0) (.slice none 0 0) (0) false false)) ∧ Only (fun _ => False) w w':=by
  obtain ⟨a,cp,rfl,hc1,hc2⟩:=hr.slice
  obtain ⟨W,HW,hsz,hO,hz⟩:=did_new w
  have hW:=ho.only hO (fun h => h)
  have c7:W.cell? ⟨ob,7,none⟩ = some (.slice a 0 cp):=hW.cell rfl
  have HZX:=Lib.hid hz
  have HO:=Lib.hid hO
  have hth:=there_at (W:=W) HZX.out (n:=(qdV false (0) (.slice none 0 0) (0) false false:Array Value).size) rfl
  have hsd:(Tryz.prog.info? 56).map (·.size) = some (qdV false (0) (.slice none 0 0) (0) false false:Array Value).size:=did_size
  clear hz hO hW ho hr
  go_enter Tryz.func25,Tryz.ntmps25
  go_wp2_with (first | (rw [← HW.out]) | (with_reducible refine wpList_store_mid (by kernel_rfl) _ _ _ rfl w.heap.size 0 (qdV false (0) (.slice none 0 0) (0) false false) (by kernel_rfl) (by kernel_rfl) hth hsd (by kernel_rfl) ?_))
  have hs:=Only.sets (S:=fun k => k = w.heap.size) rfl [.bool false,.int .i64 (0),.slice none 0 0,.bool false,.int .i64 (0),.bool false,.bool false,.bool false,.int .i64 0] 0 (Only.refl _ W)
  have hrg:=World.rangeAt_setCells_same (W) w.heap.size 0 [.bool false,.int .i64 (0),.slice none 0 0,.bool false,.int .i64 (0),.bool false,.bool false,.bool false,.int .i64 0] (there_at (cs:=#[.bool false,.int .i64 0,.slice none 0 0,.bool false,.int .i64 0,.bool false,.bool false,.bool false,.int .i64 0]) (n:=9) (show (W).heap[w.heap.size]? = _ from HZX.out) rfl)
  (try simp only [Exit.inBlock,Exit.then])
  refine bodyPost_ret (results_cell_row rfl _ _ w.heap.size [.bool false,.int .i64 (0),.slice none 0 0,.bool false,.int .i64 (0),.bool false,.bool false,.bool false,.int .i64 0] _ rfl hrg Tryz.underlying56 rfl did_size) rfl ?_
  exact ⟨rfl,((HO.out.mono (T:=New w.heap.size fun _ => False) fun _ _ h => h.elim).trans (hs.mono fun k _ h => .inl (Nat.le_of_eq h.symm))).old⟩
theorem qstep_b (mb bb ob g:Nat) (xs cs:List Value) (now:Int) (own:Int) (d n tl hd ce be:Nat) (sv:Value) (m:Nat) (fs:List Value) (w:World) (ho:OBlk w ob own d n tl hd ce be sv) (hr:OwnsOff w 0 107 1 sv (m + 1) (.func (.func g) xs.toArray cs.toArray :: fs)) (R:Array Value → World → Prop) (eg:∀ args w,(callFunc g args).run Tryz.prog w = .ok (.enter g args) w)
    (hC:∀ W v',OBlk W ob own d n tl hd ce be (v') → Only (fun k => k = ob) w W → OwnsOff W 0 107 1 v' m fs → v'.ownBlock = sv.ownBlock → W.heap[w.heap.size]? = some (.cells #[.bool false,.int .i64 0,.slice none 0 0,.bool false,.int .i64 0,.bool false,.bool false,.bool false,.int .i64 0] 56 (0,0)) → Calls Tryz.prog g (xs ++ (.pointer (some ⟨mb,0,none⟩)) :: (.pointer (some ⟨bb,0,none⟩)) :: cs).toArray W fun e w' => ∃ D,e = .returned (.agg D) ∧ R D w')
    (hR:∀ D w',R D w' → D.size = 9 ∧ D.all (·.oneCell') = true ∧ w'.heap[w.heap.size]? = some (.cells #[.bool false,.int .i64 0,.slice none 0 0,.bool false,.int .i64 0,.bool false,.bool false,.bool false,.int .i64 0] 56 (0,0))) :
    Calls Tryz.prog 25 #[.pointer (some ⟨ob,0,none⟩),.pointer (some ⟨mb,0,none⟩),.pointer (some ⟨bb,0,none⟩),.int .i64 now] w fun e w' => ∃ D w1,e = .returned (.agg D) ∧ R D w1 ∧ Only (fun k => k = w.heap.size) w1 w':=by
  obtain ⟨g0,off,cap,rfl,hg1,hg2,hc1,hc2,hfz,hcell⟩:=hr.lies (by omega)
  obtain ⟨i0,hi,hz0,hz1,hz2⟩:=info_parts Tryz.infoF12
  obtain ⟨W0,HW,hsz,hO,hz⟩:=did_new w
  have hol:=ho.lt
  have hW:=ho.only hO (fun h => h)
  have hrow:=hr.kept hO (fun _ _ h => h)
  obtain ⟨M,hM⟩:∃ M,M = m + 1:=⟨_,rfl⟩
  have HMm:=Lib.hid hM
  have c7:W0.cell? ⟨ob,7,none⟩ = some (.slice (some ⟨g0,off,none⟩) M cap):=by rw [hM];exact hW.cell rfl
  have g7:=hW.frozen 7
  have cf:W0.cell? ⟨g0,off,none⟩ = some (.func (.func g) xs.toArray cs.toArray):=by
    have:=hcell 0 (.func (.func g) xs.toArray cs.toArray) rfl
    rw [Nat.add_zero] at this
    exact cell_of_blk12 this (hO.block g0 hg2 (fun h => h))
  have m0:((M:Int) == 0) = false:=by rw [beq_eq_false_iff_ne];omega
  have m1:(0:Int) < (M:Int):=by omega
  have hne:g0 ≠ ob:=by
    rintro rfl
    obtain ⟨cs',hc⟩:=hr.typed g0 rfl
    have:=hc.symm.trans ho
    simp at this
  have HROW:=Lib.hid hrow;have HHW:=Lib.hid hW;have HO:=Lib.hid hO;have HZ:=Lib.hid hz;have HC:=Lib.hid hC;have HR:=Lib.hid hR
  rw [← hM] at HROW
  have hrow2:OwnsOff W0 0 107 1 (.slice (some ⟨g0,off,none⟩) M cap) (m + 1) (.func (.func g) xs.toArray cs.toArray :: fs):=by rw [hM];exact hrow
  clear hrow hW hO hz hC hR hr ho hM hcell hfz
  go_enter Tryz.func25,Tryz.ntmps25
  go_wp2_with (first | (rw [← HW.out]) | (refine wpList_tail_off _ rfl _ _ rfl 0 107 i0 1 Tryz.underlying109 hi hz1 _ _ _ rfl hrow2 ?_))
  intro v' hv' hb'
  obtain ⟨a',c',rfl,hd1,hd2⟩:=hv'.slice
  obtain ⟨V,HV⟩:∃ u,Hid (u = W0.setCell ⟨ob,7,none⟩ (.slice a' m c')):=⟨_,rfl⟩
  have hOV:Only (fun k => k = ob) w V:=by rw [HV.out];exact Only.set (S:=fun k => k = ob) (HO.out.mono (fun _ _ h => h.elim)) (p:=⟨ob,7,none⟩) rfl _
  have hBV:OBlk V ob own d n tl hd ce be (.slice a' m c'):=by
    rw [HV.out]
    exact OBlk.setSteps (sv:=.slice (some ⟨g0,off,none⟩) (m + 1) cap) HHW.out _
  have hZV:V.heap[w.heap.size]? = some (.cells #[.bool false,.int .i64 0,.slice none 0 0,.bool false,.int .i64 0,.bool false,.bool false,.bool false,.int .i64 0] 56 (0,0)):=by rw [HV.out];exact (Below.heap_setCell _ _ _ _ (by show w.heap.size ≠ ob;omega)).trans HZ.out
  have hRV:OwnsOff V 0 107 1 (.slice a' m c') m fs:=by
    rw [HV.out]
    exact OwnsOff.kept hv' (Only.setCell W0 ⟨ob,7,none⟩ _) (fun k hk e => hne (Option.some.inj ((show some g0 = some k from hb'.symm.trans hk).trans (congrArg some e))))
  have HCV:=Lib.hid (HC.out V _ hBV hOV hRV (hb'.trans rfl) hZV)
  have HZV:=Lib.hid hZV
  clear hOV hBV hZV hRV hv' hb' hrow2
  go_wp2_with (rw [← HV.out])
  refine HCV.out.mono ?_
  rintro e w1 ⟨D,rfl,hRD⟩
  obtain ⟨hd9,hone,hz1'⟩:=HR.out D w1 hRD
  have HRD:=Lib.hid hRD
  have HZX:=Lib.hid hz1'
  have hth:w1.there w.heap.size 0 D.size:=by rw [hd9];exact there_at HZX.out rfl
  have hs9:(Tryz.prog.info? 56).map (·.size) = some D.size:=by rw [hd9];exact did_size
  clear hRD hz1'
  go_wp2_with (with_reducible refine wpList_store_mid (by kernel_rfl) _ _ _ rfl w.heap.size 0 D (by kernel_rfl) (by kernel_rfl) hth hs9 hone ?_)
  have hrg:=World.rangeAt_setCells_same w1 w.heap.size 0 D.toList hth
  (try simp only [Exit.inBlock,Exit.then])
  refine bodyPost_ret (results_cell_row rfl _ _ w.heap.size D.toList _ rfl hrg Tryz.underlying56 rfl (by simpa using hs9)) rfl ?_
  exact ⟨D,w1,rfl,HRD.out,Only.sets (S:=fun k => k = w.heap.size) rfl _ 0 (Only.refl _ w1)⟩
end Go.Proofs.YtmhpcgcloojfbaaGreat
end
section
namespace Go.Proofs.YtmhpcgcloojfbaaGreat
open Go.RowKit Go.Sort
set_option linter.unusedVariables false
set_option linter.unusedSimpArgs false
set_option linter.unusedVariables false
set_option linter.unusedSimpArgs false
set_option maxRecDepth 100000
set_option maxHeartbeats 1600000
/-- All blocks but operations and their rows of steps stand. -/
def Stands (W W':World):Prop:=W.heap.size ≤ W'.heap.size ∧ ∀ (k:Nat) (cs:Array Value) (t:TypeId) (m:Nat × Nat),t ≠ 107 → t ≠ 111 → W.heap[k]? = some (.cells cs t m) → W'.heap[k]? = some (.cells cs t m)
theorem Stands.refl (W:World):Stands W W:=⟨Nat.le_refl _,fun _ _ _ _ _ _ h => h⟩
theorem Stands.trans {A B C:World} (h:Stands A B) (k:Stands B C):Stands A C:=⟨Nat.le_trans h.1 k.1,fun i cs t m h1 h2 h3 => k.2 i cs t m h1 h2 (h.2 i cs t m h1 h2 h3)⟩
theorem Stands.below {W W':World} (h:Below W.heap.size W W'):Stands W W':=⟨h.size,fun k cs t m _ _ hk => (h.block k (Array.getElem?_eq_some_iff.1 hk).1).trans hk⟩
theorem stands_put {W:World} {l:Nat} {o:Obj} (o':Obj) (hl:W.heap[l]? = some o) (ho:o.isCells = false):Stands W (W.putObj l o'):=
  ⟨by simp,fun k cs t m _ _ hk => (World.putObj_heap_other (fun e => by subst e;rw [hl] at hk;cases hk;cases ho)).trans hk⟩
theorem grown_of_below {W W':World} (h:Below W.heap.size W W'):W.grownBy W' none:=⟨h.os,h.tape,h.output,h.size,fun k hk _ => h.block k hk⟩
theorem stands_grown {W W':World} {row:Option Nat} (hg:W.grownBy W' row) (hr:∀ r,row = some r → ∃ o:Obj,W.heap[r]? = some o ∧ o.isCells = false):Stands W W':=
  ⟨hg.size,fun k cs t m _ _ hk => (hg.block k (Array.getElem?_eq_some_iff.1 hk).1 (fun e => by obtain ⟨o,ho,hc⟩:=hr k e.symm;rw [hk] at ho;cases ho;cases hc)).trans hk⟩
/-- A step of a message,made for word i. -/
def IsWord (ob i:Nat) (x:Int) (B:Nat) (v:Value) (w:World):Prop:=∃ b1 b2 b3,v = .func (.func 78) #[] #[.pointer (some ⟨b1,0,none⟩),.pointer (some ⟨b2,0,none⟩),.pointer (some ⟨b3,0,none⟩)] ∧ (B ≤ b1 ∧ B ≤ b2 ∧ B ≤ b3) ∧ w.heap[b1]? = some (.cells #[.pointer (some ⟨ob,0,none⟩)] 66 (0,0)) ∧ w.heap[b2]? = some (.cells #[.int .i64 (i:Int)] 3 (0,0)) ∧ w.heap[b3]? = some (.cells #[.int .u32 x] 34 (0,0))
theorem IsWord.stands {ob i:Nat} {x:Int} {B:Nat} {v:Value} {w w':World} (h:IsWord ob i x B v w) (hs:Stands w w'):IsWord ob i x B v w':=by
  obtain ⟨b1,b2,b3,rfl,hb,h1,h2,h3⟩:=h
  exact ⟨b1,b2,b3,rfl,hb,hs.2 _ _ _ _ (by decide) (by decide) h1,hs.2 _ _ _ _ (by decide) (by decide) h2,hs.2 _ _ _ _ (by decide) (by decide) h3⟩
theorem IsWord.mono {ob i:Nat} {x:Int} {B B':Nat} {v:Value} {w:World} (h:IsWord ob i x B v w) (hs:B' ≤ B):IsWord ob i x B' v w:=by
  obtain ⟨b1,b2,b3,rfl,hb,h1,h2,h3⟩:=h
  exact ⟨b1,b2,b3,rfl,⟨by omega,by omega,by omega⟩,h1,h2,h3⟩
/-- A step of a message,made for word i. -/
def IsGet (ob i:Nat) (db m:Nat) (B:Nat) (v:Value) (w:World):Prop:=∃ b1 b2 b3,v = .func (.func 99) #[] #[.pointer (some ⟨b1,0,none⟩),.pointer (some ⟨b2,0,none⟩),.pointer (some ⟨b3,0,none⟩)] ∧ (B ≤ b1 ∧ B ≤ b2 ∧ B ≤ b3) ∧ w.heap[b1]? = some (.cells #[.pointer (some ⟨ob,0,none⟩)] 66 (0,0)) ∧ w.heap[b2]? = some (.cells #[.int .i64 (i:Int)] 3 (0,0)) ∧ w.heap[b3]? = some (.cells #[.slice (some ⟨db,0,none⟩) m m] 30 (0,0))
theorem IsGet.stands {ob i:Nat} {db m:Nat} {B:Nat} {v:Value} {w w':World} (h:IsGet ob i db m B v w) (hs:Stands w w'):IsGet ob i db m B v w':=by
  obtain ⟨b1,b2,b3,rfl,hb,h1,h2,h3⟩:=h
  exact ⟨b1,b2,b3,rfl,hb,hs.2 _ _ _ _ (by decide) (by decide) h1,hs.2 _ _ _ _ (by decide) (by decide) h2,hs.2 _ _ _ _ (by decide) (by decide) h3⟩
theorem IsGet.mono {ob i:Nat} {db m:Nat} {B B':Nat} {v:Value} {w:World} (h:IsGet ob i db m B v w) (hs:B' ≤ B):IsGet ob i db m B' v w:=by
  obtain ⟨b1,b2,b3,rfl,hb,h1,h2,h3⟩:=h
  exact ⟨b1,b2,b3,rfl,⟨by omega,by omega,by omega⟩,h1,h2,h3⟩
theorem snd1_b (ob bo bd db dof dl dc i:Nat) (x:Int) (w:World) (h1:w.heap[bo]? = some (.cells #[.pointer (some ⟨ob,0,none⟩)] 66 (0,0))) (h2:w.heap[bd]? = some (.cells #[.slice (some ⟨db,dof,none⟩) dl dc] 30 (0,0))) (h3:w.cell? ⟨db,dof + i,none⟩ = some (.int .u32 x)) (hi:i < dl) :
    Calls Tryz.prog 47 #[.int .i64 (i:Int),.pointer (some ⟨bo,0,none⟩),.pointer (some ⟨bd,0,none⟩)] w fun e w' => ∃ v,e = .returned v ∧ IsWord ob i x w.heap.size v w' ∧ Below w.heap.size w w':=by
  have c1:w.cell? ⟨bo,0,none⟩ = some (.pointer (some ⟨ob,0,none⟩)):=blk_cell h1 rfl
  have c2:w.cell? ⟨bd,0,none⟩ = some (.slice (some ⟨db,dof,none⟩) dl dc):=blk_cell h2 rfl
  have i1:(i:Int) < (dl:Int):=by omega
  have HM:=Lib.hid (fun (W':World) => mk_word_b ob i x W')
  clear h1 h2
  go_enter Tryz.func47,Tryz.ntmps47
  go_wp2
  refine wp_region_held_drew (S:=(fun W' => Below w.heap.size w W')) (by kernel_rfl) (by exact (Below.refl _ _).drew) (fun hHeld => ?_)
  refine wpAnyH_take (i:=0) rfl (by kernel_rfl) (by kernel_rfl) (by kernel_rfl) (fun _ _ _ h => h) (Or.inl ⟨by rfl,by intro w hSw;(have z1:=(hSw.cell (p:=⟨bo,0,none⟩) (World.block_lt_of_cell? _ _ c1)).trans c1;have z2:=(hSw.cell (p:=⟨bd,0,none⟩) (World.block_lt_of_cell? _ _ c2)).trans c2;have z3:=(hSw.cell (p:=⟨db,dof + i,none⟩) (World.block_lt_of_cell? _ _ h3)).trans h3);(go_simp <;> with_reducible rfl)⟩) (by assumption) ?_
  (try simp only [Act.put,List.setIfInBounds_toArray,List.set_cons_zero,List.set_cons_succ,List.getElem_toArray,List.getElem_cons_zero,List.getElem_cons_succ])
  refine wpAnyH_take (i:=1) rfl (by kernel_rfl) (by kernel_rfl) (by kernel_rfl) (fun _ _ _ h => h) (Or.inl ⟨by rfl,by intro w hSw;(have z1:=(hSw.cell (p:=⟨bo,0,none⟩) (World.block_lt_of_cell? _ _ c1)).trans c1;have z2:=(hSw.cell (p:=⟨bd,0,none⟩) (World.block_lt_of_cell? _ _ c2)).trans c2;have z3:=(hSw.cell (p:=⟨db,dof + i,none⟩) (World.block_lt_of_cell? _ _ h3)).trans h3);(go_simp <;> with_reducible rfl)⟩) (by assumption) ?_
  (try simp only [Act.put,List.setIfInBounds_toArray,List.set_cons_zero,List.set_cons_succ,List.getElem_toArray,List.getElem_cons_zero,List.getElem_cons_succ])
  refine wpAnyH_take (i:=2) rfl (by kernel_rfl) (by kernel_rfl) (by kernel_rfl) (fun _ _ _ h => h) (Or.inl ⟨by rfl,by intro w hSw;(have z1:=(hSw.cell (p:=⟨bo,0,none⟩) (World.block_lt_of_cell? _ _ c1)).trans c1;have z2:=(hSw.cell (p:=⟨bd,0,none⟩) (World.block_lt_of_cell? _ _ c2)).trans c2;have z3:=(hSw.cell (p:=⟨db,dof + i,none⟩) (World.block_lt_of_cell? _ _ h3)).trans h3);(go_simp <;> with_reducible rfl)⟩) (by assumption) ?_
  (try simp only [Act.put,List.setIfInBounds_toArray,List.set_cons_zero,List.set_cons_succ,List.getElem_toArray,List.getElem_cons_zero,List.getElem_cons_succ])
  refine wpAnyH_take (i:=3) rfl (by kernel_rfl) (by kernel_rfl) (by kernel_rfl) (fun _ _ _ h => h) (Or.inl ⟨by rfl,by intro w hSw;(have z1:=(hSw.cell (p:=⟨bo,0,none⟩) (World.block_lt_of_cell? _ _ c1)).trans c1;have z2:=(hSw.cell (p:=⟨bd,0,none⟩) (World.block_lt_of_cell? _ _ c2)).trans c2;have z3:=(hSw.cell (p:=⟨db,dof + i,none⟩) (World.block_lt_of_cell? _ _ h3)).trans h3);(go_simp <;> with_reducible rfl)⟩) (by assumption) ?_
  (try simp only [Act.put,List.setIfInBounds_toArray,List.set_cons_zero,List.set_cons_succ,List.getElem_toArray,List.getElem_cons_zero,List.getElem_cons_succ])
  refine wpAnyH_take (i:=4) rfl (by kernel_rfl) (by kernel_rfl) (by kernel_rfl) (fun _ _ _ h => h) (Or.inl ⟨by rfl,by intro w hSw;(have z1:=(hSw.cell (p:=⟨bo,0,none⟩) (World.block_lt_of_cell? _ _ c1)).trans c1;have z2:=(hSw.cell (p:=⟨bd,0,none⟩) (World.block_lt_of_cell? _ _ c2)).trans c2;have z3:=(hSw.cell (p:=⟨db,dof + i,none⟩) (World.block_lt_of_cell? _ _ h3)).trans h3);(go_simp <;> with_reducible rfl)⟩) (by assumption) ?_
  (try simp only [Act.put,List.setIfInBounds_toArray,List.set_cons_zero,List.set_cons_succ,List.getElem_toArray,List.getElem_cons_zero,List.getElem_cons_succ])
  refine wpAnyH_take (i:=5) rfl (by kernel_rfl) (by kernel_rfl) (by kernel_rfl) (fun _ _ _ h => h) (Or.inl ⟨by rfl,by intro w hSw;(have z1:=(hSw.cell (p:=⟨bo,0,none⟩) (World.block_lt_of_cell? _ _ c1)).trans c1;have z2:=(hSw.cell (p:=⟨bd,0,none⟩) (World.block_lt_of_cell? _ _ c2)).trans c2;have z3:=(hSw.cell (p:=⟨db,dof + i,none⟩) (World.block_lt_of_cell? _ _ h3)).trans h3);(go_simp <;> with_reducible rfl)⟩) (by assumption) ?_
  (try simp only [Act.put,List.setIfInBounds_toArray,List.set_cons_zero,List.set_cons_succ,List.getElem_toArray,List.getElem_cons_zero,List.getElem_cons_succ])
  refine wpAnyH_ready (rs:=[6]) (by kernel_rfl) (by simp) (AllReadyH.cons rfl (fun K hK => ?_) AllReadyH.nil)
  go_simp
  refine (HM.out _).mono ?_
  rintro e w5 ⟨rfl,hb5,hs5,y1,y2,y3⟩
  refine hK.out _ _ (by exact hHeld.trans (hb5.mono hHeld.size)) (fun hHeld => ?_)
  clear hK K
  (try simp only [Act.put,List.setIfInBounds_toArray,List.set_cons_zero,List.set_cons_succ,List.getElem_toArray,List.getElem_cons_zero,List.getElem_cons_succ])
  refine wpAnyH_take (i:=7) rfl (by kernel_rfl) (by kernel_rfl) (by kernel_rfl) (fun _ _ _ h => h) (Or.inl ⟨by rfl,by intro w hSw;(have z1:=(hSw.cell (p:=⟨bo,0,none⟩) (World.block_lt_of_cell? _ _ c1)).trans c1;have z2:=(hSw.cell (p:=⟨bd,0,none⟩) (World.block_lt_of_cell? _ _ c2)).trans c2;have z3:=(hSw.cell (p:=⟨db,dof + i,none⟩) (World.block_lt_of_cell? _ _ h3)).trans h3);(go_simp <;> with_reducible rfl)⟩) (by assumption) ?_
  (try simp only [Act.put,List.setIfInBounds_toArray,List.set_cons_zero,List.set_cons_succ,List.getElem_toArray,List.getElem_cons_zero,List.getElem_cons_succ])
  refine wpAnyH_done (by kernel_rfl) ?_ _
  have HH:=Lib.hid hHeld
  clear hHeld
  go_wp2
  go_ret
  exact ⟨_,rfl,⟨_,_,_,rfl,⟨Nat.le_refl _,by omega,by omega⟩,y1,y2,y3⟩,HH.out⟩
theorem lln1_b (ob bo bd db m i:Nat) (w:World) (h1:w.heap[bo]? = some (.cells #[.pointer (some ⟨ob,0,none⟩)] 66 (0,0))) (h2:w.heap[bd]? = some (.cells #[.slice (some ⟨db,0,none⟩) m m] 30 (0,0))) :
    Calls Tryz.prog 80 #[.int .i64 (i:Int),.pointer (some ⟨bo,0,none⟩),.pointer (some ⟨bd,0,none⟩)] w fun e w' => ∃ v,e = .returned v ∧ IsGet ob i db m w.heap.size v w' ∧ Below w.heap.size w w':=by
  have c1:w.cell? ⟨bo,0,none⟩ = some (.pointer (some ⟨ob,0,none⟩)):=blk_cell h1 rfl
  have c2:w.cell? ⟨bd,0,none⟩ = some (.slice (some ⟨db,0,none⟩) m m):=blk_cell h2 rfl
  have HM:=Lib.hid (mk_get_b ob i (some ⟨db,0,none⟩) m m w)
  clear h1 h2
  go_enter Tryz.func80,Tryz.ntmps80
  go_wp2_with fail
  refine HM.out.mono ?_
  rintro e w5 ⟨rfl,hb5,hs5,y1,y2,y3⟩
  clear c1 c2
  go_wp2
  go_ret
  exact ⟨_,rfl,⟨_,_,_,rfl,⟨Nat.le_refl _,by omega,by omega⟩,y1,y2,y3⟩,hb5⟩
end Go.Proofs.YtmhpcgcloojfbaaGreat
end
section
namespace Go.Proofs.YtmhpcgcloojfbaaGreat
open Go.RowKit Go.Sort Go.Shelf
set_option linter.unusedVariables false
set_option linter.unusedSimpArgs false
set_option linter.unusedVariables false
set_option linter.unusedSimpArgs false
set_option maxRecDepth 100000
set_option maxHeartbeats 1600000
attribute [local go_sem] Oper.semAt_some
theorem msgS_tells (n:Nat) (hn:1 ≤ n) (ob bn bf bo bd db m:Nat) (dof dc:Nat) (data:List Int) (hm:m ≤ 1000000) (w:World) (hbn:w.heap[bn]? = some (.cells #[.int .i64 (m:Int)] 3 (0,0))) (hbf:w.heap[bf]? = some (.cells #[.func (.func 47) #[] #[.pointer (some ⟨bo,0,none⟩),.pointer (some ⟨bd,0,none⟩)]] 108 (0,0))) (hbo:w.heap[bo]? = some (.cells #[.pointer (some ⟨ob,0,none⟩)] 66 (0,0))) (hbd:w.heap[bd]? = some (.cells #[.slice (some ⟨db,dof,none⟩) m dc] 30 (0,0))) (hdb:∃ cs mm,w.heap[db]? = some (.cells cs 34 mm) ∧ ∀ j,j < m → cs[dof + j]? = some (.int .u32 (data.getD j 0))) :
    Tells Fence.wide n Tryz.prog 77 #[.pointer (some ⟨bn,0,none⟩),.pointer (some ⟨bf,0,none⟩)] (fun v:Value => #[v]) Stands (fun pre v Y => IsWord ob pre.length (data.getD pre.length 0) w.heap.size v Y) (fun xs => xs.length = m) m w:=by
  intro lp J W hW hJ hY h0
  have hSW:Stands w W:=Stands.below hW
  have HST:=Lib.hid hSW
  have s1:W.cell? ⟨bn,0,none⟩ = some (.int .i64 (m:Int)):=blk_cell (hSW.2 _ _ _ _ (by decide) (by decide) hbn) rfl
  refine callsIn_of_wp Tryz.func77 rfl trivial ?_ rfl
  simp only [Tryz.ntmps77,List.size_toArray,List.length_cons,List.length_nil,Nat.reduceAdd,Nat.reduceSub,Array.replicate_succ,Array.replicate_zero,List.push_toArray,List.append_toArray,List.nil_append,List.cons_append]
  gi_wp2
  gi_loopw [6] (fun ix wr => ∃ (k:Nat) (xs:List Value),k ≤ m ∧ ix = .int .i64 k ∧ Hid (xs.length = k) ∧ J xs wr ∧ Stands W wr ∧ W.heap.size ≤ wr.heap.size) (fun ix _ => m - (intOf ix).toNat)
  case atStart => exact ⟨0,[],Nat.zero_le _,rfl,rfl,h0,Stands.refl _,Nat.le_refl _⟩
  case round =>
    obtain ⟨k,xs,hk,rfl,hxl,hJk,hK,hsz⟩:=hrel
    have hT:=HST.out.trans hK
    by_cases hlt:k < m
    · have c2:wr.cell? ⟨bf,0,none⟩ = some (.func (.func 47) #[] #[.pointer (some ⟨bo,0,none⟩),.pointer (some ⟨bd,0,none⟩)]):=blk_cell (hT.2 _ _ _ _ (by decide) (by decide) hbf) rfl
      have hbo2:=hT.2 _ _ _ _ (by decide) (by decide) hbo
      have HC:=Lib.hid (by obtain ⟨cs,mm,hd1,hd2⟩:=hdb;exact snd1_b ob bo bd db dof m dc k (data.getD k 0) wr hbo2 (hT.2 _ _ _ _ (by decide) (by decide) hbd) (blk_cell (hT.2 _ _ _ _ (by decide) (by decide) hd1) (hd2 k hlt)) hlt)
      clear hbo2 s1
      gi_wp2_with fail
      refine ⟨trivial,(callsIn_wide.2 HC.out).mono ?_⟩
      rintro e w5 ⟨v,rfl,hv,hb5⟩
      have hJ5:J xs w5:=hJ xs wr w5 none hJk (grown_of_below hb5) (fun r e => by cases e)
      have hwl:w.heap.size ≤ wr.heap.size:=hT.1
      obtain ⟨fn,tmps,assign,body,hy,hR⟩:=hY xs v w5 hJ5 (by
        have:=IsWord.mono hv hwl
        have e:=hxl.out
        rw [e];exact this) (by have:=hxl.out;omega)
      have hK5:Stands W w5:=hK.trans (Stands.below hb5)
      have hs5:W.heap.size ≤ w5.heap.size:=Nat.le_trans hsz hb5.size
      clear hv hJk hJ5 hb5 c2
      gi_wp2
      refine hR.mono ?_
      rintro e W6 ⟨rfl,hJ6,hk6⟩
      clear hR hy
      gi_wp2
      go_roundw
      case rel => exact ⟨k + 1,xs ++ [v],by omega,by go_num,Lib.hid (by rw [List.length_append,hxl.out];rfl),hJ6,hK5.trans hk6,Nat.le_trans hs5 hk6.1⟩
      case measure => simp [intOf];omega
    · have hkm:k = m:=by omega
      have HX:=Lib.hid (hxl.out.trans hkm)
      clear hkm hxl s1
      gi_wp2
      go_end0
      exact ⟨⟨_,rfl⟩,_,HX.out,hJk⟩
theorem msgG_tells (n:Nat) (hn:1 ≤ n) (ob bn bf bo bd db m:Nat)  (hm:m ≤ 1000000) (w:World) (hbn:w.heap[bn]? = some (.cells #[.int .i64 (m:Int)] 3 (0,0))) (hbf:w.heap[bf]? = some (.cells #[.func (.func 80) #[] #[.pointer (some ⟨bo,0,none⟩),.pointer (some ⟨bd,0,none⟩)]] 108 (0,0))) (hbo:w.heap[bo]? = some (.cells #[.pointer (some ⟨ob,0,none⟩)] 66 (0,0))) (hbd:w.heap[bd]? = some (.cells #[.slice (some ⟨db,0,none⟩) m m] 30 (0,0))) :
    Tells Fence.wide n Tryz.prog 77 #[.pointer (some ⟨bn,0,none⟩),.pointer (some ⟨bf,0,none⟩)] (fun v:Value => #[v]) Stands (fun pre v Y => IsGet ob pre.length db m w.heap.size v Y) (fun xs => xs.length = m) m w:=by
  intro lp J W hW hJ hY h0
  have hSW:Stands w W:=Stands.below hW
  have HST:=Lib.hid hSW
  have s1:W.cell? ⟨bn,0,none⟩ = some (.int .i64 (m:Int)):=blk_cell (hSW.2 _ _ _ _ (by decide) (by decide) hbn) rfl
  refine callsIn_of_wp Tryz.func77 rfl trivial ?_ rfl
  simp only [Tryz.ntmps77,List.size_toArray,List.length_cons,List.length_nil,Nat.reduceAdd,Nat.reduceSub,Array.replicate_succ,Array.replicate_zero,List.push_toArray,List.append_toArray,List.nil_append,List.cons_append]
  gi_wp2
  gi_loopw [6] (fun ix wr => ∃ (k:Nat) (xs:List Value),k ≤ m ∧ ix = .int .i64 k ∧ Hid (xs.length = k) ∧ J xs wr ∧ Stands W wr ∧ W.heap.size ≤ wr.heap.size) (fun ix _ => m - (intOf ix).toNat)
  case atStart => exact ⟨0,[],Nat.zero_le _,rfl,rfl,h0,Stands.refl _,Nat.le_refl _⟩
  case round =>
    obtain ⟨k,xs,hk,rfl,hxl,hJk,hK,hsz⟩:=hrel
    have hT:=HST.out.trans hK
    by_cases hlt:k < m
    · have c2:wr.cell? ⟨bf,0,none⟩ = some (.func (.func 80) #[] #[.pointer (some ⟨bo,0,none⟩),.pointer (some ⟨bd,0,none⟩)]):=blk_cell (hT.2 _ _ _ _ (by decide) (by decide) hbf) rfl
      have hbo2:=hT.2 _ _ _ _ (by decide) (by decide) hbo
      have HC:=Lib.hid (lln1_b ob bo bd db m k wr hbo2 (hT.2 _ _ _ _ (by decide) (by decide) hbd))
      clear hbo2 s1
      gi_wp2_with fail
      refine ⟨trivial,(callsIn_wide.2 HC.out).mono ?_⟩
      rintro e w5 ⟨v,rfl,hv,hb5⟩
      have hJ5:J xs w5:=hJ xs wr w5 none hJk (grown_of_below hb5) (fun r e => by cases e)
      have hwl:w.heap.size ≤ wr.heap.size:=hT.1
      obtain ⟨fn,tmps,assign,body,hy,hR⟩:=hY xs v w5 hJ5 (by
        have:=IsGet.mono hv hwl
        have e:=hxl.out
        rw [e];exact this) (by have:=hxl.out;omega)
      have hK5:Stands W w5:=hK.trans (Stands.below hb5)
      have hs5:W.heap.size ≤ w5.heap.size:=Nat.le_trans hsz hb5.size
      clear hv hJk hJ5 hb5 c2
      gi_wp2
      refine hR.mono ?_
      rintro e W6 ⟨rfl,hJ6,hk6⟩
      clear hR hy
      gi_wp2
      go_roundw
      case rel => exact ⟨k + 1,xs ++ [v],by omega,by go_num,Lib.hid (by rw [List.length_append,hxl.out];rfl),hJ6,hK5.trans hk6,Nat.le_trans hs5 hk6.1⟩
      case measure => simp [intOf];omega
    · have hkm:k = m:=by omega
      have HX:=Lib.hid (hxl.out.trans hkm)
      clear hkm hxl s1
      gi_wp2
      go_end0
      exact ⟨⟨_,rfl⟩,_,HX.out,hJk⟩
end Go.Proofs.YtmhpcgcloojfbaaGreat
end
