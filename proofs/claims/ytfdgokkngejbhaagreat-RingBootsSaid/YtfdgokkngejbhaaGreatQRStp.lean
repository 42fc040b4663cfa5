/- Texts of the ring, joined, what is used of them. No condition but those in the statements. -/
import Derived.BigQuiet
import Derived.BigRegion
import Derived.Deep.MidRow
import Derived.Deep.RegionHeld3
import Derived.Deep.Upon
import Derived.IntWalk
import Derived.Laws.EntriesVeiled
import Derived.Test.YtfdgokkngejbhaaGreatQRMk
namespace Go.Proofs.YtfdgokkngejbhaaGreat
open Go.RowKit Go.Sort
set_option linter.unusedVariables false
set_option linter.unusedSimpArgs false
set_option linter.unusedVariables false
set_option linter.unusedSimpArgs false
set_option maxRecDepth 100000
set_option maxHeartbeats 3200000
theorem Tryz.infoF12 : (Tryz.prog.info? 100).map (fun i => (i.zero, i.size, i.bytes)) = some (some .nilFunc, 1, 8) := by kernel_rfl
theorem cell_of_blk12 {w w' : World} {b o : Nat} {v : Value} (h : w.cell? ⟨b, o, none⟩ = some v) (e : w'.heap[b]? = w.heap[b]?) : w'.cell? ⟨b, o, none⟩ = some v := by
  unfold World.cell? at h ⊢; rw [e]; exact h
theorem qstep_nil (mb bb ob : Nat) (now : Int) (own : Int) (d n tl hd ce be : Nat) (sv : Value) (w : World) (ho : OBlk w ob own d n tl hd ce be sv) (hr : OwnsOff w 0 100 1 sv 0 []) : Calls Tryz.prog 23 #[.pointer (some ⟨ob, 0, none⟩), .pointer (some ⟨mb, 0, none⟩), .pointer (some ⟨bb, 0, none⟩), .int .i64 now] w fun e w' => e = .returned (.agg (qdV false (0) (.slice none 0 0) (0) false false)) ∧ Only (fun _ => False) w w' := by
  obtain ⟨a, cp, rfl, hc1, hc2⟩ := hr.slice
  obtain ⟨W, HW, hsz, hO, hz⟩ := did_new w
  have hW := ho.only hO (fun h => h)
  have c7 : W.cell? ⟨ob, 7, none⟩ = some (.slice a 0 cp) := hW.cell rfl
  have HZX := Lib.hid hz
  have HO := Lib.hid hO
  have hth := there_at (W := W) HZX.out (n := (qdV false (0) (.slice none 0 0) (0) false false : Array Value).size) rfl
  have hsd : (Tryz.prog.info? 63).map (·.size) = some (qdV false (0) (.slice none 0 0) (0) false false : Array Value).size := did_size
  clear hz hO hW ho hr
  go_enter Tryz.func23, Tryz.ntmps23
  go_wp2_with (first | (rw [← HW.out]) | (with_reducible refine wpList_store_mid (by kernel_rfl) _ _ _ rfl w.heap.size 0 (qdV false (0) (.slice none 0 0) (0) false false) (by kernel_rfl) (by kernel_rfl) hth hsd (by kernel_rfl) ?_))
  have hs := Only.sets (S := fun k => k = w.heap.size) rfl [.bool false, .int .i64 (0), .slice none 0 0, .bool false, .int .i64 (0), .bool false, .bool false, .bool false, .int .i64 0] 0 (Only.refl _ W)
  have hrg := World.rangeAt_setCells_same (W) w.heap.size 0 [.bool false, .int .i64 (0), .slice none 0 0, .bool false, .int .i64 (0), .bool false, .bool false, .bool false, .int .i64 0] (there_at (cs := #[.bool false, .int .i64 0, .slice none 0 0, .bool false, .int .i64 0, .bool false, .bool false, .bool false, .int .i64 0]) (n := 9) (show (W).heap[w.heap.size]? = _ from HZX.out) rfl)
  (try simp only [Exit.inBlock, Exit.then])
  refine bodyPost_ret (results_cell_row rfl _ _ w.heap.size [.bool false, .int .i64 (0), .slice none 0 0, .bool false, .int .i64 (0), .bool false, .bool false, .bool false, .int .i64 0] _ rfl hrg Tryz.underlying63 rfl did_size) rfl ?_
  exact ⟨rfl, ((HO.out.mono (T := New w.heap.size fun _ => False) fun _ _ h => h.elim).trans (hs.mono fun k _ h => .inl (Nat.le_of_eq h.symm))).old⟩
theorem qstep_b (mb bb ob g : Nat) (xs cs : List Value) (now : Int) (own : Int) (d n tl hd ce be : Nat) (sv : Value) (m : Nat) (fs : List Value) (w : World) (ho : OBlk w ob own d n tl hd ce be sv) (hr : OwnsOff w 0 100 1 sv (m + 1) (.func (.func g) xs.toArray cs.toArray :: fs)) (R : Array Value → World → Prop) (eg : ∀ args w, (callFunc g args).run Tryz.prog w = .ok (.enter g args) w)
    (hC : ∀ W v', OBlk W ob own d n tl hd ce be (v') → Only (fun k => k = ob) w W → OwnsOff W 0 100 1 v' m fs → v'.ownBlock = sv.ownBlock → W.heap[w.heap.size]? = some (.cells #[.bool false, .int .i64 0, .slice none 0 0, .bool false, .int .i64 0, .bool false, .bool false, .bool false, .int .i64 0] 63 (0, 0)) → Calls Tryz.prog g (xs ++ (.pointer (some ⟨mb, 0, none⟩)) :: (.pointer (some ⟨bb, 0, none⟩)) :: cs).toArray W fun e w' => ∃ D, e = .returned (.agg D) ∧ R D w')
    (hR : ∀ D w', R D w' → D.size = 9 ∧ D.all (·.oneCell') = true ∧ w'.heap[w.heap.size]? = some (.cells #[.bool false, .int .i64 0, .slice none 0 0, .bool false, .int .i64 0, .bool false, .bool false, .bool false, .int .i64 0] 63 (0, 0))) :
    Calls Tryz.prog 23 #[.pointer (some ⟨ob, 0, none⟩), .pointer (some ⟨mb, 0, none⟩), .pointer (some ⟨bb, 0, none⟩), .int .i64 now] w fun e w' => ∃ D w1, e = .returned (.agg D) ∧ R D w1 ∧ Only (fun k => k = w.heap.size) w1 w' := by
  obtain ⟨g0, off, cap, rfl, hg1, hg2, hc1, hc2, hfz, hcell⟩ := hr.lies (by omega)
  obtain ⟨i0, hi, hz0, hz1, hz2⟩ := info_parts Tryz.infoF12
  obtain ⟨W0, HW, hsz, hO, hz⟩ := did_new w
  have hol := ho.lt
  have hW := ho.only hO (fun h => h)
  have hrow := hr.kept hO (fun _ _ h => h)
  obtain ⟨M, hM⟩ : ∃ M, M = m + 1 := ⟨_, rfl⟩
  have HMm := Lib.hid hM
  have c7 : W0.cell? ⟨ob, 7, none⟩ = some (.slice (some ⟨g0, off, none⟩) M cap) := by rw [hM]; exact hW.cell rfl
  have g7 := hW.frozen 7
  have cf : W0.cell? ⟨g0, off, none⟩ = some (.func (.func g) xs.toArray cs.toArray) := by
    have := hcell 0 (.func (.func g) xs.toArray cs.toArray) rfl
    rw [Nat.add_zero] at this
    exact cell_of_blk12 this (hO.block g0 hg2 (fun h => h))
  have m0 : ((M : Int) == 0) = false := by rw [beq_eq_false_iff_ne]; omega
  have m1 : (0 : Int) < (M : Int) := by omega
  have hne : g0 ≠ ob := by
    rintro rfl
    obtain ⟨cs', hc⟩ := hr.typed g0 rfl
    have := hc.symm.trans ho
    simp at this
  have HROW := Lib.hid hrow; have HHW := Lib.hid hW; have HO := Lib.hid hO; have HZ := Lib.hid hz; have HC := Lib.hid hC; have HR := Lib.hid hR
  rw [← hM] at HROW
  have hrow2 : OwnsOff W0 0 100 1 (.slice (some ⟨g0, off, none⟩) M cap) (m + 1) (.func (.func g) xs.toArray cs.toArray :: fs) := by rw [hM]; exact hrow
  clear hrow hW hO hz hC hR hr ho hM hcell hfz
  go_enter Tryz.func23, Tryz.ntmps23
  go_wp2_with (first | (rw [← HW.out]) | (refine wpList_tail_off _ rfl _ _ rfl 0 100 i0 1 Tryz.underlying102 hi hz1 _ _ _ rfl hrow2 ?_))
  intro v' hv' hb'
  obtain ⟨a', c', rfl, hd1, hd2⟩ := hv'.slice
  obtain ⟨V, HV⟩ : ∃ u, Hid (u = W0.setCell ⟨ob, 7, none⟩ (.slice a' m c')) := ⟨_, rfl⟩
  have hOV : Only (fun k => k = ob) w V := by rw [HV.out]; exact Only.set (S := fun k => k = ob) (HO.out.mono (fun _ _ h => h.elim)) (p := ⟨ob, 7, none⟩) rfl _
  have hBV : OBlk V ob own d n tl hd ce be (.slice a' m c') := by
    rw [HV.out]
    exact OBlk.setSteps (sv := .slice (some ⟨g0, off, none⟩) (m + 1) cap) HHW.out _
  have hZV : V.heap[w.heap.size]? = some (.cells #[.bool false, .int .i64 0, .slice none 0 0, .bool false, .int .i64 0, .bool false, .bool false, .bool false, .int .i64 0] 63 (0, 0)) := by rw [HV.out]; exact (Below.heap_setCell _ _ _ _ (by show w.heap.size ≠ ob; omega)).trans HZ.out
  have hRV : OwnsOff V 0 100 1 (.slice a' m c') m fs := by
    rw [HV.out]
    exact OwnsOff.kept hv' (Only.setCell W0 ⟨ob, 7, none⟩ _) (fun k hk e => hne (Option.some.inj ((show some g0 = some k from hb'.symm.trans hk).trans (congrArg some e))))
  have HCV := Lib.hid (HC.out V _ hBV hOV hRV (hb'.trans rfl) hZV)
  have HZV := Lib.hid hZV
  clear hOV hBV hZV hRV hv' hb' hrow2
  go_wp2_with (rw [← HV.out])
  refine HCV.out.mono ?_
  rintro e w1 ⟨D, rfl, hRD⟩
  obtain ⟨hd9, hone, hz1'⟩ := HR.out D w1 hRD
  have HRD := Lib.hid hRD
  have HZX := Lib.hid hz1'
  have hth : w1.there w.heap.size 0 D.size := by rw [hd9]; exact there_at HZX.out rfl
  have hs9 : (Tryz.prog.info? 63).map (·.size) = some D.size := by rw [hd9]; exact did_size
  clear hRD hz1'
  go_wp2_with (with_reducible refine wpList_store_mid (by kernel_rfl) _ _ _ rfl w.heap.size 0 D (by kernel_rfl) (by kernel_rfl) hth hs9 hone ?_)
  have hrg := World.rangeAt_setCells_same w1 w.heap.size 0 D.toList hth
  (try simp only [Exit.inBlock, Exit.then])
  refine bodyPost_ret (results_cell_row rfl _ _ w.heap.size D.toList _ rfl hrg Tryz.underlying63 rfl (by simpa using hs9)) rfl ?_
  exact ⟨D, w1, rfl, HRD.out, Only.sets (S := fun k => k = w.heap.size) rfl _ 0 (Only.refl _ w1)⟩
end Go.Proofs.YtfdgokkngejbhaaGreat
