/- A read's block, its buffer, its first steps. No condition but those in the statements. A read's length, stamp, words. No condition but those in the statements. A read's stamp, its words. No condition but those in the statements. take, Step: a step is done by the function that stands next. No condition but those in the statements. Step, as a contract. No condition but those in the statements. -/
import Derived.Test.YtocdidkfnbkkhaaGreatGB
import Derived.BigQuiet
import Derived.IntWalk
import Derived.Deep.MidRow
import Derived.Deep.Upon
import Derived.BigRegion
import Derived.Deep.RegionHeld3
import Derived.Test.YtocdidkfnbkkhaaGreatOffB
import Derived.Laws.EntriesVeiled
namespace Go.Proofs.YtocdidkfnbkkhaaGreat
open Go.RowKit Go.Sort
set_option linter.unusedVariables false
set_option linter.unusedSimpArgs false
set_option linter.unusedVariables false
set_option linter.unusedSimpArgs false

open Go.Proofs.YtocdidkfnbkkhaaGreat.Simp (oddN oddN_le)
set_option maxRecDepth 100000
set_option maxHeartbeats 3200000
@[reducible] def rV (nx : Value) (A : Pl8) (nw per : Int) (p i : Nat) (len st : Int) : Array Value := #[nx, .int .i64 A.la, .int .i64 A.re, .int .i64 A.s0, .int .i64 A.s1, .int .i64 A.b00, .int .i64 A.b01, .int .i64 A.b10, .int .i64 A.b11, .int .i64 nw, .int .i64 per, .int .u32 p, .int .u32 i, .int .i64 len, .int .u32 st]
def RBlk (w : World) (wb : Nat) (nx : Value) (A : Pl8) (nw per : Int) (p i : Nat) (len st : Int) : Prop := w.heap[wb]? = some (.cells (rV nx A nw per p i len st) 89 (0, 0))
section
variable {w : World} {wb : Nat} {nx : Value} {A : Pl8} {nw per : Int} {p i : Nat} {len st : Int}
theorem RBlk.lt (h : RBlk w wb nx A nw per p i len st) : wb < w.heap.size := (Array.getElem?_eq_some_iff.1 h).1
theorem RBlk.cell (h : RBlk w wb nx A nw per p i len st) {j : Nat} {v : Value} (hv : (rV nx A nw per p i len st)[j]? = some v) : w.cell? ⟨wb, j, none⟩ = some v := by
  unfold RBlk at h
  simp [World.cell?, h, hv]
theorem RBlk.frozen (h : RBlk w wb nx A nw per p i len st) (j : Nat) : w.frozen? ⟨wb, j, none⟩ = false := by
  unfold RBlk at h
  simp [World.frozen?, h]
theorem RBlk.only (h : RBlk w wb nx A nw per p i len st) {S : Nat → Prop} {w' : World} (ho : Only S w w') (hs : ¬ S wb) : RBlk w' wb nx A nw per p i len st := ho.at_ h hs
theorem RBlk.drew (h : RBlk w wb nx A nw per p i len st) : RBlk w.drew wb nx A nw per p i len st := h
theorem RBlk.setPair (h : RBlk w wb nx A nw per p i len st) (q : Nat) : RBlk (w.setCell ⟨wb, 11, none⟩ (.int .u32 (q : Int))) wb nx A nw per q i len st := by
  unfold RBlk at h ⊢; simp [World.setCell, Array.getElem?_modify, h]
theorem RBlk.setIndex (h : RBlk w wb nx A nw per p i len st) (q : Nat) : RBlk (w.setCell ⟨wb, 12, none⟩ (.int .u32 (q : Int))) wb nx A nw per p q len st := by
  unfold RBlk at h ⊢; simp [World.setCell, Array.getElem?_modify, h]
theorem RBlk.setLen (h : RBlk w wb nx A nw per p i len st) (q : Int) : RBlk (w.setCell ⟨wb, 13, none⟩ (.int .i64 q)) wb nx A nw per p i q st := by
  unfold RBlk at h ⊢; simp [World.setCell, Array.getElem?_modify, h]
theorem RBlk.setStamp (h : RBlk w wb nx A nw per p i len st) (q : Int) : RBlk (w.setCell ⟨wb, 14, none⟩ (.int .u32 q)) wb nx A nw per p i len q := by
  unfold RBlk at h ⊢; simp [World.setCell, Array.getElem?_modify, h]
theorem RBlk.setNext (h : RBlk w wb nx A nw per p i len st) (q : Value) : RBlk (w.setCell ⟨wb, 0, none⟩ (q)) wb q A nw per p i len st := by
  unfold RBlk at h ⊢; simp [World.setCell, Array.getElem?_modify, h]
theorem RBlk.ne_mem {mb rb : Nat} {ws : List Int} (h : RBlk w wb nx A nw per p i len st) (hm : MemAt w mb rb ws) : mb ≠ wb ∧ rb ≠ wb := by
  constructor
  · rintro rfl; have := h.symm.trans hm.head; simp at this
  · rintro rfl; have := h.symm.trans hm.row; simp at this
end
/-- What a step of a read leaves. -/
structure StepR (w : World) (mb rb wb : Nat) (ws : List Int) (nx : Value) (A : Pl8) (nw per : Int) (p i : Nat) (len st : Int) (w' : World) : Prop where
  blk : RBlk w' wb nx A nw per p i len st
  mem : MemAt w' mb rb ws
  only : Only (fun k => k = wb ∨ k = rb) w w'
theorem StepR.fin {w X : World} {mb rb wb : Nat} {ws : List Int} {nx : Value} {A : Pl8} {nw per : Int} {p i : Nat} {len st : Int} (hb : RBlk X wb nx A nw per p i len st) (hm : MemAt X mb rb ws) (ho : Only (New w.heap.size fun k => k = wb ∨ k = rb) w X)
    (h1 : wb < w.heap.size) (h2 : mb < w.heap.size) (h3 : rb < w.heap.size) (cs : List Value) : StepR w mb rb wb ws nx A nw per p i len st (X.setCells w.heap.size 0 cs) := by
  have hs := Only.sets (S := fun k => k = w.heap.size) rfl cs 0 (Only.refl _ X)
  exact ⟨hb.only hs (by omega), hm.only hs (by omega) (by omega), (ho.trans (hs.mono fun k _ hk => .inl (by omega))).old⟩

theorem r_latest_b (mb rb wb : Nat) (ws : List Int) (nx : Value) (A : Pl8) (nw per : Int) (p i : Nat) (len st : Int) (now : Int) (w : World) (hw : RBlk w wb nx A nw per p i len st) (hm : MemAt w mb rb ws) (hl : ws.length ≤ 1000000) (ha : A.la < ws.length) (h0 : 0 ≤ ws.getD A.la 0) : Calls Tryz.prog 32 #[.pointer (some ⟨wb, 0, none⟩), .pointer (some ⟨mb, 0, none⟩), .int .i64 now] w fun e w' => e = .returned (.tuple #[.agg (didV false 0 (.slice none 0 0) false false false 0), .func (.func 49) #[.pointer (some ⟨wb, 0, none⟩)] #[]]) ∧ StepR w mb rb wb (ws) nx A nw per (oddN (ws.getD A.la 0)) (i) (len) (st) w' := by
  obtain ⟨W, HW, hsz, hO, hz⟩ := did_new w
  have hwl := hw.lt
  have hml := hm.lt
  have hW := hw.only hO (fun h => h)
  have hM := hm.only hO (fun h => h) (fun h => h)
  have hO2 : Only (New w.heap.size fun k => k = wb ∨ k = rb) w W := hO.mono (fun k _ h => h.elim)
  have c1 : W.cell? ⟨wb, 1, none⟩ = some (.int .i64 A.la) := hW.cell rfl
  have c11 : W.cell? ⟨wb, 11, none⟩ = some (.int .u32 p) := hW.cell rfl
  have g11 := hW.frozen 11
  have HL := Lib.hid (fun W' (h : MemAt W' mb rb ws) => load_b mb rb ws A.la W' h hl ha)
  obtain ⟨x, hx⟩ : ∃ x, ws.getD A.la 0 = x := ⟨_, rfl⟩
  rw [hx] at HL h0 ⊢
  have HO := Lib.hid (fun W' => odd_b x W' h0)
  obtain ⟨q, hq'⟩ : ∃ q, oddN x = q := ⟨_, rfl⟩
  rw [hq'] at HO ⊢
  have HNE := Lib.hid (hw.ne_mem hm); have HWB := Lib.hid hW; have HM := Lib.hid hM; have HO2 := Lib.hid hO2; have HZ := Lib.hid hz
  clear hx hq' h0 hw hm hO hM hW hO2 hz
  obtain ⟨X, HX⟩ : ∃ X, Hid (X = W.setCell ⟨wb, 11, none⟩ (.int .u32 (q : Int))) := ⟨_, rfl⟩
  have HZX : Hid (X.heap[w.heap.size]? = some (.cells (didV false 0 (.slice none 0 0) false false false 0) 56 (0, 0))) := Lib.hid (by rw [HX.out]; exact (Below.heap_setCell _ _ _ _ (by show w.heap.size ≠ wb; omega)).trans HZ.out)
  have HBX := Lib.hid (HWB.out.setPair q)
  have HOX : Hid (Only (New w.heap.size fun k => k = wb ∨ k = rb) w X) := Lib.hid (by rw [HX.out]; exact (HO2.out.set (p := ⟨wb, 11, none⟩) (.inr (.inl rfl)) _))
  have HMX : Hid (MemAt X mb rb ws) := Lib.hid (by rw [HX.out]; exact (HM.out.only (Only.setCell W ⟨wb, 11, none⟩ _) HNE.out.1 HNE.out.2))
  rw [← HX.out] at HBX
  have hth := there_at (W := X) HZX.out (n := (didV false 0 (.slice none 0 0) false false false 0 : Array Value).size) rfl
  have hsd : (Tryz.prog.info? 56).map (·.size) = some (didV false 0 (.slice none 0 0) false false false 0 : Array Value).size := did_size
  go_enter Tryz.func32, Tryz.ntmps32
  go_wp2_with (first | (rw [← HW.out]) | (go_at_call 47; ((with_reducible refine (HL.out _ ?_).mono ?_); (first | exact HM.out.drew | exact HM.out); rintro e w5 ⟨rfl, rfl⟩)) | (go_at_call 46; ((with_reducible refine (HO.out _).mono ?_); rintro e w5 ⟨rfl, rfl⟩)) | (rw [← HX.out]) | (with_reducible refine wpList_store_mid (by kernel_rfl) _ _ _ rfl w.heap.size 0 (didV false 0 (.slice none 0 0) false false false 0) (by kernel_rfl) (by kernel_rfl) hth hsd (by kernel_rfl) ?_))
  have hrg := World.rangeAt_setCells_same (X) w.heap.size 0 (didV false 0 (.slice none 0 0) false false false 0 : Array Value).toList hth
  (try simp only [Exit.inBlock, Exit.then])
  refine bodyPost_ret (results_cell_tmp rfl _ _ w.heap.size (didV false 0 (.slice none 0 0) false false false 0 : Array Value).toList _ rfl hrg Tryz.underlying56 rfl did_size) rfl ?_
  exact ⟨rfl, StepR.fin HBX.out HMX.out HOX.out hwl hml.1 hml.2 _⟩
theorem r_reading_b (mb rb wb : Nat) (ws : List Int) (nx : Value) (A : Pl8) (nw per : Int) (p i : Nat) (len st : Int) (now : Int) (w : World) (hw : RBlk w wb nx A nw per p i len st) (hm : MemAt w mb rb ws) (hl : ws.length ≤ 1000000) (hp : p ≤ 1) (ha : A.re < ws.length) : Calls Tryz.prog 49 #[.pointer (some ⟨wb, 0, none⟩), .pointer (some ⟨mb, 0, none⟩), .int .i64 now] w fun e w' => e = .returned (.tuple #[.agg (didV false 0 (.slice none 0 0) false false false 0), .func (.func 65) #[.pointer (some ⟨wb, 0, none⟩)] #[]]) ∧ StepR w mb rb wb (ws.set A.re p) nx A nw per (p) (i) (len) (st) w' := by
  obtain ⟨W, HW, hsz, hO, hz⟩ := did_new w
  have hwl := hw.lt
  have hml := hm.lt
  have hW := hw.only hO (fun h => h)
  have hM := hm.only hO (fun h => h) (fun h => h)
  have hO2 : Only (New w.heap.size fun k => k = wb ∨ k = rb) w W := hO.mono (fun k _ h => h.elim)
  have c2 : W.cell? ⟨wb, 2, none⟩ = some (.int .i64 A.re) := hW.cell rfl
  have c11 : W.cell? ⟨wb, 11, none⟩ = some (.int .u32 p) := hW.cell rfl
  have HS := Lib.hid (fun (W' : World) (av xv : Int) (hav : av = ((A.re : Nat) : Int)) (hxv : xv = (p : Int)) (h : MemAt W' mb rb ws) => (show Calls Tryz.prog 64 #[.pointer (some ⟨mb, 0, none⟩), .int .i64 av, .int .u32 xv] W' fun e w' => e = .returned (.tuple #[]) ∧ w' = W'.setCell ⟨rb, A.re, none⟩ (.int .u32 ((p : Int))) from by subst hav; subst hxv; exact store_b mb rb ws _ _ W' h hl ha))
  have HNE := Lib.hid (hw.ne_mem hm); have HWB := Lib.hid hW; have HM := Lib.hid hM; have HO2 := Lib.hid hO2; have HZ := Lib.hid hz
  clear hw hm hO hW hO2 hz hM
  obtain ⟨X, HX⟩ : ∃ X, Hid (X = (W.setCell ⟨rb, A.re, none⟩ (.int .u32 (p : Int))).drew) := ⟨_, rfl⟩
  have HZX : Hid (X.heap[w.heap.size]? = some (.cells (didV false 0 (.slice none 0 0) false false false 0) 56 (0, 0))) := Lib.hid (by rw [HX.out]; exact (Below.heap_setCell _ _ _ _ (by show w.heap.size ≠ rb; omega)).trans HZ.out)
  have HBX : Hid (RBlk X wb nx A nw per p i len st) := Lib.hid (by rw [HX.out]; exact (HWB.out.only (Only.setCell W ⟨rb, A.re, none⟩ (.int .u32 (p : Int))) (fun h => HNE.out.2 h.symm)).drew)
  have HOX : Hid (Only (New w.heap.size fun k => k = wb ∨ k = rb) w X) := Lib.hid (by rw [HX.out]; exact (HO2.out.set (p := ⟨rb, A.re, none⟩) (.inr (.inr rfl)) _).drew)
  have HMX : Hid (MemAt X mb rb (ws.set A.re (p : Int))) := Lib.hid (by rw [HX.out]; exact (HM.out.set A.re _).drew)
  have hth := there_at (W := X) HZX.out (n := (didV false 0 (.slice none 0 0) false false false 0 : Array Value).size) rfl
  have hsd : (Tryz.prog.info? 56).map (·.size) = some (didV false 0 (.slice none 0 0) false false false 0 : Array Value).size := did_size
  go_enter Tryz.func49, Tryz.ntmps49
  go_wp2_with (rw [← HW.out])
  go_region_held3 (fun W' => W'.cell? ⟨wb, 2, none⟩ = some (.int .i64 A.re) ∧ W'.cell? ⟨wb, 11, none⟩ = some (.int .u32 (p : Int))) ((first | exact ⟨c2, c11⟩ | exact ⟨cell_set_ne c2 HNE.out.2, cell_set_ne c11 HNE.out.2⟩)) ((go_at_call 64; ((with_reducible refine (HS.out _ _ _ ?_ ?_ ?_).mono ?_); (first | (with_reducible rfl) | omega | exact IntWalk.i64_in _ (by omega) | (rw [IntWalk.i64_in _ (by omega)] <;> omega) | (rw [IntWalk.i64_in (_ + 2) (by omega), IntWalk.i64_in _ (by omega)] <;> omega)); (first | (with_reducible rfl) | (rw [IntKind.wrap_u32]; omega) | (rw [IntKind.wrap_u32]; with_reducible rfl)); (first | exact HM.out | exact HM.out.drew | exact HM.out.drew.drew | exact HM.out.drew.drew.drew); rintro e w5 ⟨rfl, rfl⟩)))
  rw [← HX.out]
  clear c2 c11
  go_wp2_with (with_reducible refine wpList_store_mid (by kernel_rfl) _ _ _ rfl w.heap.size 0 (didV false 0 (.slice none 0 0) false false false 0) (by kernel_rfl) (by kernel_rfl) hth hsd (by kernel_rfl) ?_)
  have hrg := World.rangeAt_setCells_same (X) w.heap.size 0 (didV false 0 (.slice none 0 0) false false false 0 : Array Value).toList hth
  (try simp only [Exit.inBlock, Exit.then])
  refine bodyPost_ret (results_cell_tmp rfl _ _ w.heap.size (didV false 0 (.slice none 0 0) false false false 0 : Array Value).toList _ rfl hrg Tryz.underlying56 rfl did_size) rfl ?_
  exact ⟨rfl, StepR.fin HBX.out HMX.out HOX.out hwl hml.1 hml.2 _⟩

theorem r_slot_b (mb rb wb : Nat) (ws : List Int) (nx : Value) (A : Pl8) (nw per : Int) (p i : Nat) (len st : Int) (now : Int) (w : World) (hw : RBlk w wb nx A nw per p i len st) (hm : MemAt w mb rb ws) (hl : ws.length ≤ 1000000) (hp : p ≤ 1) (ha : A.slot p < ws.length) (h0 : 0 ≤ ws.getD (A.slot p) 0) : Calls Tryz.prog 65 #[.pointer (some ⟨wb, 0, none⟩), .pointer (some ⟨mb, 0, none⟩), .int .i64 now] w fun e w' => e = .returned (.tuple #[.agg (didV false 0 (.slice none 0 0) false false false 0), .func (.func 74) #[.pointer (some ⟨wb, 0, none⟩)] #[]]) ∧ StepR w mb rb wb (ws) nx A nw per (p) (oddN (ws.getD (A.slot p) 0)) (len) (st) w' := by
  obtain ⟨W, HW, hsz, hO, hz⟩ := did_new w
  have hwl := hw.lt
  have hml := hm.lt
  have hW := hw.only hO (fun h => h)
  have hM := hm.only hO (fun h => h) (fun h => h)
  have hO2 : Only (New w.heap.size fun k => k = wb ∨ k = rb) w W := hO.mono (fun k _ h => h.elim)
  have c3 : W.cell? ⟨wb, 3, none⟩ = some (.int .i64 A.s0) := hW.cell rfl
  have c4 : W.cell? ⟨wb, 4, none⟩ = some (.int .i64 A.s1) := hW.cell rfl
  have c11 : W.cell? ⟨wb, 11, none⟩ = some (.int .u32 p) := hW.cell rfl
  have c12 : W.cell? ⟨wb, 12, none⟩ = some (.int .u32 i) := hW.cell rfl
  have g12 := hW.frozen 12
  obtain ⟨sl, hsl⟩ : ∃ sl, A.slot p = sl := ⟨_, rfl⟩
  rw [hsl] at ha h0 ⊢
  have HL := Lib.hid (fun W' (h : MemAt W' mb rb ws) => load_b mb rb ws sl W' h hl ha)
  obtain ⟨x, hx⟩ : ∃ x, ws.getD sl 0 = x := ⟨_, rfl⟩
  rw [hx] at HL h0 ⊢
  have HO := Lib.hid (fun W' => odd_b x W' h0)
  obtain ⟨q, hq'⟩ : ∃ q, oddN x = q := ⟨_, rfl⟩
  rw [hq'] at HO ⊢
  have HNE := Lib.hid (hw.ne_mem hm); have HWB := Lib.hid hW; have HM := Lib.hid hM; have HO2 := Lib.hid hO2; have HZ := Lib.hid hz
  clear hx hq' h0 hw hm hO hW hO2 hz hM ha
  have hp2 : p = 0 ∨ p = 1 := by omega
  clear hp
  rcases hp2 with rfl | rfl
  · obtain rfl : sl = A.s0 := (show sl = A.s0 from hsl.symm)
    clear hsl
    obtain ⟨X, HX⟩ : ∃ X, Hid (X = (W.setCell ⟨wb, 12, none⟩ (.int .u32 (q : Int))).drew) := ⟨_, rfl⟩
    have HZX : Hid (X.heap[w.heap.size]? = some (.cells (didV false 0 (.slice none 0 0) false false false 0) 56 (0, 0))) := Lib.hid (by rw [HX.out]; exact (Below.heap_setCell _ _ _ _ (by show w.heap.size ≠ wb; omega)).trans HZ.out)
    have HBX := Lib.hid ((HWB.out.setIndex q).drew)
    have HOX : Hid (Only (New w.heap.size fun k => k = wb ∨ k = rb) w X) := Lib.hid (by rw [HX.out]; exact (HO2.out.set (p := ⟨wb, 12, none⟩) (.inr (.inl rfl)) _).drew)
    have HMX : Hid (MemAt X mb rb ws) := Lib.hid (by rw [HX.out]; exact (HM.out.only (Only.setCell W ⟨wb, 12, none⟩ _) HNE.out.1 HNE.out.2).drew)
    rw [← HX.out] at HBX
    have hth := there_at (W := X) HZX.out (n := (didV false 0 (.slice none 0 0) false false false 0 : Array Value).size) rfl
    have hsd : (Tryz.prog.info? 56).map (·.size) = some (didV false 0 (.slice none 0 0) false false false 0 : Array Value).size := did_size
    go_enter Tryz.func65, Tryz.ntmps65
    go_wp2_with (rw [← HW.out])
    go_region_held3 (fun W' => W'.cell? ⟨wb, 3, none⟩ = some (.int .i64 A.s0) ∧ W'.cell? ⟨wb, 11, none⟩ = some (.int .u32 0)) ((first | exact ⟨c3, c11⟩ | exact cells_set2 ⟨c3, c11⟩ (by decide) (by decide))) ((first | (go_at_call 47; ((with_reducible refine (HL.out _ ?_).mono ?_); (first | exact HM.out.drew | exact HM.out); rintro e w5 ⟨rfl, rfl⟩)) | (go_at_call 46; ((with_reducible refine (HO.out _).mono ?_); rintro e w5 ⟨rfl, rfl⟩))))
    rw [← HX.out]
    clear c3 c4 c11
    go_wp2_with (with_reducible refine wpList_store_mid (by kernel_rfl) _ _ _ rfl w.heap.size 0 (didV false 0 (.slice none 0 0) false false false 0) (by kernel_rfl) (by kernel_rfl) hth hsd (by kernel_rfl) ?_)
    have hrg := World.rangeAt_setCells_same (X) w.heap.size 0 (didV false 0 (.slice none 0 0) false false false 0 : Array Value).toList hth
    (try simp only [Exit.inBlock, Exit.then])
    refine bodyPost_ret (results_cell_tmp rfl _ _ w.heap.size (didV false 0 (.slice none 0 0) false false false 0 : Array Value).toList _ rfl hrg Tryz.underlying56 rfl did_size) rfl ?_
    exact ⟨rfl, StepR.fin HBX.out HMX.out HOX.out hwl hml.1 hml.2 _⟩
  · obtain rfl : sl = A.s1 := (show sl = A.s1 from hsl.symm)
    clear hsl
    obtain ⟨X, HX⟩ : ∃ X, Hid (X = (W.setCell ⟨wb, 12, none⟩ (.int .u32 (q : Int))).drew) := ⟨_, rfl⟩
    have HZX : Hid (X.heap[w.heap.size]? = some (.cells (didV false 0 (.slice none 0 0) false false false 0) 56 (0, 0))) := Lib.hid (by rw [HX.out]; exact (Below.heap_setCell _ _ _ _ (by show w.heap.size ≠ wb; omega)).trans HZ.out)
    have HBX := Lib.hid ((HWB.out.setIndex q).drew)
    have HOX : Hid (Only (New w.heap.size fun k => k = wb ∨ k = rb) w X) := Lib.hid (by rw [HX.out]; exact (HO2.out.set (p := ⟨wb, 12, none⟩) (.inr (.inl rfl)) _).drew)
    have HMX : Hid (MemAt X mb rb ws) := Lib.hid (by rw [HX.out]; exact (HM.out.only (Only.setCell W ⟨wb, 12, none⟩ _) HNE.out.1 HNE.out.2).drew)
    rw [← HX.out] at HBX
    have hth := there_at (W := X) HZX.out (n := (didV false 0 (.slice none 0 0) false false false 0 : Array Value).size) rfl
    have hsd : (Tryz.prog.info? 56).map (·.size) = some (didV false 0 (.slice none 0 0) false false false 0 : Array Value).size := did_size
    go_enter Tryz.func65, Tryz.ntmps65
    go_wp2_with (rw [← HW.out])
    go_region_held3 (fun W' => W'.cell? ⟨wb, 4, none⟩ = some (.int .i64 A.s1) ∧ W'.cell? ⟨wb, 11, none⟩ = some (.int .u32 1)) ((first | exact ⟨c4, c11⟩ | exact cells_set2 ⟨c4, c11⟩ (by decide) (by decide))) ((first | (go_at_call 47; ((with_reducible refine (HL.out _ ?_).mono ?_); (first | exact HM.out.drew | exact HM.out); rintro e w5 ⟨rfl, rfl⟩)) | (go_at_call 46; ((with_reducible refine (HO.out _).mono ?_); rintro e w5 ⟨rfl, rfl⟩))))
    rw [← HX.out]
    clear c3 c4 c11
    go_wp2_with (with_reducible refine wpList_store_mid (by kernel_rfl) _ _ _ rfl w.heap.size 0 (didV false 0 (.slice none 0 0) false false false 0) (by kernel_rfl) (by kernel_rfl) hth hsd (by kernel_rfl) ?_)
    have hrg := World.rangeAt_setCells_same (X) w.heap.size 0 (didV false 0 (.slice none 0 0) false false false 0 : Array Value).toList hth
    (try simp only [Exit.inBlock, Exit.then])
    refine bodyPost_ret (results_cell_tmp rfl _ _ w.heap.size (didV false 0 (.slice none 0 0) false false false 0 : Array Value).toList _ rfl hrg Tryz.underlying56 rfl did_size) rfl ?_
    exact ⟨rfl, StepR.fin HBX.out HMX.out HOX.out hwl hml.1 hml.2 _⟩
theorem r_buffer_b (wb : Nat) (nx : Value) (A : Pl8) (nw per : Int) (p i : Nat) (len st : Int) (w : World) (hw : RBlk w wb nx A nw per p i len st) (hp : p ≤ 1) (hi : i ≤ 1) : Calls Tryz.prog 78 #[.pointer (some ⟨wb, 0, none⟩)] w fun e w' => e = .returned (.int .i64 (A.buf p i : Nat)) ∧ w' = w.drew := by
  have hp2 : p = 0 ∨ p = 1 := by omega
  have hi2 : i = 0 ∨ i = 1 := by omega
  have c11 : w.cell? ⟨wb, 11, none⟩ = some (.int .u32 p) := hw.cell rfl
  have c12 : w.cell? ⟨wb, 12, none⟩ = some (.int .u32 i) := hw.cell rfl
  have c5 : w.cell? ⟨wb, 5, none⟩ = some (.int .i64 A.b00) := hw.cell rfl
  have c6 : w.cell? ⟨wb, 6, none⟩ = some (.int .i64 A.b01) := hw.cell rfl
  have c7 : w.cell? ⟨wb, 7, none⟩ = some (.int .i64 A.b10) := hw.cell rfl
  have c8 : w.cell? ⟨wb, 8, none⟩ = some (.int .i64 A.b11) := hw.cell rfl
  clear hw hp hi
  rcases hp2 with rfl | rfl <;> rcases hi2 with rfl | rfl
  · show Calls Tryz.prog 78 #[.pointer (some ⟨wb, 0, none⟩)] w fun e w' => e = .returned (.int .i64 (A.b00 : Nat)) ∧ w' = w.drew
    go_enter Tryz.func78, Tryz.ntmps78
    go_wp2
    go_region
    go_wp2
    go_ret
    exact ⟨rfl, rfl⟩
  · show Calls Tryz.prog 78 #[.pointer (some ⟨wb, 0, none⟩)] w fun e w' => e = .returned (.int .i64 (A.b01 : Nat)) ∧ w' = w.drew
    go_enter Tryz.func78, Tryz.ntmps78
    go_wp2
    go_region
    go_wp2
    go_ret
    exact ⟨rfl, rfl⟩
  · show Calls Tryz.prog 78 #[.pointer (some ⟨wb, 0, none⟩)] w fun e w' => e = .returned (.int .i64 (A.b10 : Nat)) ∧ w' = w.drew
    go_enter Tryz.func78, Tryz.ntmps78
    go_wp2
    go_region
    go_wp2
    go_ret
    exact ⟨rfl, rfl⟩
  · show Calls Tryz.prog 78 #[.pointer (some ⟨wb, 0, none⟩)] w fun e w' => e = .returned (.int .i64 (A.b11 : Nat)) ∧ w' = w.drew
    go_enter Tryz.func78, Tryz.ntmps78
    go_wp2
    go_region
    go_wp2
    go_ret
    exact ⟨rfl, rfl⟩

theorem r_valid_b (wb : Nat) (nx : Value) (A : Pl8) (nw per : Int) (p i : Nat) (len st now : Int) (w : World) (hw : RBlk w wb nx A nw per p i len st) (hst : 0 ≤ st ∧ st ≤ 4294967295) (hnow : 0 ≤ now ∧ now ≤ 1000000000000) : Calls Tryz.prog 89 #[.pointer (some ⟨wb, 0, none⟩), .int .i64 now] w fun e w' => e = .returned (.bool (decide (now - st ≤ per))) ∧ w' = w.drew := by
  have c10 : w.cell? ⟨wb, 10, none⟩ = some (.int .i64 per) := hw.cell rfl
  have c14 : w.cell? ⟨wb, 14, none⟩ = some (.int .u32 st) := hw.cell rfl
  have h1 : IntKind.i64.wrap (now - st) = now - st := IntWalk.i64_in _ (by omega)
  have h2 : IntKind.i64.wrap st = st := IntWalk.i64_in _ (by omega)
  have h3 : IntKind.i64.wrap now = now := IntWalk.i64_in _ (by omega)
  clear hw
  go_enter Tryz.func89, Tryz.ntmps89
  go_wp2
  go_region
  go_wp2
  go_ret
  exact ⟨rfl, rfl⟩
end Go.Proofs.YtocdidkfnbkkhaaGreat

namespace Go.Proofs.YtocdidkfnbkkhaaGreat
open Go.RowKit Go.Sort
set_option linter.unusedVariables false
set_option linter.unusedSimpArgs false
set_option linter.unusedVariables false
set_option linter.unusedSimpArgs false

open Go.Proofs.YtocdidkfnbkkhaaGreat.Simp (oddN oddN_le)
set_option maxRecDepth 100000
set_option maxHeartbeats 3200000
theorem keep_box2 {X : World} {B b i j : Nat} {u v : Value} {vs : List Value} (h : X.cell? ⟨b, i, none⟩ = some u ∧ X.cell? ⟨b, j, none⟩ = some v) (hne : B ≠ b) : (X.setCells B 0 vs).cell? ⟨b, i, none⟩ = some u ∧ (X.setCells B 0 vs).cell? ⟨b, j, none⟩ = some v := by
  have hb := Only.sets (S := fun k => k = B) rfl vs 0 (Only.refl _ X)
  have hl : b < X.heap.size := World.block_lt_of_cell? X ⟨b, i, none⟩ h.1
  have := hb.block b hl (fun e => hne e.symm)
  exact ⟨by have h1 := h.1; unfold World.cell? at h1 ⊢; rw [this]; exact h1, by have h1 := h.2; unfold World.cell? at h1 ⊢; rw [this]; exact h1⟩
theorem keep_alloc2 {X : World} {b i j : Nat} {u v : Value} {o : Obj} (h : X.cell? ⟨b, i, none⟩ = some u ∧ X.cell? ⟨b, j, none⟩ = some v) : (X.alloc o).cell? ⟨b, i, none⟩ = some u ∧ (X.alloc o).cell? ⟨b, j, none⟩ = some v := by
  have hl : b < X.heap.size := World.block_lt_of_cell? X ⟨b, i, none⟩ h.1
  have := Below.heap_alloc X o b hl
  exact ⟨by have h1 := h.1; unfold World.cell? at h1 ⊢; rw [this]; exact h1, by have h1 := h.2; unfold World.cell? at h1 ⊢; rw [this]; exact h1⟩
/-- The block's cells when values have been stored from place o on. -/
def wr11 (cs : Array Value) (o : Nat) : List Value → Array Value
  | [] => cs
  | v :: r => wr11 (cs.setIfInBounds o v) (o + 1) r
theorem blk_sets {b : Nat} {ty : TypeId} {m : Nat × Nat} : ∀ (vs : List Value) (o : Nat) (X : World) (cs : Array Value), X.heap[b]? = some (.cells cs ty m) → (X.setCells b o vs).heap[b]? = some (.cells (wr11 cs o vs) ty m)
  | [], _, _, _, h => h
  | v :: r, o, X, cs, h => blk_sets r (o + 1) _ _ (by simp [World.setCell, Array.getElem?_modify, h])
theorem blk_did {X : World} {b : Nat} (h : X.heap[b]? = some (.cells (didV false 0 (.slice none 0 0) false false false 0) 56 (0, 0))) (cs : List Value) (hc : cs.length = 9) : (X.setCells b 0 cs).heap[b]? = some (.cells cs.toArray 56 (0, 0)) := by
  match cs, hc with
  | [a0, a1, a2, a3, a4, a5, a6, a7, a8], _ =>
    have e : wr11 (didV false 0 (.slice none 0 0) false false false 0) 0 [a0, a1, a2, a3, a4, a5, a6, a7, a8] = #[a0, a1, a2, a3, a4, a5, a6, a7, a8] := by kernel_rfl
    have q := blk_sets [a0, a1, a2, a3, a4, a5, a6, a7, a8] 0 X (didV false 0 (.slice none 0 0) false false false 0) h
    rw [e] at q
    exact q
theorem there_off {W : World} {b : Nat} {cs : Array Value} {ty : TypeId} {n : Nat} (h : W.heap[b]? = some (.cells cs ty (0, 0))) (o : Nat) (hn : o + n ≤ cs.size) : W.there b o n := fun j hj => by
  refine ⟨?_, by simp [World.frozen?, h]⟩
  have hj' : o + j < cs.size := by omega
  have : W.cell? ⟨b, o + j, none⟩ = some cs[o + j] := by simp [World.cell?, h, hj']
  rw [this]; rfl
theorem r_lenz_b (mb rb wb : Nat) (ws : List Int) (nx : Value) (A : Pl8) (nw per : Int) (p i : Nat) (len st : Int) (now : Int) (w : World) (hw : RBlk w wb nx A nw per p i len st) (hm : MemAt w mb rb ws) (hl : ws.length ≤ 1000000) (hp : p ≤ 1) (hi : i ≤ 1) (ha : A.buf p i < ws.length) (h0 : ws.getD (A.buf p i) 0 = 0) : Calls Tryz.prog 74 #[.pointer (some ⟨wb, 0, none⟩), .pointer (some ⟨mb, 0, none⟩), .int .i64 now] w fun e w' => e = .returned (.tuple #[.agg (didV true 1 (.slice none 0 0) false false false (1 + 2 * (p : Int) + i)), .nilFunc]) ∧ StepR w mb rb wb (ws) nx A nw per (p) (i) (len) (st) w' := by
  obtain ⟨W, HW, hsz, hO, hz⟩ := did_new w
  have hwl := hw.lt
  have hml := hm.lt
  have hW := hw.only hO (fun h => h)
  have hM := hm.only hO (fun h => h) (fun h => h)
  have hO2 : Only (New w.heap.size fun k => k = wb ∨ k = rb) w W := hO.mono (fun k _ h => h.elim)
  have c2 : W.cell? ⟨wb, 2, none⟩ = some (.int .i64 A.re) := hW.cell rfl
  have c9 : W.cell? ⟨wb, 9, none⟩ = some (.int .i64 nw) := hW.cell rfl
  have c11 : W.cell? ⟨wb, 11, none⟩ = some (.int .u32 p) := hW.cell rfl
  have c12 : W.cell? ⟨wb, 12, none⟩ = some (.int .u32 i) := hW.cell rfl
  have HBF := Lib.hid (fun (W' : World) (h : RBlk W' wb nx A nw per p i len st) => r_buffer_b wb nx A nw per p i len st W' h hp hi)
  have HNU := Lib.hid (fun (W' : World) => number_b p i hp hi W')
  obtain ⟨k, hk⟩ : ∃ k, A.buf p i = k := ⟨_, rfl⟩
  rw [hk] at ha HBF h0
  have HL := Lib.hid (fun (W' : World) (av : Int) (hav : av = ((k : Nat) : Int)) (h : MemAt W' mb rb ws) => (show Calls Tryz.prog 47 #[.pointer (some ⟨mb, 0, none⟩), .int .i64 av] W' fun e w' => e = .returned (.int .u32 (ws.getD (k) 0)) ∧ W' = w' from by subst hav; exact load_b mb rb ws _ W' h hl ha))
  rw [h0] at HL
  have HNE := Lib.hid (hw.ne_mem hm); have HWB := Lib.hid hW; have HM := Lib.hid hM; have HO2 := Lib.hid hO2; have HZ := Lib.hid hz
  have hwW : wb < W.heap.size := by omega
  have HSZ := Lib.hid hsz
  have hth1 := there_at (heap_alloc_new W (.cells (didV false 0 (.slice none 0 0) false false false 0) 56)) (n := (didV false 0 (.slice none 0 0) false false false (1 + 2 * (p : Int) + i) : Array Value).size) rfl
  have hsd : (Tryz.prog.info? 56).map (·.size) = some (didV false 0 (.slice none 0 0) false false false (1 + 2 * (p : Int) + i) : Array Value).size := did_size
  obtain ⟨V, HV⟩ : ∃ V, Hid (V = ((W.alloc (.cells (didV false 0 (.slice none 0 0) false false false 0) 56)).drew.drew).setCells W.heap.size 0 (didV false 0 (.slice none 0 0) false false false (1 + 2 * (p : Int) + i) : Array Value).toList) := ⟨_, rfl⟩
  have HOV : Hid (Only (New W.heap.size fun _ => False) W V) := Lib.hid (by rw [HV.out]; exact Only.sets (S := New W.heap.size fun _ => False) (.inl (Nat.le_refl _)) _ 0 (((Only.refl _ W).alloc _).drew.drew))
  have HVB : Hid (V.heap[W.heap.size]? = some (.cells (didV false 0 (.slice none 0 0) false false false (1 + 2 * (p : Int) + i)) 56 (0, 0))) := Lib.hid (by rw [HV.out]; exact blk_did (X := ((W.alloc (.cells (didV false 0 (.slice none 0 0) false false false 0) 56)).drew.drew)) (show (W.alloc (.cells (didV false 0 (.slice none 0 0) false false false 0) 56)).heap[W.heap.size]? = _ from heap_alloc_new W _) _ rfl)
  obtain ⟨V1, HV1⟩ : ∃ V1, Hid (V1 = V.setCell ⟨W.heap.size, 0, none⟩ (.bool true)) := ⟨_, rfl⟩
  have HV1B : Hid (V1.heap[W.heap.size]? = some (.cells (didV true 0 (.slice none 0 0) false false false (1 + 2 * (p : Int) + i)) 56 (0, 0))) := Lib.hid (by rw [HV1.out]; simp [World.setCell, Array.getElem?_modify, HVB.out])
  obtain ⟨V2, HV2⟩ : ∃ V2, Hid (V2 = V1.setCells W.heap.size 1 (#[.int .i64 1, .slice none 0 0, .bool false, .int .i64 0] : Array Value).toList) := ⟨_, rfl⟩
  have HV2B : Hid (V2.heap[W.heap.size]? = some (.cells (didV true 1 (.slice none 0 0) false false false (1 + 2 * (p : Int) + i)) 56 (0, 0))) := Lib.hid (by rw [HV2.out]; exact blk_sets _ 1 _ _ HV1B.out)
  have hth2 : V1.there W.heap.size 1 (#[.int .i64 1, .slice none 0 0, .bool false, .int .i64 0] : Array Value).size := there_off HV1B.out 1 (by show 1 + 4 ≤ 9; omega)
  have hsa : (Tryz.prog.info? 54).map (·.size) = some (#[.int .i64 1, .slice none 0 0, .bool false, .int .i64 0] : Array Value).size := by kernel_rfl
  have hs9 : (Tryz.prog.info? 56).map (·.size) = some (didV true 1 (.slice none 0 0) false false false (1 + 2 * (p : Int) + i)).size := did_size
  have HO3 : Hid (Only (fun k => k = W.heap.size) V V2) := Lib.hid (by rw [HV2.out, HV1.out]; exact Only.sets (S := fun k => k = W.heap.size) rfl _ 1 (Only.set (S := fun k => k = W.heap.size) (Only.refl _ V) (p := ⟨W.heap.size, 0, none⟩) rfl _))
  have hWV : W.heap.size ≤ V.heap.size := HOV.out.size
  have HOW : Hid (Only (New W.heap.size fun _ => False) W V2) := Lib.hid (HOV.out.trans (HO3.out.mono (fun k _ h => .inl (Nat.le_of_eq h.symm))))
  have hno : ∀ k, k < W.heap.size → ¬ New W.heap.size (fun _ => False) k := fun k hk h => h.elim (fun h => by omega) (fun h => h)
  have HBX := Lib.hid (HWB.out.only HOW.out (hno _ hwW))
  have HMX := Lib.hid (HM.out.only HOW.out (hno _ HM.out.lt.1) (hno _ HM.out.lt.2))
  have HOX : Hid (Only (New w.heap.size fun k => k = wb ∨ k = rb) w V2) := Lib.hid (HO2.out.trans (HOW.out.mono fun k _ h => h.elim (fun h => .inl (by omega)) (fun h => h.elim)))
  have HZX := Lib.hid (HOW.out.at_ HZ.out (hno _ (by omega)))
  have d0 : V.cell? ⟨W.heap.size, 0, none⟩ = some (.bool false) := blk_cell HVB.out rfl
  have g0 : V.frozen? ⟨W.heap.size, 0, none⟩ = false := blk_frozen 0 HVB.out
  have hth := there_at (W := V2) HZX.out (n := (didV true 1 (.slice none 0 0) false false false (1 + 2 * (p : Int) + i) : Array Value).size) rfl
  have hsd2 : (Tryz.prog.info? 56).map (·.size) = some (didV true 1 (.slice none 0 0) false false false (1 + 2 * (p : Int) + i) : Array Value).size := did_size
  clear hno hWV
  clear hk hw hm hO hW hO2 hz hM h0 hsz
  go_enter Tryz.func74, Tryz.ntmps74
  go_wp2_with (first | (rw [← HW.out]) | (go_at_call 78; ((with_reducible refine (HBF.out _ ?_).mono ?_); (first | exact HWB.out | exact HWB.out.drew | exact HWB.out.drew.drew); rintro e w5 ⟨rfl, rfl⟩)) | (go_at_call 47; ((with_reducible refine (HL.out _ _ ?_ ?_).mono ?_); (first | (with_reducible rfl) | omega | exact IntWalk.i64_in _ (by omega) | (rw [IntWalk.i64_in _ (by omega)] <;> omega) | (rw [IntWalk.i64_in (_ + 2) (by omega), IntWalk.i64_in _ (by omega)] <;> omega)); (first | exact HM.out | exact HM.out.drew | exact HM.out.drew.drew | exact HM.out.drew.drew.drew); rintro e w5 ⟨rfl, rfl⟩)))
  refine wp_region_held_drew (S := fun W' => W'.cell? ⟨wb, 11, none⟩ = some (.int .u32 p) ∧ W'.cell? ⟨wb, 12, none⟩ = some (.int .u32 i)) (by kernel_rfl) (⟨c11, c12⟩) (fun hHeld => ?_)
  refine wpAnyH_take (i := 0) rfl (by kernel_rfl) (by kernel_rfl) (by kernel_rfl) (fun _ _ _ h => h) (Or.inl ⟨by rfl, by intro w hSw; (skip); (go_simp <;> with_reducible rfl)⟩) (by assumption) ?_
  (try simp only [Act.put, List.setIfInBounds_toArray, List.set_cons_zero, List.set_cons_succ, List.getElem_toArray, List.getElem_cons_zero, List.getElem_cons_succ])
  refine wpAnyH_take (i := 1) rfl (by kernel_rfl) (by kernel_rfl) (by kernel_rfl) (fun _ _ _ h => h) (Or.inl ⟨by rfl, by intro w hSw; (skip); (go_simp <;> with_reducible rfl)⟩) (by assumption) ?_
  (try simp only [Act.put, List.setIfInBounds_toArray, List.set_cons_zero, List.set_cons_succ, List.getElem_toArray, List.getElem_cons_zero, List.getElem_cons_succ])
  refine wpAnyH_take (i := 2) rfl (by kernel_rfl) (by kernel_rfl) (by kernel_rfl) (fun _ _ _ h => h) (Or.inl ⟨by rfl, by intro w hSw; (skip); (go_simp <;> with_reducible rfl)⟩) (by assumption) ?_
  (try simp only [Act.put, List.setIfInBounds_toArray, List.set_cons_zero, List.set_cons_succ, List.getElem_toArray, List.getElem_cons_zero, List.getElem_cons_succ])
  refine wpAnyH_take (i := 3) rfl (by kernel_rfl) (by kernel_rfl) (by kernel_rfl) (fun _ _ _ h => h) (Or.inl ⟨by rfl, by intro w hSw; (skip); (go_simp <;> with_reducible rfl)⟩) (by assumption) ?_
  (try simp only [Act.put, List.setIfInBounds_toArray, List.set_cons_zero, List.set_cons_succ, List.getElem_toArray, List.getElem_cons_zero, List.getElem_cons_succ])
  refine wpAnyH_take (i := 4) rfl (by kernel_rfl) (by kernel_rfl) (by kernel_rfl) (fun _ _ _ h => h) (Or.inl ⟨by rfl, by intro w hSw; (skip); (go_simp <;> with_reducible rfl)⟩) (by assumption) ?_
  (try simp only [Act.put, List.setIfInBounds_toArray, List.set_cons_zero, List.set_cons_succ, List.getElem_toArray, List.getElem_cons_zero, List.getElem_cons_succ])
  refine wpAnyH_take (i := 5) rfl (by kernel_rfl) (by kernel_rfl) (by kernel_rfl) (fun _ _ _ h => h) (Or.inl ⟨by rfl, by intro w hSw; (skip); (go_simp <;> with_reducible rfl)⟩) (by assumption) ?_
  (try simp only [Act.put, List.setIfInBounds_toArray, List.set_cons_zero, List.set_cons_succ, List.getElem_toArray, List.getElem_cons_zero, List.getElem_cons_succ])
  refine wpAnyH_take (i := 6) rfl (by kernel_rfl) (by kernel_rfl) (by kernel_rfl) (fun _ _ _ h => h) (Or.inl ⟨by rfl, by intro w hSw; (skip); (go_simp <;> with_reducible rfl)⟩) (by assumption) ?_
  (try simp only [Act.put, List.setIfInBounds_toArray, List.set_cons_zero, List.set_cons_succ, List.getElem_toArray, List.getElem_cons_zero, List.getElem_cons_succ])
  refine wpAnyH_take (i := 7) rfl (by kernel_rfl) (by kernel_rfl) (by kernel_rfl) (fun _ _ _ h => h) (Or.inl ⟨by rfl, by intro w hSw; (skip); (go_simp <;> with_reducible rfl)⟩) (by assumption) ?_
  (try simp only [Act.put, List.setIfInBounds_toArray, List.set_cons_zero, List.set_cons_succ, List.getElem_toArray, List.getElem_cons_zero, List.getElem_cons_succ])
  refine wpAnyH_ready (rs := [8, 10]) (by kernel_rfl) (by simp) (AllReadyH.cons rfl (fun K hK => ?_) (AllReadyH.cons rfl (fun K hK => ?_) AllReadyH.nil))
  go_simp
  refine (HNU.out _).mono ?_
  rintro e w5 ⟨rfl, rfl⟩
  refine hK.out _ _ (by exact hHeld) (fun hHeld => ?_)
  clear hK K
  (try simp only [Act.put, List.setIfInBounds_toArray, List.set_cons_zero, List.set_cons_succ, List.getElem_toArray, List.getElem_cons_zero, List.getElem_cons_succ])
  refine wpAnyH_take (i := 9) rfl (by kernel_rfl) (by kernel_rfl) (by kernel_rfl) (fun _ _ _ h => h) (Or.inl ⟨by rfl, by intro w hSw; (skip); (go_simp <;> with_reducible rfl)⟩) (by assumption) ?_
  (try simp only [Act.put, List.setIfInBounds_toArray, List.set_cons_zero, List.set_cons_succ, List.getElem_toArray, List.getElem_cons_zero, List.getElem_cons_succ])
  refine wpAnyH_ready (rs := [10]) (by kernel_rfl) (by simp) (AllReadyH.cons rfl (fun K hK => ?_) AllReadyH.nil)
  go_simp
  refine hK.out _ _ (keep_alloc2 hHeld) (fun hHeld => ?_)
  clear hK K
  (try simp only [Act.put, List.setIfInBounds_toArray, List.set_cons_zero, List.set_cons_succ, List.getElem_toArray, List.getElem_cons_zero, List.getElem_cons_succ])
  refine wpAnyH_ready (rs := [11]) (by kernel_rfl) (by simp) (AllReadyH.cons rfl (fun K hK => ?_) AllReadyH.nil)
  rw [if_pos (by rfl)]
  refine wp_store_mid _ _ _ rfl W.heap.size 0 (didV false 0 (.slice none 0 0) false false false (1 + 2 * (p : Int) + i)) rfl rfl hth1 hsd (by kernel_rfl) ?_
  refine hK.out _ _ (keep_box2 hHeld (by omega)) (fun hHeld => ?_)
  clear hK K
  (try simp only [Act.put, List.setIfInBounds_toArray, List.set_cons_zero, List.set_cons_succ, List.getElem_toArray, List.getElem_cons_zero, List.getElem_cons_succ])
  refine wpAnyH_done (by kernel_rfl) ?_ _
  rotate_left
  go_simp
  refine hK.out _ _ (keep_alloc2 hHeld) (fun hHeld => ?_)
  clear hK K
  (try simp only [Act.put, List.setIfInBounds_toArray, List.set_cons_zero, List.set_cons_succ, List.getElem_toArray, List.getElem_cons_zero, List.getElem_cons_succ])
  refine wpAnyH_ready (rs := [8]) (by kernel_rfl) (by simp) (AllReadyH.cons rfl (fun K hK => ?_) AllReadyH.nil)
  go_simp
  refine (HNU.out _).mono ?_
  rintro e w5 ⟨rfl, rfl⟩
  refine hK.out _ _ (by exact hHeld) (fun hHeld => ?_)
  clear hK K
  (try simp only [Act.put, List.setIfInBounds_toArray, List.set_cons_zero, List.set_cons_succ, List.getElem_toArray, List.getElem_cons_zero, List.getElem_cons_succ])
  refine wpAnyH_take (i := 9) rfl (by kernel_rfl) (by kernel_rfl) (by kernel_rfl) (fun _ _ _ h => h) (Or.inl ⟨by rfl, by intro w hSw; (skip); (go_simp <;> with_reducible rfl)⟩) (by assumption) ?_
  (try simp only [Act.put, List.setIfInBounds_toArray, List.set_cons_zero, List.set_cons_succ, List.getElem_toArray, List.getElem_cons_zero, List.getElem_cons_succ])
  refine wpAnyH_ready (rs := [11]) (by kernel_rfl) (by simp) (AllReadyH.cons rfl (fun K hK => ?_) AllReadyH.nil)
  rw [if_pos (by rfl)]
  refine wp_store_mid _ _ _ rfl W.heap.size 0 (didV false 0 (.slice none 0 0) false false false (1 + 2 * (p : Int) + i)) rfl rfl hth1 hsd (by kernel_rfl) ?_
  refine hK.out _ _ (keep_box2 hHeld (by omega)) (fun hHeld => ?_)
  clear hK K
  (try simp only [Act.put, List.setIfInBounds_toArray, List.set_cons_zero, List.set_cons_succ, List.getElem_toArray, List.getElem_cons_zero, List.getElem_cons_succ])
  refine wpAnyH_done (by kernel_rfl) ?_ _
  all_goals rw [← HV.out]
  all_goals go_wp2_with (first | (rw [← HV1.out]) | (with_reducible refine wpList_store_mid (by kernel_rfl) _ _ _ rfl W.heap.size 1 (#[.int .i64 1, .slice none 0 0, .bool false, .int .i64 0]) (by kernel_rfl) (by kernel_rfl) hth2 hsa (by kernel_rfl) ?_) | (rw [← HV2.out]) | (with_reducible refine wpList_loadW (by kernel_rfl) 56 _ rfl _ (by kernel_rfl) _ _ _ _ HV2B.out Tryz.underlying56 (by kernel_rfl) hs9 ?_) | (with_reducible refine wpList_store_mid (by kernel_rfl) _ _ _ rfl w.heap.size 0 (didV true 1 (.slice none 0 0) false false false (1 + 2 * (p : Int) + i)) (by kernel_rfl) (by kernel_rfl) hth hsd2 (by kernel_rfl) ?_))
  all_goals (have hrg := World.rangeAt_setCells_same (V2) w.heap.size 0 (didV true 1 (.slice none 0 0) false false false (1 + 2 * (p : Int) + i) : Array Value).toList hth; (try simp only [Exit.inBlock, Exit.then]); refine bodyPost_ret (results_cell_tmp rfl _ _ w.heap.size (didV true 1 (.slice none 0 0) false false false (1 + 2 * (p : Int) + i) : Array Value).toList _ rfl hrg Tryz.underlying56 rfl did_size) rfl ?_; exact ⟨rfl, StepR.fin HBX.out HMX.out HOX.out hwl hml.1 hml.2 _⟩)

theorem r_len_b (mb rb wb : Nat) (ws : List Int) (nx : Value) (A : Pl8) (nw per : Int) (p i : Nat) (len st : Int) (now : Int) (w : World) (x : Int) (hw : RBlk w wb nx A nw per p i len st) (hm : MemAt w mb rb ws) (hl : ws.length ≤ 1000000) (hp : p ≤ 1) (hi : i ≤ 1) (ha : A.buf p i < ws.length) (h0 : ws.getD (A.buf p i) 0 = x) (hx : 0 < x ∧ x ≤ 4294967295) (hnw : 0 ≤ nw ∧ nw ≤ 1000) : Calls Tryz.prog 74 #[.pointer (some ⟨wb, 0, none⟩), .pointer (some ⟨mb, 0, none⟩), .int .i64 now] w fun e w' => e = .returned (.tuple #[.agg (didV false 0 (.slice none 0 0) false false false (1 + 2 * (p : Int) + i)), .func (.func 79) #[.pointer (some ⟨wb, 0, none⟩)] #[]]) ∧ StepR w mb rb wb (ws) nx A nw per (p) (i) (if x ≤ nw then x else nw) (st) w' := by
  obtain ⟨W, HW, hsz, hO, hz⟩ := did_new w
  have hwl := hw.lt
  have hml := hm.lt
  have hW := hw.only hO (fun h => h)
  have hM := hm.only hO (fun h => h) (fun h => h)
  have hO2 : Only (New w.heap.size fun k => k = wb ∨ k = rb) w W := hO.mono (fun k _ h => h.elim)
  have c2 : W.cell? ⟨wb, 2, none⟩ = some (.int .i64 A.re) := hW.cell rfl
  have c9 : W.cell? ⟨wb, 9, none⟩ = some (.int .i64 nw) := hW.cell rfl
  have c11 : W.cell? ⟨wb, 11, none⟩ = some (.int .u32 p) := hW.cell rfl
  have c12 : W.cell? ⟨wb, 12, none⟩ = some (.int .u32 i) := hW.cell rfl
  have c13 : W.cell? ⟨wb, 13, none⟩ = some (.int .i64 len) := hW.cell rfl
  have g13 := hW.frozen 13
  have HBF := Lib.hid (fun (W' : World) (h : RBlk W' wb nx A nw per p i len st) => r_buffer_b wb nx A nw per p i len st W' h hp hi)
  have HNU := Lib.hid (fun (W' : World) => number_b p i hp hi W')
  obtain ⟨k, hk⟩ : ∃ k, A.buf p i = k := ⟨_, rfl⟩
  rw [hk] at ha HBF h0
  have HL := Lib.hid (fun (W' : World) (av : Int) (hav : av = ((k : Nat) : Int)) (h : MemAt W' mb rb ws) => (show Calls Tryz.prog 47 #[.pointer (some ⟨mb, 0, none⟩), .int .i64 av] W' fun e w' => e = .returned (.int .u32 (ws.getD (k) 0)) ∧ W' = w' from by subst hav; exact load_b mb rb ws _ W' h hl ha))
  rw [h0] at HL
  obtain ⟨z, hz'⟩ : ∃ z, (if x ≤ nw then x else nw) = z := ⟨_, rfl⟩
  have hmin : ∀ (ts : Array TypeId) (t : TypeId) (w : World), (Builtin.min_ ts t #[.int .u32 x, .int .u32 nw]).run Tryz.prog w = .ok (.int .u32 z) w := fun ts t w => by
    rw [run_min_int2, show (if nw < x then nw else x) = z by rw [← hz']; split <;> split <;> omega]
  have hzz : 0 ≤ z ∧ z ≤ 1000 := by rw [← hz']; split <;> omega
  have hw1 : IntKind.u32.wrap nw = nw := IntWalk.u32_in _ (by omega)
  have hw2 : IntKind.i64.wrap z = z := IntWalk.i64_in _ (by omega)
  rw [hz']
  have HNE := Lib.hid (hw.ne_mem hm); have HWB := Lib.hid hW; have HM := Lib.hid hM; have HO2 := Lib.hid hO2; have HZ := Lib.hid hz
  have hwW : wb < W.heap.size := by omega
  have HSZ := Lib.hid hsz
  have hth1 := there_at (heap_alloc_new W (.cells (didV false 0 (.slice none 0 0) false false false 0) 56)) (n := (didV false 0 (.slice none 0 0) false false false (1 + 2 * (p : Int) + i) : Array Value).size) rfl
  have hsd : (Tryz.prog.info? 56).map (·.size) = some (didV false 0 (.slice none 0 0) false false false (1 + 2 * (p : Int) + i) : Array Value).size := did_size
  obtain ⟨V, HV⟩ : ∃ V, Hid (V = ((W.alloc (.cells (didV false 0 (.slice none 0 0) false false false 0) 56)).drew.drew).setCells W.heap.size 0 (didV false 0 (.slice none 0 0) false false false (1 + 2 * (p : Int) + i) : Array Value).toList) := ⟨_, rfl⟩
  have HOV : Hid (Only (New W.heap.size fun _ => False) W V) := Lib.hid (by rw [HV.out]; exact Only.sets (S := New W.heap.size fun _ => False) (.inl (Nat.le_refl _)) _ 0 (((Only.refl _ W).alloc _).drew.drew))
  have HVB : Hid (V.heap[W.heap.size]? = some (.cells (didV false 0 (.slice none 0 0) false false false (1 + 2 * (p : Int) + i)) 56 (0, 0))) := Lib.hid (by rw [HV.out]; exact blk_did (X := ((W.alloc (.cells (didV false 0 (.slice none 0 0) false false false 0) 56)).drew.drew)) (show (W.alloc (.cells (didV false 0 (.slice none 0 0) false false false 0) 56)).heap[W.heap.size]? = _ from heap_alloc_new W _) _ rfl)
  have hno : ∀ k, k < W.heap.size → ¬ New W.heap.size (fun _ => False) k := fun k hk h => h.elim (fun h => by omega) (fun h => h)
  have HBV := Lib.hid (HWB.out.only HOV.out (hno _ hwW))
  obtain ⟨X, HX⟩ : ∃ X, Hid (X = V.setCell ⟨wb, 13, none⟩ (.int .i64 z)) := ⟨_, rfl⟩
  have HXO : Hid (Only (fun k => k = wb) V X) := Lib.hid (by rw [HX.out]; exact Only.setCell V ⟨wb, 13, none⟩ _)
  have HXB : Hid (X.heap[W.heap.size]? = some (.cells (didV false 0 (.slice none 0 0) false false false (1 + 2 * (p : Int) + i)) 56 (0, 0))) := Lib.hid (HXO.out.at_ HVB.out (by omega))
  have HBX : Hid (RBlk X wb nx A nw per p i z st) := Lib.hid (by rw [HX.out]; exact HBV.out.setLen z)
  have HMX := Lib.hid ((HM.out.only HOV.out (hno _ HM.out.lt.1) (hno _ HM.out.lt.2)).only HXO.out HNE.out.1 HNE.out.2)
  have HOX : Hid (Only (New w.heap.size fun k => k = wb ∨ k = rb) w X) := Lib.hid ((HO2.out.trans (HOV.out.mono fun k _ h => h.elim (fun h => .inl (by omega)) (fun h => h.elim))).trans (HXO.out.mono fun k _ h => .inr (.inl h)))
  have HZX := Lib.hid (HXO.out.at_ (HOV.out.at_ HZ.out (hno _ (by omega))) (by omega))
  have hs9 : (Tryz.prog.info? 56).map (·.size) = some (didV false 0 (.slice none 0 0) false false false (1 + 2 * (p : Int) + i)).size := did_size
  have v9 : V.cell? ⟨wb, 9, none⟩ = some (.int .i64 nw) := HBV.out.cell rfl
  have v13 : V.cell? ⟨wb, 13, none⟩ = some (.int .i64 len) := HBV.out.cell rfl
  have gv13 := HBV.out.frozen 13
  have hth := there_at (W := X) HZX.out (n := (didV false 0 (.slice none 0 0) false false false (1 + 2 * (p : Int) + i) : Array Value).size) rfl
  have hsd2 : (Tryz.prog.info? 56).map (·.size) = some (didV false 0 (.slice none 0 0) false false false (1 + 2 * (p : Int) + i) : Array Value).size := did_size
  have hx0 : (x == 0) = false := by simp; omega
  clear hno hk hw hm hO hW hO2 hz hM h0 hsz hx hzz hz'
  go_enter Tryz.func74, Tryz.ntmps74
  go_wp2_with (first | (rw [← HW.out]) | (go_at_call 78; ((with_reducible refine (HBF.out _ ?_).mono ?_); (first | exact HWB.out | exact HWB.out.drew | exact HWB.out.drew.drew); rintro e w5 ⟨rfl, rfl⟩)) | (go_at_call 47; ((with_reducible refine (HL.out _ _ ?_ ?_).mono ?_); (first | (with_reducible rfl) | omega | exact IntWalk.i64_in _ (by omega) | (rw [IntWalk.i64_in _ (by omega)] <;> omega) | (rw [IntWalk.i64_in (_ + 2) (by omega), IntWalk.i64_in _ (by omega)] <;> omega)); (first | exact HM.out | exact HM.out.drew | exact HM.out.drew.drew | exact HM.out.drew.drew.drew); rintro e w5 ⟨rfl, rfl⟩)))
  refine wp_region_held_drew (S := fun W' => W'.cell? ⟨wb, 11, none⟩ = some (.int .u32 p) ∧ W'.cell? ⟨wb, 12, none⟩ = some (.int .u32 i)) (by kernel_rfl) (⟨c11, c12⟩) (fun hHeld => ?_)
  refine wpAnyH_take (i := 0) rfl (by kernel_rfl) (by kernel_rfl) (by kernel_rfl) (fun _ _ _ h => h) (Or.inl ⟨by rfl, by intro w hSw; (skip); (go_simp <;> with_reducible rfl)⟩) (by assumption) ?_
  (try simp only [Act.put, List.setIfInBounds_toArray, List.set_cons_zero, List.set_cons_succ, List.getElem_toArray, List.getElem_cons_zero, List.getElem_cons_succ])
  refine wpAnyH_take (i := 1) rfl (by kernel_rfl) (by kernel_rfl) (by kernel_rfl) (fun _ _ _ h => h) (Or.inl ⟨by rfl, by intro w hSw; (skip); (go_simp <;> with_reducible rfl)⟩) (by assumption) ?_
  (try simp only [Act.put, List.setIfInBounds_toArray, List.set_cons_zero, List.set_cons_succ, List.getElem_toArray, List.getElem_cons_zero, List.getElem_cons_succ])
  refine wpAnyH_take (i := 2) rfl (by kernel_rfl) (by kernel_rfl) (by kernel_rfl) (fun _ _ _ h => h) (Or.inl ⟨by rfl, by intro w hSw; (skip); (go_simp <;> with_reducible rfl)⟩) (by assumption) ?_
  (try simp only [Act.put, List.setIfInBounds_toArray, List.set_cons_zero, List.set_cons_succ, List.getElem_toArray, List.getElem_cons_zero, List.getElem_cons_succ])
  refine wpAnyH_take (i := 3) rfl (by kernel_rfl) (by kernel_rfl) (by kernel_rfl) (fun _ _ _ h => h) (Or.inl ⟨by rfl, by intro w hSw; (skip); (go_simp <;> with_reducible rfl)⟩) (by assumption) ?_
  (try simp only [Act.put, List.setIfInBounds_toArray, List.set_cons_zero, List.set_cons_succ, List.getElem_toArray, List.getElem_cons_zero, List.getElem_cons_succ])
  refine wpAnyH_take (i := 4) rfl (by kernel_rfl) (by kernel_rfl) (by kernel_rfl) (fun _ _ _ h => h) (Or.inl ⟨by rfl, by intro w hSw; (skip); (go_simp <;> with_reducible rfl)⟩) (by assumption) ?_
  (try simp only [Act.put, List.setIfInBounds_toArray, List.set_cons_zero, List.set_cons_succ, List.getElem_toArray, List.getElem_cons_zero, List.getElem_cons_succ])
  refine wpAnyH_take (i := 5) rfl (by kernel_rfl) (by kernel_rfl) (by kernel_rfl) (fun _ _ _ h => h) (Or.inl ⟨by rfl, by intro w hSw; (skip); (go_simp <;> with_reducible rfl)⟩) (by assumption) ?_
  (try simp only [Act.put, List.setIfInBounds_toArray, List.set_cons_zero, List.set_cons_succ, List.getElem_toArray, List.getElem_cons_zero, List.getElem_cons_succ])
  refine wpAnyH_take (i := 6) rfl (by kernel_rfl) (by kernel_rfl) (by kernel_rfl) (fun _ _ _ h => h) (Or.inl ⟨by rfl, by intro w hSw; (skip); (go_simp <;> with_reducible rfl)⟩) (by assumption) ?_
  (try simp only [Act.put, List.setIfInBounds_toArray, List.set_cons_zero, List.set_cons_succ, List.getElem_toArray, List.getElem_cons_zero, List.getElem_cons_succ])
  refine wpAnyH_take (i := 7) rfl (by kernel_rfl) (by kernel_rfl) (by kernel_rfl) (fun _ _ _ h => h) (Or.inl ⟨by rfl, by intro w hSw; (skip); (go_simp <;> with_reducible rfl)⟩) (by assumption) ?_
  (try simp only [Act.put, List.setIfInBounds_toArray, List.set_cons_zero, List.set_cons_succ, List.getElem_toArray, List.getElem_cons_zero, List.getElem_cons_succ])
  refine wpAnyH_ready (rs := [8, 10]) (by kernel_rfl) (by simp) (AllReadyH.cons rfl (fun K hK => ?_) (AllReadyH.cons rfl (fun K hK => ?_) AllReadyH.nil))
  go_simp
  refine (HNU.out _).mono ?_
  rintro e w5 ⟨rfl, rfl⟩
  refine hK.out _ _ (by exact hHeld) (fun hHeld => ?_)
  clear hK K
  (try simp only [Act.put, List.setIfInBounds_toArray, List.set_cons_zero, List.set_cons_succ, List.getElem_toArray, List.getElem_cons_zero, List.getElem_cons_succ])
  refine wpAnyH_take (i := 9) rfl (by kernel_rfl) (by kernel_rfl) (by kernel_rfl) (fun _ _ _ h => h) (Or.inl ⟨by rfl, by intro w hSw; (skip); (go_simp <;> with_reducible rfl)⟩) (by assumption) ?_
  (try simp only [Act.put, List.setIfInBounds_toArray, List.set_cons_zero, List.set_cons_succ, List.getElem_toArray, List.getElem_cons_zero, List.getElem_cons_succ])
  refine wpAnyH_ready (rs := [10]) (by kernel_rfl) (by simp) (AllReadyH.cons rfl (fun K hK => ?_) AllReadyH.nil)
  go_simp
  refine hK.out _ _ (keep_alloc2 hHeld) (fun hHeld => ?_)
  clear hK K
  (try simp only [Act.put, List.setIfInBounds_toArray, List.set_cons_zero, List.set_cons_succ, List.getElem_toArray, List.getElem_cons_zero, List.getElem_cons_succ])
  refine wpAnyH_ready (rs := [11]) (by kernel_rfl) (by simp) (AllReadyH.cons rfl (fun K hK => ?_) AllReadyH.nil)
  rw [if_pos (by rfl)]
  refine wp_store_mid _ _ _ rfl W.heap.size 0 (didV false 0 (.slice none 0 0) false false false (1 + 2 * (p : Int) + i)) rfl rfl hth1 hsd (by kernel_rfl) ?_
  refine hK.out _ _ (keep_box2 hHeld (by omega)) (fun hHeld => ?_)
  clear hK K
  (try simp only [Act.put, List.setIfInBounds_toArray, List.set_cons_zero, List.set_cons_succ, List.getElem_toArray, List.getElem_cons_zero, List.getElem_cons_succ])
  refine wpAnyH_done (by kernel_rfl) ?_ _
  rotate_left
  go_simp
  refine hK.out _ _ (keep_alloc2 hHeld) (fun hHeld => ?_)
  clear hK K
  (try simp only [Act.put, List.setIfInBounds_toArray, List.set_cons_zero, List.set_cons_succ, List.getElem_toArray, List.getElem_cons_zero, List.getElem_cons_succ])
  refine wpAnyH_ready (rs := [8]) (by kernel_rfl) (by simp) (AllReadyH.cons rfl (fun K hK => ?_) AllReadyH.nil)
  go_simp
  refine (HNU.out _).mono ?_
  rintro e w5 ⟨rfl, rfl⟩
  refine hK.out _ _ (by exact hHeld) (fun hHeld => ?_)
  clear hK K
  (try simp only [Act.put, List.setIfInBounds_toArray, List.set_cons_zero, List.set_cons_succ, List.getElem_toArray, List.getElem_cons_zero, List.getElem_cons_succ])
  refine wpAnyH_take (i := 9) rfl (by kernel_rfl) (by kernel_rfl) (by kernel_rfl) (fun _ _ _ h => h) (Or.inl ⟨by rfl, by intro w hSw; (skip); (go_simp <;> with_reducible rfl)⟩) (by assumption) ?_
  (try simp only [Act.put, List.setIfInBounds_toArray, List.set_cons_zero, List.set_cons_succ, List.getElem_toArray, List.getElem_cons_zero, List.getElem_cons_succ])
  refine wpAnyH_ready (rs := [11]) (by kernel_rfl) (by simp) (AllReadyH.cons rfl (fun K hK => ?_) AllReadyH.nil)
  rw [if_pos (by rfl)]
  refine wp_store_mid _ _ _ rfl W.heap.size 0 (didV false 0 (.slice none 0 0) false false false (1 + 2 * (p : Int) + i)) rfl rfl hth1 hsd (by kernel_rfl) ?_
  refine hK.out _ _ (keep_box2 hHeld (by omega)) (fun hHeld => ?_)
  clear hK K
  (try simp only [Act.put, List.setIfInBounds_toArray, List.set_cons_zero, List.set_cons_succ, List.getElem_toArray, List.getElem_cons_zero, List.getElem_cons_succ])
  refine wpAnyH_done (by kernel_rfl) ?_ _
  all_goals rw [← HV.out]
  all_goals go_wp2_with (first | (rw [← HX.out]) | (with_reducible refine wpList_loadW (by kernel_rfl) 56 _ rfl _ (by kernel_rfl) _ _ _ _ HXB.out Tryz.underlying56 (by kernel_rfl) hs9 ?_) | (with_reducible refine wpList_store_mid (by kernel_rfl) _ _ _ rfl w.heap.size 0 (didV false 0 (.slice none 0 0) false false false (1 + 2 * (p : Int) + i)) (by kernel_rfl) (by kernel_rfl) hth hsd2 (by kernel_rfl) ?_))
  all_goals (have hrg := World.rangeAt_setCells_same (X) w.heap.size 0 (didV false 0 (.slice none 0 0) false false false (1 + 2 * (p : Int) + i) : Array Value).toList hth; (try simp only [Exit.inBlock, Exit.then]); refine bodyPost_ret (results_cell_tmp rfl _ _ w.heap.size (didV false 0 (.slice none 0 0) false false false (1 + 2 * (p : Int) + i) : Array Value).toList _ rfl hrg Tryz.underlying56 rfl did_size) rfl ?_; exact ⟨rfl, StepR.fin HBX.out HMX.out HOX.out hwl hml.1 hml.2 _⟩)
end Go.Proofs.YtocdidkfnbkkhaaGreat

namespace Go.Proofs.YtocdidkfnbkkhaaGreat
open Go.RowKit Go.Sort
set_option linter.unusedVariables false
set_option linter.unusedSimpArgs false
set_option linter.unusedVariables false
set_option linter.unusedSimpArgs false

open Go.Proofs.YtocdidkfnbkkhaaGreat.Simp (oddN oddN_le)
set_option maxRecDepth 100000
set_option maxHeartbeats 3200000
/-- The world behind the making of a step that loads a word; v: what was loaded. -/
def wordR (w : World) (wb : Nat) (v : Value) : World := (w.alloc (.cells #[.pointer (some ⟨wb, 0, none⟩)] 48)).alloc (.cells #[v] 30)
theorem r_word_b (wb : Nat) (a : Option Addr) (n c : Nat) (w : World) : Calls Tryz.prog 84 #[.pointer (some ⟨wb, 0, none⟩), .slice a n c] w fun e w' => e = .returned (.func (.func 88) #[] #[.pointer (some ⟨w.heap.size + 1, 0, none⟩), .pointer (some ⟨w.heap.size, 0, none⟩)]) ∧ w' = wordR w wb (.slice a n c) := by
  unfold wordR
  go_enter Tryz.func84, Tryz.ntmps84
  go_wp2
  go_ret
  exact ⟨rfl, rfl⟩
def NextR (w w' : World) (wb : Nat) (v nx : Value) : Prop := ∃ bl br, nx = .func (.func 88) #[] #[.pointer (some ⟨bl, 0, none⟩), .pointer (some ⟨br, 0, none⟩)] ∧ w.heap.size ≤ bl ∧ w.heap.size ≤ br ∧ w'.heap[br]? = some (.cells #[.pointer (some ⟨wb, 0, none⟩)] 48 (0, 0)) ∧ w'.heap[bl]? = some (.cells #[v] 30 (0, 0))
theorem wordR_only (w : World) (wb : Nat) (v : Value) : Only (fun _ => False) w (wordR w wb v) := ((Only.refl _ w).alloc _).alloc _
theorem wordR_box (w : World) (wb : Nat) (v : Value) : (wordR w wb v).heap[w.heap.size]? = some (.cells #[.pointer (some ⟨wb, 0, none⟩)] 48 (0, 0)) ∧ (wordR w wb v).heap[w.heap.size + 1]? = some (.cells #[v] 30 (0, 0)) := by
  refine ⟨?_, ?_⟩
  · show ((w.alloc (.cells #[.pointer (some ⟨wb, 0, none⟩)] 48)).alloc (.cells #[v] 30)).heap[w.heap.size]? = _
    rw [Below.heap_alloc _ _ _ (by simp)]; exact heap_alloc_new w _
  · have := heap_alloc_new (w.alloc (.cells #[.pointer (some ⟨wb, 0, none⟩)] 48)) (.cells #[v] 30)
    rw [World.size_alloc] at this
    exact this
theorem NextR.of {w W w' : World} {wb : Nat} {v : Value} (hs : w.heap.size < W.heap.size) (h : Only (fun k => k = w.heap.size) (wordR W wb v) w') :
    NextR w w' wb v (.func (.func 88) #[] #[.pointer (some ⟨W.heap.size + 1, 0, none⟩), .pointer (some ⟨W.heap.size, 0, none⟩)]) :=
  ⟨_, _, rfl, by omega, by omega, h.at_ (wordR_box W wb v).1 (by omega), h.at_ (wordR_box W wb v).2 (by omega)⟩
theorem r_stamp_b (mb rb wb : Nat) (ws : List Int) (nx : Value) (A : Pl8) (nw per : Int) (p i : Nat) (len st : Int) (now : Int) (w : World) (x : Int) (hw : RBlk w wb nx A nw per p i len st) (hm : MemAt w mb rb ws) (hl : ws.length ≤ 1000000) (hp : p ≤ 1) (hi : i ≤ 1) (ha : A.buf p i + 1 < ws.length) (h0 : ws.getD (A.buf p i + 1) 0 = x) : Calls Tryz.prog 79 #[.pointer (some ⟨wb, 0, none⟩), .pointer (some ⟨mb, 0, none⟩), .int .i64 now] w fun e w' => ∃ nx', e = .returned (.tuple #[.agg (didV false 0 (.slice none 0 0) false false false 0), nx']) ∧ NextR w w' wb (.slice none 0 0) nx' ∧ StepR w mb rb wb (ws) nx A nw per p i len (x) w' := by
  obtain ⟨W, HW, hsz, hO, hz⟩ := did_new w
  have hwl := hw.lt
  have hml := hm.lt
  have hW := hw.only hO (fun h => h)
  have hM := hm.only hO (fun h => h) (fun h => h)
  have hO2 : Only (New w.heap.size fun k => k = wb ∨ k = rb) w W := hO.mono (fun k _ h => h.elim)
  have c14 : W.cell? ⟨wb, 14, none⟩ = some (.int .u32 st) := hW.cell rfl
  have g14 := hW.frozen 14
  have HBF := Lib.hid (fun (W' : World) (h : RBlk W' wb nx A nw per p i len st) => r_buffer_b wb nx A nw per p i len st W' h hp hi)
  obtain ⟨k, hk⟩ : ∃ k, A.buf p i = k := ⟨_, rfl⟩
  rw [hk] at ha HBF h0
  have HL := Lib.hid (fun (W' : World) (av : Int) (hav : av = ((k + 1 : Nat) : Int)) (h : MemAt W' mb rb ws) => (show Calls Tryz.prog 47 #[.pointer (some ⟨mb, 0, none⟩), .int .i64 av] W' fun e w' => e = .returned (.int .u32 (ws.getD (k + 1) 0)) ∧ W' = w' from by subst hav; exact load_b mb rb ws _ W' h hl ha))
  rw [h0] at HL
  have HNE := Lib.hid (hw.ne_mem hm); have HWB := Lib.hid hW; have HM := Lib.hid hM; have HO2 := Lib.hid hO2; have HZ := Lib.hid hz
  clear hk hw hm hO hW hO2 hz hM h0
  obtain ⟨X, HX⟩ : ∃ X, Hid (X = (W.setCell ⟨wb, 14, none⟩ (.int .u32 x)).drew) := ⟨_, rfl⟩
  have HZX : Hid (X.heap[w.heap.size]? = some (.cells (didV false 0 (.slice none 0 0) false false false 0) 56 (0, 0))) := Lib.hid (by rw [HX.out]; exact (Below.heap_setCell _ _ _ _ (by show w.heap.size ≠ wb; omega)).trans HZ.out)
  have HBX := Lib.hid ((HWB.out.setStamp x).drew)
  have HOX : Hid (Only (New w.heap.size fun k => k = wb ∨ k = rb) w X) := Lib.hid (by rw [HX.out]; exact (HO2.out.set (p := ⟨wb, 14, none⟩) (.inr (.inl rfl)) _).drew)
  have HMX : Hid (MemAt X mb rb ws) := Lib.hid (by rw [HX.out]; exact (HM.out.only (Only.setCell W ⟨wb, 14, none⟩ _) HNE.out.1 HNE.out.2).drew)
  rw [← HX.out] at HBX
  have hXs : W.heap.size ≤ X.heap.size := by rw [HX.out]; exact Nat.le_of_eq (by simp [World.setCell])
  obtain ⟨Y, HY⟩ : ∃ Y, Hid (Y = wordR X wb (.slice none 0 0)) := ⟨_, rfl⟩
  have HOY := Lib.hid (wordR_only X wb (.slice none 0 0))
  rw [← HY.out] at HOY
  have HZX := Lib.hid (HOY.out.at_ HZX.out (fun h => h))
  have hth := there_at (W := Y) HZX.out (n := (didV false 0 (.slice none 0 0) false false false 0 : Array Value).size) rfl
  have hsd : (Tryz.prog.info? 56).map (·.size) = some (didV false 0 (.slice none 0 0) false false false 0 : Array Value).size := did_size
  go_enter Tryz.func79, Tryz.ntmps79
  go_wp2_with (first | (rw [← HW.out]) | (go_at_call 78; ((with_reducible refine (HBF.out _ ?_).mono ?_); (first | exact HWB.out | exact HWB.out.drew | exact HWB.out.drew.drew); rintro e w5 ⟨rfl, rfl⟩)) | (go_at_call 47; ((with_reducible refine (HL.out _ _ ?_ ?_).mono ?_); (first | (with_reducible rfl) | omega | exact IntWalk.i64_in _ (by omega) | (rw [IntWalk.i64_in _ (by omega)] <;> omega) | (rw [IntWalk.i64_in (_ + 2) (by omega), IntWalk.i64_in _ (by omega)] <;> omega)); (first | exact HM.out | exact HM.out.drew | exact HM.out.drew.drew | exact HM.out.drew.drew.drew); rintro e w5 ⟨rfl, rfl⟩)) | (rw [← HX.out]) | (go_at_call 84; ((with_reducible refine (r_word_b wb _ _ _ _).mono ?_); rintro e w5 ⟨rfl, rfl⟩)) | (rw [← HY.out]) | (with_reducible refine wpList_store_mid (by kernel_rfl) _ _ _ rfl w.heap.size 0 (didV false 0 (.slice none 0 0) false false false 0) (by kernel_rfl) (by kernel_rfl) hth hsd (by kernel_rfl) ?_))
  have hrg := World.rangeAt_setCells_same (Y) w.heap.size 0 (didV false 0 (.slice none 0 0) false false false 0 : Array Value).toList hth
  (try simp only [Exit.inBlock, Exit.then])
  refine bodyPost_ret (results_cell_tmp rfl _ _ w.heap.size (didV false 0 (.slice none 0 0) false false false 0 : Array Value).toList _ rfl hrg Tryz.underlying56 rfl did_size) rfl ?_
  exact ⟨_, rfl, NextR.of (W := X) (by omega) (by rw [← HY.out]; exact Only.sets (S := fun k => k = w.heap.size) rfl _ 0 (Only.refl _ _)), StepR.fin (HBX.out.only HOY.out (fun h => h)) (HMX.out.only HOY.out (fun h => h) (fun h => h)) (HOX.out.trans (HOY.out.mono (fun _ _ h => h.elim))) hwl hml.1 hml.2 _⟩

theorem alloc_keeps {X : World} {b d i j : Nat} {u v : Value} {o : Obj} (h : X.cell? ⟨b, i, none⟩ = some u ∧ X.cell? ⟨d, j, none⟩ = some v) : (X.alloc o).cell? ⟨b, i, none⟩ = some u ∧ (X.alloc o).cell? ⟨d, j, none⟩ = some v := by
  have h1 := h.1; have h2 := h.2
  have e1 := Below.heap_alloc X o b (World.block_lt_of_cell? X ⟨b, i, none⟩ h.1)
  have e2 := Below.heap_alloc X o d (World.block_lt_of_cell? X ⟨d, j, none⟩ h.2)
  unfold World.cell? at h1 h2 ⊢
  rw [e1, e2]; exact ⟨h1, h2⟩
theorem grown_keeps {X Y : World} {b d i j : Nat} {u v : Value} {r : Option Nat} (h : X.cell? ⟨b, i, none⟩ = some u ∧ X.cell? ⟨d, j, none⟩ = some v) (hg : X.grownBy Y r) (n1 : r ≠ some b) (n2 : r ≠ some d) : Y.cell? ⟨b, i, none⟩ = some u ∧ Y.cell? ⟨d, j, none⟩ = some v := by
  have h1 := h.1; have h2 := h.2
  have e1 := hg.block b (World.block_lt_of_cell? X ⟨b, i, none⟩ h.1) (fun e => n1 e.symm)
  have e2 := hg.block d (World.block_lt_of_cell? X ⟨d, j, none⟩ h.2) (fun e => n2 e.symm)
  unfold World.cell? at h1 h2 ⊢
  rw [e1, e2]; exact ⟨h1, h2⟩
/-- What a step that loads a word leaves: nothing else has turned but what was loaded. -/
structure StepL (w : World) (mb rb wb : Nat) (ws : List Int) (nx : Value) (A : Pl8) (nw per : Int) (p i : Nat) (len st : Int) (v v' : Value) (xs : List Int) (w' : World) : Prop where
  blk : RBlk w' wb nx A nw per p i len st
  mem : MemAt w' mb rb ws
  only : Only (fun k => some k = v.ownBlock) w w'
  own : OwnsOff w' 0 34 1 v' xs.length (wcells (xs))
  new : ∀ g, v'.ownBlock = some g → v.ownBlock = some g ∨ w.heap.size ≤ g
def GivesL (mb rb wb : Nat) (ws : List Int) (nx : Value) (A : Pl8) (nw per : Int) (p i : Nat) (len st : Int) (now : Int) (w : World) (v : Value) (ys : List Int) (more : Bool) (e : Ending) (w' : World) : Prop :=
  ∃ v' nx', e = .returned (.tuple #[.agg (if more then didV false 0 (.slice none 0 0) false false false 0 else didV true 0 v' (decide (now - st ≤ per)) false false 0), nx'])
      ∧ (more = true → NextR w w' wb v' nx') ∧ (more = false → nx' = .nilFunc) ∧ StepL w mb rb wb ws nx A nw per p i len st v v' ys w'
theorem r_word1_b (mb rb wb : Nat) (ws : List Int) (nx : Value) (A : Pl8) (nw per : Int) (p i : Nat) (len st : Int) (now : Int) (w : World) (a : Option Addr) (c : Nat) (xs : List Int) (bl br : Nat) (x : Int) (more : Bool) (hw : RBlk w wb nx A nw per p i len st) (hm : MemAt w mb rb ws) (hl : ws.length ≤ 1000000) (hp : p ≤ 1) (hi : i ≤ 1) (ha : A.buf p i + 2 + xs.length < ws.length) (h0 : ws.getD (A.buf p i + 2 + xs.length) 0 = x)
    (hbr : w.heap[br]? = some (.cells #[.pointer (some ⟨wb, 0, none⟩)] 48 (0, 0))) (hbl : w.heap[bl]? = some (.cells #[(.slice a xs.length c)] 30 (0, 0))) (hown : OwnsOff w 0 34 1 (.slice a xs.length c) xs.length (wcells (xs))) (hvr : Value.ownBlock (.slice a xs.length c) ≠ some rb) (hmore : decide ((xs.length : Int) + 1 < len) = more)
    (hst : 0 ≤ st ∧ st ≤ 4294967295) (hnow : 0 ≤ now ∧ now ≤ 1000000000000) : Calls Tryz.prog 88 #[.pointer (some ⟨mb, 0, none⟩), .int .i64 now, .pointer (some ⟨bl, 0, none⟩), .pointer (some ⟨br, 0, none⟩)] w fun e w' => GivesL mb rb wb ws nx A nw per p i len st now w (.slice a xs.length c) (xs ++ [x]) more e w' := by
  obtain ⟨i0, hi0, hz0, hz1, hz2⟩ := info_parts Tryz.infoW
  obtain ⟨W, HW, hsz, hO, hz⟩ := did_new w
  have hwl := hw.lt
  have hml := hm.lt
  have hW := hw.only hO (fun h => h)
  have hM := hm.only hO (fun h => h) (fun h => h)
  have hO2 : Only (New w.heap.size fun k => k = wb ∨ k = rb) w W := hO.mono (fun k _ h => h.elim)

  have HVN := Lib.hid (show Value.ownBlock (.slice a xs.length c) ≠ some bl ∧ Value.ownBlock (.slice a xs.length c) ≠ some br from ⟨fun e => by obtain ⟨cs, hc⟩ := hown.typed _ e; have := hc.symm.trans hbl; simp at this, fun e => by obtain ⟨cs, hc⟩ := hown.typed _ e; have := hc.symm.trans hbr; simp at this⟩)
  have HVM := Lib.hid (show Value.ownBlock (.slice a xs.length c) ≠ some wb ∧ Value.ownBlock (.slice a xs.length c) ≠ some mb from ⟨fun e => by obtain ⟨cs, hc⟩ := hown.typed _ e; have := hc.symm.trans hw; simp at this, fun e => by obtain ⟨cs, hc⟩ := hown.typed _ e; have := hc.symm.trans hm.head; simp at this⟩)
  have HVR := Lib.hid hvr
  have HOWN := Lib.hid (hown.kept hO (fun _ _ h => h))
  have HVL := Lib.hid (show ∀ g, Value.ownBlock (.slice a xs.length c) = some g → g < w.heap.size from fun g hg => (hown.lt g hg).2)
  have HBL := Lib.hid (hO.at_ hbl (fun h => h)); have HBR := Lib.hid (hO.at_ hbr (fun h => h))
  have b0 : W.cell? ⟨bl, 0, none⟩ = some (.slice a xs.length c) := blk_cell HBL.out rfl
  have r0 : W.cell? ⟨br, 0, none⟩ = some (.pointer (some ⟨wb, 0, none⟩)) := blk_cell HBR.out rfl
  have HBF := Lib.hid (fun (W' : World) (h : RBlk W' wb nx A nw per p i len st) => r_buffer_b wb nx A nw per p i len st W' h hp hi)
  obtain ⟨k, hk⟩ : ∃ k, A.buf p i = k := ⟨_, rfl⟩
  rw [hk] at ha HBF h0
  have HL := Lib.hid (fun (W' : World) (av : Int) (hav : av = ((k + 2 + xs.length : Nat) : Int)) (h : MemAt W' mb rb ws) => (show Calls Tryz.prog 47 #[.pointer (some ⟨mb, 0, none⟩), .int .i64 av] W' fun e w' => e = .returned (.int .u32 (ws.getD (k + 2 + xs.length) 0)) ∧ W' = w' from by subst hav; exact load_b mb rb ws _ W' h hl ha))
  rw [h0] at HL
  have HNE := Lib.hid (hw.ne_mem hm); have HWB := Lib.hid hW; have HM := Lib.hid hM; have HO2 := Lib.hid hO2; have HZ := Lib.hid hz
  have HMORE := Lib.hid hmore
  have HOW0 := Lib.hid hO
  have HSZ := Lib.hid hsz
  clear hsz hk hw hm hO hW hO2 hz hM h0 hown hvr hbl hbr hmore
  go_enter Tryz.func88, Tryz.ntmps88
  go_wp2_with (rw [← HW.out])
  go_region_held3 (fun W' => W'.cell? ⟨bl, 0, none⟩ = some ((.slice a xs.length c)) ∧ W'.cell? ⟨br, 0, none⟩ = some (.pointer (some ⟨wb, 0, none⟩))) ((first | exact ⟨b0, r0⟩ | exact alloc_keeps ⟨b0, r0⟩ | exact grown_keeps (X := (W.alloc (.cells #[.int .u32 x] 34)).drew.drew) (alloc_keeps ⟨b0, r0⟩) hgrow HVN.out.1 HVN.out.2)) ((first | (go_at_call 78; ((with_reducible refine (HBF.out _ ?_).mono ?_); (first | exact HWB.out | exact HWB.out.drew | exact HWB.out.drew.drew); rintro e w5 ⟨rfl, rfl⟩)) | (go_at_call 47; ((with_reducible refine (HL.out _ _ ?_ ?_).mono ?_); (first | (with_reducible rfl) | omega | exact IntWalk.i64_in _ (by omega) | (rw [IntWalk.i64_in _ (by omega)] <;> omega) | (rw [IntWalk.i64_in (_ + 2) (by omega), IntWalk.i64_in _ (by omega)] <;> omega)); (first | exact HM.out | exact HM.out.drew | exact HM.out.drew.drew | exact HM.out.drew.drew.drew); rintro e w5 ⟨rfl, rfl⟩)) | (refine step_append_off rfl _ _ 30 rfl 0 34 i0 (.int .u32 0) 1 4 Tryz.underlying30 hi0 hz0 hz1 hz2 rfl (by decide) _ _ _ rfl (HOWN.out.keptB ((Below.refl _ _).alloc (Nat.le_refl _) _).drew.drew) _ 1 1 [.int .u32 x] rfl rfl (news_block (w := (W.alloc (.cells #[.int .u32 x] 34)).drew.drew) (B := W.heap.size) (cs := #[.int .u32 x]) (show (W.alloc (.cells #[.int .u32 x] 34)).heap[W.heap.size]? = _ from heap_alloc_new W _)) (by simp [Value.oneCell']) (by unfold maxLen; omega) (by omega) (Nat.zero_le _) ?_; intro v' w2 hown' hgrow hnew)))
  rename_i hlast
  have hgrow : (W.alloc (.cells #[.int .u32 x] 34)).drew.drew.grownBy w2 (Value.ownBlock (.slice a xs.length c)) := hgrow
  have hnew : ∀ g, v'.ownBlock = some g → Value.ownBlock (.slice a xs.length c) = some g ∨ (W.alloc (.cells #[.int .u32 x] 34)).drew.drew.heap.size ≤ g := hnew
  have hW2 : Only (New W.heap.size fun k => some k = Value.ownBlock (.slice a xs.length c)) W w2 := (((Only.refl _ W).alloc _).drew.drew).trans ((Only.of_grown hgrow).mono fun k _ h => .inr h)
  have hno : ∀ k, k < W.heap.size → Value.ownBlock (.slice a xs.length c) ≠ some k → ¬ New W.heap.size (fun k => some k = Value.ownBlock (.slice a xs.length c)) k := fun k hk hv h => h.elim (fun h => by omega) (fun h => hv h.symm)
  have hWs := HSZ.out
  have HB2 := Lib.hid (HWB.out.only hW2 (hno _ (by omega) HVM.out.1))
  have HM2 := Lib.hid (HM.out.only hW2 (hno _ (by omega) HVM.out.2) (hno _ (by omega) HVR.out))
  have HZX := Lib.hid (hW2.at_ HZ.out (hno _ (by omega) (fun e => by have := HVL.out _ e; omega)))
  have HBR2 := Lib.hid (hW2.at_ HBR.out (hno _ (Array.getElem?_eq_some_iff.1 HBR.out).1 HVN.out.2))
  have HOX : Hid (Only (New w.heap.size fun k => some k = Value.ownBlock (.slice a xs.length c)) w w2) := Lib.hid ((HOW0.out.mono fun _ _ h => h.elim).trans (hW2.mono fun k _ h => h.elim (fun h => .inl (by omega)) .inr))
  have HOWN2 : Hid (OwnsOff w2 0 34 1 v' (xs ++ [x]).length (wcells (xs ++ [x]))) := Lib.hid (by rw [List.length_append, show wcells (xs ++ [x]) = wcells xs ++ [.int .u32 x] by simp [wcells]]; exact hown')
  have HNEW : Hid (∀ g, v'.ownBlock = some g → Value.ownBlock (.slice a xs.length c) = some g ∨ w.heap.size < g) := Lib.hid (fun g hg => (hnew g hg).imp id (fun h => by have h : (W.alloc (.cells #[.int .u32 x] 34)).heap.size ≤ g := h; rw [World.size_alloc] at h; omega))
  have HGT := Lib.hid hW2.size
  obtain ⟨a', c', rfl, _⟩ := hown'.slice
  clear hlast hgrow hnew hW2 hno hown' b0 r0
  have r0 : w2.cell? ⟨br, 0, none⟩ = some (.pointer (some ⟨wb, 0, none⟩)) := blk_cell HBR2.out rfl
  have e13 : w2.cell? ⟨wb, 13, none⟩ = some (.int .i64 len) := HB2.out.cell rfl
  have dm : decide ((xs.length : Int) + 1 < len) = more := HMORE.out
  cases more with
  | true =>
    have dm1 : (xs.length : Int) + 1 < len := of_decide_eq_true dm
    obtain ⟨Y, HY⟩ : ∃ Y, Hid (Y = wordR w2 wb (.slice a' (xs.length + 1) c')) := ⟨_, rfl⟩
    have HOY := Lib.hid (wordR_only w2 wb (.slice a' (xs.length + 1) c'))
    rw [← HY.out] at HOY
    have HZX := Lib.hid (HOY.out.at_ HZX.out (fun h => h))
    have HOS := Lib.hid (Only.sets (S := fun k => k = w.heap.size) rfl (didV false 0 (.slice none 0 0) false false false 0 : Array Value).toList 0 (Only.refl _ Y))
    clear hWs
    have hth := there_at (W := Y) HZX.out (n := (didV false 0 (.slice none 0 0) false false false 0 : Array Value).size) rfl
    have hsd : (Tryz.prog.info? 56).map (·.size) = some (didV false 0 (.slice none 0 0) false false false 0 : Array Value).size := did_size
    go_wp2_with (first | (go_at_call 84; ((with_reducible refine (r_word_b wb _ _ _ _).mono ?_); rintro e w5 ⟨rfl, rfl⟩)) | (rw [← HY.out]) | (with_reducible refine wpList_store_mid (by kernel_rfl) _ _ _ rfl w.heap.size 0 (didV false 0 (.slice none 0 0) false false false 0) (by kernel_rfl) (by kernel_rfl) hth hsd (by kernel_rfl) ?_))
    have hrg := World.rangeAt_setCells_same Y w.heap.size 0 (didV false 0 (.slice none 0 0) false false false 0 : Array Value).toList hth
    (try simp only [Exit.inBlock, Exit.then])
    refine bodyPost_ret (results_cell_tmp rfl _ _ w.heap.size (didV false 0 (.slice none 0 0) false false false 0 : Array Value).toList _ rfl hrg Tryz.underlying56 rfl did_size) rfl ?_
    exact ⟨.slice a' (xs.length + 1) c', _, rfl, fun _ => NextR.of (W := w2) (by have := HGT.out; have := HSZ.out; omega) (by rw [← HY.out]; exact HOS.out), (fun h => by cases h),
      ⟨(HB2.out.only HOY.out (fun h => h)).only HOS.out (by omega), (HM2.out.only HOY.out (fun h => h) (fun h => h)).only HOS.out (by omega) (by omega), ((HOX.out.trans (HOY.out.mono fun _ _ h => h.elim)).trans (HOS.out.mono fun k _ h => .inl (by omega))).old, (HOWN2.out.kept HOY.out (fun _ _ h => h)).kept HOS.out (fun k hk e => by subst e; (rcases HNEW.out _ hk with h | h) <;> (try have := HVL.out _ h) <;> omega), fun g hg => (HNEW.out g hg).imp id Nat.le_of_lt⟩⟩
  | false =>
    have dm2 : ¬ ((xs.length : Int) + 1 < len) := of_decide_eq_false dm
    have HVD := Lib.hid (r_valid_b wb nx A nw per p i len st now w2 HB2.out hst hnow)
    obtain ⟨vb, hvb⟩ : ∃ vb, decide (now - st ≤ per) = vb := ⟨_, rfl⟩
    rw [hvb] at HVD
    have HVQ := Lib.hid hvb
    clear hWs hst hnow hvb
    have HOS := Lib.hid (Only.sets (S := fun k => k = w.heap.size) rfl (didV true 0 (.slice a' (xs.length + 1) c') vb false false 0 : Array Value).toList 0 (Only.refl _ w2.drew))
    have hth := there_at (W := w2.drew) HZX.out (n := (didV true 0 (.slice a' (xs.length + 1) c') vb false false 0 : Array Value).size) rfl
    have hsd : (Tryz.prog.info? 56).map (·.size) = some (didV true 0 (.slice a' (xs.length + 1) c') vb false false 0 : Array Value).size := did_size
    go_wp2_with (first | (go_at_call 89; ((with_reducible refine HVD.out.mono ?_); rintro e w5 ⟨rfl, rfl⟩)) | (with_reducible refine wpList_store_mid (by kernel_rfl) _ _ _ rfl w.heap.size 0 (didV true 0 (.slice a' (xs.length + 1) c') vb false false 0) (by kernel_rfl) (by kernel_rfl) hth hsd (by kernel_rfl) ?_))
    have hrg := World.rangeAt_setCells_same w2.drew w.heap.size 0 (didV true 0 (.slice a' (xs.length + 1) c') vb false false 0 : Array Value).toList hth
    (try simp only [Exit.inBlock, Exit.then])
    refine bodyPost_ret (results_cell_tmp rfl _ _ w.heap.size (didV true 0 (.slice a' (xs.length + 1) c') vb false false 0 : Array Value).toList _ rfl hrg Tryz.underlying56 rfl did_size) rfl ?_
    have hvb := HVQ.out
    subst hvb
    exact ⟨.slice a' (xs.length + 1) c', _, rfl, (fun h => by cases h), (fun _ => rfl),
      ⟨HB2.out.drew.only HOS.out (by omega), HM2.out.drew.only HOS.out (by omega) (by omega), (HOX.out.drew.trans (HOS.out.mono fun k _ h => .inl (by omega))).old, (HOWN2.out.kept (Only.refl (fun _ => False) w2).drew (fun _ _ h => h)).kept HOS.out (fun k hk e => by subst e; (rcases HNEW.out _ hk with h | h) <;> (try have := HVL.out _ h) <;> omega), fun g hg => (HNEW.out g hg).imp id Nat.le_of_lt⟩⟩
end Go.Proofs.YtocdidkfnbkkhaaGreat

namespace Go.Proofs.YtocdidkfnbkkhaaGreat
open Go.RowKit Go.Sort
set_option linter.unusedVariables false
set_option linter.unusedSimpArgs false
set_option linter.unusedVariables false
set_option linter.unusedSimpArgs false

set_option maxRecDepth 100000
set_option maxHeartbeats 3200000
theorem eq_nilF (w : World) (fn : Fn) (xs ys : Array Value) : (binOp .eql 85 (.func fn xs ys) .nilFunc).run Tryz.prog w = .ok (.bool false) w := by
  have h : ∀ d : Nat, (Op.equalIn (d + 1) 85 (.func fn xs ys) .nilFunc).run Tryz.prog w = .ok false w := fun d => by
    simp [Op.equalIn, run_underlying Tryz.underlying85]
  simp only [binOp]
  simp [Op.equal, Op.maxDepth, h 9999]
theorem eq_nilN (w : World) : (binOp .eql 85 .nilFunc .nilFunc).run Tryz.prog w = .ok (.bool true) w := by
  have h : ∀ d : Nat, (Op.equalIn (d + 1) 85 .nilFunc .nilFunc).run Tryz.prog w = .ok true w := fun d => by
    simp [Op.equalIn, run_underlying Tryz.underlying85]
  simp only [binOp]
  simp [Op.equal, Op.maxDepth, h 9999]
/-- A function value, or none. -/
def IsFn (v : Value) : Prop := v = .nilFunc ∨ ∃ f a b, v = .func (.func f) a b
/-- What take leaves of the world w1 behind the step: the next step stands at sb. -/
structure Took (w w1 : World) (sb : Nat) (nx : Value) (w' : World) : Prop where
  only : Only (fun k => k = sb ∨ k = w.heap.size) w1 w'
  blk : w'.heap[sb]? = (w1.setCell ⟨sb, 0, none⟩ nx).heap[sb]?
theorem gives_tup {P : Program} {g : Nat} {args : Array Value} {w : World} {R : Array Value → Value → World → Prop} (h : Calls P g args w fun e w' => ∃ d nx, e = .returned (.tuple #[.agg d, nx]) ∧ R d nx w') : Calls P g args w fun e w' => ∃ v, e = .returned v ∧ (∃ d nx, v = .tuple #[.agg d, nx] ∧ R d nx w') :=
  h.mono fun _ _ ⟨d, nx, h1, h2⟩ => ⟨_, h1, d, nx, rfl, h2⟩
theorem take_nil (sb : Nat) (mp : Value) (now : Int) (w : World) (hc : w.cell? ⟨sb, 0, none⟩ = some .nilFunc) :
    Calls Tryz.prog 33 #[.pointer (some ⟨sb, 0, none⟩), mp, .int .i64 now] w fun e w' => e = .returned (.agg (didV false 0 (.slice none 0 0) false false false 0)) ∧ Only (fun _ => False) w w' := by
  obtain ⟨W, HW, hsz, hO, hz⟩ := did_new w
  have hl : sb < w.heap.size := World.block_lt_of_cell? w ⟨sb, 0, none⟩ hc
  have c0 : W.cell? ⟨sb, 0, none⟩ = some .nilFunc := by
    have := hO.block sb hl (fun h => h)
    unfold World.cell? at hc ⊢; rw [this]; exact hc
  have hq := fun w => eq_nilN w
  have HZX := Lib.hid hz
  have HO := Lib.hid hO
  have hth := there_at (W := W) HZX.out (n := (didV false 0 (.slice none 0 0) false false false 0 : Array Value).size) rfl
  have hsd : (Tryz.prog.info? 56).map (·.size) = some (didV false 0 (.slice none 0 0) false false false 0 : Array Value).size := did_size
  clear hc hO hz
  go_enter Tryz.func33, Tryz.ntmps33
  go_wp2_with (first | (rw [← HW.out]) | (with_reducible refine wpList_store_mid (by kernel_rfl) _ _ _ rfl w.heap.size 0 (didV false 0 (.slice none 0 0) false false false 0) (by kernel_rfl) (by kernel_rfl) hth hsd (by kernel_rfl) ?_))
  have hrg := World.rangeAt_setCells_same W w.heap.size 0 (didV false 0 (.slice none 0 0) false false false 0 : Array Value).toList hth
  (try simp only [Exit.inBlock, Exit.then])
  refine bodyPost_ret (results_cell_row rfl _ _ w.heap.size (didV false 0 (.slice none 0 0) false false false 0 : Array Value).toList _ rfl hrg Tryz.underlying56 rfl did_size) rfl ?_
  exact ⟨rfl, ((HO.out.mono (T := New w.heap.size fun _ => False) fun _ _ h => h.elim).trans ((Only.sets (S := fun k => k = w.heap.size) rfl _ 0 (Only.refl _ W)).mono fun k _ h => .inl (Nat.le_of_eq h.symm))).old⟩
theorem take_b (sb g : Nat) (fs cs : List Value) (mp : Value) (now : Int) (w : World) (R : Array Value → Value → World → Prop) (eg : ∀ args w, (callFunc g args).run Tryz.prog w = .ok (.enter g args) w)
    (hc : w.cell? ⟨sb, 0, none⟩ = some (.func (.func g) fs.toArray cs.toArray))
    (hC : ∀ W, W = w.alloc (.cells (didV false 0 (.slice none 0 0) false false false 0) 56) → Calls Tryz.prog g (fs ++ mp :: .int .i64 now :: cs).toArray W fun e w' => ∃ d nx, e = .returned (.tuple #[.agg d, nx]) ∧ R d nx w')
    (hR : ∀ d nx w', R d nx w' → d.size = 9 ∧ d.all (·.oneCell') = true ∧ IsFn nx ∧ (∃ u, w'.cell? ⟨sb, 0, none⟩ = some u) ∧ w'.frozen? ⟨sb, 0, none⟩ = false ∧ w'.heap[w.heap.size]? = some (.cells (didV false 0 (.slice none 0 0) false false false 0) 56 (0, 0)) ∧ w.heap.size ≤ w'.heap.size) :
    Calls Tryz.prog 33 #[.pointer (some ⟨sb, 0, none⟩), mp, .int .i64 now] w fun e w' => ∃ d nx w1, e = .returned (.agg d) ∧ R d nx w1 ∧ Took w w1 sb nx w' := by
  obtain ⟨W, HW, hsz, hO, hz⟩ := did_new w
  have hl : sb < w.heap.size := World.block_lt_of_cell? w ⟨sb, 0, none⟩ hc
  have c0 : W.cell? ⟨sb, 0, none⟩ = some (.func (.func g) fs.toArray cs.toArray) := by
    have := hO.block sb hl (fun h => h)
    unfold World.cell? at hc ⊢; rw [this]; exact hc
  have hq := fun w => eq_nilF w (.func g) fs.toArray cs.toArray
  have HC := Lib.hid (hC W HW.out)
  have HR := Lib.hid hR
  clear hc hO hz hC hR
  go_enter Tryz.func33, Tryz.ntmps33
  go_wp2_with (rw [← HW.out])
  refine HC.out.mono ?_
  rintro e w1 ⟨d, nx, rfl, hRd⟩
  obtain ⟨hd9, hone, hfn, ⟨u, hu⟩, hfz, hzb, hsz1⟩ := HR.out d nx w1 hRd
  have HRD := Lib.hid hRd
  obtain ⟨V, HV⟩ : ∃ V, Hid (V = (w1.alloc (.cells (didV false 0 (.slice none 0 0) false false false 0) 56)).setCells w1.heap.size 0 d.toList) := ⟨_, rfl⟩
  have hs9 : (Tryz.prog.info? 56).map (·.size) = some d.size := by rw [hd9]; exact did_size
  have hthA : (w1.alloc (.cells (didV false 0 (.slice none 0 0) false false false 0) 56)).there w1.heap.size 0 d.size := by rw [hd9]; exact there_at (heap_alloc_new w1 (.cells (didV false 0 (.slice none 0 0) false false false 0) 56)) rfl
  have HVB : Hid (V.heap[w1.heap.size]? = some (.cells d 56 (0, 0))) := Lib.hid (by rw [HV.out]; exact blk_did (heap_alloc_new w1 (.cells (didV false 0 (.slice none 0 0) false false false 0) 56)) d.toList (by simpa using hd9))
  have HOV : Hid (Only (fun k => k = w1.heap.size) w1 V) := Lib.hid (by rw [HV.out]; exact Only.sets (S := fun k => k = w1.heap.size) rfl _ 0 ((Only.refl _ w1).alloc _))
  have hsl : sb < w1.heap.size := World.block_lt_of_cell? w1 ⟨sb, 0, none⟩ hu
  have hVs : V.heap[sb]? = w1.heap[sb]? := HOV.out.block sb hsl (by omega)
  have v0 : V.cell? ⟨sb, 0, none⟩ = some u := by unfold World.cell? at hu ⊢; rw [hVs]; exact hu
  have gv0 : V.frozen? ⟨sb, 0, none⟩ = false := by unfold World.frozen? at hfz ⊢; rw [hVs]; exact hfz
  obtain ⟨X, HX⟩ : ∃ X, Hid (X = V.setCell ⟨sb, 0, none⟩ nx) := ⟨_, rfl⟩
  have HXO : Hid (Only (fun k => k = sb) V X) := Lib.hid (by rw [HX.out]; exact Only.setCell V ⟨sb, 0, none⟩ _)
  have HXB : Hid (X.heap[w1.heap.size]? = some (.cells d 56 (0, 0))) := Lib.hid (HXO.out.at_ HVB.out (by omega))
  have HZX : Hid (X.heap[w.heap.size]? = some (.cells (didV false 0 (.slice none 0 0) false false false 0) 56 (0, 0))) := Lib.hid (HXO.out.at_ (HOV.out.at_ hzb (fun e => by have := (Array.getElem?_eq_some_iff.1 hzb).1; omega)) (by omega))
  have hth : X.there w.heap.size 0 d.size := by rw [hd9]; exact there_at HZX.out rfl
  have HXS : Hid (X.heap[sb]? = (w1.setCell ⟨sb, 0, none⟩ nx).heap[sb]?) := Lib.hid (by rw [HX.out]; simp only [World.setCell, Array.getElem?_modify, hVs])
  have HD9 := Lib.hid hd9
  have HHS := Lib.hid (And.intro hsl (And.intro hl hsz1))
  clear hd9 hzb hsz1 hsl hVs hu hfz hRd c0 hq
  rcases hfn with rfl | ⟨f, a, b, rfl⟩
  · go_wp2_with (first | (with_reducible refine wpList_store_mid (by kernel_rfl) _ _ _ rfl w1.heap.size 0 d (by kernel_rfl) (by kernel_rfl) hthA hs9 hone ?_) | (rw [← HV.out]) | (rw [← HX.out]) | (with_reducible refine wpList_loadW (by kernel_rfl) 56 _ rfl _ (by kernel_rfl) _ _ _ _ HXB.out Tryz.underlying56 (by kernel_rfl) hs9 ?_) | (with_reducible refine wpList_store_mid (by kernel_rfl) _ _ _ rfl w.heap.size 0 d (by kernel_rfl) (by kernel_rfl) hth hs9 hone ?_))
    have hrg := World.rangeAt_setCells_same X w.heap.size 0 d.toList hth
    (try simp only [Exit.inBlock, Exit.then])
    refine bodyPost_ret (results_cell_row rfl _ _ w.heap.size d.toList _ rfl hrg Tryz.underlying56 rfl (by simpa using hs9)) rfl ?_
    have HOS := Only.sets (S := fun k => k = w.heap.size) rfl d.toList 0 (Only.refl _ X)
    refine ⟨d, _, w1, rfl, HRD.out, ⟨(((HOV.out.mono (T := New w1.heap.size fun k => k = sb ∨ k = w.heap.size) fun k _ h => .inl (Nat.le_of_eq h.symm)).trans (HXO.out.mono fun k _ h => .inr (.inl h))).trans (HOS.mono fun k _ h => .inr (.inr h))).old, ?_⟩⟩
    exact (HOS.block sb (by have := HXO.out.size; have := HOV.out.size; have := HHS.out.1; omega) (by have := HHS.out.2.1; omega)).trans HXS.out
  · go_wp2_with (first | (with_reducible refine wpList_store_mid (by kernel_rfl) _ _ _ rfl w1.heap.size 0 d (by kernel_rfl) (by kernel_rfl) hthA hs9 hone ?_) | (rw [← HV.out]) | (rw [← HX.out]) | (with_reducible refine wpList_loadW (by kernel_rfl) 56 _ rfl _ (by kernel_rfl) _ _ _ _ HXB.out Tryz.underlying56 (by kernel_rfl) hs9 ?_) | (with_reducible refine wpList_store_mid (by kernel_rfl) _ _ _ rfl w.heap.size 0 d (by kernel_rfl) (by kernel_rfl) hth hs9 hone ?_))
    have hrg := World.rangeAt_setCells_same X w.heap.size 0 d.toList hth
    (try simp only [Exit.inBlock, Exit.then])
    refine bodyPost_ret (results_cell_row rfl _ _ w.heap.size d.toList _ rfl hrg Tryz.underlying56 rfl (by simpa using hs9)) rfl ?_
    have HOS := Only.sets (S := fun k => k = w.heap.size) rfl d.toList 0 (Only.refl _ X)
    refine ⟨d, _, w1, rfl, HRD.out, ⟨(((HOV.out.mono (T := New w1.heap.size fun k => k = sb ∨ k = w.heap.size) fun k _ h => .inl (Nat.le_of_eq h.symm)).trans (HXO.out.mono fun k _ h => .inr (.inl h))).trans (HOS.mono fun k _ h => .inr (.inr h))).old, ?_⟩⟩
    exact (HOS.block sb (by have := HXO.out.size; have := HOV.out.size; have := HHS.out.1; omega) (by have := HHS.out.2.1; omega)).trans HXS.out
end Go.Proofs.YtocdidkfnbkkhaaGreat

namespace Go.Proofs.YtocdidkfnbkkhaaGreat
open Go.RowKit Go.Sort
set_option linter.unusedVariables false
set_option linter.unusedSimpArgs false
set_option linter.unusedVariables false
set_option linter.unusedSimpArgs false

set_option maxRecDepth 100000
set_option maxHeartbeats 3200000

theorem stepW_nil (wb mb : Nat) (now : Int) (w : World) (hc : w.cell? ⟨wb, 0, none⟩ = some .nilFunc) :
    Calls Tryz.prog 16 #[.pointer (some ⟨wb, 0, none⟩), .pointer (some ⟨mb, 0, none⟩), .int .i64 now] w fun e w' => e = .returned (.agg (didV false 0 (.slice none 0 0) false false false 0)) ∧ Only (fun _ => False) w w' := by
  obtain ⟨W, HW, hsz, hO, hz⟩ := did_new w
  have hl : wb < w.heap.size := World.block_lt_of_cell? w ⟨wb, 0, none⟩ hc
  have c0 : W.cell? ⟨wb, 0, none⟩ = some .nilFunc := by
    have := hO.block wb hl (fun h => h)
    unfold World.cell? at hc ⊢; rw [this]; exact hc
  have HT := Lib.hid (take_nil wb (.pointer (some ⟨mb, 0, none⟩)) now W c0)
  have HO := Lib.hid hO; have HZ := Lib.hid hz
  clear hc hO hz c0
  go_enter Tryz.func16, Tryz.ntmps16
  go_wp2_with (rw [← HW.out])
  refine HT.out.mono ?_
  rintro e w1 ⟨rfl, ho1⟩
  have HO1 := Lib.hid ho1
  have HZX := Lib.hid (ho1.at_ HZ.out (fun h => h))
  have hth := there_at (W := w1) HZX.out (n := (didV false 0 (.slice none 0 0) false false false 0 : Array Value).size) rfl
  have hsd : (Tryz.prog.info? 56).map (·.size) = some (didV false 0 (.slice none 0 0) false false false 0 : Array Value).size := did_size
  clear ho1
  go_wp2_with (with_reducible refine wpList_store_mid (by kernel_rfl) _ _ _ rfl w.heap.size 0 (didV false 0 (.slice none 0 0) false false false 0) (by kernel_rfl) (by kernel_rfl) hth hsd (by kernel_rfl) ?_)
  have hrg := World.rangeAt_setCells_same w1 w.heap.size 0 (didV false 0 (.slice none 0 0) false false false 0 : Array Value).toList hth
  (try simp only [Exit.inBlock, Exit.then])
  refine bodyPost_ret (results_cell_row rfl _ _ w.heap.size (didV false 0 (.slice none 0 0) false false false 0 : Array Value).toList _ rfl hrg Tryz.underlying56 rfl did_size) rfl ?_
  exact ⟨rfl, (((HO.out.trans HO1.out).mono (T := New w.heap.size fun _ => False) fun _ _ h => h.elim).trans ((Only.sets (S := fun k => k = w.heap.size) rfl _ 0 (Only.refl _ w1)).mono fun k _ h => .inl (Nat.le_of_eq h.symm))).old⟩
theorem stepW_b (wb mb g : Nat) (fs cs : List Value) (now : Int) (w : World) (R : World → Array Value → Value → World → Prop) (eg : ∀ args w, (callFunc g args).run Tryz.prog w = .ok (.enter g args) w)
    (hc : w.cell? ⟨wb, 0, none⟩ = some (.func (.func g) fs.toArray cs.toArray))
    (hC : ∀ W, Only (fun _ => False) w W → Calls Tryz.prog g (fs ++ (.pointer (some ⟨mb, 0, none⟩)) :: .int .i64 now :: cs).toArray W fun e w' => ∃ d nx, e = .returned (.tuple #[.agg d, nx]) ∧ R W d nx w')
    (hR : ∀ W d nx w', Only (fun _ => False) w W → R W d nx w' → d.size = 9 ∧ d.all (·.oneCell') = true ∧ IsFn nx ∧ (∃ u, w'.cell? ⟨wb, 0, none⟩ = some u) ∧ w'.frozen? ⟨wb, 0, none⟩ = false ∧ (∀ k, k < W.heap.size → w.heap.size ≤ k → w'.heap[k]? = W.heap[k]?) ∧ W.heap.size ≤ w'.heap.size) :
    Calls Tryz.prog 16 #[.pointer (some ⟨wb, 0, none⟩), .pointer (some ⟨mb, 0, none⟩), .int .i64 now] w fun e w' => ∃ W d nx w1, e = .returned (.agg d) ∧ Only (fun _ => False) w W ∧ R W d nx w1 ∧ Only (fun k => k = wb ∨ w.heap.size ≤ k ∧ k < W.heap.size) w1 w' ∧ w'.heap[wb]? = (w1.setCell ⟨wb, 0, none⟩ nx).heap[wb]? := by
  obtain ⟨W, HW, hsz, hO, hz⟩ := did_new w
  have hl : wb < w.heap.size := World.block_lt_of_cell? w ⟨wb, 0, none⟩ hc
  have c0 : W.cell? ⟨wb, 0, none⟩ = some (.func (.func g) fs.toArray cs.toArray) := by
    have := hO.block wb hl (fun h => h)
    unfold World.cell? at hc ⊢; rw [this]; exact hc
  have hA := fun (W' : World) (h : W' = W.alloc (.cells (didV false 0 (.slice none 0 0) false false false 0) 56)) => (show Only (fun _ => False) w W' from by rw [h]; exact hO.alloc _)
  have HT := Lib.hid (take_b wb g fs cs (.pointer (some ⟨mb, 0, none⟩)) now W (fun d nx w1 => R (W.alloc (.cells (didV false 0 (.slice none 0 0) false false false 0) 56)) d nx w1) eg c0 (fun W' h => by subst h; exact hC _ (hA _ rfl))
    (fun d nx w1 h => by
      obtain ⟨h1, h2, h3, h4, h5, h6, h7⟩ := hR _ d nx w1 (hA _ rfl) h
      exact ⟨h1, h2, h3, h4, h5, (h6 W.heap.size (by simp) (by omega)).trans (heap_alloc_new W _), by simp at h7; omega⟩))
  have HR := Lib.hid hR
  have HA := Lib.hid (hA _ rfl)
  have HO := Lib.hid hO; have HZ := Lib.hid hz
  clear hc hO hz c0 hC hR hA eg
  go_enter Tryz.func16, Tryz.ntmps16
  go_wp2_with (rw [← HW.out])
  refine HT.out.mono ?_
  rintro e w2 ⟨d, nx, w1, rfl, hRd, hT⟩
  obtain ⟨hd9, hone, _, ⟨u, hu⟩, _, hzb, hsz1⟩ := HR.out _ d nx w1 HA.out hRd
  have hz1 : w1.heap[w.heap.size]? = some (.cells (didV false 0 (.slice none 0 0) false false false 0) 56 (0, 0)) := (hzb w.heap.size (by simp; omega) (Nat.le_refl _)).trans ((Below.heap_alloc W _ _ (by omega)).trans HZ.out)
  have HZX := Lib.hid (hT.only.at_ hz1 (by omega))
  have hth : w2.there w.heap.size 0 d.size := by rw [hd9]; exact there_at HZX.out rfl
  have hs9 : (Tryz.prog.info? 56).map (·.size) = some d.size := by rw [hd9]; exact did_size
  have HRD := Lib.hid hRd; have HTK := Lib.hid hT
  have HSL := Lib.hid (World.block_lt_of_cell? w1 ⟨wb, 0, none⟩ hu)
  have HS1 := Lib.hid hsz1
  clear hzb hz1 hsz1 hT hRd hu hd9
  go_wp2_with (with_reducible refine wpList_store_mid (by kernel_rfl) _ _ _ rfl w.heap.size 0 d (by kernel_rfl) (by kernel_rfl) hth hs9 hone ?_)
  have hrg := World.rangeAt_setCells_same w2 w.heap.size 0 d.toList hth
  (try simp only [Exit.inBlock, Exit.then])
  refine bodyPost_ret (results_cell_row rfl _ _ w.heap.size d.toList _ rfl hrg Tryz.underlying56 rfl (by simpa using hs9)) rfl ?_
  have HOS := Only.sets (S := fun k => k = w.heap.size) rfl d.toList 0 (Only.refl _ w2)
  refine ⟨W.alloc (.cells (didV false 0 (.slice none 0 0) false false false 0) 56), d, nx, w1, rfl, HA.out, HRD.out, (HTK.out.only.mono fun k _ h => ?_).trans (HOS.mono fun k _ h => ?_), ?_⟩
  · have := World.size_alloc W (.cells (didV false 0 (.slice none 0 0) false false false 0) 56); rcases h with h | h
    · exact .inl h
    · exact .inr (by omega)
  · have := World.size_alloc W (.cells (didV false 0 (.slice none 0 0) false false false 0) 56); exact .inr (by omega)
  · exact (HOS.block wb (by have := HTK.out.only.size; have := HSL.out; omega) (by omega)).trans HTK.out.blk

theorem stepR_nil (wb mb : Nat) (now : Int) (w : World) (hc : w.cell? ⟨wb, 0, none⟩ = some .nilFunc) :
    Calls Tryz.prog 18 #[.pointer (some ⟨wb, 0, none⟩), .pointer (some ⟨mb, 0, none⟩), .int .i64 now] w fun e w' => e = .returned (.agg (didV false 0 (.slice none 0 0) false false false 0)) ∧ Only (fun _ => False) w w' := by
  obtain ⟨W, HW, hsz, hO, hz⟩ := did_new w
  have hl : wb < w.heap.size := World.block_lt_of_cell? w ⟨wb, 0, none⟩ hc
  have c0 : W.cell? ⟨wb, 0, none⟩ = some .nilFunc := by
    have := hO.block wb hl (fun h => h)
    unfold World.cell? at hc ⊢; rw [this]; exact hc
  have HT := Lib.hid (take_nil wb (.pointer (some ⟨mb, 0, none⟩)) now W c0)
  have HO := Lib.hid hO; have HZ := Lib.hid hz
  clear hc hO hz c0
  go_enter Tryz.func18, Tryz.ntmps18
  go_wp2_with (rw [← HW.out])
  refine HT.out.mono ?_
  rintro e w1 ⟨rfl, ho1⟩
  have HO1 := Lib.hid ho1
  have HZX := Lib.hid (ho1.at_ HZ.out (fun h => h))
  have hth := there_at (W := w1) HZX.out (n := (didV false 0 (.slice none 0 0) false false false 0 : Array Value).size) rfl
  have hsd : (Tryz.prog.info? 56).map (·.size) = some (didV false 0 (.slice none 0 0) false false false 0 : Array Value).size := did_size
  clear ho1
  go_wp2_with (with_reducible refine wpList_store_mid (by kernel_rfl) _ _ _ rfl w.heap.size 0 (didV false 0 (.slice none 0 0) false false false 0) (by kernel_rfl) (by kernel_rfl) hth hsd (by kernel_rfl) ?_)
  have hrg := World.rangeAt_setCells_same w1 w.heap.size 0 (didV false 0 (.slice none 0 0) false false false 0 : Array Value).toList hth
  (try simp only [Exit.inBlock, Exit.then])
  refine bodyPost_ret (results_cell_row rfl _ _ w.heap.size (didV false 0 (.slice none 0 0) false false false 0 : Array Value).toList _ rfl hrg Tryz.underlying56 rfl did_size) rfl ?_
  exact ⟨rfl, (((HO.out.trans HO1.out).mono (T := New w.heap.size fun _ => False) fun _ _ h => h.elim).trans ((Only.sets (S := fun k => k = w.heap.size) rfl _ 0 (Only.refl _ w1)).mono fun k _ h => .inl (Nat.le_of_eq h.symm))).old⟩
theorem stepR_b (wb mb g : Nat) (fs cs : List Value) (now : Int) (w : World) (R : World → Array Value → Value → World → Prop) (eg : ∀ args w, (callFunc g args).run Tryz.prog w = .ok (.enter g args) w)
    (hc : w.cell? ⟨wb, 0, none⟩ = some (.func (.func g) fs.toArray cs.toArray))
    (hC : ∀ W, Only (fun _ => False) w W → Calls Tryz.prog g (fs ++ (.pointer (some ⟨mb, 0, none⟩)) :: .int .i64 now :: cs).toArray W fun e w' => ∃ d nx, e = .returned (.tuple #[.agg d, nx]) ∧ R W d nx w')
    (hR : ∀ W d nx w', Only (fun _ => False) w W → R W d nx w' → d.size = 9 ∧ d.all (·.oneCell') = true ∧ IsFn nx ∧ (∃ u, w'.cell? ⟨wb, 0, none⟩ = some u) ∧ w'.frozen? ⟨wb, 0, none⟩ = false ∧ (∀ k, k < W.heap.size → w.heap.size ≤ k → w'.heap[k]? = W.heap[k]?) ∧ W.heap.size ≤ w'.heap.size) :
    Calls Tryz.prog 18 #[.pointer (some ⟨wb, 0, none⟩), .pointer (some ⟨mb, 0, none⟩), .int .i64 now] w fun e w' => ∃ W d nx w1, e = .returned (.agg d) ∧ Only (fun _ => False) w W ∧ R W d nx w1 ∧ Only (fun k => k = wb ∨ w.heap.size ≤ k ∧ k < W.heap.size) w1 w' ∧ w'.heap[wb]? = (w1.setCell ⟨wb, 0, none⟩ nx).heap[wb]? := by
  obtain ⟨W, HW, hsz, hO, hz⟩ := did_new w
  have hl : wb < w.heap.size := World.block_lt_of_cell? w ⟨wb, 0, none⟩ hc
  have c0 : W.cell? ⟨wb, 0, none⟩ = some (.func (.func g) fs.toArray cs.toArray) := by
    have := hO.block wb hl (fun h => h)
    unfold World.cell? at hc ⊢; rw [this]; exact hc
  have hA := fun (W' : World) (h : W' = W.alloc (.cells (didV false 0 (.slice none 0 0) false false false 0) 56)) => (show Only (fun _ => False) w W' from by rw [h]; exact hO.alloc _)
  have HT := Lib.hid (take_b wb g fs cs (.pointer (some ⟨mb, 0, none⟩)) now W (fun d nx w1 => R (W.alloc (.cells (didV false 0 (.slice none 0 0) false false false 0) 56)) d nx w1) eg c0 (fun W' h => by subst h; exact hC _ (hA _ rfl))
    (fun d nx w1 h => by
      obtain ⟨h1, h2, h3, h4, h5, h6, h7⟩ := hR _ d nx w1 (hA _ rfl) h
      exact ⟨h1, h2, h3, h4, h5, (h6 W.heap.size (by simp) (by omega)).trans (heap_alloc_new W _), by simp at h7; omega⟩))
  have HR := Lib.hid hR
  have HA := Lib.hid (hA _ rfl)
  have HO := Lib.hid hO; have HZ := Lib.hid hz
  clear hc hO hz c0 hC hR hA eg
  go_enter Tryz.func18, Tryz.ntmps18
  go_wp2_with (rw [← HW.out])
  refine HT.out.mono ?_
  rintro e w2 ⟨d, nx, w1, rfl, hRd, hT⟩
  obtain ⟨hd9, hone, _, ⟨u, hu⟩, _, hzb, hsz1⟩ := HR.out _ d nx w1 HA.out hRd
  have hz1 : w1.heap[w.heap.size]? = some (.cells (didV false 0 (.slice none 0 0) false false false 0) 56 (0, 0)) := (hzb w.heap.size (by simp; omega) (Nat.le_refl _)).trans ((Below.heap_alloc W _ _ (by omega)).trans HZ.out)
  have HZX := Lib.hid (hT.only.at_ hz1 (by omega))
  have hth : w2.there w.heap.size 0 d.size := by rw [hd9]; exact there_at HZX.out rfl
  have hs9 : (Tryz.prog.info? 56).map (·.size) = some d.size := by rw [hd9]; exact did_size
  have HRD := Lib.hid hRd; have HTK := Lib.hid hT
  have HSL := Lib.hid (World.block_lt_of_cell? w1 ⟨wb, 0, none⟩ hu)
  have HS1 := Lib.hid hsz1
  clear hzb hz1 hsz1 hT hRd hu hd9
  go_wp2_with (with_reducible refine wpList_store_mid (by kernel_rfl) _ _ _ rfl w.heap.size 0 d (by kernel_rfl) (by kernel_rfl) hth hs9 hone ?_)
  have hrg := World.rangeAt_setCells_same w2 w.heap.size 0 d.toList hth
  (try simp only [Exit.inBlock, Exit.then])
  refine bodyPost_ret (results_cell_row rfl _ _ w.heap.size d.toList _ rfl hrg Tryz.underlying56 rfl (by simpa using hs9)) rfl ?_
  have HOS := Only.sets (S := fun k => k = w.heap.size) rfl d.toList 0 (Only.refl _ w2)
  refine ⟨W.alloc (.cells (didV false 0 (.slice none 0 0) false false false 0) 56), d, nx, w1, rfl, HA.out, HRD.out, (HTK.out.only.mono fun k _ h => ?_).trans (HOS.mono fun k _ h => ?_), ?_⟩
  · have := World.size_alloc W (.cells (didV false 0 (.slice none 0 0) false false false 0) 56); rcases h with h | h
    · exact .inl h
    · exact .inr (by omega)
  · have := World.size_alloc W (.cells (didV false 0 (.slice none 0 0) false false false 0) 56); exact .inr (by omega)
  · exact (HOS.block wb (by have := HTK.out.only.size; have := HSL.out; omega) (by omega)).trans HTK.out.blk
end Go.Proofs.YtocdidkfnbkkhaaGreat
