/- Texts of the ring, joined, what is used of them. No condition but those in the statements. -/
import Derived.BigQuiet
import Derived.BigRegion
import Derived.Deep.MidRow
import Derived.Deep.RegionHeld3
import Derived.Deep.Upon
import Derived.IntWalk
import Derived.Laws.EntriesVeiled
import Derived.Shelf.Abstract
import Derived.Test.YtmhpcgcloojfbaaGreatRGB
import Derived.Test.YtmhpcgcloojfbaaGreatRLK
import Derived.Test.YtmhpcgcloojfbaaGreatROffB
import Derived.Test.YtmhpcgcloojfbaaGreatRgA
section
namespace Go.Proofs.YtmhpcgcloojfbaaGreat
open Go.RowKit Go.Sort
set_option linter.unusedVariables false
set_option linter.unusedSimpArgs false
set_option linter.unusedVariables false
set_option linter.unusedSimpArgs false
open Go.Proofs.YtmhpcgcloojfbaaGreat.Simp (oddN oddN_le)
set_option maxRecDepth 100000
set_option maxHeartbeats 3200000
@[reducible] def rV (nx:Value) (A:Pl8) (nw per:Int) (p i:Nat) (len st:Int):Array Value:=#[nx,.int .i64 A.la,.int .i64 A.re,.int .i64 A.s0,.int .i64 A.s1,.int .i64 A.b00,.int .i64 A.b01,.int .i64 A.b10,.int .i64 A.b11,.int .i64 nw,.int .i64 per,.int .u32 p,.int .u32 i,.int .i64 len,.int .u32 st]
def RBlk (w:World) (wb:Nat) (nx:Value) (A:Pl8) (nw per:Int) (p i:Nat) (len st:Int):Prop:=w.heap[wb]? = some (.cells (rV nx A nw per p i len st) 97 (0,0))
section
variable {w:World} {wb:Nat} {nx:Value} {A:Pl8} {nw per:Int} {p i:Nat} {len st:Int}
theorem RBlk.lt (h:RBlk w wb nx A nw per p i len st):wb < w.heap.size:=(Array.getElem?_eq_some_iff.1 h).1
theorem RBlk.cell (h:RBlk w wb nx A nw per p i len st) {j:Nat} {v:Value} (hv:(rV nx A nw per p i len st)[j]? = some v):w.cell? ⟨wb,j,none⟩ = some v:=by
  unfold RBlk at h
  simp [World.cell?,h,hv]
theorem RBlk.frozen (h:RBlk w wb nx A nw per p i len st) (j:Nat):w.frozen? ⟨wb,j,none⟩ = false:=by
  unfold RBlk at h
  simp [World.frozen?,h]
theorem RBlk.only (h:RBlk w wb nx A nw per p i len st) {S:Nat → Prop} {w':World} (ho:Only S w w') (hs:¬ S wb):RBlk w' wb nx A nw per p i len st:=ho.at_ h hs
theorem RBlk.drew (h:RBlk w wb nx A nw per p i len st):RBlk w.drew wb nx A nw per p i len st:=h
theorem RBlk.setPair (h:RBlk w wb nx A nw per p i len st) (q:Nat):RBlk (w.setCell ⟨wb,11,none⟩ (.int .u32 (q:Int))) wb nx A nw per q i len st:=by
  unfold RBlk at h ⊢;simp [World.setCell,Array.getElem?_modify,h]
theorem RBlk.setIndex (h:RBlk w wb nx A nw per p i len st) (q:Nat):RBlk (w.setCell ⟨wb,12,none⟩ (.int .u32 (q:Int))) wb nx A nw per p q len st:=by
  unfold RBlk at h ⊢;simp [World.setCell,Array.getElem?_modify,h]
theorem RBlk.setLen (h:RBlk w wb nx A nw per p i len st) (q:Int):RBlk (w.setCell ⟨wb,13,none⟩ (.int .i64 q)) wb nx A nw per p i q st:=by
  unfold RBlk at h ⊢;simp [World.setCell,Array.getElem?_modify,h]
theorem RBlk.setStamp (h:RBlk w wb nx A nw per p i len st) (q:Int):RBlk (w.setCell ⟨wb,14,none⟩ (.int .u32 q)) wb nx A nw per p i len q:=by
  unfold RBlk at h ⊢;simp [World.setCell,Array.getElem?_modify,h]
theorem RBlk.setNext (h:RBlk w wb nx A nw per p i len st) (q:Value):RBlk (w.setCell ⟨wb,0,none⟩ (q)) wb q A nw per p i len st:=by
  unfold RBlk at h ⊢;simp [World.setCell,Array.getElem?_modify,h]
theorem RBlk.ne_mem {mb rb:Nat} {ws:List Int} (h:RBlk w wb nx A nw per p i len st) (hm:MemAt w mb rb ws):mb ≠ wb ∧ rb ≠ wb:=by
  constructor
  · rintro rfl;have:=h.symm.trans hm.head;simp at this
  · rintro rfl;have:=h.symm.trans hm.row;simp at this
end
/-- What a step of a read leaves. -/
structure StepR (w:World) (mb rb wb:Nat) (ws:List Int) (nx:Value) (A:Pl8) (nw per:Int) (p i:Nat) (len st:Int) (w':World):Prop where
  blk:RBlk w' wb nx A nw per p i len st
  mem:MemAt w' mb rb ws
  only:Only (fun k => k = wb ∨ k = rb) w w'
theorem StepR.fin {w X:World} {mb rb wb:Nat} {ws:List Int} {nx:Value} {A:Pl8} {nw per:Int} {p i:Nat} {len st:Int} (hb:RBlk X wb nx A nw per p i len st) (hm:MemAt X mb rb ws) (ho:Only (New w.heap.size fun k => k = wb ∨ k = rb) w X)
    (h1:wb < w.heap.size) (h2:mb < w.heap.size) (h3:rb < w.heap.size) (cs:List Value):StepR w mb rb wb ws nx A nw per p i len st (X.setCells w.heap.size 0 cs):=by
  have hs:=Only.sets (S:=fun k => k = w.heap.size) rfl cs 0 (Only.refl _ X)
  exact ⟨hb.only hs (by omega),hm.only hs (by omega) (by omega),(ho.trans (hs.mono fun k _ hk => .inl (by omega))).old⟩
theorem r_latest_b (mb rb wb:Nat) (ws:List Int) (nx:Value) (A:Pl8) (nw per:Int) (p i:Nat) (len st:Int) (now:Int) (w:World) (hw:RBlk w wb nx A nw per p i len st) (hm:MemAt w mb rb ws) (hl:ws.length ≤ 1000000) (ha:A.la < ws.length) (h0:0 ≤ ws.getD A.la 0):Calls Tryz.prog 36 #[.pointer (some ⟨wb,0,none⟩),.pointer (some ⟨mb,0,none⟩),.int .i64 now] w fun e w' => e = .returned (.tuple #[.agg (didV false 0 (.slice none 0 0) false false false 0),.func (.func 69) #[.pointer (some ⟨wb,0,none⟩)] #[]]) ∧ StepR w mb rb wb (ws) nx A nw per (oddN (ws.getD A.la 0)) (i) (len) (st) w':=by
  obtain ⟨W,HW,hsz,hO,hz⟩:=did_new w
  have hwl:=hw.lt
  have hml:=hm.lt
  have hW:=hw.only hO (fun h => h)
  have hM:=hm.only hO (fun h => h) (fun h => h)
  have hO2:Only (New w.heap.size fun k => k = wb ∨ k = rb) w W:=hO.mono (fun k _ h => h.elim)
  have c1:W.cell? ⟨wb,1,none⟩ = some (.int .i64 A.la):=hW.cell rfl
  have c11:W.cell? ⟨wb,11,none⟩ = some (.int .u32 p):=hW.cell rfl
  have g11:=hW.frozen 11
  have HL:=Lib.hid (fun W' (h:MemAt W' mb rb ws) => load_b mb rb ws A.la W' h hl ha)
  obtain ⟨x,hx⟩:∃ x,ws.getD A.la 0 = x:=⟨_,rfl⟩
  rw [hx] at HL h0 ⊢
  have HO:=Lib.hid (fun W' => odd_b x W' h0)
  obtain ⟨q,hq'⟩:∃ q,oddN x = q:=⟨_,rfl⟩
  rw [hq'] at HO ⊢
  have HNE:=Lib.hid (hw.ne_mem hm);have HWB:=Lib.hid hW;have HM:=Lib.hid hM;have HO2:=Lib.hid hO2;have HZ:=Lib.hid hz
  clear hx hq' h0 hw hm hO hM hW hO2 hz
  obtain ⟨X,HX⟩:∃ X,Hid (X = W.setCell ⟨wb,11,none⟩ (.int .u32 (q:Int))):=⟨_,rfl⟩
  have HZX:Hid (X.heap[w.heap.size]? = some (.cells (didV false 0 (.slice none 0 0) false false false 0) 56 (0,0))):=Lib.hid (by rw [HX.out];exact (Below.heap_setCell _ _ _ _ (by show w.heap.size ≠ wb;omega)).trans HZ.out)
  have HBX:=Lib.hid (HWB.out.setPair q)
  have HOX:Hid (Only (New w.heap.size fun k => k = wb ∨ k = rb) w X):=Lib.hid (by rw [HX.out];exact (HO2.out.set (p:=⟨wb,11,none⟩) (.inr (.inl rfl)) _))
  have HMX:Hid (MemAt X mb rb ws):=Lib.hid (by rw [HX.out];exact (HM.out.only (Only.setCell W ⟨wb,11,none⟩ _) HNE.out.1 HNE.out.2))
  rw [← HX.out] at HBX
  have hth:=there_at (W:=X) HZX.out (n:=(didV false 0 (.slice none 0 0) false false false 0:Array Value).size) rfl
  have hsd:(Tryz.prog.info? 56).map (·.size) = some (didV false 0 (.slice none 0 0) false false false 0:Array Value).size:=did_size
  go_enter Tryz.func36,Tryz.ntmps36
  go_wp2_with (first | (rw [← HW.out]) | (go_at_call 67;((with_reducible refine (HL.out _ ?_).mono ?_);(first | exact HM.out.drew | exact HM.out);rintro e w5 ⟨rfl,rfl⟩)) | (go_at_call 66;((with_reducible refine (HO.out _).mono ?_);rintro e w5 ⟨rfl,rfl⟩)) | (rw [← HX.out]) | (with_reducible refine wpList_store_mid (by kernel_rfl) _ _ _ rfl w.heap.size 0 (didV false 0 (.slice none 0 0) false false false 0) (by kernel_rfl) (by kernel_rfl) hth hsd (by kernel_rfl) ?_))
  have hrg:=World.rangeAt_setCells_same (X) w.heap.size 0 (didV false 0 (.slice none 0 0) false false false 0:Array Value).toList hth
  (try simp only [Exit.inBlock,Exit.then])
  refine bodyPost_ret (results_cell_tmp rfl _ _ w.heap.size (didV false 0 (.slice none 0 0) false false false 0:Array Value).toList _ rfl hrg Tryz.underlying56 rfl did_size) rfl ?_
  exact ⟨rfl,StepR.fin HBX.out HMX.out HOX.out hwl hml.1 hml.2 _⟩
theorem r_reading_b (mb rb wb:Nat) (ws:List Int) (nx:Value) (A:Pl8) (nw per:Int) (p i:Nat) (len st:Int) (now:Int) (w:World) (hw:RBlk w wb nx A nw per p i len st) (hm:MemAt w mb rb ws) (hl:ws.length ≤ 1000000) (hp:p ≤ 1) (ha:A.re < ws.length):Calls Tryz.prog 69 #[.pointer (some ⟨wb,0,none⟩),.pointer (some ⟨mb,0,none⟩),.int .i64 now] w fun e w' => e = .returned (.tuple #[.agg (didV false 0 (.slice none 0 0) false false false 0),.func (.func 97) #[.pointer (some ⟨wb,0,none⟩)] #[]]) ∧ StepR w mb rb wb (ws.set A.re p) nx A nw per (p) (i) (len) (st) w':=by
  obtain ⟨W,HW,hsz,hO,hz⟩:=did_new w
  have hwl:=hw.lt
  have hml:=hm.lt
  have hW:=hw.only hO (fun h => h)
  have hM:=hm.only hO (fun h => h) (fun h => h)
  have hO2:Only (New w.heap.size fun k => k = wb ∨ k = rb) w W:=hO.mono (fun k _ h => h.elim)
  have c2:W.cell? ⟨wb,2,none⟩ = some (.int .i64 A.re):=hW.cell rfl
  have c11:W.cell? ⟨wb,11,none⟩ = some (.int .u32 p):=hW.cell rfl
  have HS:=Lib.hid (fun (W':World) (av xv:Int) (hav:av = ((A.re:Nat):Int)) (hxv:xv = (p:Int)) (h:MemAt W' mb rb ws) => (show Calls Tryz.prog 96 #[.pointer (some ⟨mb,0,none⟩),.int .i64 av,.int .u32 xv] W' fun e w' => e = .returned (.tuple #[]) ∧ w' = W'.setCell ⟨rb,A.re,none⟩ (.int .u32 ((p:Int))) from by subst hav;subst hxv;exact store_b mb rb ws _ _ W' h hl ha))
  have HNE:=Lib.hid (hw.ne_mem hm);have HWB:=Lib.hid hW;have HM:=Lib.hid hM;have HO2:=Lib.hid hO2;have HZ:=Lib.hid hz
  clear hw hm hO hW hO2 hz hM
  obtain ⟨X,HX⟩:∃ X,Hid (X = (W.setCell ⟨rb,A.re,none⟩ (.int .u32 (p:Int))).drew):=⟨_,rfl⟩
  have HZX:Hid (X.heap[w.heap.size]? = some (.cells (didV false 0 (.slice none 0 0) false false false 0) 56 (0,0))):=Lib.hid (by rw [HX.out];exact (Below.heap_setCell _ _ _ _ (by show w.heap.size ≠ rb;omega)).trans HZ.out)
  have HBX:Hid (RBlk X wb nx A nw per p i len st):=Lib.hid (by rw [HX.out];exact (HWB.out.only (Only.setCell W ⟨rb,A.re,none⟩ (.int .u32 (p:Int))) (fun h => HNE.out.2 h.symm)).drew)
  have HOX:Hid (Only (New w.heap.size fun k => k = wb ∨ k = rb) w X):=Lib.hid (by rw [HX.out];exact (HO2.out.set (p:=⟨rb,A.re,none⟩) (.inr (.inr rfl)) _).drew)
  have HMX:Hid (MemAt X mb rb (ws.set A.re (p:Int))):=Lib.hid (by rw [HX.out];exact (HM.out.set A.re _).drew)
  have hth:=there_at (W:=X) HZX.out (n:=(didV false 0 (.slice none 0 0) false false false 0:Array Value).size) rfl
  have hsd:(Tryz.prog.info? 56).map (·.size) = some (didV false 0 (.slice none 0 0) false false false 0:Array Value).size:=did_size
  go_enter Tryz.func69,Tryz.ntmps69
  go_wp2_with (rw [← HW.out])
  go_region_held3 (fun W' => W'.cell? ⟨wb,2,none⟩ = some (.int .i64 A.re) ∧ W'.cell? ⟨wb,11,none⟩ = some (.int .u32 (p:Int))) ((first | exact ⟨c2,c11⟩ | exact ⟨cell_set_ne c2 HNE.out.2,cell_set_ne c11 HNE.out.2⟩)) ((go_at_call 96;((with_reducible refine (HS.out _ _ _ ?_ ?_ ?_).mono ?_);(first | (with_reducible rfl) | omega | exact IntWalk.i64_in _ (by omega) | (rw [IntWalk.i64_in _ (by omega)] <;> omega) | (rw [IntWalk.i64_in (_ + 2) (by omega),IntWalk.i64_in _ (by omega)] <;> omega));(first | (with_reducible rfl) | (rw [IntKind.wrap_u32];omega) | (rw [IntKind.wrap_u32];with_reducible rfl));(first | exact HM.out | exact HM.out.drew | exact HM.out.drew.drew | exact HM.out.drew.drew.drew);rintro e w5 ⟨rfl,rfl⟩)))
  rw [← HX.out]
  clear c2 c11
  go_wp2_with (with_reducible refine wpList_store_mid (by kernel_rfl) _ _ _ rfl w.heap.size 0 (didV false 0 (.slice none 0 0) false false false 0) (by kernel_rfl) (by kernel_rfl) hth hsd (by kernel_rfl) ?_)
  have hrg:=World.rangeAt_setCells_same (X) w.heap.size 0 (didV false 0 (.slice none 0 0) false false false 0:Array Value).toList hth
  (try simp only [Exit.inBlock,Exit.then])
  refine bodyPost_ret (results_cell_tmp rfl _ _ w.heap.size (didV false 0 (.slice none 0 0) false false false 0:Array Value).toList _ rfl hrg Tryz.underlying56 rfl did_size) rfl ?_
  exact ⟨rfl,StepR.fin HBX.out HMX.out HOX.out hwl hml.1 hml.2 _⟩
theorem r_slot_b (mb rb wb:Nat) (ws:List Int) (nx:Value) (A:Pl8) (nw per:Int) (p i:Nat) (len st:Int) (now:Int) (w:World) (hw:RBlk w wb nx A nw per p i len st) (hm:MemAt w mb rb ws) (hl:ws.length ≤ 1000000) (hp:p ≤ 1) (ha:A.slot p < ws.length) (h0:0 ≤ ws.getD (A.slot p) 0):Calls Tryz.prog 97 #[.pointer (some ⟨wb,0,none⟩),.pointer (some ⟨mb,0,none⟩),.int .i64 now] w fun e w' => e = .returned (.tuple #[.agg (didV false 0 (.slice none 0 0) false false false 0),.func (.func 109) #[.pointer (some ⟨wb,0,none⟩)] #[]]) ∧ StepR w mb rb wb (ws) nx A nw per (p) (oddN (ws.getD (A.slot p) 0)) (len) (st) w':=by
  obtain ⟨W,HW,hsz,hO,hz⟩:=did_new w
  have hwl:=hw.lt
  have hml:=hm.lt
  have hW:=hw.only hO (fun h => h)
  have hM:=hm.only hO (fun h => h) (fun h => h)
  have hO2:Only (New w.heap.size fun k => k = wb ∨ k = rb) w W:=hO.mono (fun k _ h => h.elim)
  have c3:W.cell? ⟨wb,3,none⟩ = some (.int .i64 A.s0):=hW.cell rfl
  have c4:W.cell? ⟨wb,4,none⟩ = some (.int .i64 A.s1):=hW.cell rfl
  have c11:W.cell? ⟨wb,11,none⟩ = some (.int .u32 p):=hW.cell rfl
  have c12:W.cell? ⟨wb,12,none⟩ = some (.int .u32 i):=hW.cell rfl
  have g12:=hW.frozen 12
  obtain ⟨sl,hsl⟩:∃ sl,A.slot p = sl:=⟨_,rfl⟩
  rw [hsl] at ha h0 ⊢
  have HL:=Lib.hid (fun W' (h:MemAt W' mb rb ws) => load_b mb rb ws sl W' h hl ha)
  obtain ⟨x,hx⟩:∃ x,ws.getD sl 0 = x:=⟨_,rfl⟩
  rw [hx] at HL h0 ⊢
  have HO:=Lib.hid (fun W' => odd_b x W' h0)
  obtain ⟨q,hq'⟩:∃ q,oddN x = q:=⟨_,rfl⟩
  rw [hq'] at HO ⊢
  have HNE:=Lib.hid (hw.ne_mem hm);have HWB:=Lib.hid hW;have HM:=Lib.hid hM;have HO2:=Lib.hid hO2;have HZ:=Lib.hid hz
  clear hx hq' h0 hw hm hO hW hO2 hz hM ha
  have hp2:p = 0 ∨ p = 1:=by omega
  clear hp
  rcases hp2 with rfl | rfl
  · obtain rfl:sl = A.s0:=(show sl = A.s0 from hsl.symm)
    clear hsl
    obtain ⟨X,HX⟩:∃ X,Hid (X = (W.setCell ⟨wb,12,none⟩ (.int .u32 (q:Int))).drew):=⟨_,rfl⟩
    have HZX:Hid (X.heap[w.heap.size]? = some (.cells (didV false 0 (.slice none 0 0) false false false 0) 56 (0,0))):=Lib.hid (by rw [HX.out];exact (Below.heap_setCell _ _ _ _ (by show w.heap.size ≠ wb;omega)).trans HZ.out)
    have HBX:=Lib.hid ((HWB.out.setIndex q).drew)
    have HOX:Hid (Only (New w.heap.size fun k => k = wb ∨ k = rb) w X):=Lib.hid (by rw [HX.out];exact (HO2.out.set (p:=⟨wb,12,none⟩) (.inr (.inl rfl)) _).drew)
    have HMX:Hid (MemAt X mb rb ws):=Lib.hid (by rw [HX.out];exact (HM.out.only (Only.setCell W ⟨wb,12,none⟩ _) HNE.out.1 HNE.out.2).drew)
    rw [← HX.out] at HBX
    have hth:=there_at (W:=X) HZX.out (n:=(didV false 0 (.slice none 0 0) false false false 0:Array Value).size) rfl
    have hsd:(Tryz.prog.info? 56).map (·.size) = some (didV false 0 (.slice none 0 0) false false false 0:Array Value).size:=did_size
    go_enter Tryz.func97,Tryz.ntmps97
    go_wp2_with (rw [← HW.out])
    go_region_held3 (fun W' => W'.cell? ⟨wb,3,none⟩ = some (.int .i64 A.s0) ∧ W'.cell? ⟨wb,11,none⟩ = some (.int .u32 0)) ((first | exact ⟨c3,c11⟩ | exact cells_set2 ⟨c3,c11⟩ (by decide) (by decide))) ((first | (go_at_call 67;((with_reducible refine (HL.out _ ?_).mono ?_);(first | exact HM.out.drew | exact HM.out);rintro e w5 ⟨rfl,rfl⟩)) | (go_at_call 66;((with_reducible refine (HO.out _).mono ?_);rintro e w5 ⟨rfl,rfl⟩))))
    rw [← HX.out]
    clear c3 c4 c11
    go_wp2_with (with_reducible refine wpList_store_mid (by kernel_rfl) _ _ _ rfl w.heap.size 0 (didV false 0 (.slice none 0 0) false false false 0) (by kernel_rfl) (by kernel_rfl) hth hsd (by kernel_rfl) ?_)
    have hrg:=World.rangeAt_setCells_same (X) w.heap.size 0 (didV false 0 (.slice none 0 0) false false false 0:Array Value).toList hth
    (try simp only [Exit.inBlock,Exit.then])
    refine bodyPost_ret (results_cell_tmp rfl _ _ w.heap.size (didV false 0 (.slice none 0 0) false false false 0:Array Value).toList _ rfl hrg Tryz.underlying56 rfl did_size) rfl ?_
    exact ⟨rfl,StepR.fin HBX.out HMX.out HOX.out hwl hml.1 hml.2 _⟩
  · obtain rfl:sl = A.s1:=(show sl = A.s1 from hsl.symm)
    clear hsl
    obtain ⟨X,HX⟩:∃ X,Hid (X = (W.setCell ⟨wb,12,none⟩ (.int .u32 (q:Int))).drew):=⟨_,rfl⟩
    have HZX:Hid (X.heap[w.heap.size]? = some (.cells (didV false 0 (.slice none 0 0) false false false 0) 56 (0,0))):=Lib.hid (by rw [HX.out];exact (Below.heap_setCell _ _ _ _ (by show w.heap.size ≠ wb;omega)).trans HZ.out)
    have HBX:=Lib.hid ((HWB.out.setIndex q).drew)
    have HOX:Hid (Only (New w.heap.size fun k => k = wb ∨ k = rb) w X):=Lib.hid (by rw [HX.out];exact (HO2.out.set (p:=⟨wb,12,none⟩) (.inr (.inl rfl)) _).drew)
    have HMX:Hid (MemAt X mb rb ws):=Lib.hid (by rw [HX.out];exact (HM.out.only (Only.setCell W ⟨wb,12,none⟩ _) HNE.out.1 HNE.out.2).drew)
    rw [← HX.out] at HBX
    have hth:=there_at (W:=X) HZX.out (n:=(didV false 0 (.slice none 0 0) false false false 0:Array Value).size) rfl
    have hsd:(Tryz.prog.info? 56).map (·.size) = some (didV false 0 (.slice none 0 0) false false false 0:Array Value).size:=did_size
    go_enter Tryz.func97,Tryz.ntmps97
    go_wp2_with (rw [← HW.out])
    go_region_held3 (fun W' => W'.cell? ⟨wb,4,none⟩ = some (.int .i64 A.s1) ∧ W'.cell? ⟨wb,11,none⟩ = some (.int .u32 1)) ((first | exact ⟨c4,c11⟩ | exact cells_set2 ⟨c4,c11⟩ (by decide) (by decide))) ((first | (go_at_call 67;((with_reducible refine (HL.out _ ?_).mono ?_);(first | exact HM.out.drew | exact HM.out);rintro e w5 ⟨rfl,rfl⟩)) | (go_at_call 66;((with_reducible refine (HO.out _).mono ?_);rintro e w5 ⟨rfl,rfl⟩))))
    rw [← HX.out]
    clear c3 c4 c11
    go_wp2_with (with_reducible refine wpList_store_mid (by kernel_rfl) _ _ _ rfl w.heap.size 0 (didV false 0 (.slice none 0 0) false false false 0) (by kernel_rfl) (by kernel_rfl) hth hsd (by kernel_rfl) ?_)
    have hrg:=World.rangeAt_setCells_same (X) w.heap.size 0 (didV false 0 (.slice none 0 0) false false false 0:Array Value).toList hth
    (try simp only [Exit.inBlock,Exit.then])
    refine bodyPost_ret (results_cell_tmp rfl _ _ w.heap.size (didV false 0 (.slice none 0 0) false false false 0:Array Value).toList _ rfl hrg Tryz.underlying56 rfl did_size) rfl ?_
    exact ⟨rfl,StepR.fin HBX.out HMX.out HOX.out hwl hml.1 hml.2 _⟩
theorem r_buffer_b (wb:Nat) (nx:Value) (A:Pl8) (nw per:Int) (p i:Nat) (len st:Int) (w:World) (hw:RBlk w wb nx A nw per p i len st) (hp:p ≤ 1) (hi:i ≤ 1):Calls Tryz.prog 113 #[.pointer (some ⟨wb,0,none⟩)] w fun e w' => e = .returned (.int .i64 (A.buf p i:Nat)) ∧ w' = w.drew:=by
  have hp2:p = 0 ∨ p = 1:=by omega
  have hi2:i = 0 ∨ i = 1:=by omega
  have c11:w.cell? ⟨wb,11,none⟩ = some (.int .u32 p):=hw.cell rfl
  have c12:w.cell? ⟨wb,12,none⟩ = some (.int .u32 i):=hw.cell rfl
  have c5:w.cell? ⟨wb,5,none⟩ = some (.int .i64 A.b00):=hw.cell rfl
  have c6:w.cell? ⟨wb,6,none⟩ = some (.int .i64 A.b01):=hw.cell rfl
  have c7:w.cell? ⟨wb,7,none⟩ = some (.int .i64 A.b10):=hw.cell rfl
  have c8:w.cell? ⟨wb,8,none⟩ = some (.int .i64 A.b11):=hw.cell rfl
  clear hw hp hi
  rcases hp2 with rfl | rfl <;> rcases hi2 with rfl | rfl
  · show Calls Tryz.prog 113 #[.pointer (some ⟨wb,0,none⟩)] w fun e w' => e = .returned (.int .i64 (A.b00:Nat)) ∧ w' = w.drew
    go_enter Tryz.func113,Tryz.ntmps113
    go_wp2
    go_region
    go_wp2
    go_ret
    exact ⟨rfl,rfl⟩
  · show Calls Tryz.prog 113 #[.pointer (some ⟨wb,0,none⟩)] w fun e w' => e = .returned (.int .i64 (A.b01:Nat)) ∧ w' = w.drew
    go_enter Tryz.func113,Tryz.ntmps113
    go_wp2
    go_region
    go_wp2
    go_ret
    exact ⟨rfl,rfl⟩
  · show Calls Tryz.prog 113 #[.pointer (some ⟨wb,0,none⟩)] w fun e w' => e = .returned (.int .i64 (A.b10:Nat)) ∧ w' = w.drew
    go_enter Tryz.func113,Tryz.ntmps113
    go_wp2
    go_region
    go_wp2
    go_ret
    exact ⟨rfl,rfl⟩
  · show Calls Tryz.prog 113 #[.pointer (some ⟨wb,0,none⟩)] w fun e w' => e = .returned (.int .i64 (A.b11:Nat)) ∧ w' = w.drew
    go_enter Tryz.func113,Tryz.ntmps113
    go_wp2
    go_region
    go_wp2
    go_ret
    exact ⟨rfl,rfl⟩
theorem r_valid_b (wb:Nat) (nx:Value) (A:Pl8) (nw per:Int) (p i:Nat) (len st now:Int) (w:World) (hw:RBlk w wb nx A nw per p i len st) (hst:0 ≤ st ∧ st ≤ 4294967295) (hnow:0 ≤ now ∧ now ≤ 1000000000000):Calls Tryz.prog 123 #[.pointer (some ⟨wb,0,none⟩),.int .i64 now] w fun e w' => e = .returned (.bool (decide (now - st ≤ per))) ∧ w' = w.drew:=by
  have c10:w.cell? ⟨wb,10,none⟩ = some (.int .i64 per):=hw.cell rfl
  have c14:w.cell? ⟨wb,14,none⟩ = some (.int .u32 st):=hw.cell rfl
  have h1:IntKind.i64.wrap (now - st) = now - st:=IntWalk.i64_in _ (by omega)
  have h2:IntKind.i64.wrap st = st:=IntWalk.i64_in _ (by omega)
  have h3:IntKind.i64.wrap now = now:=IntWalk.i64_in _ (by omega)
  clear hw
  go_enter Tryz.func123,Tryz.ntmps123
  go_wp2
  go_region
  go_wp2
  go_ret
  exact ⟨rfl,rfl⟩
end Go.Proofs.YtmhpcgcloojfbaaGreat
namespace Go.Proofs.YtmhpcgcloojfbaaGreat
open Go.RowKit Go.Sort
set_option linter.unusedVariables false
set_option linter.unusedSimpArgs false
set_option linter.unusedVariables false
set_option linter.unusedSimpArgs false
open Go.Proofs.YtmhpcgcloojfbaaGreat.Simp (oddN oddN_le)
set_option maxRecDepth 100000
set_option maxHeartbeats 3200000
theorem keep_box2 {X:World} {B b i j:Nat} {u v:Value} {vs:List Value} (h:X.cell? ⟨b,i,none⟩ = some u ∧ X.cell? ⟨b,j,none⟩ = some v) (hne:B ≠ b):(X.setCells B 0 vs).cell? ⟨b,i,none⟩ = some u ∧ (X.setCells B 0 vs).cell? ⟨b,j,none⟩ = some v:=by
  have hb:=Only.sets (S:=fun k => k = B) rfl vs 0 (Only.refl _ X)
  have hl:b < X.heap.size:=World.block_lt_of_cell? X ⟨b,i,none⟩ h.1
  have:=hb.block b hl (fun e => hne e.symm)
  exact ⟨by have h1:=h.1;unfold World.cell? at h1 ⊢;rw [this];exact h1,by have h1:=h.2;unfold World.cell? at h1 ⊢;rw [this];exact h1⟩
theorem keep_alloc2 {X:World} {b i j:Nat} {u v:Value} {o:Obj} (h:X.cell? ⟨b,i,none⟩ = some u ∧ X.cell? ⟨b,j,none⟩ = some v):(X.alloc o).cell? ⟨b,i,none⟩ = some u ∧ (X.alloc o).cell? ⟨b,j,none⟩ = some v:=by
  have hl:b < X.heap.size:=World.block_lt_of_cell? X ⟨b,i,none⟩ h.1
  have:=Below.heap_alloc X o b hl
  exact ⟨by have h1:=h.1;unfold World.cell? at h1 ⊢;rw [this];exact h1,by have h1:=h.2;unfold World.cell? at h1 ⊢;rw [this];exact h1⟩
/-- The block's cells when values have been stored from place o on. -/
def wr11 (cs:Array Value) (o:Nat):List Value → Array Value
  | [] => cs
  | v :: r => wr11 (cs.setIfInBounds o v) (o + 1) r
theorem blk_sets {b:Nat} {ty:TypeId} {m:Nat × Nat}:∀ (vs:List Value) (o:Nat) (X:World) (cs:Array Value),X.heap[b]? = some (.cells cs ty m) → (X.setCells b o vs).heap[b]? = some (.cells (wr11 cs o vs) ty m)
  | [],_,_,_,h => h
  | v :: r,o,X,cs,h => blk_sets r (o + 1) _ _ (by simp [World.setCell,Array.getElem?_modify,h])
theorem blk_did {X:World} {b:Nat} (h:X.heap[b]? = some (.cells (didV false 0 (.slice none 0 0) false false false 0) 56 (0,0))) (cs:List Value) (hc:cs.length = 9):(X.setCells b 0 cs).heap[b]? = some (.cells cs.toArray 56 (0,0)):=by
  match cs,hc with
  | [a0,a1,a2,a3,a4,a5,a6,a7,a8],_ =>
    have e:wr11 (didV false 0 (.slice none 0 0) false false false 0) 0 [a0,a1,a2,a3,a4,a5,a6,a7,a8] = #[a0,a1,a2,a3,a4,a5,a6,a7,a8]:=by kernel_rfl
    have q:=blk_sets [a0,a1,a2,a3,a4,a5,a6,a7,a8] 0 X (didV false 0 (.slice none 0 0) false false false 0) h
    rw [e] at q
    exact q
theorem there_off {W:World} {b:Nat} {cs:Array Value} {ty:TypeId} {n:Nat} (h:W.heap[b]? = some (.cells cs ty (0,0))) (o:Nat) (hn:o + n ≤ cs.size):W.there b o n:=fun j hj => by
  refine ⟨?_,by simp [World.frozen?,h]⟩
  have hj':o + j < cs.size:=by omega
  have:W.cell? ⟨b,o + j,none⟩ = some cs[o + j]:=by simp [World.cell?,h,hj']
  rw [this];rfl
theorem r_lenz_b (mb rb wb:Nat) (ws:List Int) (nx:Value) (A:Pl8) (nw per:Int) (p i:Nat) (len st:Int) (now:Int) (w:World) (hw:RBlk w wb nx A nw per p i len st) (hm:MemAt w mb rb ws) (hl:ws.length ≤ 1000000) (hp:p ≤ 1) (hi:i ≤ 1) (ha:A.buf p i < ws.length) (h0:ws.getD (A.buf p i) 0 = 0):Calls Tryz.prog 109 #[.pointer (some ⟨wb,0,none⟩),.pointer (some ⟨mb,0,none⟩),.int .i64 now] w fun e w' => e = .returned (.tuple #[.agg (didV true 1 (.slice none 0 0) false false false (1 + 2 * (p:Int) + i)),.nilFunc]) ∧ StepR w mb rb wb (ws) nx A nw per (p) (i) (len) (st) w':=by
  obtain ⟨W,HW,hsz,hO,hz⟩:=did_new w
  have hwl:=hw.lt
  have hml:=hm.lt
  have hW:=hw.only hO (fun h => h)
  have hM:=hm.only hO (fun h => h) (fun h => h)
  have hO2:Only (New w.heap.size fun k => k = wb ∨ k = rb) w W:=hO.mono (fun k _ h => h.elim)
  have c2:W.cell? ⟨wb,2,none⟩ = some (.int .i64 A.re):=hW.cell rfl
  have c9:W.cell? ⟨wb,9,none⟩ = some (.int .i64 nw):=hW.cell rfl
  have c11:W.cell? ⟨wb,11,none⟩ = some (.int .u32 p):=hW.cell rfl
  have c12:W.cell? ⟨wb,12,none⟩ = some (.int .u32 i):=hW.cell rfl
  have HBF:=Lib.hid (fun (W':World) (h:RBlk W' wb nx A nw per p i len st) => r_buffer_b wb nx A nw per p i len st W' h hp hi)
  have HNU:=Lib.hid (fun (W':World) => number_b p i hp hi W')
  obtain ⟨k,hk⟩:∃ k,A.buf p i = k:=⟨_,rfl⟩
  rw [hk] at ha HBF h0
  have HL:=Lib.hid (fun (W':World) (av:Int) (hav:av = ((k:Nat):Int)) (h:MemAt W' mb rb ws) => (show Calls Tryz.prog 67 #[.pointer (some ⟨mb,0,none⟩),.int .i64 av] W' fun e w' => e = .returned (.int .u32 (ws.getD (k) 0)) ∧ W' = w' from by subst hav;exact load_b mb rb ws _ W' h hl ha))
  rw [h0] at HL
  have HNE:=Lib.hid (hw.ne_mem hm);have HWB:=Lib.hid hW;have HM:=Lib.hid hM;have HO2:=Lib.hid hO2;have HZ:=Lib.hid hz
  have hwW:wb < W.heap.size:=by omega
  have HSZ:=Lib.hid hsz
  have hth1:=there_at (heap_alloc_new W (.cells (didV false 0 (.slice none 0 0) false false false 0) 56)) (n:=(didV false 0 (.slice none 0 0) false false false (1 + 2 * (p:Int) + i):Array Value).size) rfl
  have hsd:(Tryz.prog.info? 56).map (·.size) = some (didV false 0 (.slice none 0 0) false false false (1 + 2 * (p:Int) + i):Array Value).size:=did_size
  obtain ⟨V,HV⟩:∃ V,Hid (V = ((W.alloc (.cells (didV false 0 (.slice none 0 0) false false false 0) 56)).drew.drew).setCells W.heap.size 0 (didV false 0 (.slice none 0 0) false false false (1 + 2 * (p:Int) + i):Array Value).toList):=⟨_,rfl⟩
  have HOV:Hid (Only (New W.heap.size fun _ => False) W V):=Lib.hid (by rw [HV.out];exact Only.sets (S:=New W.heap.size fun _ => False) (.inl (Nat.le_refl _)) _ 0 (((Only.refl _ W).alloc _).drew.drew))
  have HVB:Hid (V.heap[W.heap.size]? = some (.cells (didV false 0 (.slice none 0 0) false false false (1 + 2 * (p:Int) + i)) 56 (0,0))):=Lib.hid (by rw [HV.out];exact blk_did (X:=((W.alloc (.cells (didV false 0 (.slice none 0 0) false false false 0) 56)).drew.drew)) (show (W.alloc (.cells (didV false 0 (.slice none 0 0) false false false 0) 56)).heap[W.heap.size]? = _ from heap_alloc_new W _) _ rfl)
  obtain ⟨V1,HV1⟩:∃ V1,Hid (V1 = V.setCell ⟨W.heap.size,0,none⟩ (.bool true)):=⟨_,rfl⟩
  have HV1B:Hid (V1.heap[W.heap.size]? = some (.cells (didV true 0 (.slice none 0 0) false false false (1 + 2 * (p:Int) + i)) 56 (0,0))):=Lib.hid (by rw [HV1.out];simp [World.setCell,Array.getElem?_modify,HVB.out])
  obtain ⟨V2,HV2⟩:∃ V2,Hid (V2 = V1.setCells W.heap.size 1 (#[.int .i64 1,.slice none 0 0,.bool false,.int .i64 0]:Array Value).toList):=⟨_,rfl⟩
  have HV2B:Hid (V2.heap[W.heap.size]? = some (.cells (didV true 1 (.slice none 0 0) false false false (1 + 2 * (p:Int) + i)) 56 (0,0))):=Lib.hid (by rw [HV2.out];exact blk_sets _ 1 _ _ HV1B.out)
  have hth2:V1.there W.heap.size 1 (#[.int .i64 1,.slice none 0 0,.bool false,.int .i64 0]:Array Value).size:=there_off HV1B.out 1 (by show 1 + 4 ≤ 9;omega)
  have hsa:(Tryz.prog.info? 54).map (·.size) = some (#[.int .i64 1,.slice none 0 0,.bool false,.int .i64 0]:Array Value).size:=by kernel_rfl
  have hs9:(Tryz.prog.info? 56).map (·.size) = some (didV true 1 (.slice none 0 0) false false false (1 + 2 * (p:Int) + i)).size:=did_size
  have HO3:Hid (Only (fun k => k = W.heap.size) V V2):=Lib.hid (by rw [HV2.out,HV1.out];exact Only.sets (S:=fun k => k = W.heap.size) rfl _ 1 (Only.set (S:=fun k => k = W.heap.size) (Only.refl _ V) (p:=⟨W.heap.size,0,none⟩) rfl _))
  have hWV:W.heap.size ≤ V.heap.size:=HOV.out.size
  have HOW:Hid (Only (New W.heap.size fun _ => False) W V2):=Lib.hid (HOV.out.trans (HO3.out.mono (fun k _ h => .inl (Nat.le_of_eq h.symm))))
  have hno:∀ k,k < W.heap.size → ¬ New W.heap.size (fun _ => False) k:=fun k hk h => h.elim (fun h => by omega) (fun h => h)
  have HBX:=Lib.hid (HWB.out.only HOW.out (hno _ hwW))
  have HMX:=Lib.hid (HM.out.only HOW.out (hno _ HM.out.lt.1) (hno _ HM.out.lt.2))
  have HOX:Hid (Only (New w.heap.size fun k => k = wb ∨ k = rb) w V2):=Lib.hid (HO2.out.trans (HOW.out.mono fun k _ h => h.elim (fun h => .inl (by omega)) (fun h => h.elim)))
  have HZX:=Lib.hid (HOW.out.at_ HZ.out (hno _ (by omega)))
  have d0:V.cell? ⟨W.heap.size,0,none⟩ = some (.bool false):=blk_cell HVB.out rfl
  have g0:V.frozen? ⟨W.heap.size,0,none⟩ = false:=blk_frozen 0 HVB.out
  have hth:=there_at (W:=V2) HZX.out (n:=(didV true 1 (.slice none 0 0) false false false (1 + 2 * (p:Int) + i):Array Value).size) rfl
  have hsd2:(Tryz.prog.info? 56).map (·.size) = some (didV true 1 (.slice none 0 0) false false false (1 + 2 * (p:Int) + i):Array Value).size:=did_size
  clear hno hWV
  clear hk hw hm hO hW hO2 hz hM h0 hsz
  go_enter Tryz.func109,Tryz.ntmps109
  go_wp2_with (first | (rw [← HW.out]) | (go_at_call 113;((with_reducible refine (HBF.out _ ?_).mono ?_);(first | exact HWB.out | exact HWB.out.drew | exact HWB.out.drew.drew);rintro e w5 ⟨rfl,rfl⟩)) | (go_at_call 67;((with_reducible refine (HL.out _ _ ?_ ?_).mono ?_);(first | (with_reducible rfl) | omega | exact IntWalk.i64_in _ (by omega) | (rw [IntWalk.i64_in _ (by omega)] <;> omega) | (rw [IntWalk.i64_in (_ + 2) (by omega),IntWalk.i64_in _ (by omega)] <;> omega));(first | exact HM.out | exact HM.out.drew | exact HM.out.drew.drew | exact HM.out.drew.drew.drew);rintro e w5 ⟨rfl,rfl⟩)))
  refine wp_region_held_drew (S:=fun W' => W'.cell? ⟨wb,11,none⟩ = some (.int .u32 p) ∧ W'.cell? ⟨wb,12,none⟩ = some (.int .u32 i)) (by kernel_rfl) (⟨c11,c12⟩) (fun hHeld => ?_)
  refine wpAnyH_take (i:=0) rfl (by kernel_rfl) (by kernel_rfl) (by kernel_rfl) (fun _ _ _ h => h) (Or.inl ⟨by rfl,by intro w hSw;(skip);(go_simp <;> with_reducible rfl)⟩) (by assumption) ?_
  (try simp only [Act.put,List.setIfInBounds_toArray,List.set_cons_zero,List.set_cons_succ,List.getElem_toArray,List.getElem_cons_zero,List.getElem_cons_succ])
  refine wpAnyH_take (i:=1) rfl (by kernel_rfl) (by kernel_rfl) (by kernel_rfl) (fun _ _ _ h => h) (Or.inl ⟨by rfl,by intro w hSw;(skip);(go_simp <;> with_reducible rfl)⟩) (by assumption) ?_
  (try simp only [Act.put,List.setIfInBounds_toArray,List.set_cons_zero,List.set_cons_succ,List.getElem_toArray,List.getElem_cons_zero,List.getElem_cons_succ])
  refine wpAnyH_take (i:=2) rfl (by kernel_rfl) (by kernel_rfl) (by kernel_rfl) (fun _ _ _ h => h) (Or.inl ⟨by rfl,by intro w hSw;(skip);(go_simp <;> with_reducible rfl)⟩) (by assumption) ?_
  (try simp only [Act.put,List.setIfInBounds_toArray,List.set_cons_zero,List.set_cons_succ,List.getElem_toArray,List.getElem_cons_zero,List.getElem_cons_succ])
  refine wpAnyH_take (i:=3) rfl (by kernel_rfl) (by kernel_rfl) (by kernel_rfl) (fun _ _ _ h => h) (Or.inl ⟨by rfl,by intro w hSw;(skip);(go_simp <;> with_reducible rfl)⟩) (by assumption) ?_
  (try simp only [Act.put,List.setIfInBounds_toArray,List.set_cons_zero,List.set_cons_succ,List.getElem_toArray,List.getElem_cons_zero,List.getElem_cons_succ])
  refine wpAnyH_take (i:=4) rfl (by kernel_rfl) (by kernel_rfl) (by kernel_rfl) (fun _ _ _ h => h) (Or.inl ⟨by rfl,by intro w hSw;(skip);(go_simp <;> with_reducible rfl)⟩) (by assumption) ?_
  (try simp only [Act.put,List.setIfInBounds_toArray,List.set_cons_zero,List.set_cons_succ,List.getElem_toArray,List.getElem_cons_zero,List.getElem_cons_succ])
  refine wpAnyH_take (i:=5) rfl (by kernel_rfl) (by kernel_rfl) (by kernel_rfl) (fun _ _ _ h => h) (Or.inl ⟨by rfl,by intro w hSw;(skip);(go_simp <;> with_reducible rfl)⟩) (by assumption) ?_
  (try simp only [Act.put,List.setIfInBounds_toArray,List.set_cons_zero,List.set_cons_succ,List.getElem_toArray,List.getElem_cons_zero,List.getElem_cons_succ])
  refine wpAnyH_take (i:=6) rfl (by kernel_rfl) (by kernel_rfl) (by kernel_rfl) (fun _ _ _ h => h) (Or.inl ⟨by rfl,by intro w hSw;(skip);(go_simp <;> with_reducible rfl)⟩) (by assumption) ?_
  (try simp only [Act.put,List.setIfInBounds_toArray,List.set_cons_zero,List.set_cons_succ,List.getElem_toArray,List.getElem_cons_zero,List.getElem_cons_succ])
  refine wpAnyH_take (i:=7) rfl (by kernel_rfl) (by kernel_rfl) (by kernel_rfl) (fun _ _ _ h => h) (Or.inl ⟨by rfl,by intro w hSw;(skip);(go_simp <;> with_reducible rfl)⟩) (by assumption) ?_
  (try simp only [Act.put,List.setIfInBounds_toArray,List.set_cons_zero,List.set_cons_succ,List.getElem_toArray,List.getElem_cons_zero,List.getElem_cons_succ])
  refine wpAnyH_ready (rs:=[8,10]) (by kernel_rfl) (by simp) (AllReadyH.cons rfl (fun K hK => ?_) (AllReadyH.cons rfl (fun K hK => ?_) AllReadyH.nil))
  go_simp
  refine (HNU.out _).mono ?_
  rintro e w5 ⟨rfl,rfl⟩
  refine hK.out _ _ (by exact hHeld) (fun hHeld => ?_)
  clear hK K
  (try simp only [Act.put,List.setIfInBounds_toArray,List.set_cons_zero,List.set_cons_succ,List.getElem_toArray,List.getElem_cons_zero,List.getElem_cons_succ])
  refine wpAnyH_take (i:=9) rfl (by kernel_rfl) (by kernel_rfl) (by kernel_rfl) (fun _ _ _ h => h) (Or.inl ⟨by rfl,by intro w hSw;(skip);(go_simp <;> with_reducible rfl)⟩) (by assumption) ?_
  (try simp only [Act.put,List.setIfInBounds_toArray,List.set_cons_zero,List.set_cons_succ,List.getElem_toArray,List.getElem_cons_zero,List.getElem_cons_succ])
  refine wpAnyH_ready (rs:=[10]) (by kernel_rfl) (by simp) (AllReadyH.cons rfl (fun K hK => ?_) AllReadyH.nil)
  go_simp
  refine hK.out _ _ (keep_alloc2 hHeld) (fun hHeld => ?_)
  clear hK K
  (try simp only [Act.put,List.setIfInBounds_toArray,List.set_cons_zero,List.set_cons_succ,List.getElem_toArray,List.getElem_cons_zero,List.getElem_cons_succ])
  refine wpAnyH_ready (rs:=[11]) (by kernel_rfl) (by simp) (AllReadyH.cons rfl (fun K hK => ?_) AllReadyH.nil)
  rw [if_pos (by rfl)]
  refine wp_store_mid _ _ _ rfl W.heap.size 0 (didV false 0 (.slice none 0 0) false false false (1 + 2 * (p:Int) + i)) rfl rfl hth1 hsd (by kernel_rfl) ?_
  refine hK.out _ _ (keep_box2 hHeld (by omega)) (fun hHeld => ?_)
  clear hK K
  (try simp only [Act.put,List.setIfInBounds_toArray,List.set_cons_zero,List.set_cons_succ,List.getElem_toArray,List.getElem_cons_zero,List.getElem_cons_succ])
  refine wpAnyH_done (by kernel_rfl) ?_ _
  rotate_left
  go_simp
  refine hK.out _ _ (keep_alloc2 hHeld) (fun hHeld => ?_)
  clear hK K
  (try simp only [Act.put,List.setIfInBounds_toArray,List.set_cons_zero,List.set_cons_succ,List.getElem_toArray,List.getElem_cons_zero,List.getElem_cons_succ])
  refine wpAnyH_ready (rs:=[8]) (by kernel_rfl) (by simp) (AllReadyH.cons rfl (fun K hK => ?_) AllReadyH.nil)
  go_simp
  refine (HNU.out _).mono ?_
  rintro e w5 ⟨rfl,rfl⟩
  refine hK.out _ _ (by exact hHeld) (fun hHeld => ?_)
  clear hK K
  (try simp only [Act.put,List.setIfInBounds_toArray,List.set_cons_zero,List.set_cons_succ,List.getElem_toArray,List.getElem_cons_zero,List.getElem_cons_succ])
  refine wpAnyH_take (i:=9) rfl (by kernel_rfl) (by kernel_rfl) (by kernel_rfl) (fun _ _ _ h => h) (Or.inl ⟨by rfl,by intro w hSw;(skip);(go_simp <;> with_reducible rfl)⟩) (by assumption) ?_
  (try simp only [Act.put,List.setIfInBounds_toArray,List.set_cons_zero,List.set_cons_succ,List.getElem_toArray,List.getElem_cons_zero,List.getElem_cons_succ])
  refine wpAnyH_ready (rs:=[11]) (by kernel_rfl) (by simp) (AllReadyH.cons rfl (fun K hK => ?_) AllReadyH.nil)
  rw [if_pos (by rfl)]
  refine wp_store_mid _ _ _ rfl W.heap.size 0 (didV false 0 (.slice none 0 0) false false false (1 + 2 * (p:Int) + i)) rfl rfl hth1 hsd (by kernel_rfl) ?_
  refine hK.out _ _ (keep_box2 hHeld (by omega)) (fun hHeld => ?_)
  clear hK K
  (try simp only [Act.put,List.setIfInBounds_toArray,List.set_cons_zero,List.set_cons_succ,List.getElem_toArray,List.getElem_cons_zero,List.getElem_cons_succ])
  refine wpAnyH_done (by kernel_rfl) ?_ _
  all_goals rw [← HV.out]
  all_goals go_wp2_with (first | (rw [← HV1.out]) | (with_reducible refine wpList_store_mid (by kernel_rfl) _ _ _ rfl W.heap.size 1 (#[.int .i64 1,.slice none 0 0,.bool false,.int .i64 0]) (by kernel_rfl) (by kernel_rfl) hth2 hsa (by kernel_rfl) ?_) | (rw [← HV2.out]) | (with_reducible refine wpList_loadW (by kernel_rfl) 56 _ rfl _ (by kernel_rfl) _ _ _ _ HV2B.out Tryz.underlying56 (by kernel_rfl) hs9 ?_) | (with_reducible refine wpList_store_mid (by kernel_rfl) _ _ _ rfl w.heap.size 0 (didV true 1 (.slice none 0 0) false false false (1 + 2 * (p:Int) + i)) (by kernel_rfl) (by kernel_rfl) hth hsd2 (by kernel_rfl) ?_))
  all_goals (have hrg:=World.rangeAt_setCells_same (V2) w.heap.size 0 (didV true 1 (.slice none 0 0) false false false (1 + 2 * (p:Int) + i):Array Value).toList hth;(try simp only [Exit.inBlock,Exit.then]);refine bodyPost_ret (results_cell_tmp rfl _ _ w.heap.size (didV true 1 (.slice none 0 0) false false false (1 + 2 * (p:Int) + i):Array Value).toList _ rfl hrg Tryz.underlying56 rfl did_size) rfl ?_;exact ⟨rfl,StepR.fin HBX.out HMX.out HOX.out hwl hml.1 hml.2 _⟩)
theorem r_len_b (mb rb wb:Nat) (ws:List Int) (nx:Value) (A:Pl8) (nw per:Int) (p i:Nat) (len st:Int) (now:Int) (w:World) (x:Int) (hw:RBlk w wb nx A nw per p i len st) (hm:MemAt w mb rb ws) (hl:ws.length ≤ 1000000) (hp:p ≤ 1) (hi:i ≤ 1) (ha:A.buf p i < ws.length) (h0:ws.getD (A.buf p i) 0 = x) (hx:0 < x ∧ x ≤ 4294967295) (hnw:0 ≤ nw ∧ nw ≤ 1000):Calls Tryz.prog 109 #[.pointer (some ⟨wb,0,none⟩),.pointer (some ⟨mb,0,none⟩),.int .i64 now] w fun e w' => e = .returned (.tuple #[.agg (didV false 0 (.slice none 0 0) false false false (1 + 2 * (p:Int) + i)),.func (.func 114) #[.pointer (some ⟨wb,0,none⟩)] #[]]) ∧ StepR w mb rb wb (ws) nx A nw per (p) (i) (if x ≤ nw then x else nw) (st) w':=by
  obtain ⟨W,HW,hsz,hO,hz⟩:=did_new w
  have hwl:=hw.lt
  have hml:=hm.lt
  have hW:=hw.only hO (fun h => h)
  have hM:=hm.only hO (fun h => h) (fun h => h)
  have hO2:Only (New w.heap.size fun k => k = wb ∨ k = rb) w W:=hO.mono (fun k _ h => h.elim)
  have c2:W.cell? ⟨wb,2,none⟩ = some (.int .i64 A.re):=hW.cell rfl
  have c9:W.cell? ⟨wb,9,none⟩ = some (.int .i64 nw):=hW.cell rfl
  have c11:W.cell? ⟨wb,11,none⟩ = some (.int .u32 p):=hW.cell rfl
  have c12:W.cell? ⟨wb,12,none⟩ = some (.int .u32 i):=hW.cell rfl
  have c13:W.cell? ⟨wb,13,none⟩ = some (.int .i64 len):=hW.cell rfl
  have g13:=hW.frozen 13
  have HBF:=Lib.hid (fun (W':World) (h:RBlk W' wb nx A nw per p i len st) => r_buffer_b wb nx A nw per p i len st W' h hp hi)
  have HNU:=Lib.hid (fun (W':World) => number_b p i hp hi W')
  obtain ⟨k,hk⟩:∃ k,A.buf p i = k:=⟨_,rfl⟩
  rw [hk] at ha HBF h0
  have HL:=Lib.hid (fun (W':World) (av:Int) (hav:av = ((k:Nat):Int)) (h:MemAt W' mb rb ws) => (show Calls Tryz.prog 67 #[.pointer (some ⟨mb,0,none⟩),.int .i64 av] W' fun e w' => e = .returned (.int .u32 (ws.getD (k) 0)) ∧ W' = w' from by subst hav;exact load_b mb rb ws _ W' h hl ha))
  rw [h0] at HL
  obtain ⟨z,hz'⟩:∃ z,(if x ≤ nw then x else nw) = z:=⟨_,rfl⟩
  have hmin:∀ (ts:Array TypeId) (t:TypeId) (w:World),(Builtin.min_ ts t #[.int .u32 x,.int .u32 nw]).run Tryz.prog w = .ok (.int .u32 z) w:=fun ts t w => by
    rw [run_min_int2,show (if nw < x then nw else x) = z by rw [← hz'];split <;> split <;> omega]
  have hzz:0 ≤ z ∧ z ≤ 1000:=by rw [← hz'];split <;> omega
  have hw1:IntKind.u32.wrap nw = nw:=IntWalk.u32_in _ (by omega)
  have hw2:IntKind.i64.wrap z = z:=IntWalk.i64_in _ (by omega)
  rw [hz']
  have HNE:=Lib.hid (hw.ne_mem hm);have HWB:=Lib.hid hW;have HM:=Lib.hid hM;have HO2:=Lib.hid hO2;have HZ:=Lib.hid hz
  have hwW:wb < W.heap.size:=by omega
  have HSZ:=Lib.hid hsz
  have hth1:=there_at (heap_alloc_new W (.cells (didV false 0 (.slice none 0 0) false false false 0) 56)) (n:=(didV false 0 (.slice none 0 0) false false false (1 + 2 * (p:Int) + i):Array Value).size) rfl
  have hsd:(Tryz.prog.info? 56).map (·.size) = some (didV false 0 (.slice none 0 0) false false false (1 + 2 * (p:Int) + i):Array Value).size:=did_size
  obtain ⟨V,HV⟩:∃ V,Hid (V = ((W.alloc (.cells (didV false 0 (.slice none 0 0) false false false 0) 56)).drew.drew).setCells W.heap.size 0 (didV false 0 (.slice none 0 0) false false false (1 + 2 * (p:Int) + i):Array Value).toList):=⟨_,rfl⟩
  have HOV:Hid (Only (New W.heap.size fun _ => False) W V):=Lib.hid (by rw [HV.out];exact Only.sets (S:=New W.heap.size fun _ => False) (.inl (Nat.le_refl _)) _ 0 (((Only.refl _ W).alloc _).drew.drew))
  have HVB:Hid (V.heap[W.heap.size]? = some (.cells (didV false 0 (.slice none 0 0) false false false (1 + 2 * (p:Int) + i)) 56 (0,0))):=Lib.hid (by rw [HV.out];exact blk_did (X:=((W.alloc (.cells (didV false 0 (.slice none 0 0) false false false 0) 56)).drew.drew)) (show (W.alloc (.cells (didV false 0 (.slice none 0 0) false false false 0) 56)).heap[W.heap.size]? = _ from heap_alloc_new W _) _ rfl)
  have hno:∀ k,k < W.heap.size → ¬ New W.heap.size (fun _ => False) k:=fun k hk h => h.elim (fun h => by omega) (fun h => h)
  have HBV:=Lib.hid (HWB.out.only HOV.out (hno _ hwW))
  obtain ⟨X,HX⟩:∃ X,Hid (X = V.setCell ⟨wb,13,none⟩ (.int .i64 z)):=⟨_,rfl⟩
  have HXO:Hid (Only (fun k => k = wb) V X):=Lib.hid (by rw [HX.out];exact Only.setCell V ⟨wb,13,none⟩ _)
  have HXB:Hid (X.heap[W.heap.size]? = some (.cells (didV false 0 (.slice none 0 0) false false false (1 + 2 * (p:Int) + i)) 56 (0,0))):=Lib.hid (HXO.out.at_ HVB.out (by omega))
  have HBX:Hid (RBlk X wb nx A nw per p i z st):=Lib.hid (by rw [HX.out];exact HBV.out.setLen z)
  have HMX:=Lib.hid ((HM.out.only HOV.out (hno _ HM.out.lt.1) (hno _ HM.out.lt.2)).only HXO.out HNE.out.1 HNE.out.2)
  have HOX:Hid (Only (New w.heap.size fun k => k = wb ∨ k = rb) w X):=Lib.hid ((HO2.out.trans (HOV.out.mono fun k _ h => h.elim (fun h => .inl (by omega)) (fun h => h.elim))).trans (HXO.out.mono fun k _ h => .inr (.inl h)))
  have HZX:=Lib.hid (HXO.out.at_ (HOV.out.at_ HZ.out (hno _ (by omega))) (by omega))
  have hs9:(Tryz.prog.info? 56).map (·.size) = some (didV false 0 (.slice none 0 0) false false false (1 + 2 * (p:Int) + i)).size:=did_size
  have v9:V.cell? ⟨wb,9,none⟩ = some (.int .i64 nw):=HBV.out.cell rfl
  have v13:V.cell? ⟨wb,13,none⟩ = some (.int .i64 len):=HBV.out.cell rfl
  have gv13:=HBV.out.frozen 13
  have hth:=there_at (W:=X) HZX.out (n:=(didV false 0 (.slice none 0 0) false false false (1 + 2 * (p:Int) + i):Array Value).size) rfl
  have hsd2:(Tryz.prog.info? 56).map (·.size) = some (didV false 0 (.slice none 0 0) false false false (1 + 2 * (p:Int) + i):Array Value).size:=did_size
  have hx0:(x == 0) = false:=by simp;omega
  clear hno hk hw hm hO hW hO2 hz hM h0 hsz hx hzz hz'
  go_enter Tryz.func109,Tryz.ntmps109
  go_wp2_with (first | (rw [← HW.out]) | (go_at_call 113;((with_reducible refine (HBF.out _ ?_).mono ?_);(first | exact HWB.out | exact HWB.out.drew | exact HWB.out.drew.drew);rintro e w5 ⟨rfl,rfl⟩)) | (go_at_call 67;((with_reducible refine (HL.out _ _ ?_ ?_).mono ?_);(first | (with_reducible rfl) | omega | exact IntWalk.i64_in _ (by omega) | (rw [IntWalk.i64_in _ (by omega)] <;> omega) | (rw [IntWalk.i64_in (_ + 2) (by omega),IntWalk.i64_in _ (by omega)] <;> omega));(first | exact HM.out | exact HM.out.drew | exact HM.out.drew.drew | exact HM.out.drew.drew.drew);rintro e w5 ⟨rfl,rfl⟩)))
  refine wp_region_held_drew (S:=fun W' => W'.cell? ⟨wb,11,none⟩ = some (.int .u32 p) ∧ W'.cell? ⟨wb,12,none⟩ = some (.int .u32 i)) (by kernel_rfl) (⟨c11,c12⟩) (fun hHeld => ?_)
  refine wpAnyH_take (i:=0) rfl (by kernel_rfl) (by kernel_rfl) (by kernel_rfl) (fun _ _ _ h => h) (Or.inl ⟨by rfl,by intro w hSw;(skip);(go_simp <;> with_reducible rfl)⟩) (by assumption) ?_
  (try simp only [Act.put,List.setIfInBounds_toArray,List.set_cons_zero,List.set_cons_succ,List.getElem_toArray,List.getElem_cons_zero,List.getElem_cons_succ])
  refine wpAnyH_take (i:=1) rfl (by kernel_rfl) (by kernel_rfl) (by kernel_rfl) (fun _ _ _ h => h) (Or.inl ⟨by rfl,by intro w hSw;(skip);(go_simp <;> with_reducible rfl)⟩) (by assumption) ?_
  (try simp only [Act.put,List.setIfInBounds_toArray,List.set_cons_zero,List.set_cons_succ,List.getElem_toArray,List.getElem_cons_zero,List.getElem_cons_succ])
  refine wpAnyH_take (i:=2) rfl (by kernel_rfl) (by kernel_rfl) (by kernel_rfl) (fun _ _ _ h => h) (Or.inl ⟨by rfl,by intro w hSw;(skip);(go_simp <;> with_reducible rfl)⟩) (by assumption) ?_
  (try simp only [Act.put,List.setIfInBounds_toArray,List.set_cons_zero,List.set_cons_succ,List.getElem_toArray,List.getElem_cons_zero,List.getElem_cons_succ])
  refine wpAnyH_take (i:=3) rfl (by kernel_rfl) (by kernel_rfl) (by kernel_rfl) (fun _ _ _ h => h) (Or.inl ⟨by rfl,by intro w hSw;(skip);(go_simp <;> with_reducible rfl)⟩) (by assumption) ?_
  (try simp only [Act.put,List.setIfInBounds_toArray,List.set_cons_zero,List.set_cons_succ,List.getElem_toArray,List.getElem_cons_zero,List.getElem_cons_succ])
  refine wpAnyH_take (i:=4) rfl (by kernel_rfl) (by kernel_rfl) (by kernel_rfl) (fun _ _ _ h => h) (Or.inl ⟨by rfl,by intro w hSw;(skip);(go_simp <;> with_reducible rfl)⟩) (by assumption) ?_
  (try simp only [Act.put,List.setIfInBounds_toArray,List.set_cons_zero,List.set_cons_succ,List.getElem_toArray,List.getElem_cons_zero,List.getElem_cons_succ])
  refine wpAnyH_take (i:=5) rfl (by kernel_rfl) (by kernel_rfl) (by kernel_rfl) (fun _ _ _ h => h) (Or.inl ⟨by rfl,by intro w hSw;(skip);(go_simp <;> with_reducible rfl)⟩) (by assumption) ?_
  (try simp only [Act.put,List.setIfInBounds_toArray,List.set_cons_zero,List.set_cons_succ,List.getElem_toArray,List.getElem_cons_zero,List.getElem_cons_succ])
  refine wpAnyH_take (i:=6) rfl (by kernel_rfl) (by kernel_rfl) (by kernel_rfl) (fun _ _ _ h => h) (Or.inl ⟨by rfl,by intro w hSw;(skip);(go_simp <;> with_reducible rfl)⟩) (by assumption) ?_
  (try simp only [Act.put,List.setIfInBounds_toArray,List.set_cons_zero,List.set_cons_succ,List.getElem_toArray,List.getElem_cons_zero,List.getElem_cons_succ])
  refine wpAnyH_take (i:=7) rfl (by kernel_rfl) (by kernel_rfl) (by kernel_rfl) (fun _ _ _ h => h) (Or.inl ⟨by rfl,by intro w hSw;(skip);(go_simp <;> with_reducible rfl)⟩) (by assumption) ?_
  (try simp only [Act.put,List.setIfInBounds_toArray,List.set_cons_zero,List.set_cons_succ,List.getElem_toArray,List.getElem_cons_zero,List.getElem_cons_succ])
  refine wpAnyH_ready (rs:=[8,10]) (by kernel_rfl) (by simp) (AllReadyH.cons rfl (fun K hK => ?_) (AllReadyH.cons rfl (fun K hK => ?_) AllReadyH.nil))
  go_simp
  refine (HNU.out _).mono ?_
  rintro e w5 ⟨rfl,rfl⟩
  refine hK.out _ _ (by exact hHeld) (fun hHeld => ?_)
  clear hK K
  (try simp only [Act.put,List.setIfInBounds_toArray,List.set_cons_zero,List.set_cons_succ,List.getElem_toArray,List.getElem_cons_zero,List.getElem_cons_succ])
  refine wpAnyH_take (i:=9) rfl (by kernel_rfl) (by kernel_rfl) (by kernel_rfl) (fun _ _ _ h => h) (Or.inl ⟨by rfl,by intro w hSw;(skip);(go_simp <;> with_reducible rfl)⟩) (by assumption) ?_
  (try simp only [Act.put,List.setIfInBounds_toArray,List.set_cons_zero,List.set_cons_succ,List.getElem_toArray,List.getElem_cons_zero,List.getElem_cons_succ])
  refine wpAnyH_ready (rs:=[10]) (by kernel_rfl) (by simp) (AllReadyH.cons rfl (fun K hK => ?_) AllReadyH.nil)
  go_simp
  refine hK.out _ _ (keep_alloc2 hHeld) (fun hHeld => ?_)
  clear hK K
  (try simp only [Act.put,List.setIfInBounds_toArray,List.set_cons_zero,List.set_cons_succ,List.getElem_toArray,List.getElem_cons_zero,List.getElem_cons_succ])
  refine wpAnyH_ready (rs:=[11]) (by kernel_rfl) (by simp) (AllReadyH.cons rfl (fun K hK => ?_) AllReadyH.nil)
  rw [if_pos (by rfl)]
  refine wp_store_mid _ _ _ rfl W.heap.size 0 (didV false 0 (.slice none 0 0) false false false (1 + 2 * (p:Int) + i)) rfl rfl hth1 hsd (by kernel_rfl) ?_
  refine hK.out _ _ (keep_box2 hHeld (by omega)) (fun hHeld => ?_)
  clear hK K
  (try simp only [Act.put,List.setIfInBounds_toArray,List.set_cons_zero,List.set_cons_succ,List.getElem_toArray,List.getElem_cons_zero,List.getElem_cons_succ])
  refine wpAnyH_done (by kernel_rfl) ?_ _
  rotate_left
  go_simp
  refine hK.out _ _ (keep_alloc2 hHeld) (fun hHeld => ?_)
  clear hK K
  (try simp only [Act.put,List.setIfInBounds_toArray,List.set_cons_zero,List.set_cons_succ,List.getElem_toArray,List.getElem_cons_zero,List.getElem_cons_succ])
  refine wpAnyH_ready (rs:=[8]) (by kernel_rfl) (by simp) (AllReadyH.cons rfl (fun K hK => ?_) AllReadyH.nil)
  go_simp
  refine (HNU.out _).mono ?_
  rintro e w5 ⟨rfl,rfl⟩
  refine hK.out _ _ (by exact hHeld) (fun hHeld => ?_)
  clear hK K
  (try simp only [Act.put,List.setIfInBounds_toArray,List.set_cons_zero,List.set_cons_succ,List.getElem_toArray,List.getElem_cons_zero,List.getElem_cons_succ])
  refine wpAnyH_take (i:=9) rfl (by kernel_rfl) (by kernel_rfl) (by kernel_rfl) (fun _ _ _ h => h) (Or.inl ⟨by rfl,by intro w hSw;(skip);(go_simp <;> with_reducible rfl)⟩) (by assumption) ?_
  (try simp only [Act.put,List.setIfInBounds_toArray,List.set_cons_zero,List.set_cons_succ,List.getElem_toArray,List.getElem_cons_zero,List.getElem_cons_succ])
  refine wpAnyH_ready (rs:=[11]) (by kernel_rfl) (by simp) (AllReadyH.cons rfl (fun K hK => ?_) AllReadyH.nil)
  rw [if_pos (by rfl)]
  refine wp_store_mid _ _ _ rfl W.heap.size 0 (didV false 0 (.slice none 0 0) false false false (1 + 2 * (p:Int) + i)) rfl rfl hth1 hsd (by kernel_rfl) ?_
  refine hK.out _ _ (keep_box2 hHeld (by omega)) (fun hHeld => ?_)
  clear hK K
  (try simp only [Act.put,List.setIfInBounds_toArray,List.set_cons_zero,List.set_cons_succ,List.getElem_toArray,List.getElem_cons_zero,List.getElem_cons_succ])
  refine wpAnyH_done (by kernel_rfl) ?_ _
  all_goals rw [← HV.out]
  all_goals go_wp2_with (first | (rw [← HX.out]) | (with_reducible refine wpList_loadW (by kernel_rfl) 56 _ rfl _ (by kernel_rfl) _ _ _ _ HXB.out Tryz.underlying56 (by kernel_rfl) hs9 ?_) | (with_reducible refine wpList_store_mid (by kernel_rfl) _ _ _ rfl w.heap.size 0 (didV false 0 (.slice none 0 0) false false false (1 + 2 * (p:Int) + i)) (by kernel_rfl) (by kernel_rfl) hth hsd2 (by kernel_rfl) ?_))
  all_goals (have hrg:=World.rangeAt_setCells_same (X) w.heap.size 0 (didV false 0 (.slice none 0 0) false false false (1 + 2 * (p:Int) + i):Array Value).toList hth;(try simp only [Exit.inBlock,Exit.then]);refine bodyPost_ret (results_cell_tmp rfl _ _ w.heap.size (didV false 0 (.slice none 0 0) false false false (1 + 2 * (p:Int) + i):Array Value).toList _ rfl hrg Tryz.underlying56 rfl did_size) rfl ?_;exact ⟨rfl,StepR.fin HBX.out HMX.out HOX.out hwl hml.1 hml.2 _⟩)
end Go.Proofs.YtmhpcgcloojfbaaGreat
namespace Go.Proofs.YtmhpcgcloojfbaaGreat
open Go.RowKit Go.Sort
set_option linter.unusedVariables false
set_option linter.unusedSimpArgs false
set_option linter.unusedVariables false
set_option linter.unusedSimpArgs false
open Go.Proofs.YtmhpcgcloojfbaaGreat.Simp (oddN oddN_le)
set_option maxRecDepth 100000
set_option maxHeartbeats 3200000
/-- The world behind the making of a step that loads a word;v: what was loaded. -/
def wordR (w:World) (wb:Nat) (v:Value):World:=(w.alloc (.cells #[.pointer (some ⟨wb,0,none⟩)] 48)).alloc (.cells #[v] 30)
theorem r_word_b (wb:Nat) (a:Option Addr) (n c:Nat) (w:World):Calls Tryz.prog 118 #[.pointer (some ⟨wb,0,none⟩),.slice a n c] w fun e w' => e = .returned (.func (.func 122) #[] #[.pointer (some ⟨w.heap.size + 1,0,none⟩),.pointer (some ⟨w.heap.size,0,none⟩)]) ∧ w' = wordR w wb (.slice a n c):=by
  unfold wordR
  go_enter Tryz.func118,Tryz.ntmps118
  go_wp2
  go_ret
  exact ⟨rfl,rfl⟩
def NextR (w w':World) (wb:Nat) (v nx:Value):Prop:=∃ bl br,nx = .func (.func 122) #[] #[.pointer (some ⟨bl,0,none⟩),.pointer (some ⟨br,0,none⟩)] ∧ w.heap.size ≤ bl ∧ w.heap.size ≤ br ∧ w'.heap[br]? = some (.cells #[.pointer (some ⟨wb,0,none⟩)] 48 (0,0)) ∧ w'.heap[bl]? = some (.cells #[v] 30 (0,0))
theorem wordR_only (w:World) (wb:Nat) (v:Value):Only (fun _ => False) w (wordR w wb v):=((Only.refl _ w).alloc _).alloc _
theorem wordR_box (w:World) (wb:Nat) (v:Value):(wordR w wb v).heap[w.heap.size]? = some (.cells #[.pointer (some ⟨wb,0,none⟩)] 48 (0,0)) ∧ (wordR w wb v).heap[w.heap.size + 1]? = some (.cells #[v] 30 (0,0)):=by
  refine ⟨?_,?_⟩
  · show ((w.alloc (.cells #[.pointer (some ⟨wb,0,none⟩)] 48)).alloc (.cells #[v] 30)).heap[w.heap.size]? = _
    rw [Below.heap_alloc _ _ _ (by simp)];exact heap_alloc_new w _
  · have:=heap_alloc_new (w.alloc (.cells #[.pointer (some ⟨wb,0,none⟩)] 48)) (.cells #[v] 30)
    rw [World.size_alloc] at this
    exact this
theorem NextR.of {w W w':World} {wb:Nat} {v:Value} (hs:w.heap.size < W.heap.size) (h:Only (fun k => k = w.heap.size) (wordR W wb v) w') :
    NextR w w' wb v (.func (.func 122) #[] #[.pointer (some ⟨W.heap.size + 1,0,none⟩),.pointer (some ⟨W.heap.size,0,none⟩)]):=
  ⟨_,_,rfl,by omega,by omega,h.at_ (wordR_box W wb v).1 (by omega),h.at_ (wordR_box W wb v).2 (by omega)⟩
theorem r_stamp_b (mb rb wb:Nat) (ws:List Int) (nx:Value) (A:Pl8) (nw per:Int) (p i:Nat) (len st:Int) (now:Int) (w:World) (x:Int) (hw:RBlk w wb nx A nw per p i len st) (hm:MemAt w mb rb ws) (hl:ws.length ≤ 1000000) (hp:p ≤ 1) (hi:i ≤ 1) (ha:A.buf p i + 1 < ws.length) (h0:ws.getD (A.buf p i + 1) 0 = x):Calls Tryz.prog 114 #[.pointer (some ⟨wb,0,none⟩),.pointer (some ⟨mb,0,none⟩),.int .i64 now] w fun e w' => ∃ nx',e = .returned (.tuple #[.agg (didV false 0 (.slice none 0 0) false false false 0),nx']) ∧ NextR w w' wb (.slice none 0 0) nx' ∧ StepR w mb rb wb (ws) nx A nw per p i len (x) w':=by
  obtain ⟨W,HW,hsz,hO,hz⟩:=did_new w
  have hwl:=hw.lt
  have hml:=hm.lt
  have hW:=hw.only hO (fun h => h)
  have hM:=hm.only hO (fun h => h) (fun h => h)
  have hO2:Only (New w.heap.size fun k => k = wb ∨ k = rb) w W:=hO.mono (fun k _ h => h.elim)
  have c14:W.cell? ⟨wb,14,none⟩ = some (.int .u32 st):=hW.cell rfl
  have g14:=hW.frozen 14
  have HBF:=Lib.hid (fun (W':World) (h:RBlk W' wb nx A nw per p i len st) => r_buffer_b wb nx A nw per p i len st W' h hp hi)
  obtain ⟨k,hk⟩:∃ k,A.buf p i = k:=⟨_,rfl⟩
  rw [hk] at ha HBF h0
  have HL:=Lib.hid (fun (W':World) (av:Int) (hav:av = ((k + 1:Nat):Int)) (h:MemAt W' mb rb ws) => (show Calls Tryz.prog 67 #[.pointer (some ⟨mb,0,none⟩),.int .i64 av] W' fun e w' => e = .returned (.int .u32 (ws.getD (k + 1) 0)) ∧ W' = w' from by subst hav;exact load_b mb rb ws _ W' h hl ha))
  rw [h0] at HL
  have HNE:=Lib.hid (hw.ne_mem hm);have HWB:=Lib.hid hW;have HM:=Lib.hid hM;have HO2:=Lib.hid hO2;have HZ:=Lib.hid hz
  clear hk hw hm hO hW hO2 hz hM h0
  obtain ⟨X,HX⟩:∃ X,Hid (X = (W.setCell ⟨wb,14,none⟩ (.int .u32 x)).drew):=⟨_,rfl⟩
  have HZX:Hid (X.heap[w.heap.size]? = some (.cells (didV false 0 (.slice none 0 0) false false false 0) 56 (0,0))):=Lib.hid (by rw [HX.out];exact (Below.heap_setCell _ _ _ _ (by show w.heap.size ≠ wb;omega)).trans HZ.out)
  have HBX:=Lib.hid ((HWB.out.setStamp x).drew)
  have HOX:Hid (Only (New w.heap.size fun k => k = wb ∨ k = rb) w X):=Lib.hid (by rw [HX.out];exact (HO2.out.set (p:=⟨wb,14,none⟩) (.inr (.inl rfl)) _).drew)
  have HMX:Hid (MemAt X mb rb ws):=Lib.hid (by rw [HX.out];exact (HM.out.only (Only.setCell W ⟨wb,14,none⟩ _) HNE.out.1 HNE.out.2).drew)
  rw [← HX.out] at HBX
  have hXs:W.heap.size ≤ X.heap.size:=by rw [HX.out];exact Nat.le_of_eq (by simp [World.setCell])
  obtain ⟨Y,HY⟩:∃ Y,Hid (Y = wordR X wb (.slice none 0 0)):=⟨_,rfl⟩
  have HOY:=Lib.hid (wordR_only X wb (.slice none 0 0))
  rw [← HY.out] at HOY
  have HZX:=Lib.hid (HOY.out.at_ HZX.out (fun h => h))
  have hth:=there_at (W:=Y) HZX.out (n:=(didV false 0 (.slice none 0 0) false false false 0:Array Value).size) rfl
  have hsd:(Tryz.prog.info? 56).map (·.size) = some (didV false 0 (.slice none 0 0) false false false 0:Array Value).size:=did_size
  go_enter Tryz.func114,Tryz.ntmps114
  go_wp2_with (first | (rw [← HW.out]) | (go_at_call 113;((with_reducible refine (HBF.out _ ?_).mono ?_);(first | exact HWB.out | exact HWB.out.drew | exact HWB.out.drew.drew);rintro e w5 ⟨rfl,rfl⟩)) | (go_at_call 67;((with_reducible refine (HL.out _ _ ?_ ?_).mono ?_);(first | (with_reducible rfl) | omega | exact IntWalk.i64_in _ (by omega) | (rw [IntWalk.i64_in _ (by omega)] <;> omega) | (rw [IntWalk.i64_in (_ + 2) (by omega),IntWalk.i64_in _ (by omega)] <;> omega));(first | exact HM.out | exact HM.out.drew | exact HM.out.drew.drew | exact HM.out.drew.drew.drew);rintro e w5 ⟨rfl,rfl⟩)) | (rw [← HX.out]) | (go_at_call 118;((with_reducible refine (r_word_b wb _ _ _ _).mono ?_);rintro e w5 ⟨rfl,rfl⟩)) | (rw [← HY.out]) | (with_reducible refine wpList_store_mid (by kernel_rfl) _ _ _ rfl w.heap.size 0 (didV false 0 (.slice none 0 0) false false false 0) (by kernel_rfl) (by kernel_rfl) hth hsd (by kernel_rfl) ?_))
  have hrg:=World.rangeAt_setCells_same (Y) w.heap.size 0 (didV false 0 (.slice none 0 0) false false false 0:Array Value).toList hth
  (try simp only [Exit.inBlock,Exit.then])
  refine bodyPost_ret (results_cell_tmp rfl _ _ w.heap.size (didV false 0 (.slice none 0 0) false false false 0:Array Value).toList _ rfl hrg Tryz.underlying56 rfl did_size) rfl ?_
  exact ⟨_,rfl,NextR.of (W:=X) (by omega) (by rw [← HY.out];exact Only.sets (S:=fun k => k = w.heap.size) rfl _ 0 (Only.refl _ _)),StepR.fin (HBX.out.only HOY.out (fun h => h)) (HMX.out.only HOY.out (fun h => h) (fun h => h)) (HOX.out.trans (HOY.out.mono (fun _ _ h => h.elim))) hwl hml.1 hml.2 _⟩
theorem alloc_keeps {X:World} {b d i j:Nat} {u v:Value} {o:Obj} (h:X.cell? ⟨b,i,none⟩ = some u ∧ X.cell? ⟨d,j,none⟩ = some v):(X.alloc o).cell? ⟨b,i,none⟩ = some u ∧ (X.alloc o).cell? ⟨d,j,none⟩ = some v:=by
  have h1:=h.1;have h2:=h.2
  have e1:=Below.heap_alloc X o b (World.block_lt_of_cell? X ⟨b,i,none⟩ h.1)
  have e2:=Below.heap_alloc X o d (World.block_lt_of_cell? X ⟨d,j,none⟩ h.2)
  unfold World.cell? at h1 h2 ⊢
  rw [e1,e2];exact ⟨h1,h2⟩
theorem grown_keeps {X Y:World} {b d i j:Nat} {u v:Value} {r:Option Nat} (h:X.cell? ⟨b,i,none⟩ = some u ∧ X.cell? ⟨d,j,none⟩ = some v) (hg:X.grownBy Y r) (n1:r ≠ some b) (n2:r ≠ some d):Y.cell? ⟨b,i,none⟩ = some u ∧ Y.cell? ⟨d,j,none⟩ = some v:=by
  have h1:=h.1;have h2:=h.2
  have e1:=hg.block b (World.block_lt_of_cell? X ⟨b,i,none⟩ h.1) (fun e => n1 e.symm)
  have e2:=hg.block d (World.block_lt_of_cell? X ⟨d,j,none⟩ h.2) (fun e => n2 e.symm)
  unfold World.cell? at h1 h2 ⊢
  rw [e1,e2];exact ⟨h1,h2⟩
/-- What a step that loads a word leaves: nothing else has turned but what was loaded. -/
structure StepL (w:World) (mb rb wb:Nat) (ws:List Int) (nx:Value) (A:Pl8) (nw per:Int) (p i:Nat) (len st:Int) (v v':Value) (xs:List Int) (w':World):Prop where
  blk:RBlk w' wb nx A nw per p i len st
  mem:MemAt w' mb rb ws
  only:Only (fun k => some k = v.ownBlock) w w'
  own:OwnsOff w' 0 34 1 v' xs.length (wcells (xs))
  new:∀ g,v'.ownBlock = some g → v.ownBlock = some g ∨ w.heap.size ≤ g
def GivesL (mb rb wb:Nat) (ws:List Int) (nx:Value) (A:Pl8) (nw per:Int) (p i:Nat) (len st:Int) (now:Int) (w:World) (v:Value) (ys:List Int) (more:Bool) (e:Ending) (w':World):Prop:=
  ∃ v' nx',e = .returned (.tuple #[.agg (if more then didV false 0 (.slice none 0 0) false false false 0 else didV true 0 v' (decide (now - st ≤ per)) false false 0),nx'])
      ∧ (more = true → NextR w w' wb v' nx') ∧ (more = false → nx' = .nilFunc) ∧ StepL w mb rb wb ws nx A nw per p i len st v v' ys w'
theorem r_word1_b (mb rb wb:Nat) (ws:List Int) (nx:Value) (A:Pl8) (nw per:Int) (p i:Nat) (len st:Int) (now:Int) (w:World) (a:Option Addr) (c:Nat) (xs:List Int) (bl br:Nat) (x:Int) (more:Bool) (hw:RBlk w wb nx A nw per p i len st) (hm:MemAt w mb rb ws) (hl:ws.length ≤ 1000000) (hp:p ≤ 1) (hi:i ≤ 1) (ha:A.buf p i + 2 + xs.length < ws.length) (h0:ws.getD (A.buf p i + 2 + xs.length) 0 = x)
    (hbr:w.heap[br]? = some (.cells #[.pointer (some ⟨wb,0,none⟩)] 48 (0,0))) (hbl:w.heap[bl]? = some (.cells #[(.slice a xs.length c)] 30 (0,0))) (hown:OwnsOff w 0 34 1 (.slice a xs.length c) xs.length (wcells (xs))) (hvr:Value.ownBlock (.slice a xs.length c) ≠ some rb) (hmore:decide ((xs.length:Int) + 1 < len) = more)
    (hst:0 ≤ st ∧ st ≤ 4294967295) (hnow:0 ≤ now ∧ now ≤ 1000000000000):Calls Tryz.prog 122 #[.pointer (some ⟨mb,0,none⟩),.int .i64 now,.pointer (some ⟨bl,0,none⟩),.pointer (some ⟨br,0,none⟩)] w fun e w' => GivesL mb rb wb ws nx A nw per p i len st now w (.slice a xs.length c) (xs ++ [x]) more e w':=by
  obtain ⟨i0,hi0,hz0,hz1,hz2⟩:=info_parts Tryz.infoW
  obtain ⟨W,HW,hsz,hO,hz⟩:=did_new w
  have hwl:=hw.lt
  have hml:=hm.lt
  have hW:=hw.only hO (fun h => h)
  have hM:=hm.only hO (fun h => h) (fun h => h)
  have hO2:Only (New w.heap.size fun k => k = wb ∨ k = rb) w W:=hO.mono (fun k _ h => h.elim)

  have HVN:=Lib.hid (show Value.ownBlock (.slice a xs.length c) ≠ some bl ∧ Value.ownBlock (.slice a xs.length c) ≠ some br from ⟨fun e => by obtain ⟨cs,hc⟩:=hown.typed _ e;have:=hc.symm.trans hbl;simp at this,fun e => by obtain ⟨cs,hc⟩:=hown.typed _ e;have:=hc.symm.trans hbr;simp at this⟩)
  have HVM:=Lib.hid (show Value.ownBlock (.slice a xs.length c) ≠ some wb ∧ Value.ownBlock (.slice a xs.length c) ≠ some mb from ⟨fun e => by obtain ⟨cs,hc⟩:=hown.typed _ e;have:=hc.symm.trans hw;simp at this,fun e => by obtain ⟨cs,hc⟩:=hown.typed _ e;have:=hc.symm.trans hm.head;simp at this⟩)
  have HVR:=Lib.hid hvr
  have HOWN:=Lib.hid (hown.kept hO (fun _ _ h => h))
  have HVL:=Lib.hid (show ∀ g,Value.ownBlock (.slice a xs.length c) = some g → g < w.heap.size from fun g hg => (hown.lt g hg).2)
  have HBL:=Lib.hid (hO.at_ hbl (fun h => h));have HBR:=Lib.hid (hO.at_ hbr (fun h => h))
  have b0:W.cell? ⟨bl,0,none⟩ = some (.slice a xs.length c):=blk_cell HBL.out rfl
  have r0:W.cell? ⟨br,0,none⟩ = some (.pointer (some ⟨wb,0,none⟩)):=blk_cell HBR.out rfl
  have HBF:=Lib.hid (fun (W':World) (h:RBlk W' wb nx A nw per p i len st) => r_buffer_b wb nx A nw per p i len st W' h hp hi)
  obtain ⟨k,hk⟩:∃ k,A.buf p i = k:=⟨_,rfl⟩
  rw [hk] at ha HBF h0
  have HL:=Lib.hid (fun (W':World) (av:Int) (hav:av = ((k + 2 + xs.length:Nat):Int)) (h:MemAt W' mb rb ws) => (show Calls Tryz.prog 67 #[.pointer (some ⟨mb,0,none⟩),.int .i64 av] W' fun e w' => e = .returned (.int .u32 (ws.getD (k + 2 + xs.length) 0)) ∧ W' = w' from by subst hav;exact load_b mb rb ws _ W' h hl ha))
  rw [h0] at HL
  have HNE:=Lib.hid (hw.ne_mem hm);have HWB:=Lib.hid hW;have HM:=Lib.hid hM;have HO2:=Lib.hid hO2;have HZ:=Lib.hid hz
  have HMORE:=Lib.hid hmore
  have HOW0:=Lib.hid hO
  have HSZ:=Lib.hid hsz
  clear hsz hk hw hm hO hW hO2 hz hM h0 hown hvr hbl hbr hmore
  go_enter Tryz.func122,Tryz.ntmps122
  go_wp2_with (rw [← HW.out])
  go_region_held3 (fun W' => W'.cell? ⟨bl,0,none⟩ = some ((.slice a xs.length c)) ∧ W'.cell? ⟨br,0,none⟩ = some (.pointer (some ⟨wb,0,none⟩))) ((first | exact ⟨b0,r0⟩ | exact alloc_keeps ⟨b0,r0⟩ | exact grown_keeps (X:=(W.alloc (.cells #[.int .u32 x] 34)).drew.drew) (alloc_keeps ⟨b0,r0⟩) hgrow HVN.out.1 HVN.out.2)) ((first | (go_at_call 113;((with_reducible refine (HBF.out _ ?_).mono ?_);(first | exact HWB.out | exact HWB.out.drew | exact HWB.out.drew.drew);rintro e w5 ⟨rfl,rfl⟩)) | (go_at_call 67;((with_reducible refine (HL.out _ _ ?_ ?_).mono ?_);(first | (with_reducible rfl) | omega | exact IntWalk.i64_in _ (by omega) | (rw [IntWalk.i64_in _ (by omega)] <;> omega) | (rw [IntWalk.i64_in (_ + 2) (by omega),IntWalk.i64_in _ (by omega)] <;> omega));(first | exact HM.out | exact HM.out.drew | exact HM.out.drew.drew | exact HM.out.drew.drew.drew);rintro e w5 ⟨rfl,rfl⟩)) | (refine step_append_off rfl _ _ 30 rfl 0 34 i0 (.int .u32 0) 1 4 Tryz.underlying30 hi0 hz0 hz1 hz2 rfl (by decide) _ _ _ rfl (HOWN.out.keptB ((Below.refl _ _).alloc (Nat.le_refl _) _).drew.drew) _ 1 1 [.int .u32 x] rfl rfl (news_block (w:=(W.alloc (.cells #[.int .u32 x] 34)).drew.drew) (B:=W.heap.size) (cs:=#[.int .u32 x]) (show (W.alloc (.cells #[.int .u32 x] 34)).heap[W.heap.size]? = _ from heap_alloc_new W _)) (by simp [Value.oneCell']) (by unfold maxLen;omega) (by omega) (Nat.zero_le _) ?_;intro v' w2 hown' hgrow hnew)))
  rename_i hlast
  have hgrow:(W.alloc (.cells #[.int .u32 x] 34)).drew.drew.grownBy w2 (Value.ownBlock (.slice a xs.length c)):=hgrow
  have hnew:∀ g,v'.ownBlock = some g → Value.ownBlock (.slice a xs.length c) = some g ∨ (W.alloc (.cells #[.int .u32 x] 34)).drew.drew.heap.size ≤ g:=hnew
  have hW2:Only (New W.heap.size fun k => some k = Value.ownBlock (.slice a xs.length c)) W w2:=(((Only.refl _ W).alloc _).drew.drew).trans ((Only.of_grown hgrow).mono fun k _ h => .inr h)
  have hno:∀ k,k < W.heap.size → Value.ownBlock (.slice a xs.length c) ≠ some k → ¬ New W.heap.size (fun k => some k = Value.ownBlock (.slice a xs.length c)) k:=fun k hk hv h => h.elim (fun h => by omega) (fun h => hv h.symm)
  have hWs:=HSZ.out
  have HB2:=Lib.hid (HWB.out.only hW2 (hno _ (by omega) HVM.out.1))
  have HM2:=Lib.hid (HM.out.only hW2 (hno _ (by omega) HVM.out.2) (hno _ (by omega) HVR.out))
  have HZX:=Lib.hid (hW2.at_ HZ.out (hno _ (by omega) (fun e => by have:=HVL.out _ e;omega)))
  have HBR2:=Lib.hid (hW2.at_ HBR.out (hno _ (Array.getElem?_eq_some_iff.1 HBR.out).1 HVN.out.2))
  have HOX:Hid (Only (New w.heap.size fun k => some k = Value.ownBlock (.slice a xs.length c)) w w2):=Lib.hid ((HOW0.out.mono fun _ _ h => h.elim).trans (hW2.mono fun k _ h => h.elim (fun h => .inl (by omega)) .inr))
  have HOWN2:Hid (OwnsOff w2 0 34 1 v' (xs ++ [x]).length (wcells (xs ++ [x]))):=Lib.hid (by rw [List.length_append,show wcells (xs ++ [x]) = wcells xs ++ [.int .u32 x] by simp [wcells]];exact hown')
  have HNEW:Hid (∀ g,v'.ownBlock = some g → Value.ownBlock (.slice a xs.length c) = some g ∨ w.heap.size < g):=Lib.hid (fun g hg => (hnew g hg).imp id (fun h => by have h:(W.alloc (.cells #[.int .u32 x] 34)).heap.size ≤ g:=h;rw [World.size_alloc] at h;omega))
  have HGT:=Lib.hid hW2.size
  obtain ⟨a',c',rfl,_⟩:=hown'.slice
  clear hlast hgrow hnew hW2 hno hown' b0 r0
  have r0:w2.cell? ⟨br,0,none⟩ = some (.pointer (some ⟨wb,0,none⟩)):=blk_cell HBR2.out rfl
  have e13:w2.cell? ⟨wb,13,none⟩ = some (.int .i64 len):=HB2.out.cell rfl
  have dm:decide ((xs.length:Int) + 1 < len) = more:=HMORE.out
  cases more with
  | true =>
    have dm1:(xs.length:Int) + 1 < len:=of_decide_eq_true dm
    obtain ⟨Y,HY⟩:∃ Y,Hid (Y = wordR w2 wb (.slice a' (xs.length + 1) c')):=⟨_,rfl⟩
    have HOY:=Lib.hid (wordR_only w2 wb (.slice a' (xs.length + 1) c'))
    rw [← HY.out] at HOY
    have HZX:=Lib.hid (HOY.out.at_ HZX.out (fun h => h))
    have HOS:=Lib.hid (Only.sets (S:=fun k => k = w.heap.size) rfl (didV false 0 (.slice none 0 0) false false false 0:Array Value).toList 0 (Only.refl _ Y))
    clear hWs
    have hth:=there_at (W:=Y) HZX.out (n:=(didV false 0 (.slice none 0 0) false false false 0:Array Value).size) rfl
    have hsd:(Tryz.prog.info? 56).map (·.size) = some (didV false 0 (.slice none 0 0) false false false 0:Array Value).size:=did_size
    go_wp2_with (first | (go_at_call 118;((with_reducible refine (r_word_b wb _ _ _ _).mono ?_);rintro e w5 ⟨rfl,rfl⟩)) | (rw [← HY.out]) | (with_reducible refine wpList_store_mid (by kernel_rfl) _ _ _ rfl w.heap.size 0 (didV false 0 (.slice none 0 0) false false false 0) (by kernel_rfl) (by kernel_rfl) hth hsd (by kernel_rfl) ?_))
    have hrg:=World.rangeAt_setCells_same Y w.heap.size 0 (didV false 0 (.slice none 0 0) false false false 0:Array Value).toList hth
    (try simp only [Exit.inBlock,Exit.then])
    refine bodyPost_ret (results_cell_tmp rfl _ _ w.heap.size (didV false 0 (.slice none 0 0) false false false 0:Array Value).toList _ rfl hrg Tryz.underlying56 rfl did_size) rfl ?_
    exact ⟨.slice a' (xs.length + 1) c',_,rfl,fun _ => NextR.of (W:=w2) (by have:=HGT.out;have:=HSZ.out;omega) (by rw [← HY.out];exact HOS.out),(fun h => by cases h),
      ⟨(HB2.out.only HOY.out (fun h => h)).only HOS.out (by omega),(HM2.out.only HOY.out (fun h => h) (fun h => h)).only HOS.out (by omega) (by omega),((HOX.out.trans (HOY.out.mono fun _ _ h => h.elim)).trans (HOS.out.mono fun k _ h => .inl (by omega))).old,(HOWN2.out.kept HOY.out (fun _ _ h => h)).kept HOS.out (fun k hk e => by subst e;(rcases HNEW.out _ hk with h | h) <;> (try have:=HVL.out _ h) <;> omega),fun g hg => (HNEW.out g hg).imp id Nat.le_of_lt⟩⟩
  | false =>
    have dm2:¬ ((xs.length:Int) + 1 < len):=of_decide_eq_false dm
    have HVD:=Lib.hid (r_valid_b wb nx A nw per p i len st now w2 HB2.out hst hnow)
    obtain ⟨vb,hvb⟩:∃ vb,decide (now - st ≤ per) = vb:=⟨_,rfl⟩
    rw [hvb] at HVD
    have HVQ:=Lib.hid hvb
    clear hWs hst hnow hvb
    have HOS:=Lib.hid (Only.sets (S:=fun k => k = w.heap.size) rfl (didV true 0 (.slice a' (xs.length + 1) c') vb false false 0:Array Value).toList 0 (Only.refl _ w2.drew))
    have hth:=there_at (W:=w2.drew) HZX.out (n:=(didV true 0 (.slice a' (xs.length + 1) c') vb false false 0:Array Value).size) rfl
    have hsd:(Tryz.prog.info? 56).map (·.size) = some (didV true 0 (.slice a' (xs.length + 1) c') vb false false 0:Array Value).size:=did_size
    go_wp2_with (first | (go_at_call 123;((with_reducible refine HVD.out.mono ?_);rintro e w5 ⟨rfl,rfl⟩)) | (with_reducible refine wpList_store_mid (by kernel_rfl) _ _ _ rfl w.heap.size 0 (didV true 0 (.slice a' (xs.length + 1) c') vb false false 0) (by kernel_rfl) (by kernel_rfl) hth hsd (by kernel_rfl) ?_))
    have hrg:=World.rangeAt_setCells_same w2.drew w.heap.size 0 (didV true 0 (.slice a' (xs.length + 1) c') vb false false 0:Array Value).toList hth
    (try simp only [Exit.inBlock,Exit.then])
    refine bodyPost_ret (results_cell_tmp rfl _ _ w.heap.size (didV true 0 (.slice a' (xs.length + 1) c') vb false false 0:Array Value).toList _ rfl hrg Tryz.underlying56 rfl did_size) rfl ?_
    have hvb:=HVQ.out
    subst hvb
    exact ⟨.slice a' (xs.length + 1) c',_,rfl,(fun h => by cases h),(fun _ => rfl),
      ⟨HB2.out.drew.only HOS.out (by omega),HM2.out.drew.only HOS.out (by omega) (by omega),(HOX.out.drew.trans (HOS.out.mono fun k _ h => .inl (by omega))).old,(HOWN2.out.kept (Only.refl (fun _ => False) w2).drew (fun _ _ h => h)).kept HOS.out (fun k hk e => by subst e;(rcases HNEW.out _ hk with h | h) <;> (try have:=HVL.out _ h) <;> omega),fun g hg => (HNEW.out g hg).imp id Nat.le_of_lt⟩⟩
end Go.Proofs.YtmhpcgcloojfbaaGreat
namespace Go.Proofs.YtmhpcgcloojfbaaGreat
open Go.RowKit Go.Sort
set_option linter.unusedVariables false
set_option linter.unusedSimpArgs false
set_option linter.unusedVariables false
set_option linter.unusedSimpArgs false
set_option maxRecDepth 100000
set_option maxHeartbeats 3200000
theorem eq_nilF (w:World) (fn:Fn) (xs ys:Array Value):(binOp .eql 93 (.func fn xs ys) .nilFunc).run Tryz.prog w = .ok (.bool false) w:=by
  have h:∀ d:Nat,(Op.equalIn (d + 1) 93 (.func fn xs ys) .nilFunc).run Tryz.prog w = .ok false w:=fun d => by
    simp [Op.equalIn,run_underlying Tryz.underlying93]
  simp only [binOp]
  simp [Op.equal,Op.maxDepth,h 9999]
theorem eq_nilN (w:World):(binOp .eql 93 .nilFunc .nilFunc).run Tryz.prog w = .ok (.bool true) w:=by
  have h:∀ d:Nat,(Op.equalIn (d + 1) 93 .nilFunc .nilFunc).run Tryz.prog w = .ok true w:=fun d => by
    simp [Op.equalIn,run_underlying Tryz.underlying93]
  simp only [binOp]
  simp [Op.equal,Op.maxDepth,h 9999]
/-- A function value,or none. -/
def IsFn (v:Value):Prop:=v = .nilFunc ∨ ∃ f a b,v = .func (.func f) a b
/-- What take leaves of the world w1 behind the step: the next step stands at sb. -/
structure Took (w w1:World) (sb:Nat) (nx:Value) (w':World):Prop where
  only:Only (fun k => k = sb ∨ k = w.heap.size) w1 w'
  blk:w'.heap[sb]? = (w1.setCell ⟨sb,0,none⟩ nx).heap[sb]?
theorem take_nil (sb:Nat) (mp:Value) (now:Int) (w:World) (hc:w.cell? ⟨sb,0,none⟩ = some .nilFunc) :
    Calls Tryz.prog 37 #[.pointer (some ⟨sb,0,none⟩),mp,.int .i64 now] w fun e w' => e = .returned (.agg (didV false 0 (.slice none 0 0) false false false 0)) ∧ Only (fun _ => False) w w':=by
  obtain ⟨W,HW,hsz,hO,hz⟩:=did_new w
  have hl:sb < w.heap.size:=World.block_lt_of_cell? w ⟨sb,0,none⟩ hc
  have c0:W.cell? ⟨sb,0,none⟩ = some .nilFunc:=by
    have:=hO.block sb hl (fun h => h)
    unfold World.cell? at hc ⊢;rw [this];exact hc
  have hq:=fun w => eq_nilN w
  have HZX:=Lib.hid hz
  have HO:=Lib.hid hO
  have hth:=there_at (W:=W) HZX.out (n:=(didV false 0 (.slice none 0 0) false false false 0:Array Value).size) rfl
  have hsd:(Tryz.prog.info? 56).map (·.size) = some (didV false 0 (.slice none 0 0) false false false 0:Array Value).size:=did_size
  clear hc hO hz
  go_enter Tryz.func37,Tryz.ntmps37
  go_wp2_with (first | (rw [← HW.out]) | (with_reducible refine wpList_store_mid (by kernel_rfl) _ _ _ rfl w.heap.size 0 (didV false 0 (.slice none 0 0) false false false 0) (by kernel_rfl) (by kernel_rfl) hth hsd (by kernel_rfl) ?_))
  have hrg:=World.rangeAt_setCells_same W w.heap.size 0 (didV false 0 (.slice none 0 0) false false false 0:Array Value).toList hth
  (try simp only [Exit.inBlock,Exit.then])
  refine bodyPost_ret (results_cell_row rfl _ _ w.heap.size (didV false 0 (.slice none 0 0) false false false 0:Array Value).toList _ rfl hrg Tryz.underlying56 rfl did_size) rfl ?_
  exact ⟨rfl,((HO.out.mono (T:=New w.heap.size fun _ => False) fun _ _ h => h.elim).trans ((Only.sets (S:=fun k => k = w.heap.size) rfl _ 0 (Only.refl _ W)).mono fun k _ h => .inl (Nat.le_of_eq h.symm))).old⟩
theorem take_b (sb g:Nat) (fs cs:List Value) (mp:Value) (now:Int) (w:World) (R:Array Value → Value → World → Prop) (eg:∀ args w,(callFunc g args).run Tryz.prog w = .ok (.enter g args) w)
    (hc:w.cell? ⟨sb,0,none⟩ = some (.func (.func g) fs.toArray cs.toArray))
    (hC:∀ W,W = w.alloc (.cells (didV false 0 (.slice none 0 0) false false false 0) 56) → Calls Tryz.prog g (fs ++ mp :: .int .i64 now :: cs).toArray W fun e w' => ∃ d nx,e = .returned (.tuple #[.agg d,nx]) ∧ R d nx w')
    (hR:∀ d nx w',R d nx w' → d.size = 9 ∧ d.all (·.oneCell') = true ∧ IsFn nx ∧ (∃ u,w'.cell? ⟨sb,0,none⟩ = some u) ∧ w'.frozen? ⟨sb,0,none⟩ = false ∧ w'.heap[w.heap.size]? = some (.cells (didV false 0 (.slice none 0 0) false false false 0) 56 (0,0)) ∧ w.heap.size ≤ w'.heap.size) :
    Calls Tryz.prog 37 #[.pointer (some ⟨sb,0,none⟩),mp,.int .i64 now] w fun e w' => ∃ d nx w1,e = .returned (.agg d) ∧ R d nx w1 ∧ Took w w1 sb nx w':=by
  obtain ⟨W,HW,hsz,hO,hz⟩:=did_new w
  have hl:sb < w.heap.size:=World.block_lt_of_cell? w ⟨sb,0,none⟩ hc
  have c0:W.cell? ⟨sb,0,none⟩ = some (.func (.func g) fs.toArray cs.toArray):=by
    have:=hO.block sb hl (fun h => h)
    unfold World.cell? at hc ⊢;rw [this];exact hc
  have hq:=fun w => eq_nilF w (.func g) fs.toArray cs.toArray
  have HC:=Lib.hid (hC W HW.out)
  have HR:=Lib.hid hR
  clear hc hO hz hC hR
  go_enter Tryz.func37,Tryz.ntmps37
  go_wp2_with (rw [← HW.out])
  refine HC.out.mono ?_
  rintro e w1 ⟨d,nx,rfl,hRd⟩
  obtain ⟨hd9,hone,hfn,⟨u,hu⟩,hfz,hzb,hsz1⟩:=HR.out d nx w1 hRd
  have HRD:=Lib.hid hRd
  obtain ⟨V,HV⟩:∃ V,Hid (V = (w1.alloc (.cells (didV false 0 (.slice none 0 0) false false false 0) 56)).setCells w1.heap.size 0 d.toList):=⟨_,rfl⟩
  have hs9:(Tryz.prog.info? 56).map (·.size) = some d.size:=by rw [hd9];exact did_size
  have hthA:(w1.alloc (.cells (didV false 0 (.slice none 0 0) false false false 0) 56)).there w1.heap.size 0 d.size:=by rw [hd9];exact there_at (heap_alloc_new w1 (.cells (didV false 0 (.slice none 0 0) false false false 0) 56)) rfl
  have HVB:Hid (V.heap[w1.heap.size]? = some (.cells d 56 (0,0))):=Lib.hid (by rw [HV.out];exact blk_did (heap_alloc_new w1 (.cells (didV false 0 (.slice none 0 0) false false false 0) 56)) d.toList (by simpa using hd9))
  have HOV:Hid (Only (fun k => k = w1.heap.size) w1 V):=Lib.hid (by rw [HV.out];exact Only.sets (S:=fun k => k = w1.heap.size) rfl _ 0 ((Only.refl _ w1).alloc _))
  have hsl:sb < w1.heap.size:=World.block_lt_of_cell? w1 ⟨sb,0,none⟩ hu
  have hVs:V.heap[sb]? = w1.heap[sb]?:=HOV.out.block sb hsl (by omega)
  have v0:V.cell? ⟨sb,0,none⟩ = some u:=by unfold World.cell? at hu ⊢;rw [hVs];exact hu
  have gv0:V.frozen? ⟨sb,0,none⟩ = false:=by unfold World.frozen? at hfz ⊢;rw [hVs];exact hfz
  obtain ⟨X,HX⟩:∃ X,Hid (X = V.setCell ⟨sb,0,none⟩ nx):=⟨_,rfl⟩
  have HXO:Hid (Only (fun k => k = sb) V X):=Lib.hid (by rw [HX.out];exact Only.setCell V ⟨sb,0,none⟩ _)
  have HXB:Hid (X.heap[w1.heap.size]? = some (.cells d 56 (0,0))):=Lib.hid (HXO.out.at_ HVB.out (by omega))
  have HZX:Hid (X.heap[w.heap.size]? = some (.cells (didV false 0 (.slice none 0 0) false false false 0) 56 (0,0))):=Lib.hid (HXO.out.at_ (HOV.out.at_ hzb (fun e => by have:=(Array.getElem?_eq_some_iff.1 hzb).1;omega)) (by omega))
  have hth:X.there w.heap.size 0 d.size:=by rw [hd9];exact there_at HZX.out rfl
  have HXS:Hid (X.heap[sb]? = (w1.setCell ⟨sb,0,none⟩ nx).heap[sb]?):=Lib.hid (by rw [HX.out];simp only [World.setCell,Array.getElem?_modify,hVs])
  have HD9:=Lib.hid hd9
  have HHS:=Lib.hid (And.intro hsl (And.intro hl hsz1))
  clear hd9 hzb hsz1 hsl hVs hu hfz hRd c0 hq
  rcases hfn with rfl | ⟨f,a,b,rfl⟩
  · go_wp2_with (first | (with_reducible refine wpList_store_mid (by kernel_rfl) _ _ _ rfl w1.heap.size 0 d (by kernel_rfl) (by kernel_rfl) hthA hs9 hone ?_) | (rw [← HV.out]) | (rw [← HX.out]) | (with_reducible refine wpList_loadW (by kernel_rfl) 56 _ rfl _ (by kernel_rfl) _ _ _ _ HXB.out Tryz.underlying56 (by kernel_rfl) hs9 ?_) | (with_reducible refine wpList_store_mid (by kernel_rfl) _ _ _ rfl w.heap.size 0 d (by kernel_rfl) (by kernel_rfl) hth hs9 hone ?_))
    have hrg:=World.rangeAt_setCells_same X w.heap.size 0 d.toList hth
    (try simp only [Exit.inBlock,Exit.then])
    refine bodyPost_ret (results_cell_row rfl _ _ w.heap.size d.toList _ rfl hrg Tryz.underlying56 rfl (by simpa using hs9)) rfl ?_
    have HOS:=Only.sets (S:=fun k => k = w.heap.size) rfl d.toList 0 (Only.refl _ X)
    refine ⟨d,_,w1,rfl,HRD.out,⟨(((HOV.out.mono (T:=New w1.heap.size fun k => k = sb ∨ k = w.heap.size) fun k _ h => .inl (Nat.le_of_eq h.symm)).trans (HXO.out.mono fun k _ h => .inr (.inl h))).trans (HOS.mono fun k _ h => .inr (.inr h))).old,?_⟩⟩
    exact (HOS.block sb (by have:=HXO.out.size;have:=HOV.out.size;have:=HHS.out.1;omega) (by have:=HHS.out.2.1;omega)).trans HXS.out
  · go_wp2_with (first | (with_reducible refine wpList_store_mid (by kernel_rfl) _ _ _ rfl w1.heap.size 0 d (by kernel_rfl) (by kernel_rfl) hthA hs9 hone ?_) | (rw [← HV.out]) | (rw [← HX.out]) | (with_reducible refine wpList_loadW (by kernel_rfl) 56 _ rfl _ (by kernel_rfl) _ _ _ _ HXB.out Tryz.underlying56 (by kernel_rfl) hs9 ?_) | (with_reducible refine wpList_store_mid (by kernel_rfl) _ _ _ rfl w.heap.size 0 d (by kernel_rfl) (by kernel_rfl) hth hs9 hone ?_))
    have hrg:=World.rangeAt_setCells_same X w.heap.size 0 d.toList hth
    (try simp only [Exit.inBlock,Exit.then])
    refine bodyPost_ret (results_cell_row rfl _ _ w.heap.size d.toList _ rfl hrg Tryz.underlying56 rfl (by simpa using hs9)) rfl ?_
    have HOS:=Only.sets (S:=fun k => k = w.heap.size) rfl d.toList 0 (Only.refl _ X)
    refine ⟨d,_,w1,rfl,HRD.out,⟨(((HOV.out.mono (T:=New w1.heap.size fun k => k = sb ∨ k = w.heap.size) fun k _ h => .inl (Nat.le_of_eq h.symm)).trans (HXO.out.mono fun k _ h => .inr (.inl h))).trans (HOS.mono fun k _ h => .inr (.inr h))).old,?_⟩⟩
    exact (HOS.block sb (by have:=HXO.out.size;have:=HOV.out.size;have:=HHS.out.1;omega) (by have:=HHS.out.2.1;omega)).trans HXS.out
end Go.Proofs.YtmhpcgcloojfbaaGreat
namespace Go.Proofs.YtmhpcgcloojfbaaGreat
open Go.RowKit Go.Sort
set_option linter.unusedVariables false
set_option linter.unusedSimpArgs false
set_option linter.unusedVariables false
set_option linter.unusedSimpArgs false
set_option maxRecDepth 100000
set_option maxHeartbeats 3200000
theorem stepW_nil (wb mb:Nat) (now:Int) (w:World) (hc:w.cell? ⟨wb,0,none⟩ = some .nilFunc) :
    Calls Tryz.prog 15 #[.pointer (some ⟨wb,0,none⟩),.pointer (some ⟨mb,0,none⟩),.int .i64 now] w fun e w' => e = .returned (.agg (didV false 0 (.slice none 0 0) false false false 0)) ∧ Only (fun _ => False) w w':=by
  obtain ⟨W,HW,hsz,hO,hz⟩:=did_new w
  have hl:wb < w.heap.size:=World.block_lt_of_cell? w ⟨wb,0,none⟩ hc
  have c0:W.cell? ⟨wb,0,none⟩ = some .nilFunc:=by
    have:=hO.block wb hl (fun h => h)
    unfold World.cell? at hc ⊢;rw [this];exact hc
  have HT:=Lib.hid (take_nil wb (.pointer (some ⟨mb,0,none⟩)) now W c0)
  have HO:=Lib.hid hO;have HZ:=Lib.hid hz
  clear hc hO hz c0
  go_enter Tryz.func15,Tryz.ntmps15
  go_wp2_with (rw [← HW.out])
  refine HT.out.mono ?_
  rintro e w1 ⟨rfl,ho1⟩
  have HO1:=Lib.hid ho1
  have HZX:=Lib.hid (ho1.at_ HZ.out (fun h => h))
  have hth:=there_at (W:=w1) HZX.out (n:=(didV false 0 (.slice none 0 0) false false false 0:Array Value).size) rfl
  have hsd:(Tryz.prog.info? 56).map (·.size) = some (didV false 0 (.slice none 0 0) false false false 0:Array Value).size:=did_size
  clear ho1
  go_wp2_with (with_reducible refine wpList_store_mid (by kernel_rfl) _ _ _ rfl w.heap.size 0 (didV false 0 (.slice none 0 0) false false false 0) (by kernel_rfl) (by kernel_rfl) hth hsd (by kernel_rfl) ?_)
  have hrg:=World.rangeAt_setCells_same w1 w.heap.size 0 (didV false 0 (.slice none 0 0) false false false 0:Array Value).toList hth
  (try simp only [Exit.inBlock,Exit.then])
  refine bodyPost_ret (results_cell_row rfl _ _ w.heap.size (didV false 0 (.slice none 0 0) false false false 0:Array Value).toList _ rfl hrg Tryz.underlying56 rfl did_size) rfl ?_
  exact ⟨rfl,(((HO.out.trans HO1.out).mono (T:=New w.heap.size fun _ => False) fun _ _ h => h.elim).trans ((Only.sets (S:=fun k => k = w.heap.size) rfl _ 0 (Only.refl _ w1)).mono fun k _ h => .inl (Nat.le_of_eq h.symm))).old⟩
theorem stepW_b (wb mb g:Nat) (fs cs:List Value) (now:Int) (w:World) (R:World → Array Value → Value → World → Prop) (eg:∀ args w,(callFunc g args).run Tryz.prog w = .ok (.enter g args) w)
    (hc:w.cell? ⟨wb,0,none⟩ = some (.func (.func g) fs.toArray cs.toArray))
    (hC:∀ W,Only (fun _ => False) w W → Calls Tryz.prog g (fs ++ (.pointer (some ⟨mb,0,none⟩)) :: .int .i64 now :: cs).toArray W fun e w' => ∃ d nx,e = .returned (.tuple #[.agg d,nx]) ∧ R W d nx w')
    (hR:∀ W d nx w',Only (fun _ => False) w W → R W d nx w' → d.size = 9 ∧ d.all (·.oneCell') = true ∧ IsFn nx ∧ (∃ u,w'.cell? ⟨wb,0,none⟩ = some u) ∧ w'.frozen? ⟨wb,0,none⟩ = false ∧ (∀ k,k < W.heap.size → w.heap.size ≤ k → w'.heap[k]? = W.heap[k]?) ∧ W.heap.size ≤ w'.heap.size) :
    Calls Tryz.prog 15 #[.pointer (some ⟨wb,0,none⟩),.pointer (some ⟨mb,0,none⟩),.int .i64 now] w fun e w' => ∃ W d nx w1,e = .returned (.agg d) ∧ Only (fun _ => False) w W ∧ R W d nx w1 ∧ Only (fun k => k = wb ∨ w.heap.size ≤ k ∧ k < W.heap.size) w1 w' ∧ w'.heap[wb]? = (w1.setCell ⟨wb,0,none⟩ nx).heap[wb]?:=by
  obtain ⟨W,HW,hsz,hO,hz⟩:=did_new w
  have hl:wb < w.heap.size:=World.block_lt_of_cell? w ⟨wb,0,none⟩ hc
  have c0:W.cell? ⟨wb,0,none⟩ = some (.func (.func g) fs.toArray cs.toArray):=by
    have:=hO.block wb hl (fun h => h)
    unfold World.cell? at hc ⊢;rw [this];exact hc
  have hA:=fun (W':World) (h:W' = W.alloc (.cells (didV false 0 (.slice none 0 0) false false false 0) 56)) => (show Only (fun _ => False) w W' from by rw [h];exact hO.alloc _)
  have HT:=Lib.hid (take_b wb g fs cs (.pointer (some ⟨mb,0,none⟩)) now W (fun d nx w1 => R (W.alloc (.cells (didV false 0 (.slice none 0 0) false false false 0) 56)) d nx w1) eg c0 (fun W' h => by subst h;exact hC _ (hA _ rfl))
    (fun d nx w1 h => by
      obtain ⟨h1,h2,h3,h4,h5,h6,h7⟩:=hR _ d nx w1 (hA _ rfl) h
      exact ⟨h1,h2,h3,h4,h5,(h6 W.heap.size (by simp) (by omega)).trans (heap_alloc_new W _),by simp at h7;omega⟩))
  have HR:=Lib.hid hR
  have HA:=Lib.hid (hA _ rfl)
  have HO:=Lib.hid hO;have HZ:=Lib.hid hz
  clear hc hO hz c0 hC hR hA eg
  go_enter Tryz.func15,Tryz.ntmps15
  go_wp2_with (rw [← HW.out])
  refine HT.out.mono ?_
  rintro e w2 ⟨d,nx,w1,rfl,hRd,hT⟩
  obtain ⟨hd9,hone,_,⟨u,hu⟩,_,hzb,hsz1⟩:=HR.out _ d nx w1 HA.out hRd
  have hz1:w1.heap[w.heap.size]? = some (.cells (didV false 0 (.slice none 0 0) false false false 0) 56 (0,0)):=(hzb w.heap.size (by simp;omega) (Nat.le_refl _)).trans ((Below.heap_alloc W _ _ (by omega)).trans HZ.out)
  have HZX:=Lib.hid (hT.only.at_ hz1 (by omega))
  have hth:w2.there w.heap.size 0 d.size:=by rw [hd9];exact there_at HZX.out rfl
  have hs9:(Tryz.prog.info? 56).map (·.size) = some d.size:=by rw [hd9];exact did_size
  have HRD:=Lib.hid hRd;have HTK:=Lib.hid hT
  have HSL:=Lib.hid (World.block_lt_of_cell? w1 ⟨wb,0,none⟩ hu)
  have HS1:=Lib.hid hsz1
  clear hzb hz1 hsz1 hT hRd hu hd9
  go_wp2_with (with_reducible refine wpList_store_mid (by kernel_rfl) _ _ _ rfl w.heap.size 0 d (by kernel_rfl) (by kernel_rfl) hth hs9 hone ?_)
  have hrg:=World.rangeAt_setCells_same w2 w.heap.size 0 d.toList hth
  (try simp only [Exit.inBlock,Exit.then])
  refine bodyPost_ret (results_cell_row rfl _ _ w.heap.size d.toList _ rfl hrg Tryz.underlying56 rfl (by simpa using hs9)) rfl ?_
  have HOS:=Only.sets (S:=fun k => k = w.heap.size) rfl d.toList 0 (Only.refl _ w2)
  refine ⟨W.alloc (.cells (didV false 0 (.slice none 0 0) false false false 0) 56),d,nx,w1,rfl,HA.out,HRD.out,(HTK.out.only.mono fun k _ h => ?_).trans (HOS.mono fun k _ h => ?_),?_⟩
  · have:=World.size_alloc W (.cells (didV false 0 (.slice none 0 0) false false false 0) 56);rcases h with h | h
    · exact .inl h
    · exact .inr (by omega)
  · have:=World.size_alloc W (.cells (didV false 0 (.slice none 0 0) false false false 0) 56);exact .inr (by omega)
  · exact (HOS.block wb (by have:=HTK.out.only.size;have:=HSL.out;omega) (by omega)).trans HTK.out.blk
theorem stepR_nil (wb mb:Nat) (now:Int) (w:World) (hc:w.cell? ⟨wb,0,none⟩ = some .nilFunc) :
    Calls Tryz.prog 17 #[.pointer (some ⟨wb,0,none⟩),.pointer (some ⟨mb,0,none⟩),.int .i64 now] w fun e w' => e = .returned (.agg (didV false 0 (.slice none 0 0) false false false 0)) ∧ Only (fun _ => False) w w':=by
  obtain ⟨W,HW,hsz,hO,hz⟩:=did_new w
  have hl:wb < w.heap.size:=World.block_lt_of_cell? w ⟨wb,0,none⟩ hc
  have c0:W.cell? ⟨wb,0,none⟩ = some .nilFunc:=by
    have:=hO.block wb hl (fun h => h)
    unfold World.cell? at hc ⊢;rw [this];exact hc
  have HT:=Lib.hid (take_nil wb (.pointer (some ⟨mb,0,none⟩)) now W c0)
  have HO:=Lib.hid hO;have HZ:=Lib.hid hz
  clear hc hO hz c0
  go_enter Tryz.func17,Tryz.ntmps17
  go_wp2_with (rw [← HW.out])
  refine HT.out.mono ?_
  rintro e w1 ⟨rfl,ho1⟩
  have HO1:=Lib.hid ho1
  have HZX:=Lib.hid (ho1.at_ HZ.out (fun h => h))
  have hth:=there_at (W:=w1) HZX.out (n:=(didV false 0 (.slice none 0 0) false false false 0:Array Value).size) rfl
  have hsd:(Tryz.prog.info? 56).map (·.size) = some (didV false 0 (.slice none 0 0) false false false 0:Array Value).size:=did_size
  clear ho1
  go_wp2_with (with_reducible refine wpList_store_mid (by kernel_rfl) _ _ _ rfl w.heap.size 0 (didV false 0 (.slice none 0 0) false false false 0) (by kernel_rfl) (by kernel_rfl) hth hsd (by kernel_rfl) ?_)
  have hrg:=World.rangeAt_setCells_same w1 w.heap.size 0 (didV false 0 (.slice none 0 0) false false false 0:Array Value).toList hth
  (try simp only [Exit.inBlock,Exit.then])
  refine bodyPost_ret (results_cell_row rfl _ _ w.heap.size (didV false 0 (.slice none 0 0) false false false 0:Array Value).toList _ rfl hrg Tryz.underlying56 rfl did_size) rfl ?_
  exact ⟨rfl,(((HO.out.trans HO1.out).mono (T:=New w.heap.size fun _ => False) fun _ _ h => h.elim).trans ((Only.sets (S:=fun k => k = w.heap.size) rfl _ 0 (Only.refl _ w1)).mono fun k _ h => .inl (Nat.le_of_eq h.symm))).old⟩
theorem stepR_b (wb mb g:Nat) (fs cs:List Value) (now:Int) (w:World) (R:World → Array Value → Value → World → Prop) (eg:∀ args w,(callFunc g args).run Tryz.prog w = .ok (.enter g args) w)
    (hc:w.cell? ⟨wb,0,none⟩ = some (.func (.func g) fs.toArray cs.toArray))
    (hC:∀ W,Only (fun _ => False) w W → Calls Tryz.prog g (fs ++ (.pointer (some ⟨mb,0,none⟩)) :: .int .i64 now :: cs).toArray W fun e w' => ∃ d nx,e = .returned (.tuple #[.agg d,nx]) ∧ R W d nx w')
    (hR:∀ W d nx w',Only (fun _ => False) w W → R W d nx w' → d.size = 9 ∧ d.all (·.oneCell') = true ∧ IsFn nx ∧ (∃ u,w'.cell? ⟨wb,0,none⟩ = some u) ∧ w'.frozen? ⟨wb,0,none⟩ = false ∧ (∀ k,k < W.heap.size → w.heap.size ≤ k → w'.heap[k]? = W.heap[k]?) ∧ W.heap.size ≤ w'.heap.size) :
    Calls Tryz.prog 17 #[.pointer (some ⟨wb,0,none⟩),.pointer (some ⟨mb,0,none⟩),.int .i64 now] w fun e w' => ∃ W d nx w1,e = .returned (.agg d) ∧ Only (fun _ => False) w W ∧ R W d nx w1 ∧ Only (fun k => k = wb ∨ w.heap.size ≤ k ∧ k < W.heap.size) w1 w' ∧ w'.heap[wb]? = (w1.setCell ⟨wb,0,none⟩ nx).heap[wb]?:=by
  obtain ⟨W,HW,hsz,hO,hz⟩:=did_new w
  have hl:wb < w.heap.size:=World.block_lt_of_cell? w ⟨wb,0,none⟩ hc
  have c0:W.cell? ⟨wb,0,none⟩ = some (.func (.func g) fs.toArray cs.toArray):=by
    have:=hO.block wb hl (fun h => h)
    unfold World.cell? at hc ⊢;rw [this];exact hc
  have hA:=fun (W':World) (h:W' = W.alloc (.cells (didV false 0 (.slice none 0 0) false false false 0) 56)) => (show Only (fun _ => False) w W' from by rw [h];exact hO.alloc _)
  have HT:=Lib.hid (take_b wb g fs cs (.pointer (some ⟨mb,0,none⟩)) now W (fun d nx w1 => R (W.alloc (.cells (didV false 0 (.slice none 0 0) false false false 0) 56)) d nx w1) eg c0 (fun W' h => by subst h;exact hC _ (hA _ rfl))
    (fun d nx w1 h => by
      obtain ⟨h1,h2,h3,h4,h5,h6,h7⟩:=hR _ d nx w1 (hA _ rfl) h
      exact ⟨h1,h2,h3,h4,h5,(h6 W.heap.size (by simp) (by omega)).trans (heap_alloc_new W _),by simp at h7;omega⟩))
  have HR:=Lib.hid hR
  have HA:=Lib.hid (hA _ rfl)
  have HO:=Lib.hid hO;have HZ:=Lib.hid hz
  clear hc hO hz c0 hC hR hA eg
  go_enter Tryz.func17,Tryz.ntmps17
  go_wp2_with (rw [← HW.out])
  refine HT.out.mono ?_
  rintro e w2 ⟨d,nx,w1,rfl,hRd,hT⟩
  obtain ⟨hd9,hone,_,⟨u,hu⟩,_,hzb,hsz1⟩:=HR.out _ d nx w1 HA.out hRd
  have hz1:w1.heap[w.heap.size]? = some (.cells (didV false 0 (.slice none 0 0) false false false 0) 56 (0,0)):=(hzb w.heap.size (by simp;omega) (Nat.le_refl _)).trans ((Below.heap_alloc W _ _ (by omega)).trans HZ.out)
  have HZX:=Lib.hid (hT.only.at_ hz1 (by omega))
  have hth:w2.there w.heap.size 0 d.size:=by rw [hd9];exact there_at HZX.out rfl
  have hs9:(Tryz.prog.info? 56).map (·.size) = some d.size:=by rw [hd9];exact did_size
  have HRD:=Lib.hid hRd;have HTK:=Lib.hid hT
  have HSL:=Lib.hid (World.block_lt_of_cell? w1 ⟨wb,0,none⟩ hu)
  have HS1:=Lib.hid hsz1
  clear hzb hz1 hsz1 hT hRd hu hd9
  go_wp2_with (with_reducible refine wpList_store_mid (by kernel_rfl) _ _ _ rfl w.heap.size 0 d (by kernel_rfl) (by kernel_rfl) hth hs9 hone ?_)
  have hrg:=World.rangeAt_setCells_same w2 w.heap.size 0 d.toList hth
  (try simp only [Exit.inBlock,Exit.then])
  refine bodyPost_ret (results_cell_row rfl _ _ w.heap.size d.toList _ rfl hrg Tryz.underlying56 rfl (by simpa using hs9)) rfl ?_
  have HOS:=Only.sets (S:=fun k => k = w.heap.size) rfl d.toList 0 (Only.refl _ w2)
  refine ⟨W.alloc (.cells (didV false 0 (.slice none 0 0) false false false 0) 56),d,nx,w1,rfl,HA.out,HRD.out,(HTK.out.only.mono fun k _ h => ?_).trans (HOS.mono fun k _ h => ?_),?_⟩
  · have:=World.size_alloc W (.cells (didV false 0 (.slice none 0 0) false false false 0) 56);rcases h with h | h
    · exact .inl h
    · exact .inr (by omega)
  · have:=World.size_alloc W (.cells (didV false 0 (.slice none 0 0) false false false 0) 56);exact .inr (by omega)
  · exact (HOS.block wb (by have:=HTK.out.only.size;have:=HSL.out;omega) (by omega)).trans HTK.out.blk
end Go.Proofs.YtmhpcgcloojfbaaGreat
end
section
namespace Go.Proofs.YtmhpcgcloojfbaaGreat
open Go.RowKit Go.Sort
set_option linter.unusedVariables false
set_option linter.unusedSimpArgs false
set_option linter.unusedVariables false
set_option linter.unusedSimpArgs false
open Go.Proofs.YtmhpcgcloojfbaaGreat.Simp
set_option maxRecDepth 100000
set_option maxHeartbeats 3200000
def P8 (F:Fr):Pl8:=⟨F.src,F.dst,F.src + 1,F.src + 2,bufA F 0 0,bufA F 0 1,bufA F 1 0,bufA F 1 1⟩
theorem P8_slot (F:Fr) {p:Nat} (hp:p ≤ 1):(P8 F).slot p = F.src + 1 + p:=by
  have hp2:p = 0 ∨ p = 1:=by omega
  rcases hp2 with rfl | rfl <;> rfl
theorem P8_buf (F:Fr) {p i:Nat} (hp:p ≤ 1) (hi:i ≤ 1):(P8 F).buf p i = bufA F p i:=by
  have hp2:p = 0 ∨ p = 1:=by omega
  have hi2:i = 0 ∨ i = 1:=by omega
  rcases hp2 with rfl | rfl <;> rcases hi2 with rfl | rfl <;> rfl
/-- The channel's words lie within n words. -/
structure FIn (F:Fr) (n:Nat):Prop where
  src:F.src + 3 + 4 * (F.n + 2) ≤ n
  dst:F.dst < n
  max:n ≤ 1000000
  n1:1 ≤ F.n
  n2:F.n ≤ 1000
theorem FIn.buf {F:Fr} {n p i:Nat} (h:FIn F n) (hp:p ≤ 1) (hi:i ≤ 1):bufA F p i + (F.n + 2) ≤ n:=by
  have:=buf_in F hp hi;have:=h.src;omega
/-- What a step did,as it lies in memory. -/
@[reducible] def didOf (d:Did) (v:Value):Array Value:=didV d.done d.code v d.valid d.mark d.stamped d.buffer
/-- Which function does the next step. -/
structure NextOf (w:World) (S:Nat → Prop) (wb:Nat) (s:FS) (nx:Value):Prop where
  z:s.no < 0 → nx = .nilFunc
  a0:s.no = 0 → nx = .func (.func 35) #[.pointer (some ⟨wb,0,none⟩)] #[]
  a1:s.no = 1 → nx = .func (.func 68) #[.pointer (some ⟨wb,0,none⟩)] #[]
  a2:s.no = 2 → nx = .func (.func 95) #[.pointer (some ⟨wb,0,none⟩)] #[]
  a3:s.no = 3 → nx = .func (.func 108) #[.pointer (some ⟨wb,0,none⟩)] #[]
  a4:∀ j:Nat,s.no = 4 + (j:Int) → j < s.data.length → ∃ bw bi,nx = .func (.func 117) #[] #[.pointer (some ⟨bw,0,none⟩),.pointer (some ⟨bi,0,none⟩)] ∧ S bw ∧ S bi ∧ w.heap[bw]? = some (.cells #[.pointer (some ⟨wb,0,none⟩)] 46 (0,0)) ∧ w.heap[bi]? = some (.cells #[.int .i64 (j:Int)] 3 (0,0))
  a5:s.no = 4 + (s.data.length:Int) → nx = .func (.func 116) #[.pointer (some ⟨wb,0,none⟩)] #[]
  a6:s.no = 5 + (s.data.length:Int) → nx = .func (.func 121) #[.pointer (some ⟨wb,0,none⟩)] #[]
structure WAtX (w:World) (S:Nat → Prop) (wb:Nat) (F:Fr) (s:FS) (nx:Value) (db do_ dc:Nat):Prop where
  blk:WBlk w wb nx (P8 F) (.slice (some ⟨db,do_,none⟩) s.data.length dc) s.pair s.index s.marked
  sb:S wb
  sd:S db
  ne:db ≠ wb
  low:∀ k,S k → k < w.heap.size
  row:∀ (k:Nat) (x:Int),s.data[k]? = some x → w.cell? ⟨db,do_ + k,none⟩ = some (.int .u32 x)
  nxt:NextOf w S wb s nx
  pi:s.pair ≤ 1 ∧ s.index ≤ 1
  len:1 ≤ s.data.length ∧ s.data.length ≤ F.n
  no:s.no ≤ 5 + (s.data.length:Int)
/-- A write under way at block wb,of the blocks S;its state is s. -/
def WAt (w:World) (S:Nat → Prop) (wb:Nat) (F:Fr) (s:FS):Prop:=∃ nx db do_ dc,WAtX w S wb F s nx db do_ dc
theorem cell_of_blk {w w':World} {b o:Nat} {v:Value} (h:w.cell? ⟨b,o,none⟩ = some v) (e:w'.heap[b]? = w.heap[b]?):w'.cell? ⟨b,o,none⟩ = some v:=by
  unfold World.cell? at h ⊢;rw [e];exact h
theorem WAt.only {w w':World} {S T:Nat → Prop} {wb:Nat} {F:Fr} {s:FS} (h:WAt w S wb F s) (ho:Only T w w') (hT:∀ k,S k → ¬ T k):WAt w' S wb F s:=by
  obtain ⟨nx,db,do_,dc,h⟩:=h
  refine ⟨nx,db,do_,dc,h.blk.only ho (hT _ h.sb),h.sb,h.sd,h.ne,fun k hk => Nat.lt_of_lt_of_le (h.low k hk) ho.size,fun k x hx => cell_of_blk (h.row k x hx) (ho.block db (h.low _ h.sd) (hT _ h.sd)),⟨h.nxt.z,h.nxt.a0,h.nxt.a1,h.nxt.a2,h.nxt.a3,fun j e hj => ?_,h.nxt.a5,h.nxt.a6⟩,h.pi,h.len,h.no⟩
  obtain ⟨bw,bi,e1,s1,s2,h1,h2⟩:=h.nxt.a4 j e hj
  exact ⟨bw,bi,e1,s1,s2,ho.at_ h1 (hT _ s1),ho.at_ h2 (hT _ s2)⟩
/-- What Step of a write leaves. -/
def GivesW (w:World) (mb rb wb:Nat) (F:Fr) (S:Nat → Prop) (s':FS) (ws':List Int) (D:Array Value) (e:Ending) (w':World):Prop:=
  ∃ S',e = .returned (.agg D) ∧ WAt w' S' wb F s' ∧ MemAt w' mb rb ws' ∧ Only (fun k => S k ∨ k = rb) w w' ∧ ∀ k,S' k → S k ∨ w.heap.size ≤ k
theorem wcase {w:World} {mb rb wb:Nat} {F:Fr} {S:Nat → Prop} {s:FS} {nx0:Value} {db do_ dc:Nat} {ws:List Int} (now:Int) (hat:WAtX w S wb F s nx0 db do_ dc) (hm:MemAt w mb rb ws) (hS:¬ S mb ∧ ¬ S rb)
    (g:Nat) (fs cs:List Value) (s':FS) (ws':List Int) (D:Array Value) (eg:∀ args w,(callFunc g args).run Tryz.prog w = .ok (.enter g args) w) (hnx:nx0 = .func (.func g) fs.toArray cs.toArray) (hD:D.size = 9 ∧ D.all (·.oneCell') = true)
    (hC:∀ W,Only (fun _ => False) w W → WBlk W wb nx0 (P8 F) (.slice (some ⟨db,do_,none⟩) s.data.length dc) s.pair s.index s.marked → MemAt W mb rb ws → Calls Tryz.prog g (fs ++ (.pointer (some ⟨mb,0,none⟩)) :: .int .i64 now :: cs).toArray W fun e w1 => ∃ nx,e = .returned (.tuple #[.agg D,nx]) ∧ IsFn nx
      ∧ (∀ w2 S2,(∀ k o,W.heap.size ≤ k → w1.heap[k]? = some o → w2.heap[k]? = some o) → (∀ k,W.heap.size ≤ k → k < w1.heap.size → S2 k) → NextOf w2 S2 wb s' nx) ∧ StepW W mb rb wb ws' nx0 (P8 F) (.slice (some ⟨db,do_,none⟩) s.data.length dc) s'.pair s'.index s'.marked w1)
    (hd:s'.data = s.data) (hp:s'.pair ≤ 1 ∧ s'.index ≤ 1) (hno:s'.no ≤ 5 + (s.data.length:Int)):Calls Tryz.prog 15 #[.pointer (some ⟨wb,0,none⟩),.pointer (some ⟨mb,0,none⟩),.int .i64 now] w (GivesW w mb rb wb F S s' ws' D):=by
  have hwl:=hat.blk.lt
  have hc:w.cell? ⟨wb,0,none⟩ = some (.func (.func g) fs.toArray cs.toArray):=by rw [← hnx];exact hat.blk.cell rfl
  have hN:=hat.blk.ne_mem hm
  refine (stepW_b wb mb g fs cs now w (fun W d nx w1 => d = D ∧ IsFn nx ∧ (∀ w2 S2,(∀ k o,W.heap.size ≤ k → w1.heap[k]? = some o → w2.heap[k]? = some o) → (∀ k,W.heap.size ≤ k → k < w1.heap.size → S2 k) → NextOf w2 S2 wb s' nx) ∧ StepW W mb rb wb ws' nx0 (P8 F) (.slice (some ⟨db,do_,none⟩) s.data.length dc) s'.pair s'.index s'.marked w1) eg hc
    (fun W hO => (hC W hO (hat.blk.only hO (fun h => h)) (hm.only hO (fun h => h) (fun h => h))).mono fun e w1 ⟨nx,h1,h2,h3,h4⟩ => ⟨D,nx,h1,rfl,h2,h3,h4⟩)
    (fun W d nx w1 hO ⟨h1,h2,h3,h4⟩ => by
      subst h1
      exact ⟨hD.1,hD.2,h2,⟨_,h4.blk.cell (j:=0) rfl⟩,h4.blk.frozen 0,fun k hk hge => h4.only.block k hk (fun h => h.elim (fun h => by omega) (fun h => by have:=hm.lt.2;omega)),h4.only.size⟩)).mono ?_
  rintro e w' ⟨W,d,nx,w1,rfl,hO,⟨rfl,hf,hn,hst⟩,hT,hb⟩
  have hs1:=hO.size
  have hs2:=hst.only.size
  have hs3:=hT.size
  have hmw:=hm.lt
  have ho1:Only (fun k => S k ∨ k = rb) w w':=(((hO.mono (T:=New w.heap.size fun k => S k ∨ k = rb) fun _ _ h => h.elim).trans (hst.only.mono fun k _ h => .inr (h.elim (fun e => .inl (by rw [e];exact hat.sb)) .inr))).trans (hT.mono fun k _ h => h.elim (fun e => .inr (.inl (by rw [e];exact hat.sb))) (fun h => .inl h.1))).old
  have hblk:WBlk w' wb nx (P8 F) (.slice (some ⟨db,do_,none⟩) s.data.length dc) s'.pair s'.index s'.marked:=hb.trans (hst.blk.setNext nx)
  have hdl:=hat.low _ hat.sd
  have hdb:w'.heap[db]? = w.heap[db]?:=((hT.block db (by omega) (fun h => h.elim hat.ne (fun h => by omega))).trans (hst.only.block db (by omega) (fun h => h.elim hat.ne (fun h => hS.2 (h ▸ hat.sd))))).trans (hO.block db hdl (fun h => h))
  refine ⟨fun k => S k ∨ (w.heap.size ≤ k ∧ k < w'.heap.size),rfl,⟨nx,db,do_,dc,by rw [hd];exact hblk,Or.inl hat.sb,Or.inl hat.sd,hat.ne,fun k hk => hk.elim (fun h => by have:=hat.low k h;omega) (fun h => h.2),?_,?_,hp,by rw [hd];exact hat.len,by rw [hd];exact hno⟩,?_,ho1,fun k hk => hk.imp id (fun h => h.1)⟩
  · intro k x hx
    rw [hd] at hx
    exact cell_of_blk (hat.row k x hx) hdb
  · exact hn w' _ (fun k o hk ho => hT.at_ ho (fun h => h.elim (fun h => by omega) (fun h => by omega))) (fun k h1 h2 => .inr ⟨by omega,by omega⟩)
  · exact hst.mem.only hT (fun h => h.elim hN.1 (fun h => by omega)) (fun h => h.elim hN.2 (fun h => by omega))
end Go.Proofs.YtmhpcgcloojfbaaGreat
namespace Go.Proofs.YtmhpcgcloojfbaaGreat
open Go.RowKit Go.Sort
set_option linter.unusedVariables false
set_option linter.unusedSimpArgs false
set_option linter.unusedVariables false
set_option linter.unusedSimpArgs false
open Go.Proofs.YtmhpcgcloojfbaaGreat.Simp
set_option maxRecDepth 100000
set_option maxHeartbeats 3200000
theorem rd_nn {ws:List Int} (h:W32 ws) (a:Nat):0 ≤ ws.getD a 0:=(h a).1
theorem nextOf_mv {w:World} {S:Nat → Prop} {wb:Nat} {s:FS} {nx:Value} (hl:0 < s.data.length) (h:(s.no = 0 ∧ nx = .func (.func 35) #[.pointer (some ⟨wb,0,none⟩)] #[]) ∨ (s.no = 1 ∧ nx = .func (.func 68) #[.pointer (some ⟨wb,0,none⟩)] #[]) ∨ (s.no = 2 ∧ nx = .func (.func 95) #[.pointer (some ⟨wb,0,none⟩)] #[]) ∨ (s.no = 3 ∧ nx = .func (.func 108) #[.pointer (some ⟨wb,0,none⟩)] #[]) ∨ (s.no = 4 + (s.data.length:Int) ∧ nx = .func (.func 116) #[.pointer (some ⟨wb,0,none⟩)] #[]) ∨ (s.no = 5 + (s.data.length:Int) ∧ nx = .func (.func 121) #[.pointer (some ⟨wb,0,none⟩)] #[]) ∨ (s.no = -1 ∧ nx = .nilFunc)):NextOf w S wb s nx:=by
  rcases h with ⟨h,e⟩ | ⟨h,e⟩ | ⟨h,e⟩ | ⟨h,e⟩ | ⟨h,e⟩ | ⟨h,e⟩ | ⟨h,e⟩
  all_goals exact ⟨fun x => by first | exact e | omega,fun x => by first | exact e | omega,fun x => by first | exact e | omega,fun x => by first | exact e | omega,fun x => by first | exact e | omega,fun j x y => by omega,fun x => by first | exact e | omega,fun x => by first | exact e | omega⟩
theorem wstep_b {w:World} {mb rb wb:Nat} {F:Fr} {S:Nat → Prop} {s:FS} {ws:List Int} (now:Int) (hat:WAt w S wb F s) (hm:MemAt w mb rb ws) (hS:¬ S mb ∧ ¬ S rb) (hF:FIn F ws.length) (h32:W32 ws) (hd32:W32 s.data) :
    Calls Tryz.prog 15 #[.pointer (some ⟨wb,0,none⟩),.pointer (some ⟨mb,0,none⟩),.int .i64 now] w (GivesW w mb rb wb F S (wstep F s ws now).1 (wstep F s ws now).2.1 (didOf (wstep F s ws now).2.2 (.slice none 0 0))):=by
  obtain ⟨nx,db,do_,dc,hat⟩:=hat
  have hl:=hF.max
  have hs1:=hF.src
  have hs2:=hF.dst
  have hn1:=hF.n1
  have hn2:=hF.n2
  have hln:=hat.len
  have hpi:=hat.pi
  have hno:=hat.no
  have hnx:=hat.nxt
  by_cases z:s.no < 0
  · rw [wstep_over z]
    have hnil:=hnx.z z
    have hc:w.cell? ⟨wb,0,none⟩ = some .nilFunc:=by rw [← hnil];exact hat.blk.cell rfl
    refine (stepW_nil wb mb now w hc).mono ?_
    rintro e w' ⟨rfl,ho⟩
    exact ⟨S,rfl,WAt.only ⟨nx,db,do_,dc,hat⟩ ho (fun _ _ h => h),hm.only ho (fun h => h) (fun h => h),ho.mono fun _ _ h => h.elim,fun k h => .inl h⟩
  by_cases z0:s.no = 0
  · have e0:=hnx.a0 z0
    subst e0
    rw [ws0 z0]

    refine wcase now hat hm hS 35 [.pointer (some ⟨wb,0,none⟩)] [] _ _ _ (enters_of Tryz.func35 (by kernel_rfl) rfl) rfl ⟨rfl,by simp [Value.oneCell']⟩ (fun W hO hb hm' => ?_) rfl ?_ ?_
    · refine (w_pick_b mb rb wb ws _ (P8 F) _ s.pair s.index s.marked now W hb hm' hl hs2 (rd_nn h32 _)).mono ?_
      rintro e w1 ⟨rfl,hst⟩
      exact ⟨_,rfl,.inr ⟨_,_,_,rfl⟩,fun w2 S2 _ _ => nextOf_mv (by show 0 < s.data.length;omega) (.inr (.inl ⟨rfl,rfl⟩)),hst⟩
    · exact ⟨by show 1 - oddN _ ≤ 1;omega,hpi.2⟩
    · show (1:Int) ≤ _;omega
  by_cases z1:s.no = 1
  · have e0:=hnx.a1 z1
    subst e0
    rw [ws1 z1]

    refine wcase now hat hm hS 68 [.pointer (some ⟨wb,0,none⟩)] [] _ _ _ (enters_of Tryz.func68 (by kernel_rfl) rfl) rfl ⟨rfl,by simp [Value.oneCell']⟩ (fun W hO hb hm' => ?_) rfl ?_ ?_
    · have hsl:=P8_slot F hpi.1
      have q:=w_index_b mb rb wb ws _ (P8 F) _ s.pair s.index s.marked now W hb hm' hl hpi.1 (by rw [hsl];omega) (by rw [hsl];exact rd_nn h32 _)
      rw [hsl] at q
      refine q.mono ?_
      rintro e w1 ⟨rfl,hst⟩
      exact ⟨_,rfl,.inr ⟨_,_,_,rfl⟩,fun w2 S2 _ _ => nextOf_mv (by show 0 < s.data.length;omega) (.inr (.inr (.inl ⟨rfl,rfl⟩))),hst⟩
    · exact ⟨hpi.1,by show 1 - oddN _ ≤ 1;omega⟩
    · show (2:Int) ≤ _;omega
  have hbuf:=P8_buf F hpi.1 hpi.2
  have hbin:=hF.buf hpi.1 hpi.2
  by_cases z2:s.no = 2
  · have e0:=hnx.a2 z2
    subst e0
    rw [ws2 z2]

    refine wcase now hat hm hS 95 [.pointer (some ⟨wb,0,none⟩)] [] _ _ _ (enters_of Tryz.func95 (by kernel_rfl) rfl) rfl ⟨rfl,by simp [Value.oneCell']⟩ (fun W hO hb hm' => ?_) rfl ?_ ?_
    · have q:=w_len_b mb rb wb ws _ (P8 F) (some ⟨db,do_,none⟩) s.data.length dc s.pair s.index s.marked now W hb hm' hl hpi.1 hpi.2 (by omega) (by rw [hbuf];omega)
      rw [hbuf] at q
      refine q.mono ?_
      rintro e w1 ⟨rfl,hst⟩
      exact ⟨_,rfl,.inr ⟨_,_,_,rfl⟩,fun w2 S2 _ _ => nextOf_mv (by show 0 < s.data.length;omega) (.inr (.inr (.inr (.inl ⟨rfl,rfl⟩)))),hst⟩
    · exact hpi
    · show (3:Int) ≤ _;omega
  by_cases z3:s.no = 3
  · have e0:=hnx.a3 z3
    subst e0
    rw [ws3 z3]

    refine wcase now hat hm hS 108 [.pointer (some ⟨wb,0,none⟩)] [] _ _ _ (enters_of Tryz.func108 (by kernel_rfl) rfl) rfl ⟨rfl,by simp [Value.oneCell']⟩ (fun W hO hb hm' => ?_) rfl ?_ ?_
    · have q:=w_stamp_b mb rb wb ws _ (P8 F) (some ⟨db,do_,none⟩) s.data.length dc s.pair s.index s.marked now W hb hm' hl hpi.1 hpi.2 (by omega) (by omega) (by rw [hbuf];omega)
      rw [hbuf] at q
      refine q.mono ?_
      rintro e w1 ⟨nx',rfl,hnw,hst⟩
      obtain ⟨bw,bi,rfl,b1,b2,b3,b4⟩:=hnw.1 (by omega)
      refine ⟨_,rfl,.inr ⟨_,_,_,rfl⟩,fun w2 S2 hk hs => ⟨fun x => by exact absurd (show (4:Int) < 0 from x) (by omega),fun x => by exact absurd (show (4:Int) = 0 from x) (by omega),fun x => by exact absurd (show (4:Int) = 1 from x) (by omega),fun x => by exact absurd (show (4:Int) = 2 from x) (by omega),fun x => by exact absurd (show (4:Int) = 3 from x) (by omega),fun j x y => ?_,fun x => by have:(4:Int) = 4 + (s.data.length:Int):=x;omega,fun x => by have:(4:Int) = 5 + (s.data.length:Int):=x;omega⟩,hst⟩
      have hj:j = 0:=by have:(4:Int) = 4 + (j:Int):=x;omega
      subst hj
      exact ⟨bw,bi,rfl,hs _ b1 (Array.getElem?_eq_some_iff.1 b3).1,hs _ b2 (Array.getElem?_eq_some_iff.1 b4).1,hk _ _ b1 b3,hk _ _ b2 b4⟩
    · exact hpi
    · show (4:Int) ≤ _;omega
  by_cases z4:s.no < 4 + (s.data.length:Int)
  · obtain ⟨j,hj⟩:∃ j:Nat,s.no = 4 + (j:Int):=⟨(s.no - 4).toNat,by omega⟩
    have hjl:j < s.data.length:=by omega
    obtain ⟨bw,bi,e0,s1,s2,h1,h2⟩:=hnx.a4 j hj hjl
    subst e0
    have hx:s.data[j]? = some (s.data.getD j 0):=by simp [List.getD_eq_getElem?_getD,hjl]
    have hrow:=hat.row j _ hx
    rw [ws4 hj hjl]
    refine wcase now hat hm hS 117 [] [.pointer (some ⟨bw,0,none⟩),.pointer (some ⟨bi,0,none⟩)] _ _ _ (enters_of Tryz.func117 (by kernel_rfl) rfl) rfl ⟨rfl,by simp [Value.oneCell']⟩ (fun W hO hb hm' => ?_) rfl hpi (by show 5 + (j:Int) ≤ _;omega)
    have q:=w_word1_b mb rb wb ws _ (P8 F) db do_ s.data.length dc s.pair s.index s.marked now W bw bi j (s.data.getD j 0) hb hm' hl hpi.1 hpi.2 (by omega) hjl (by rw [hbuf];omega) (hO.at_ h1 (fun h => h)) (hO.at_ h2 (fun h => h)) (cell_of_blk hrow (hO.block db (hat.low _ hat.sd) (fun h => h))) (fun h => hS.2 (h ▸ hat.sd))
    rw [hbuf] at q
    refine q.mono ?_
    rintro e w1 ⟨nx',rfl,hnw,hst⟩
    by_cases hj1:j + 1 < s.data.length
    · obtain ⟨bw',bi',rfl,b1,b2,b3,b4⟩:=hnw.1 hj1
      refine ⟨_,rfl,.inr ⟨_,_,_,rfl⟩,fun w2 S2 hk hs => ⟨fun x => by exact absurd (show 5 + (j:Int) < 0 from x) (by omega),fun x => by exact absurd (show 5 + (j:Int) = 0 from x) (by omega),fun x => by exact absurd (show 5 + (j:Int) = 1 from x) (by omega),fun x => by exact absurd (show 5 + (j:Int) = 2 from x) (by omega),fun x => by exact absurd (show 5 + (j:Int) = 3 from x) (by omega),fun i x y => ?_,fun x => by have:5 + (j:Int) = 4 + (s.data.length:Int):=x;omega,fun x => by have:5 + (j:Int) = 5 + (s.data.length:Int):=x;omega⟩,hst⟩
      have hi:i = j + 1:=by have:5 + (j:Int) = 4 + (i:Int):=x;omega
      subst hi
      exact ⟨bw',bi',rfl,hs _ b1 (Array.getElem?_eq_some_iff.1 b3).1,hs _ b2 (Array.getElem?_eq_some_iff.1 b4).1,hk _ _ b1 b3,hk _ _ b2 b4⟩
    · have e1:=hnw.2 (by omega)
      subst e1
      exact ⟨_,rfl,.inr ⟨_,_,_,rfl⟩,fun w2 S2 _ _ => nextOf_mv (by show 0 < s.data.length;omega) (.inr (.inr (.inr (.inr (.inl ⟨by show 5 + (j:Int) = 4 + (s.data.length:Int);omega,rfl⟩))))),hst⟩
  by_cases z5:s.no = 4 + (s.data.length:Int)
  · have e0:=hnx.a5 z5
    subst e0
    rw [ws5 z5]

    refine wcase now hat hm hS 116 [.pointer (some ⟨wb,0,none⟩)] [] _ _ _ (enters_of Tryz.func116 (by kernel_rfl) rfl) rfl ⟨rfl,by simp [Value.oneCell']⟩ (fun W hO hb hm' => ?_) rfl ?_ ?_
    · have hsl:=P8_slot F hpi.1
      have hne:(ws.set (F.src + 1 + s.pair) (s.index:Int)).getD F.src 0 = rd ws F.src:=rd_ne (by omega)
      have q:=w_slot_b mb rb wb ws _ (P8 F) _ s.pair s.index s.marked now W hb hm' hl hpi.1 hpi.2 (by rw [hsl];omega) (by show F.src < _;omega) (by rw [hsl];show 0 ≤ (ws.set (F.src + 1 + s.pair) (s.index:Int)).getD F.src 0;rw [hne];exact rd_nn h32 _)
      rw [hsl,show (ws.set (F.src + 1 + s.pair) (s.index:Int)).getD (P8 F).la 0 = rd ws F.src from hne] at q
      refine q.mono ?_
      rintro e w1 ⟨rfl,hst⟩
      exact ⟨_,rfl,.inr ⟨_,_,_,rfl⟩,fun w2 S2 _ _ => nextOf_mv (by show 0 < s.data.length;omega) (.inr (.inr (.inr (.inr (.inr (.inl ⟨rfl,rfl⟩)))))),hst⟩
    · exact hpi
    · show 5 + (s.data.length:Int) ≤ _;omega
  · have z6:s.no = 5 + (s.data.length:Int):=by omega
    have e0:=hnx.a6 z6
    subst e0
    rw [ws6 z6]

    refine wcase now hat hm hS 121 [.pointer (some ⟨wb,0,none⟩)] [] _ _ _ (enters_of Tryz.func121 (by kernel_rfl) rfl) rfl ⟨rfl,by simp [Value.oneCell']⟩ (fun W hO hb hm' => ?_) rfl ?_ ?_
    · refine (w_pair_b mb rb wb ws _ (P8 F) _ s.pair s.index s.marked now W hb hm' hl hpi.1 (by show F.src < _;omega)).mono ?_
      rintro e w1 ⟨rfl,hst⟩
      exact ⟨_,rfl,.inl rfl,fun w2 S2 _ _ => nextOf_mv (by show 0 < s.data.length;omega) (.inr (.inr (.inr (.inr (.inr (.inr ⟨rfl,rfl⟩)))))),hst⟩
    · exact hpi
    · show (-1:Int) ≤ _;omega
end Go.Proofs.YtmhpcgcloojfbaaGreat
namespace Go.Proofs.YtmhpcgcloojfbaaGreat
open Go.RowKit Go.Sort
set_option linter.unusedVariables false
set_option linter.unusedSimpArgs false
set_option linter.unusedVariables false
set_option linter.unusedSimpArgs false
open Go.Proofs.YtmhpcgcloojfbaaGreat.Simp
set_option maxRecDepth 100000
set_option maxHeartbeats 3200000
/-- Which function does the next step of a read;what was loaded,v. -/
structure RTail (w:World) (S:Nat → Prop) (wb:Nat) (F:Fr) (s:FS) (nx v:Value):Prop where
  z:s.no < 0 → nx = .nilFunc
  a0:s.no = 0 → nx = .func (.func 36) #[.pointer (some ⟨wb,0,none⟩)] #[]
  a1:s.no = 1 → nx = .func (.func 69) #[.pointer (some ⟨wb,0,none⟩)] #[]
  a2:s.no = 2 → nx = .func (.func 97) #[.pointer (some ⟨wb,0,none⟩)] #[]
  a3:s.no = 3 → nx = .func (.func 109) #[.pointer (some ⟨wb,0,none⟩)] #[]
  a4:s.no = 4 → nx = .func (.func 114) #[.pointer (some ⟨wb,0,none⟩)] #[]
  a5:5 ≤ s.no → (∃ bl br,nx = .func (.func 122) #[] #[.pointer (some ⟨bl,0,none⟩),.pointer (some ⟨br,0,none⟩)] ∧ S bl ∧ S br ∧ w.heap[br]? = some (.cells #[.pointer (some ⟨wb,0,none⟩)] 48 (0,0)) ∧ w.heap[bl]? = some (.cells #[v] 30 (0,0))) ∧ OwnsOff w 0 34 1 v (s.data).length (wcells (s.data)) ∧ (∀ g,v.ownBlock = some g → S g) ∧ s.no = 5 + (s.data.length:Int) ∧ (s.data.length:Int) < s.len ∧ s.len ≤ F.n
  d0:0 ≤ s.no → s.no ≤ 4 → s.data = []
  l4:s.no = 4 → 1 ≤ s.len ∧ s.len ≤ F.n
  l3:0 ≤ s.no → s.no ≤ 3 → s.len = 0
theorem RTail.over {w w':World} {S S':Nat → Prop} {wb:Nat} {F:Fr} {s:FS} {nx v:Value} (h:RTail w S wb F s nx v) (hk:∀ k o,S k → w.heap[k]? = some o → w'.heap[k]? = some o) (hs:∀ k,S k → S' k):RTail w' S' wb F s nx v:=by
  refine ⟨h.z,h.a0,h.a1,h.a2,h.a3,h.a4,fun x => ?_,h.d0,h.l4,h.l3⟩
  obtain ⟨⟨bl,br,e,s1,s2,h1,h2⟩,ho,hv,r⟩:=h.a5 x
  refine ⟨⟨bl,br,e,hs _ s1,hs _ s2,hk _ _ s2 h1,hk _ _ s1 h2⟩,⟨ho.1,?_⟩,fun g hg => hs _ (hv g hg),r⟩
  rcases ho.2 with hn | ⟨g,off,cap,cur,rfl,hb,hg,rest⟩
  · exact .inl hn
  · exact .inr ⟨g,off,cap,cur,rfl,hb,hk _ _ (hv g rfl) hg,rest⟩
structure RAtX (w:World) (S:Nat → Prop) (wb:Nat) (F:Fr) (s:FS) (nx v:Value):Prop where
  blk:RBlk w wb nx (P8 F) F.n F.per s.pair s.index s.len s.stamp
  sb:S wb
  low:∀ k,S k → k < w.heap.size
  tail:RTail w S wb F s nx v
  pi:s.pair ≤ 1 ∧ s.index ≤ 1
  st:0 ≤ s.stamp ∧ s.stamp ≤ 4294967295
/-- A read under way at block wb,of the blocks S;its state is s. -/
def RAt (w:World) (S:Nat → Prop) (wb:Nat) (F:Fr) (s:FS):Prop:=∃ nx v,RAtX w S wb F s nx v
theorem RAt.only {w w':World} {S T:Nat → Prop} {wb:Nat} {F:Fr} {s:FS} (h:RAt w S wb F s) (ho:Only T w w') (hT:∀ k,S k → ¬ T k):RAt w' S wb F s:=by
  obtain ⟨nx,v,h⟩:=h
  exact ⟨nx,v,h.blk.only ho (hT _ h.sb),h.sb,fun k hk => Nat.lt_of_lt_of_le (h.low k hk) ho.size,h.tail.over (fun k o hk hw => ho.at_ hw (hT _ hk)) (fun _ h => h),h.pi,h.st⟩
/-- What Step of a read leaves;v: the words that it is answered with. -/
def GivesR (w:World) (mb rb wb:Nat) (F:Fr) (S:Nat → Prop) (s':FS) (ws':List Int) (d:Did) (e:Ending) (w':World):Prop:=
  ∃ S' v,e = .returned (.agg (didOf d v)) ∧ RAt w' S' wb F s' ∧ OwnsOff w' 0 34 1 v (d.data).length (wcells (d.data)) ∧ (∀ g,v.ownBlock = some g → S' g) ∧ MemAt w' mb rb ws' ∧ Only (fun k => S k ∨ k = rb) w w' ∧ ∀ k,S' k → S k ∨ w.heap.size ≤ k
theorem own_over {w w':World} {v:Value} {n:Nat} {xs:List Value} (ho:OwnsOff w 0 34 1 v n xs) (hk:∀ g,v.ownBlock = some g → ∀ o,w.heap[g]? = some o → w'.heap[g]? = some o):OwnsOff w' 0 34 1 v n xs:=by
  refine ⟨ho.1,?_⟩
  rcases ho.2 with hn | ⟨g,off,cap,cur,rfl,hb,hg,rest⟩
  · exact .inl hn
  · exact .inr ⟨g,off,cap,cur,rfl,hb,hk _ rfl _ hg,rest⟩
theorem rcase {w:World} {mb rb wb:Nat} {F:Fr} {S:Nat → Prop} {s:FS} {nx0 v0:Value} {ws:List Int} (now:Int) (hat:RAtX w S wb F s nx0 v0) (hm:MemAt w mb rb ws) (hS:¬ S mb ∧ ¬ S rb)
    (g:Nat) (fs cs:List Value) (s':FS) (ws':List Int) (d:Did) (eg:∀ args w,(callFunc g args).run Tryz.prog w = .ok (.enter g args) w) (hnx:nx0 = .func (.func g) fs.toArray cs.toArray)
    (hC:∀ W,Only (fun _ => False) w W → RBlk W wb nx0 (P8 F) F.n F.per s.pair s.index s.len s.stamp → MemAt W mb rb ws → Calls Tryz.prog g (fs ++ (.pointer (some ⟨mb,0,none⟩)) :: .int .i64 now :: cs).toArray W fun e w1 => ∃ nx v v',e = .returned (.tuple #[.agg (didOf d v),nx]) ∧ v.oneCell' = true ∧ IsFn nx
      ∧ OwnsOff w1 0 34 1 v (d.data).length (wcells (d.data)) ∧ (∀ g,v.ownBlock = some g → S g ∧ g ≠ wb ∨ W.heap.size ≤ g) ∧ RTail w1 (fun k => S k ∧ k ≠ wb ∨ W.heap.size ≤ k ∧ k < w1.heap.size) wb F s' nx v' ∧ RBlk w1 wb nx0 (P8 F) F.n F.per s'.pair s'.index s'.len s'.stamp ∧ MemAt w1 mb rb ws' ∧ Only (fun k => S k ∨ k = rb) W w1)
    (hp:s'.pair ≤ 1 ∧ s'.index ≤ 1) (hst:0 ≤ s'.stamp ∧ s'.stamp ≤ 4294967295):Calls Tryz.prog 17 #[.pointer (some ⟨wb,0,none⟩),.pointer (some ⟨mb,0,none⟩),.int .i64 now] w (GivesR w mb rb wb F S s' ws' d):=by
  have hwl:=hat.blk.lt
  have hc:w.cell? ⟨wb,0,none⟩ = some (.func (.func g) fs.toArray cs.toArray):=by rw [← hnx];exact hat.blk.cell rfl
  have hN:=hat.blk.ne_mem hm
  have hmw:=hm.lt
  refine (stepR_b wb mb g fs cs now w (fun W D nx w1 => ∃ v v',D = didOf d v ∧ v.oneCell' = true ∧ IsFn nx ∧ OwnsOff w1 0 34 1 v (d.data).length (wcells (d.data)) ∧ (∀ g,v.ownBlock = some g → S g ∧ g ≠ wb ∨ W.heap.size ≤ g) ∧ RTail w1 (fun k => S k ∧ k ≠ wb ∨ W.heap.size ≤ k ∧ k < w1.heap.size) wb F s' nx v' ∧ RBlk w1 wb nx0 (P8 F) F.n F.per s'.pair s'.index s'.len s'.stamp ∧ MemAt w1 mb rb ws' ∧ Only (fun k => S k ∨ k = rb) W w1) eg hc
    (fun W hO => (hC W hO (hat.blk.only hO (fun h => h)) (hm.only hO (fun h => h) (fun h => h))).mono fun e w1 ⟨nx,v,v',h1,r⟩ => ⟨didOf d v,nx,h1,v,v',rfl,r⟩)
    (fun W D nx w1 hO ⟨v,v',h1,h1c,h2,h3,h4,h5,h6,h7,h8⟩ => by
      subst h1
      refine ⟨rfl,?_,h2,⟨_,h6.cell (j:=0) rfl⟩,h6.frozen 0,fun k hk hge => h8.block k hk (fun h => h.elim (fun h => by have:=hat.low k h;omega) (fun h => by omega)),h8.size⟩
      unfold Value.oneCell' at h1c
      simp [h1c,Value.oneCell'])).mono ?_
  rintro e w' ⟨W,D,nx,w1,rfl,hO,⟨v,v',rfl,h1c,hf,hv,hvS,hn,hblk1,hm1,ho8⟩,hT,hb⟩
  have hs1:=hO.size
  have hs2:=ho8.size
  have hs3:=hT.size
  have hTk:∀ k o,(S k ∧ k ≠ wb ∨ W.heap.size ≤ k) → w1.heap[k]? = some o → w'.heap[k]? = some o:=fun k o hk ho => hT.at_ ho (fun h => h.elim (fun h => hk.elim (fun x => x.2 h) (fun x => by omega)) (fun h => hk.elim (fun x => by have:=hat.low k x.1;omega) (fun x => by omega)))
  refine ⟨fun k => S k ∨ (w.heap.size ≤ k ∧ k < w'.heap.size),v,rfl,⟨nx,v',hb.trans (hblk1.setNext nx),Or.inl hat.sb,fun k hk => hk.elim (fun h => by have:=hat.low k h;omega) (fun h => h.2),hn.over (fun k o hk ho => hTk k o (hk.imp id (fun h => h.1)) ho) (fun k hk => hk.elim (fun h => .inl h.1) (fun h => .inr ⟨by omega,by omega⟩)),hp,hst⟩,
    own_over hv (fun g hg o ho => hTk g o (hvS g hg) ho),fun g hg => (hvS g hg).elim (fun h => .inl h.1) (fun h => .inr ⟨by omega,by have:=(hv.lt g hg).2;omega⟩),?_,?_,fun k hk => hk.imp id (fun h => h.1)⟩
  · exact hm1.only hT (fun h => h.elim hN.1 (fun h => by omega)) (fun h => h.elim hN.2 (fun h => by omega))
  · exact (((hO.mono (T:=New w.heap.size fun k => S k ∨ k = rb) fun _ _ h => h.elim).trans (ho8.mono fun k _ h => .inr h)).trans (hT.mono fun k _ h => h.elim (fun e => .inr (.inl (by rw [e];exact hat.sb))) (fun h => .inl h.1))).old
end Go.Proofs.YtmhpcgcloojfbaaGreat
namespace Go.Proofs.YtmhpcgcloojfbaaGreat
open Go.RowKit Go.Sort
set_option linter.unusedVariables false
set_option linter.unusedSimpArgs false
set_option linter.unusedVariables false
set_option linter.unusedSimpArgs false
open Go.Proofs.YtmhpcgcloojfbaaGreat.Simp
set_option maxRecDepth 100000
set_option maxHeartbeats 3200000
theorem rtail_mv {w:World} {S:Nat → Prop} {wb:Nat} {F:Fr} {s:FS} {nx v:Value} (h:(s.no = 0 ∧ nx = .func (.func 36) #[.pointer (some ⟨wb,0,none⟩)] #[] ∧ s.data = [] ∧ s.len = 0) ∨ (s.no = 1 ∧ nx = .func (.func 69) #[.pointer (some ⟨wb,0,none⟩)] #[] ∧ s.data = [] ∧ s.len = 0) ∨ (s.no = 2 ∧ nx = .func (.func 97) #[.pointer (some ⟨wb,0,none⟩)] #[] ∧ s.data = [] ∧ s.len = 0) ∨ (s.no = 3 ∧ nx = .func (.func 109) #[.pointer (some ⟨wb,0,none⟩)] #[] ∧ s.data = [] ∧ s.len = 0)
    ∨ (s.no = 4 ∧ nx = .func (.func 114) #[.pointer (some ⟨wb,0,none⟩)] #[] ∧ s.data = [] ∧ 1 ≤ s.len ∧ s.len ≤ F.n) ∨ (s.no = -1 ∧ nx = .nilFunc)):RTail w S wb F s nx v:=by
  rcases h with ⟨h,e,d,l⟩ | ⟨h,e,d,l⟩ | ⟨h,e,d,l⟩ | ⟨h,e,d,l⟩ | ⟨h,e,d,l⟩ | ⟨h,e⟩
  all_goals exact ⟨fun x => by first | exact e | omega,fun x => by first | exact e | omega,fun x => by first | exact e | omega,fun x => by first | exact e | omega,fun x => by first | exact e | omega,fun x => by first | exact e | omega,fun x => by omega,fun x y => by first | exact d | omega,fun x => by first | exact l | omega,fun x y => by first | exact l | omega⟩
theorem rstep_b {w:World} {mb rb wb:Nat} {F:Fr} {S:Nat → Prop} {s:FS} {ws:List Int} (now:Int) (hat:RAt w S wb F s) (hm:MemAt w mb rb ws) (hS:¬ S mb ∧ ¬ S rb) (hF:FIn F ws.length) (h32:W32 ws) (hnow:0 ≤ now ∧ now ≤ 1000000000000) :
    Calls Tryz.prog 17 #[.pointer (some ⟨wb,0,none⟩),.pointer (some ⟨mb,0,none⟩),.int .i64 now] w (GivesR w mb rb wb F S (rstep F s ws now).1 (rstep F s ws now).2.1 (rstep F s ws now).2.2):=by
  obtain ⟨nx,v,hat⟩:=hat
  have hl:=hF.max
  have hs1:=hF.src
  have hs2:=hF.dst
  have hn1:=hF.n1
  have hn2:=hF.n2
  have hpi:=hat.pi
  have hst0:=hat.st
  have hnx:=hat.tail
  by_cases z:s.no < 0
  · rw [rstep_over z]
    have hnil:=hnx.z z
    have hc:w.cell? ⟨wb,0,none⟩ = some .nilFunc:=by rw [← hnil];exact hat.blk.cell rfl
    refine (stepR_nil wb mb now w hc).mono ?_
    rintro e w' ⟨rfl,ho⟩
    exact ⟨S,.slice none 0 0,rfl,RAt.only ⟨nx,v,hat⟩ ho (fun _ _ h => h),OwnsOff.nil ..,(fun g hg => by cases hg),hm.only ho (fun h => h) (fun h => h),ho.mono fun _ _ h => h.elim,fun k h => .inl h⟩
  by_cases z0:s.no = 0
  · have e0:=hnx.a0 z0
    have d0:=hnx.d0 (by omega) (by omega)
    have l0:=hnx.l3 (by omega) (by omega)
    subst e0
    rw [rs0 z0]

    refine rcase now hat hm hS 36 [.pointer (some ⟨wb,0,none⟩)] [] _ _ _ (enters_of Tryz.func36 (by kernel_rfl) rfl) rfl (fun W hO hb hm' => ?_) ?_ ?_
    · refine (r_latest_b mb rb wb ws _ (P8 F) _ _ s.pair s.index s.len s.stamp now W hb hm' hl (by show F.src < _;omega) (rd_nn h32 _)).mono ?_
      rintro e w1 ⟨rfl,hst⟩
      exact ⟨_,.slice none 0 0,.slice none 0 0,rfl,rfl,.inr ⟨_,_,_,rfl⟩,OwnsOff.nil ..,(fun g hg => by cases hg),rtail_mv (.inr (.inl ⟨rfl,rfl,d0,l0⟩)),hst.blk,hst.mem,hst.only.mono (fun k _ h => h.elim (fun e => .inl (e ▸ hat.sb)) .inr)⟩
    · exact ⟨oddN_le _,hpi.2⟩
    · exact hst0
  by_cases z1:s.no = 1
  · have e0:=hnx.a1 z1
    have d0:=hnx.d0 (by omega) (by omega)
    have l0:=hnx.l3 (by omega) (by omega)
    subst e0
    rw [rs1 z1]

    refine rcase now hat hm hS 69 [.pointer (some ⟨wb,0,none⟩)] [] _ _ _ (enters_of Tryz.func69 (by kernel_rfl) rfl) rfl (fun W hO hb hm' => ?_) ?_ ?_
    · refine (r_reading_b mb rb wb ws _ (P8 F) _ _ s.pair s.index s.len s.stamp now W hb hm' hl hpi.1 hs2).mono ?_
      rintro e w1 ⟨rfl,hst⟩
      exact ⟨_,.slice none 0 0,.slice none 0 0,rfl,rfl,.inr ⟨_,_,_,rfl⟩,OwnsOff.nil ..,(fun g hg => by cases hg),rtail_mv (.inr (.inr (.inl ⟨rfl,rfl,d0,l0⟩))),hst.blk,hst.mem,hst.only.mono (fun k _ h => h.elim (fun e => .inl (e ▸ hat.sb)) .inr)⟩
    · exact hpi
    · exact hst0
  by_cases z2:s.no = 2
  · have e0:=hnx.a2 z2
    have d0:=hnx.d0 (by omega) (by omega)
    have l0:=hnx.l3 (by omega) (by omega)
    subst e0
    rw [rs2 z2]

    refine rcase now hat hm hS 97 [.pointer (some ⟨wb,0,none⟩)] [] _ _ _ (enters_of Tryz.func97 (by kernel_rfl) rfl) rfl (fun W hO hb hm' => ?_) ?_ ?_
    · have hsl:=P8_slot F hpi.1
      have q:=r_slot_b mb rb wb ws _ (P8 F) _ _ s.pair s.index s.len s.stamp now W hb hm' hl hpi.1 (by rw [hsl];omega) (by rw [hsl];exact rd_nn h32 _)
      rw [hsl] at q
      refine q.mono ?_
      rintro e w1 ⟨rfl,hst⟩
      exact ⟨_,.slice none 0 0,.slice none 0 0,rfl,rfl,.inr ⟨_,_,_,rfl⟩,OwnsOff.nil ..,(fun g hg => by cases hg),rtail_mv (.inr (.inr (.inr (.inl ⟨rfl,rfl,d0,l0⟩)))),hst.blk,hst.mem,hst.only.mono (fun k _ h => h.elim (fun e => .inl (e ▸ hat.sb)) .inr)⟩
    · exact ⟨hpi.1,oddN_le _⟩
    · exact hst0
  have hbuf:=P8_buf F hpi.1 hpi.2
  have hbin:=hF.buf hpi.1 hpi.2
  by_cases z3:s.no = 3
  · have e0:=hnx.a3 z3
    have d0:=hnx.d0 (by omega) (by omega)
    have l0:=hnx.l3 (by omega) (by omega)
    subst e0
    have hx:=h32 (bufA F s.pair s.index)
    by_cases hz:rd ws (bufA F s.pair s.index) = 0
    · have hlz:lenOf F (rd ws (bufOf F s)) = 0:=by unfold bufOf lenOf;rw [hz,if_pos (by omega)]
      rw [rs3z z3 hlz]

      refine rcase now hat hm hS 109 [.pointer (some ⟨wb,0,none⟩)] [] _ _ _ (enters_of Tryz.func109 (by kernel_rfl) rfl) rfl (fun W hO hb hm' => ?_) ?_ ?_
      · have q:=r_lenz_b mb rb wb ws _ (P8 F) _ _ s.pair s.index s.len s.stamp now W hb hm' hl hpi.1 hpi.2 (by rw [hbuf];omega) (by rw [hbuf];exact hz)
        refine q.mono ?_
        rintro e w1 ⟨rfl,hst⟩
        rw [l0] at hst
        exact ⟨_,.slice none 0 0,.slice none 0 0,rfl,rfl,.inl rfl,OwnsOff.nil ..,(fun g hg => by cases hg),rtail_mv (.inr (.inr (.inr (.inr (.inr ⟨rfl,rfl⟩))))),hst.blk,hst.mem,hst.only.mono (fun k _ h => h.elim (fun e => .inl (e ▸ hat.sb)) .inr)⟩
      · exact hpi
      · exact hst0
    · have hlz:lenOf F (rd ws (bufOf F s)) ≠ 0:=by unfold bufOf lenOf;split <;> omega
      rw [rs3 z3 hlz]

      refine rcase now hat hm hS 109 [.pointer (some ⟨wb,0,none⟩)] [] _ _ _ (enters_of Tryz.func109 (by kernel_rfl) rfl) rfl (fun W hO hb hm' => ?_) ?_ ?_
      · have q:=r_len_b mb rb wb ws _ (P8 F) _ _ s.pair s.index s.len s.stamp now W (rd ws (bufA F s.pair s.index)) hb hm' hl hpi.1 hpi.2 (by rw [hbuf];omega) (by rw [hbuf];rfl) (by omega) (by omega)
        refine q.mono ?_
        have hle:1 ≤ lenOf F (rd ws (bufOf F s)) ∧ lenOf F (rd ws (bufOf F s)) ≤ F.n:=by unfold bufOf lenOf;split <;> omega
        rintro e w1 ⟨rfl,hst⟩
        exact ⟨_,.slice none 0 0,.slice none 0 0,rfl,rfl,.inr ⟨_,_,_,rfl⟩,OwnsOff.nil ..,(fun g hg => by cases hg),rtail_mv (.inr (.inr (.inr (.inr (.inl ⟨rfl,rfl,d0,hle⟩))))),hst.blk,hst.mem,hst.only.mono (fun k _ h => h.elim (fun e => .inl (e ▸ hat.sb)) .inr)⟩
      · exact hpi
      · exact hst0
  by_cases z4:s.no = 4
  · have e0:=hnx.a4 z4
    have d0:=hnx.d0 (by omega) (by omega)
    have l4:=hnx.l4 z4
    subst e0
    have hx:=h32 (bufOf F s + 1)
    rw [rs4 z4]

    refine rcase now hat hm hS 114 [.pointer (some ⟨wb,0,none⟩)] [] _ _ _ (enters_of Tryz.func114 (by kernel_rfl) rfl) rfl (fun W hO hb hm' => ?_) ?_ ?_
    · have q:=r_stamp_b mb rb wb ws _ (P8 F) _ _ s.pair s.index s.len s.stamp now W (rd ws (bufOf F s + 1)) hb hm' hl hpi.1 hpi.2 (by rw [hbuf];omega) (by rw [hbuf];rfl)
      refine q.mono ?_
      rintro e w1 ⟨nx',rfl,hn,hst⟩
      obtain ⟨bl,br,rfl,b1,b2,b3,b4⟩:=hn
      refine ⟨_,.slice none 0 0,.slice none 0 0,rfl,rfl,.inr ⟨_,_,_,rfl⟩,OwnsOff.nil ..,(fun g hg => by cases hg),⟨fun x => by exact absurd (show (5:Int) < 0 from x) (by omega),fun x => by exact absurd (show (5:Int) = 0 from x) (by omega),fun x => by exact absurd (show (5:Int) = 1 from x) (by omega),fun x => by exact absurd (show (5:Int) = 2 from x) (by omega),fun x => by exact absurd (show (5:Int) = 3 from x) (by omega),fun x => by exact absurd (show (5:Int) = 4 from x) (by omega),fun _ => ⟨⟨bl,br,rfl,.inr ⟨b1,(Array.getElem?_eq_some_iff.1 b4).1⟩,.inr ⟨b2,(Array.getElem?_eq_some_iff.1 b3).1⟩,b3,b4⟩,?_,(fun g hg => by cases hg),?_,?_,?_⟩,fun _ x => by exact absurd (show (5:Int) ≤ 4 from x) (by omega),fun x => by exact absurd (show (5:Int) = 4 from x) (by omega),fun _ x => by exact absurd (show (5:Int) ≤ 3 from x) (by omega)⟩,hst.blk,hst.mem,hst.only.mono (fun k _ h => h.elim (fun e => .inl (e ▸ hat.sb)) .inr)⟩
      · show OwnsOff w1 0 34 1 (.slice none 0 0) s.data.length (wcells s.data)
        rw [d0];exact OwnsOff.nil ..
      · show (5:Int) = 5 + (s.data.length:Int)
        rw [d0];rfl
      · show (s.data.length:Int) < s.len
        rw [d0];show (0:Int) < s.len;omega
      · exact l4.2
    · exact hpi
    · exact hx
  · obtain ⟨⟨bl,br,e0,s1,s2,h1,h2⟩,hown,hvS,hno,hlt,hle⟩:=hnx.a5 (by omega)
    subst e0
    obtain ⟨a,c,rfl,_⟩:=hown.slice
    have hxx:=h32 (bufOf F s + 2 + s.data.length)
    have hvr:Value.ownBlock (.slice a s.data.length c) ≠ some rb:=fun h => hS.2 (hvS _ h)
    have hvw:∀ g,Value.ownBlock (.slice a s.data.length c) = some g → g ≠ wb:=fun g hg e => by
      subst e
      obtain ⟨cs,hc⟩:=hown.typed _ hg
      have:=hc.symm.trans hat.blk
      simp at this
    have hval:∀ (W w1:World) (v':Value),(∀ g,v'.ownBlock = some g → Value.ownBlock (.slice a s.data.length c) = some g ∨ W.heap.size ≤ g) → ∀ g,v'.ownBlock = some g → S g ∧ g ≠ wb ∨ W.heap.size ≤ g:=fun W w1 v' h g hg => (h g hg).imp (fun h => ⟨hvS _ h,hvw _ h⟩) id
    by_cases hmore:(s.data.length:Int) + 1 < s.len
    · rw [rs5 (k:=s.data.length) hno (by omega)]
      refine rcase now hat hm hS 122 [] [.pointer (some ⟨bl,0,none⟩),.pointer (some ⟨br,0,none⟩)] _ _ _ (enters_of Tryz.func122 (by kernel_rfl) rfl) rfl (fun W hO hb hm' => ?_) hpi hst0
      have q:=r_word1_b mb rb wb ws _ (P8 F) _ _ s.pair s.index s.len s.stamp now W a c s.data bl br (rd ws (bufOf F s + 2 + s.data.length)) true hb hm' hl hpi.1 hpi.2 (by rw [hbuf];omega) (by rw [hbuf];rfl) (hO.at_ h1 (fun h => h)) (hO.at_ h2 (fun h => h)) (hown.kept hO (fun _ _ h => h)) hvr (decide_eq_true hmore) hst0 hnow
      refine q.mono ?_
      rintro e w1 ⟨v',nx',rfl,hn,-,hst⟩
      obtain ⟨bl',br',rfl,b1,b2,b3,b4⟩:=hn rfl
      refine ⟨_,.slice none 0 0,v',rfl,rfl,.inr ⟨_,_,_,rfl⟩,OwnsOff.nil ..,(fun g hg => by cases hg),⟨fun x => by exact absurd (show 6 + (s.data.length:Int) < 0 from x) (by omega),fun x => by exact absurd (show 6 + (s.data.length:Int) = 0 from x) (by omega),fun x => by exact absurd (show 6 + (s.data.length:Int) = 1 from x) (by omega),fun x => by exact absurd (show 6 + (s.data.length:Int) = 2 from x) (by omega),fun x => by exact absurd (show 6 + (s.data.length:Int) = 3 from x) (by omega),fun x => by exact absurd (show 6 + (s.data.length:Int) = 4 from x) (by omega),fun _ => ⟨⟨bl',br',rfl,.inr ⟨b1,(Array.getElem?_eq_some_iff.1 b4).1⟩,.inr ⟨b2,(Array.getElem?_eq_some_iff.1 b3).1⟩,b3,b4⟩,hst.own,fun g hg => (hval W w1 v' hst.new g hg).imp id (fun h => ⟨h,(hst.own.lt g hg).2⟩),?_,?_,hle⟩,fun _ x => by exact absurd (show 6 + (s.data.length:Int) ≤ 4 from x) (by omega),fun x => by exact absurd (show 6 + (s.data.length:Int) = 4 from x) (by omega),fun _ x => by exact absurd (show 6 + (s.data.length:Int) ≤ 3 from x) (by omega)⟩,hst.blk,hst.mem,hst.only.mono (fun k _ h => .inl (hvS _ h.symm))⟩
      · show 6 + (s.data.length:Int) = 5 + ((s.data ++ [rd ws (bufOf F s + 2 + s.data.length)]).length:Int)
        rw [List.length_append];simp;omega
      · show ((s.data ++ [rd ws (bufOf F s + 2 + s.data.length)]).length:Int) < s.len
        rw [List.length_append];simp;omega
    · rw [rs6 (k:=s.data.length) hno (by omega)]
      refine rcase now hat hm hS 122 [] [.pointer (some ⟨bl,0,none⟩),.pointer (some ⟨br,0,none⟩)] _ _ _ (enters_of Tryz.func122 (by kernel_rfl) rfl) rfl (fun W hO hb hm' => ?_) hpi hst0
      have q:=r_word1_b mb rb wb ws _ (P8 F) _ _ s.pair s.index s.len s.stamp now W a c s.data bl br (rd ws (bufOf F s + 2 + s.data.length)) false hb hm' hl hpi.1 hpi.2 (by rw [hbuf];omega) (by rw [hbuf];rfl) (hO.at_ h1 (fun h => h)) (hO.at_ h2 (fun h => h)) (hown.kept hO (fun _ _ h => h)) hvr (decide_eq_false hmore) hst0 hnow
      refine q.mono ?_
      rintro e w1 ⟨v',nx',rfl,-,hn,hst⟩
      obtain rfl:=hn rfl
      obtain ⟨a',c',hv',_⟩:=hst.own.slice
      exact ⟨_,v',.slice none 0 0,rfl,by rw [hv'];rfl,.inl rfl,hst.own,hval W w1 v' hst.new,rtail_mv (.inr (.inr (.inr (.inr (.inr ⟨rfl,rfl⟩))))),hst.blk,hst.mem,hst.only.mono (fun k _ h => .inl (hvS _ h.symm))⟩
end Go.Proofs.YtmhpcgcloojfbaaGreat
end
section
namespace Go.Proofs.YtmhpcgcloojfbaaGreat
open Go.RowKit Go.Sort
set_option linter.unusedVariables false
set_option linter.unusedSimpArgs false
set_option linter.unusedVariables false
set_option linter.unusedSimpArgs false
open Go.Proofs.YtmhpcgcloojfbaaGreat.Simp
set_option maxRecDepth 100000
set_option maxHeartbeats 3200000
/-- Channel k of a configuration is a sampling channel whose words are F's. -/
structure FrOf (c:Cfg) (k:Nat) (F:Fr):Prop where
  src:(srcSpan c k).1 = F.src
  dst:(dstSpan c k).1 = F.dst
  buf:∀ p i:Nat,p ≤ 1 → i ≤ 1 → (bufSpan c k p i).1 = bufA F p i
  lk:k < c.chans.length
  fin:FIn F (sizeN c).toNat
  size:0 ≤ sizeN c ∧ sizeN c ≤ 65536
  words:fld (row c.chans k) 3 = F.n
  per:fld (row c.chans k) 5 = F.per
  low:0 ≤ F.per ∧ F.per ≤ 1048576 ∧ F.n ≤ 16
theorem chanUp_mono {c:Cfg} (h:Accd c) (k:Nat) (hk:k < c.chans.length):beforeN c k + srcN (row c.chans k) + 1 ≤ beforeN c c.chans.length:=by
  have step:∀ d,k + 1 + d ≤ c.chans.length → beforeN c (k + 1) ≤ beforeN c (k + 1 + d):=by
    intro d
    induction d with
    | zero => intro _;exact Int.le_refl _
    | succ d ih =>
      intro hd
      have h1:=ih (by omega)
      have h2:=beforeN_succ c (k + 1 + d)
      have h3:=srcN_of h (i:=k + 1 + d) (by omega)
      have e:k + 1 + (d + 1) = k + 1 + d + 1:=by omega
      rw [e];omega
  have h1:=step (c.chans.length - (k + 1)) (by omega)
  rw [show k + 1 + (c.chans.length - (k + 1)) = c.chans.length by omega] at h1
  have h2:=beforeN_succ c k
  omega
theorem frOf {c:Cfg} (ha:acceptsB c = true) (k:Nat) (hk:k < c.chans.length) (h1:fld (row c.chans k) 0 = 1) (hp:0 ≤ fld (row c.chans k) 5 ∧ fld (row c.chans k) 5 ≤ 1048576) :
    FrOf c k ⟨(beforeN c k).toNat,(beforeN c k + srcN (row c.chans k)).toNat,(fld (row c.chans k) 3).toNat,fld (row c.chans k) 5⟩:=by
  have hA:=accd_of ha
  have hc:chanB c k = true:=(chanB_iff ha k).2 ⟨by omega,by omega⟩
  have hb:=beforeN_in hA (k:=k) (by omega)
  have hb2:=beforeN_in hA (k:=c.chans.length) (Nat.le_refl _)
  obtain ⟨-,w1,w2,-⟩:=hA.chan k hk
  have hm:=chanUp_mono hA k hk
  have hs:srcN (row c.chans k) = 11 + 4 * fld (row c.chans k) 3:=by unfold srcN;rw [if_pos h1]
  have hz:sizeN c = beforeN c c.chans.length:=if_pos ha
  have e1:srcSpan c k = (beforeN c k,srcN (row c.chans k)):=(if_pos hc).trans (by rw [Int.toNat_natCast])
  have e2:dstSpan c k = (beforeN c k + srcN (row c.chans k),1):=(if_pos hc).trans (by rw [Int.toNat_natCast])
  refine ⟨?_,?_,fun p i hp hi => ?_,hk,?_,?_,?_,rfl,hp.1,hp.2,?_⟩
  · rw [e1];show beforeN c k = ((beforeN c k).toNat:Int);omega
  · rw [e2];show beforeN c k + srcN (row c.chans k) = ((beforeN c k + srcN (row c.chans k)).toNat:Int);omega
  · have e3:bufSpan c k p i = (beforeN c k + 3 + (p:Int) * 2 * (fld (row c.chans k) 3 + 2) + (i:Int) * (fld (row c.chans k) 3 + 2),fld (row c.chans k) 3 + 2):=
      (if_pos ⟨hc,by rw [Int.toNat_natCast];exact ⟨h1,by omega,by omega,by omega,by omega⟩⟩).trans (by rw [Int.toNat_natCast])
    rw [e3]
    show beforeN c k + 3 + (p:Int) * 2 * (fld (row c.chans k) 3 + 2) + (i:Int) * (fld (row c.chans k) 3 + 2) = ((bufA _ p i:Nat):Int)
    unfold bufA
    show _ = (((beforeN c k).toNat + 3 + (2 * p + i) * ((fld (row c.chans k) 3).toNat + 2):Nat):Int)
    obtain ⟨n,hn⟩:=Int.eq_ofNat_of_zero_le (show 0 ≤ fld (row c.chans k) 3 by omega)
    obtain ⟨b,hbn⟩:=Int.eq_ofNat_of_zero_le hb.1
    rw [hn,hbn]
    have hp2:p = 0 ∨ p = 1:=by omega
    have hi2:i = 0 ∨ i = 1:=by omega
    rcases hp2 with rfl | rfl <;> rcases hi2 with rfl | rfl <;> (simp;try omega)
  · exact ⟨by show (beforeN c k).toNat + 3 + 4 * ((fld (row c.chans k) 3).toNat + 2) ≤ _;omega,by show (beforeN c k + srcN (row c.chans k)).toNat < _;omega,by omega,by show 1 ≤ (fld (row c.chans k) 3).toNat;omega,by show (fld (row c.chans k) 3).toNat ≤ 1000;omega⟩
  · omega
  · show fld (row c.chans k) 3 = ((fld (row c.chans k) 3).toNat:Int);omega
  · show (fld (row c.chans k) 3).toNat ≤ 16;omega
end Go.Proofs.YtmhpcgcloojfbaaGreat
namespace Go.Proofs.YtmhpcgcloojfbaaGreat
open Go.RowKit Go.Sort
set_option linter.unusedVariables false
set_option linter.unusedSimpArgs false
set_option linter.unusedVariables false
set_option linter.unusedSimpArgs false
open Go.Proofs.YtmhpcgcloojfbaaGreat.Simp
set_option maxRecDepth 100000
set_option maxHeartbeats 3200000
theorem below_set {B:Nat} {w W:World} {a o:Nat} {v:Value} (h:Below B w W) (ha:B ≤ a):Below B w (W.setCell ⟨a,o,none⟩ v):=h.setCell (p:=⟨a,o,none⟩) ha v
theorem keepS {B:Nat} {w W:World} {P:World → Prop} (h:∀ W,Below B w W → P W) (hb:Below B w W):Below B w W ∧ P W:=⟨hb,h W hb⟩
theorem blk_put {W:World} {a o:Nat} {cs cs':Array Value} {v:Value} {t:TypeId} {m:Nat × Nat} (h:W.heap[a]? = some (.cells cs t m)) (e:cs.setIfInBounds o v = cs'):(W.setCell ⟨a,o,none⟩ v).heap[a]? = some (.cells cs' t m):=by
  subst e;simp [World.setCell,Array.getElem?_modify,h]
/-- The addresses,of the buffers the first m. -/
def PBa (F:Fr) (m:Nat):Array Value:=#[.int .i64 (P8 F).la,.int .i64 (P8 F).re,.int .i64 (P8 F).s0,.int .i64 (P8 F).s1,.int .i64 (if 0 < m then (P8 F).b00 else 0:Nat),.int .i64 (if 1 < m then (P8 F).b01 else 0:Nat),.int .i64 (if 2 < m then (P8 F).b10 else 0:Nat),.int .i64 (if 3 < m then (P8 F).b11 else 0:Nat)]
theorem run_span0 (a b:Int) (w:World):(Instr.field 117 (.agg #[.int .i64 a,.int .i64 b]) 0).run Tryz.prog w = .ok (.int .i64 a) w:=by kernel_rfl
theorem places_size:(Tryz.prog.info? 89).map (·.size) = some 8:=by kernel_rfl
theorem clone_b (g off cap:Nat) (xs:List Int) (w:World) (h:∀ (k:Nat) (x:Int),xs[k]? = some x → w.cell? ⟨g,off + k,none⟩ = some (.int .u32 x)) (hn:1 ≤ xs.length) (hl:xs.length ≤ 1000000) :
    Calls Tryz.prog 34 #[.slice (some ⟨g,off,none⟩) xs.length cap] w fun e w' => ∃ v,e = .returned v ∧ OwnsOff w' w.heap.size 34 1 v xs.length (wcells xs) ∧ Below w.heap.size w w':=by
  obtain ⟨i0,hi,hz0,hz1,hz2⟩:=info_parts Tryz.infoW
  have hcell:∀ j u,(wcells xs)[j]? = some u → w.cell? ((⟨g,off,none⟩:Addr).add j) = some u:=fun j u hj => by
    simp [wcells] at hj
    obtain ⟨x,hx,rfl⟩:=hj
    rw [Addr.add_lit];exact h j x hx
  have q:=Lib.run_eql_slice_nil (P:=Tryz.prog) w 30 34 (some ⟨g,off,none⟩) xs.length cap 0 0 Tryz.underlying30
  have hb1:Below w.heap.size w (w.alloc (.cells #[] 34)):=(Below.refl _ _).alloc (Nat.le_refl _) _
  have hown:=World.ownsRow_made (base:=w.heap.size) (e:=34) (size:=1) w #[] 0 (Nat.le_refl _) (by unfold maxLen;omega) (by simp)
  have hcell1:∀ j u,(wcells xs)[j]? = some u → (w.alloc (.cells #[] 34)).cell? ((⟨g,off,none⟩:Addr).add j) = some u:=fun j u hj =>
    (hb1.cell (by have:=World.block_lt_of_cell? _ _ (hcell j u hj);exact this)).trans (hcell j u hj)
  have HO:=Lib.hid (wcells_one xs);have HC:=Lib.hid hcell1
  clear h hcell hcell1
  go_enter Tryz.func34,Tryz.ntmps34
  go_wp2_with (at_builtin;refine wpList_append_own _ rfl _ _ 30 rfl w.heap.size 34 i0 (.int .u32 0) 1 4 Tryz.underlying30 hi hz0 hz1 hz2 rfl (by decide) _ _ _ rfl hown ⟨g,off,none⟩ xs.length cap _ rfl (by simp) HC.out HO.out (by unfold maxLen;omega) (by omega) (by simp) ?_)
  · intro v' w2 hown' hgrow _
    obtain ⟨a',c',rfl,_⟩:=(OwnsOff.of_own hown').slice
    have hb2:Below w.heap.size w w2:=hb1.grown hgrow hb1.size (fun k hk => by cases hk;exact Nat.le_refl _)
    have HH:=Lib.hid hown';have HB:=Lib.hid hb2
    clear hown' hgrow hb1 hown hb2
    go_wp2
    go_ret
    refine ⟨_,rfl,?_,HB.out⟩
    have:=OwnsOff.of_own HH.out
    simpa using this
theorem find_b (c:Cfg) (x:CfgAt) (k:Nat) (F:Fr) (w:World) (hx:CfgIn w w.heap.size c x) (wx:CfgWf c) (lx:CfgFew c) (hF:FrOf c k F) :
    Calls Tryz.prog 33 #[.agg (cfgCells c x),.int .i64 (k:Int)] w fun e w' => e = .returned (.agg (#[.int .i64 (P8 F).la,.int .i64 (P8 F).re,.int .i64 (P8 F).s0,.int .i64 (P8 F).s1,.int .i64 (P8 F).b00,.int .i64 (P8 F).b01,.int .i64 (P8 F).b10,.int .i64 (P8 F).b11])) ∧ Below w.heap.size w w':=by
  obtain ⟨Wc,HWc,hBc,hWs,bx⟩:=one_cbox w c x 29
  obtain ⟨pa,pc,ca,cc,aa,ac,ba,bc⟩:=x
  obtain ⟨W,HW⟩:∃ u,Hid (u = Wc.alloc (.cells #[.int .i64 0,.int .i64 0,.int .i64 0,.int .i64 0,.int .i64 0,.int .i64 0,.int .i64 0,.int .i64 0] 89)):=⟨_,rfl⟩
  obtain ⟨r,hr⟩:∃ r,r = Wc.heap.size:=⟨_,rfl⟩
  have hR:W.heap[r]? = some (.cells #[.int .i64 0,.int .i64 0,.int .i64 0,.int .i64 0,.int .i64 0,.int .i64 0,.int .i64 0,.int .i64 0] 89 (0,0)):=by rw [HW.out,hr];exact heap_alloc_new _ _
  have hBW:Below Wc.heap.size Wc W:=by rw [HW.out];exact (Below.refl _ _).alloc (Nat.le_refl _) _
  have hxW:=hx.later (hBc.trans (hBW.mono hBc.size))
  have HS:=source_b c ⟨pa,pc,ca,cc,aa,ac,ba,bc⟩ k W hxW wx lx
  rw [hF.src] at HS
  have HS:=Lib.hid HS
  have hfl:=run_span0
  obtain ⟨c0,c1,c2,c3,c4,c5⟩:=bx _ hBW
  have HB:=Lib.hid hBc;have HR0:=Lib.hid hR;have HBW:=Lib.hid hBW;have HXC:=Lib.hid (hx.later hBc);have HRR:=Lib.hid hr;have HWS:=Lib.hid hWs
  simp only [cfgCells] at HWc HS bx ⊢
  clear hBc hR hBW hxW hx hr hWs
  go_enter Tryz.func33,Tryz.ntmps33
  go_wp2_with (first | (rw [← HWc.out]) | (rw [← HW.out]))
  refine HS.out.mono ?_
  rintro e w3 ⟨rfl,hb3⟩
  have hB3:=HBW.out.trans (hb3.mono HBW.out.size)
  clear c0 c1 c2 c3 c4 c5
  obtain ⟨c0,c1,c2,c3,c4,c5⟩:=bx _ hB3
  have HD:=dest_b c ⟨pa,pc,ca,cc,aa,ac,ba,bc⟩ k w3 (HXC.out.later hB3) wx lx
  rw [hF.dst] at HD
  have HD:=Lib.hid HD
  simp only [cfgCells] at HD
  simp only [← HRR.out]
  have HB3:=Lib.hid hB3
  have HR3:=Lib.hid ((hb3.block r (Array.getElem?_eq_some_iff.1 HR0.out).1).trans HR0.out)
  have hsr:=hF.fin.src
  have hsm:=hF.fin.max
  have v1:IntKind.i64.wrap ((F.src:Int) + 1) = (((P8 F).s0:Nat):Int):=by rw [IntWalk.i64_in _ (by omega)];rfl
  have v2:IntKind.i64.wrap ((F.src:Int) + 2) = (((P8 F).s1:Nat):Int):=by rw [IntWalk.i64_in _ (by omega)];rfl
  clear hb3 hB3 hsr hsm
  go_wp2_with fail
  refine HD.out.mono ?_
  rintro e w4 ⟨rfl,hb4⟩
  have hB4:=HB3.out.trans (hb4.mono HB3.out.size)
  have HR4:=Lib.hid ((hb4.block r (Array.getElem?_eq_some_iff.1 HR3.out).1).trans HR3.out)
  have HXC4:=Lib.hid (HXC.out.later hB4)
  have BX4:=Lib.hid (fun (W':World) (h:Below w4.heap.size w4 W') => bx W' (hB4.trans (h.mono hB4.size)))
  have HB4:=Lib.hid hB4
  clear hb4 hB4 c0 c1 c2 c3 c4 c5
  obtain ⟨a,ha⟩:∃ a,a = w4.heap.size:=⟨_,rfl⟩
  obtain ⟨wa,HWA⟩:∃ u,Hid (u = w4.alloc (.cells (#[.int .i64 F.src,.int .i64 F.dst,.int .i64 (P8 F).s0,.int .i64 (P8 F).s1,.int .i64 0,.int .i64 0,.int .i64 0,.int .i64 0]) 89)):=⟨_,rfl⟩
  have HAV:Hid (wa.heap[a]? = some (.cells (PBa F 0) 89 (0,0))):=Lib.hid (by rw [HWA.out,ha];exact heap_alloc_new _ _)
  have hBV:Below w4.heap.size w4 wa:=by rw [HWA.out];exact (Below.refl _ _).alloc (Nat.le_refl _) _
  have HA4:Hid (w4.heap.size ≤ a):=Lib.hid (by omega)
  have HAA:=Lib.hid ha
  have HBU0:Hid (∀ W':World,Below w4.heap.size w4 W' → Calls Tryz.prog 65 #[.agg #[.slice pa c.parts.length pc,.slice ca c.chans.length cc,.int .i64 c.len0,.slice aa c.win0.length ac,.int .i64 c.len1,.slice ba c.win1.length bc],.int .i64 (k:Int),.int .i64 0,.int .i64 0] W' fun e w' => e = .returned (.agg #[.int .i64 ((P8 F).b00:Nat),.int .i64 (bufSpan c k 0 0).2]) ∧ Below W'.heap.size W' w'):=Lib.hid (fun W' h => by
    have q:=buffer_b c ⟨pa,pc,ca,cc,aa,ac,ba,bc⟩ k 0 0 W' (HXC4.out.later h) wx lx
    have e:(bufSpan c (k:Int) 0 0).1 = ((bufA F 0 0:Nat):Int):=hF.buf 0 0 (by omega) (by omega)
    rw [e] at q
    exact q)
  have HBU1:Hid (∀ W':World,Below w4.heap.size w4 W' → Calls Tryz.prog 65 #[.agg #[.slice pa c.parts.length pc,.slice ca c.chans.length cc,.int .i64 c.len0,.slice aa c.win0.length ac,.int .i64 c.len1,.slice ba c.win1.length bc],.int .i64 (k:Int),.int .i64 0,.int .i64 1] W' fun e w' => e = .returned (.agg #[.int .i64 ((P8 F).b01:Nat),.int .i64 (bufSpan c k 0 1).2]) ∧ Below W'.heap.size W' w'):=Lib.hid (fun W' h => by
    have q:=buffer_b c ⟨pa,pc,ca,cc,aa,ac,ba,bc⟩ k 0 1 W' (HXC4.out.later h) wx lx
    have e:(bufSpan c (k:Int) 0 1).1 = ((bufA F 0 1:Nat):Int):=hF.buf 0 1 (by omega) (by omega)
    rw [e] at q
    exact q)
  have HBU2:Hid (∀ W':World,Below w4.heap.size w4 W' → Calls Tryz.prog 65 #[.agg #[.slice pa c.parts.length pc,.slice ca c.chans.length cc,.int .i64 c.len0,.slice aa c.win0.length ac,.int .i64 c.len1,.slice ba c.win1.length bc],.int .i64 (k:Int),.int .i64 1,.int .i64 0] W' fun e w' => e = .returned (.agg #[.int .i64 ((P8 F).b10:Nat),.int .i64 (bufSpan c k 1 0).2]) ∧ Below W'.heap.size W' w'):=Lib.hid (fun W' h => by
    have q:=buffer_b c ⟨pa,pc,ca,cc,aa,ac,ba,bc⟩ k 1 0 W' (HXC4.out.later h) wx lx
    have e:(bufSpan c (k:Int) 1 0).1 = ((bufA F 1 0:Nat):Int):=hF.buf 1 0 (by omega) (by omega)
    rw [e] at q
    exact q)
  have HBU3:Hid (∀ W':World,Below w4.heap.size w4 W' → Calls Tryz.prog 65 #[.agg #[.slice pa c.parts.length pc,.slice ca c.chans.length cc,.int .i64 c.len0,.slice aa c.win0.length ac,.int .i64 c.len1,.slice ba c.win1.length bc],.int .i64 (k:Int),.int .i64 1,.int .i64 1] W' fun e w' => e = .returned (.agg #[.int .i64 ((P8 F).b11:Nat),.int .i64 (bufSpan c k 1 1).2]) ∧ Below W'.heap.size W' w'):=Lib.hid (fun W' h => by
    have q:=buffer_b c ⟨pa,pc,ca,cc,aa,ac,ba,bc⟩ k 1 1 W' (HXC4.out.later h) wx lx
    have e:(bufSpan c (k:Int) 1 1).1 = ((bufA F 1 1:Nat):Int):=hF.buf 1 1 (by omega) (by omega)
    rw [e] at q
    exact q)
  clear ha bx
  go_wp2_with (first | (simp only [← HAA.out];rw [← HWA.out]))
  go_loopw [24] (fun ix wr => ∃ j:Int,0 ≤ j ∧ j ≤ 2 ∧ ix = .int .i64 j ∧ wr.heap[a]? = some (.cells (PBa F (2 * j).toNat) 89 (0,0)) ∧ Below w4.heap.size w4 wr) (fun ix _ => (2 - intOf ix).toNat)
  case atStart => exact ⟨0,by omega,by omega,rfl,HAV.out,hBV⟩
  case round =>
    clear HAV hBV
    obtain ⟨j,hj0,hj,rfl,hAV,hBV⟩:=hrel
    have HAV:=Lib.hid hAV
    clear hAV
    rcases (show j = 0 ∨ j = 1 ∨ j = 2 by omega) with hj | hj | hj
    · subst hj
      go_wp2
      go_loopw [27] (fun ix wr => ∃ i:Int,0 ≤ i ∧ i ≤ 2 ∧ ix = .int .i64 i ∧ wr.heap[a]? = some (.cells (PBa F (2 * 0 + i).toNat) 89 (0,0)) ∧ Below w4.heap.size w4 wr) (fun ix _ => (2 - intOf ix).toNat)
      case atStart => exact ⟨0,by omega,by omega,rfl,HAV.out,hBV⟩
      case round =>
        clear HAV hBV
        obtain ⟨i,hi0,hi,rfl,hAV,hBV⟩:=hrel
        have HAV:=Lib.hid hAV
        clear hAV
        rcases (show i = 0 ∨ i = 1 ∨ i = 2 by omega) with hj | hj | hj
        · subst hj
          go_wp2
          refine wp_region_held_drew (S:=(fun W' => Below w4.heap.size w4 W' ∧ W'.cell? ⟨w.heap.size,0,none⟩ = some (.slice pa c.parts.length pc) ∧ W'.cell? ⟨w.heap.size,1,none⟩ = some (.slice ca c.chans.length cc) ∧ W'.cell? ⟨w.heap.size,2,none⟩ = some (.int .i64 c.len0) ∧ W'.cell? ⟨w.heap.size,3,none⟩ = some (.slice aa c.win0.length ac) ∧ W'.cell? ⟨w.heap.size,4,none⟩ = some (.int .i64 c.len1) ∧ W'.cell? ⟨w.heap.size,5,none⟩ = some (.slice ba c.win1.length bc))) (by kernel_rfl) (keepS BX4.out hBV.drew) (fun hHeld => ?_)
          refine wpAnyH_take (i:=0) rfl (by kernel_rfl) (by kernel_rfl) (by kernel_rfl) (fun _ _ _ h => h) (Or.inl ⟨by rfl,by intro w hSw;(skip);(go_simp <;> with_reducible rfl)⟩) (by assumption) ?_
          (try simp only [Act.put,List.setIfInBounds_toArray,List.set_cons_zero,List.set_cons_succ,List.getElem_toArray,List.getElem_cons_zero,List.getElem_cons_succ])
          refine wpAnyH_take (i:=1) rfl (by kernel_rfl) (by kernel_rfl) (by kernel_rfl) (fun _ _ _ h => h) (Or.inl ⟨by rfl,by intro w hSw;(skip);(go_simp <;> with_reducible rfl)⟩) (by assumption) ?_
          (try simp only [Act.put,List.setIfInBounds_toArray,List.set_cons_zero,List.set_cons_succ,List.getElem_toArray,List.getElem_cons_zero,List.getElem_cons_succ])
          refine wpAnyH_take (i:=2) rfl (by kernel_rfl) (by kernel_rfl) (by kernel_rfl) (fun _ _ _ h => h) (Or.inl ⟨by rfl,by intro w hSw;(skip);(go_simp <;> with_reducible rfl)⟩) (by assumption) ?_
          (try simp only [Act.put,List.setIfInBounds_toArray,List.set_cons_zero,List.set_cons_succ,List.getElem_toArray,List.getElem_cons_zero,List.getElem_cons_succ])
          refine wpAnyH_take (i:=3) rfl (by kernel_rfl) (by kernel_rfl) (by kernel_rfl) (fun _ _ _ h => h) (Or.inl ⟨by rfl,by intro w hSw;(skip);(go_simp <;> with_reducible rfl)⟩) (by assumption) ?_
          (try simp only [Act.put,List.setIfInBounds_toArray,List.set_cons_zero,List.set_cons_succ,List.getElem_toArray,List.getElem_cons_zero,List.getElem_cons_succ])
          refine wpAnyH_take (i:=4) rfl (by kernel_rfl) (by kernel_rfl) (by kernel_rfl) (fun _ _ _ h => h) (Or.inl ⟨by rfl,by intro w hSw;(skip);(go_simp <;> with_reducible rfl)⟩) (by assumption) ?_
          (try simp only [Act.put,List.setIfInBounds_toArray,List.set_cons_zero,List.set_cons_succ,List.getElem_toArray,List.getElem_cons_zero,List.getElem_cons_succ])
          refine wpAnyH_take (i:=5) rfl (by kernel_rfl) (by kernel_rfl) (by kernel_rfl) (fun _ _ _ h => h) (Or.inl ⟨by rfl,by intro w hSw;(skip);(go_simp <;> with_reducible rfl)⟩) (by assumption) ?_
          (try simp only [Act.put,List.setIfInBounds_toArray,List.set_cons_zero,List.set_cons_succ,List.getElem_toArray,List.getElem_cons_zero,List.getElem_cons_succ])
          refine wpAnyH_take (i:=8) rfl (by kernel_rfl) (by kernel_rfl) (by kernel_rfl) (fun _ _ _ h => h) (Or.inl ⟨by rfl,by intro w hSw;(skip);(go_simp <;> with_reducible rfl)⟩) (by assumption) ?_
          (try simp only [Act.put,List.setIfInBounds_toArray,List.set_cons_zero,List.set_cons_succ,List.getElem_toArray,List.getElem_cons_zero,List.getElem_cons_succ])
          refine wpAnyH_take (i:=9) rfl (by kernel_rfl) (by kernel_rfl) (by kernel_rfl) (fun _ _ _ h => h) (Or.inl ⟨by rfl,by intro w hSw;(skip);(go_simp <;> with_reducible rfl)⟩) (by assumption) ?_
          (try simp only [Act.put,List.setIfInBounds_toArray,List.set_cons_zero,List.set_cons_succ,List.getElem_toArray,List.getElem_cons_zero,List.getElem_cons_succ])
          refine wpAnyH_ready (rs:=[6]) (by kernel_rfl) (by simp) (AllReadyH.cons rfl (fun K hK => ?_) AllReadyH.nil)
          go_simp
          refine (HBU0.out _ hHeld.1).mono ?_
          rintro e w5 ⟨rfl,hb5⟩
          have hA5:=(hb5.block a (by have:=(Array.getElem?_eq_some_iff.1 HAV.out).1;exact this)).trans HAV.out
          have z4:=cell_blk hA5 (i:=4) rfl
          have f4:w5.frozen? ⟨a,4,none⟩ = false:=by simp [World.frozen?,hA5]
          refine hK.out _ _ (keepS BX4.out (hHeld.1.trans (hb5.mono hHeld.1.size))) (fun hHeld => ?_)
          clear hK K
          (try simp only [Act.put,List.setIfInBounds_toArray,List.set_cons_zero,List.set_cons_succ,List.getElem_toArray,List.getElem_cons_zero,List.getElem_cons_succ])
          refine wpAnyH_take (i:=7) rfl (by kernel_rfl) (by kernel_rfl) (by kernel_rfl) (fun _ _ _ h => h) (Or.inl ⟨by rfl,by intro w hSw;(skip);(go_simp <;> with_reducible rfl)⟩) (by assumption) ?_
          (try simp only [Act.put,List.setIfInBounds_toArray,List.set_cons_zero,List.set_cons_succ,List.getElem_toArray,List.getElem_cons_zero,List.getElem_cons_succ])
          refine wpAnyH_take (i:=10) rfl (by kernel_rfl) (by kernel_rfl) (by kernel_rfl) (fun _ _ _ h => h) (Or.inl ⟨by rfl,by intro w hSw;(skip);(go_simp <;> with_reducible rfl)⟩) (by assumption) ?_
          (try simp only [Act.put,List.setIfInBounds_toArray,List.set_cons_zero,List.set_cons_succ,List.getElem_toArray,List.getElem_cons_zero,List.getElem_cons_succ])
          refine wpAnyH_ready (rs:=[11]) (by kernel_rfl) (by simp) (AllReadyH.cons rfl (fun K hK => ?_) AllReadyH.nil)
          go_simp
          refine hK.out _ _ (keepS BX4.out (below_set hHeld.1 HA4.out)) (fun hHeld => ?_)
          clear hK K
          (try simp only [Act.put,List.setIfInBounds_toArray,List.set_cons_zero,List.set_cons_succ,List.getElem_toArray,List.getElem_cons_zero,List.getElem_cons_succ])
          refine wpAnyH_done (by kernel_rfl) ?_ _
          go_wp2
          go_roundw
          case rel => exact ⟨1,by omega,by omega,rfl,blk_put hA5 rfl,below_set (hBV.drew.trans (hb5.mono hBV.size)) HA4.out⟩
          case measure => simp [intOf]
        · subst hj
          go_wp2
          refine wp_region_held_drew (S:=(fun W' => Below w4.heap.size w4 W' ∧ W'.cell? ⟨w.heap.size,0,none⟩ = some (.slice pa c.parts.length pc) ∧ W'.cell? ⟨w.heap.size,1,none⟩ = some (.slice ca c.chans.length cc) ∧ W'.cell? ⟨w.heap.size,2,none⟩ = some (.int .i64 c.len0) ∧ W'.cell? ⟨w.heap.size,3,none⟩ = some (.slice aa c.win0.length ac) ∧ W'.cell? ⟨w.heap.size,4,none⟩ = some (.int .i64 c.len1) ∧ W'.cell? ⟨w.heap.size,5,none⟩ = some (.slice ba c.win1.length bc))) (by kernel_rfl) (keepS BX4.out hBV.drew) (fun hHeld => ?_)
          refine wpAnyH_take (i:=0) rfl (by kernel_rfl) (by kernel_rfl) (by kernel_rfl) (fun _ _ _ h => h) (Or.inl ⟨by rfl,by intro w hSw;(skip);(go_simp <;> with_reducible rfl)⟩) (by assumption) ?_
          (try simp only [Act.put,List.setIfInBounds_toArray,List.set_cons_zero,List.set_cons_succ,List.getElem_toArray,List.getElem_cons_zero,List.getElem_cons_succ])
          refine wpAnyH_take (i:=1) rfl (by kernel_rfl) (by kernel_rfl) (by kernel_rfl) (fun _ _ _ h => h) (Or.inl ⟨by rfl,by intro w hSw;(skip);(go_simp <;> with_reducible rfl)⟩) (by assumption) ?_
          (try simp only [Act.put,List.setIfInBounds_toArray,List.set_cons_zero,List.set_cons_succ,List.getElem_toArray,List.getElem_cons_zero,List.getElem_cons_succ])
          refine wpAnyH_take (i:=2) rfl (by kernel_rfl) (by kernel_rfl) (by kernel_rfl) (fun _ _ _ h => h) (Or.inl ⟨by rfl,by intro w hSw;(skip);(go_simp <;> with_reducible rfl)⟩) (by assumption) ?_
          (try simp only [Act.put,List.setIfInBounds_toArray,List.set_cons_zero,List.set_cons_succ,List.getElem_toArray,List.getElem_cons_zero,List.getElem_cons_succ])
          refine wpAnyH_take (i:=3) rfl (by kernel_rfl) (by kernel_rfl) (by kernel_rfl) (fun _ _ _ h => h) (Or.inl ⟨by rfl,by intro w hSw;(skip);(go_simp <;> with_reducible rfl)⟩) (by assumption) ?_
          (try simp only [Act.put,List.setIfInBounds_toArray,List.set_cons_zero,List.set_cons_succ,List.getElem_toArray,List.getElem_cons_zero,List.getElem_cons_succ])
          refine wpAnyH_take (i:=4) rfl (by kernel_rfl) (by kernel_rfl) (by kernel_rfl) (fun _ _ _ h => h) (Or.inl ⟨by rfl,by intro w hSw;(skip);(go_simp <;> with_reducible rfl)⟩) (by assumption) ?_
          (try simp only [Act.put,List.setIfInBounds_toArray,List.set_cons_zero,List.set_cons_succ,List.getElem_toArray,List.getElem_cons_zero,List.getElem_cons_succ])
          refine wpAnyH_take (i:=5) rfl (by kernel_rfl) (by kernel_rfl) (by kernel_rfl) (fun _ _ _ h => h) (Or.inl ⟨by rfl,by intro w hSw;(skip);(go_simp <;> with_reducible rfl)⟩) (by assumption) ?_
          (try simp only [Act.put,List.setIfInBounds_toArray,List.set_cons_zero,List.set_cons_succ,List.getElem_toArray,List.getElem_cons_zero,List.getElem_cons_succ])
          refine wpAnyH_take (i:=8) rfl (by kernel_rfl) (by kernel_rfl) (by kernel_rfl) (fun _ _ _ h => h) (Or.inl ⟨by rfl,by intro w hSw;(skip);(go_simp <;> with_reducible rfl)⟩) (by assumption) ?_
          (try simp only [Act.put,List.setIfInBounds_toArray,List.set_cons_zero,List.set_cons_succ,List.getElem_toArray,List.getElem_cons_zero,List.getElem_cons_succ])
          refine wpAnyH_take (i:=9) rfl (by kernel_rfl) (by kernel_rfl) (by kernel_rfl) (fun _ _ _ h => h) (Or.inl ⟨by rfl,by intro w hSw;(skip);(go_simp <;> with_reducible rfl)⟩) (by assumption) ?_
          (try simp only [Act.put,List.setIfInBounds_toArray,List.set_cons_zero,List.set_cons_succ,List.getElem_toArray,List.getElem_cons_zero,List.getElem_cons_succ])
          refine wpAnyH_ready (rs:=[6]) (by kernel_rfl) (by simp) (AllReadyH.cons rfl (fun K hK => ?_) AllReadyH.nil)
          go_simp
          refine (HBU1.out _ hHeld.1).mono ?_
          rintro e w5 ⟨rfl,hb5⟩
          have hA5:=(hb5.block a (by have:=(Array.getElem?_eq_some_iff.1 HAV.out).1;exact this)).trans HAV.out
          have z4:=cell_blk hA5 (i:=5) rfl
          have f4:w5.frozen? ⟨a,5,none⟩ = false:=by simp [World.frozen?,hA5]
          refine hK.out _ _ (keepS BX4.out (hHeld.1.trans (hb5.mono hHeld.1.size))) (fun hHeld => ?_)
          clear hK K
          (try simp only [Act.put,List.setIfInBounds_toArray,List.set_cons_zero,List.set_cons_succ,List.getElem_toArray,List.getElem_cons_zero,List.getElem_cons_succ])
          refine wpAnyH_take (i:=7) rfl (by kernel_rfl) (by kernel_rfl) (by kernel_rfl) (fun _ _ _ h => h) (Or.inl ⟨by rfl,by intro w hSw;(skip);(go_simp <;> with_reducible rfl)⟩) (by assumption) ?_
          (try simp only [Act.put,List.setIfInBounds_toArray,List.set_cons_zero,List.set_cons_succ,List.getElem_toArray,List.getElem_cons_zero,List.getElem_cons_succ])
          refine wpAnyH_take (i:=10) rfl (by kernel_rfl) (by kernel_rfl) (by kernel_rfl) (fun _ _ _ h => h) (Or.inl ⟨by rfl,by intro w hSw;(skip);(go_simp <;> with_reducible rfl)⟩) (by assumption) ?_
          (try simp only [Act.put,List.setIfInBounds_toArray,List.set_cons_zero,List.set_cons_succ,List.getElem_toArray,List.getElem_cons_zero,List.getElem_cons_succ])
          refine wpAnyH_ready (rs:=[11]) (by kernel_rfl) (by simp) (AllReadyH.cons rfl (fun K hK => ?_) AllReadyH.nil)
          go_simp
          refine hK.out _ _ (keepS BX4.out (below_set hHeld.1 HA4.out)) (fun hHeld => ?_)
          clear hK K
          (try simp only [Act.put,List.setIfInBounds_toArray,List.set_cons_zero,List.set_cons_succ,List.getElem_toArray,List.getElem_cons_zero,List.getElem_cons_succ])
          refine wpAnyH_done (by kernel_rfl) ?_ _
          go_wp2
          go_roundw
          case rel => exact ⟨2,by omega,by omega,rfl,blk_put hA5 rfl,below_set (hBV.drew.trans (hb5.mono hBV.size)) HA4.out⟩
          case measure => simp [intOf]
        · subst hj
          go_wp2
          go_roundw
          case rel => exact ⟨1,by omega,by omega,rfl,HAV.out,hBV⟩
          case measure => simp [intOf]
    · subst hj
      go_wp2
      go_loopw [27] (fun ix wr => ∃ i:Int,0 ≤ i ∧ i ≤ 2 ∧ ix = .int .i64 i ∧ wr.heap[a]? = some (.cells (PBa F (2 * 1 + i).toNat) 89 (0,0)) ∧ Below w4.heap.size w4 wr) (fun ix _ => (2 - intOf ix).toNat)
      case atStart => exact ⟨0,by omega,by omega,rfl,HAV.out,hBV⟩
      case round =>
        clear HAV hBV
        obtain ⟨i,hi0,hi,rfl,hAV,hBV⟩:=hrel
        have HAV:=Lib.hid hAV
        clear hAV
        rcases (show i = 0 ∨ i = 1 ∨ i = 2 by omega) with hj | hj | hj
        · subst hj
          go_wp2
          refine wp_region_held_drew (S:=(fun W' => Below w4.heap.size w4 W' ∧ W'.cell? ⟨w.heap.size,0,none⟩ = some (.slice pa c.parts.length pc) ∧ W'.cell? ⟨w.heap.size,1,none⟩ = some (.slice ca c.chans.length cc) ∧ W'.cell? ⟨w.heap.size,2,none⟩ = some (.int .i64 c.len0) ∧ W'.cell? ⟨w.heap.size,3,none⟩ = some (.slice aa c.win0.length ac) ∧ W'.cell? ⟨w.heap.size,4,none⟩ = some (.int .i64 c.len1) ∧ W'.cell? ⟨w.heap.size,5,none⟩ = some (.slice ba c.win1.length bc))) (by kernel_rfl) (keepS BX4.out hBV.drew) (fun hHeld => ?_)
          refine wpAnyH_take (i:=0) rfl (by kernel_rfl) (by kernel_rfl) (by kernel_rfl) (fun _ _ _ h => h) (Or.inl ⟨by rfl,by intro w hSw;(skip);(go_simp <;> with_reducible rfl)⟩) (by assumption) ?_
          (try simp only [Act.put,List.setIfInBounds_toArray,List.set_cons_zero,List.set_cons_succ,List.getElem_toArray,List.getElem_cons_zero,List.getElem_cons_succ])
          refine wpAnyH_take (i:=1) rfl (by kernel_rfl) (by kernel_rfl) (by kernel_rfl) (fun _ _ _ h => h) (Or.inl ⟨by rfl,by intro w hSw;(skip);(go_simp <;> with_reducible rfl)⟩) (by assumption) ?_
          (try simp only [Act.put,List.setIfInBounds_toArray,List.set_cons_zero,List.set_cons_succ,List.getElem_toArray,List.getElem_cons_zero,List.getElem_cons_succ])
          refine wpAnyH_take (i:=2) rfl (by kernel_rfl) (by kernel_rfl) (by kernel_rfl) (fun _ _ _ h => h) (Or.inl ⟨by rfl,by intro w hSw;(skip);(go_simp <;> with_reducible rfl)⟩) (by assumption) ?_
          (try simp only [Act.put,List.setIfInBounds_toArray,List.set_cons_zero,List.set_cons_succ,List.getElem_toArray,List.getElem_cons_zero,List.getElem_cons_succ])
          refine wpAnyH_take (i:=3) rfl (by kernel_rfl) (by kernel_rfl) (by kernel_rfl) (fun _ _ _ h => h) (Or.inl ⟨by rfl,by intro w hSw;(skip);(go_simp <;> with_reducible rfl)⟩) (by assumption) ?_
          (try simp only [Act.put,List.setIfInBounds_toArray,List.set_cons_zero,List.set_cons_succ,List.getElem_toArray,List.getElem_cons_zero,List.getElem_cons_succ])
          refine wpAnyH_take (i:=4) rfl (by kernel_rfl) (by kernel_rfl) (by kernel_rfl) (fun _ _ _ h => h) (Or.inl ⟨by rfl,by intro w hSw;(skip);(go_simp <;> with_reducible rfl)⟩) (by assumption) ?_
          (try simp only [Act.put,List.setIfInBounds_toArray,List.set_cons_zero,List.set_cons_succ,List.getElem_toArray,List.getElem_cons_zero,List.getElem_cons_succ])
          refine wpAnyH_take (i:=5) rfl (by kernel_rfl) (by kernel_rfl) (by kernel_rfl) (fun _ _ _ h => h) (Or.inl ⟨by rfl,by intro w hSw;(skip);(go_simp <;> with_reducible rfl)⟩) (by assumption) ?_
          (try simp only [Act.put,List.setIfInBounds_toArray,List.set_cons_zero,List.set_cons_succ,List.getElem_toArray,List.getElem_cons_zero,List.getElem_cons_succ])
          refine wpAnyH_take (i:=8) rfl (by kernel_rfl) (by kernel_rfl) (by kernel_rfl) (fun _ _ _ h => h) (Or.inl ⟨by rfl,by intro w hSw;(skip);(go_simp <;> with_reducible rfl)⟩) (by assumption) ?_
          (try simp only [Act.put,List.setIfInBounds_toArray,List.set_cons_zero,List.set_cons_succ,List.getElem_toArray,List.getElem_cons_zero,List.getElem_cons_succ])
          refine wpAnyH_take (i:=9) rfl (by kernel_rfl) (by kernel_rfl) (by kernel_rfl) (fun _ _ _ h => h) (Or.inl ⟨by rfl,by intro w hSw;(skip);(go_simp <;> with_reducible rfl)⟩) (by assumption) ?_
          (try simp only [Act.put,List.setIfInBounds_toArray,List.set_cons_zero,List.set_cons_succ,List.getElem_toArray,List.getElem_cons_zero,List.getElem_cons_succ])
          refine wpAnyH_ready (rs:=[6]) (by kernel_rfl) (by simp) (AllReadyH.cons rfl (fun K hK => ?_) AllReadyH.nil)
          go_simp
          refine (HBU2.out _ hHeld.1).mono ?_
          rintro e w5 ⟨rfl,hb5⟩
          have hA5:=(hb5.block a (by have:=(Array.getElem?_eq_some_iff.1 HAV.out).1;exact this)).trans HAV.out
          have z4:=cell_blk hA5 (i:=6) rfl
          have f4:w5.frozen? ⟨a,6,none⟩ = false:=by simp [World.frozen?,hA5]
          refine hK.out _ _ (keepS BX4.out (hHeld.1.trans (hb5.mono hHeld.1.size))) (fun hHeld => ?_)
          clear hK K
          (try simp only [Act.put,List.setIfInBounds_toArray,List.set_cons_zero,List.set_cons_succ,List.getElem_toArray,List.getElem_cons_zero,List.getElem_cons_succ])
          refine wpAnyH_take (i:=7) rfl (by kernel_rfl) (by kernel_rfl) (by kernel_rfl) (fun _ _ _ h => h) (Or.inl ⟨by rfl,by intro w hSw;(skip);(go_simp <;> with_reducible rfl)⟩) (by assumption) ?_
          (try simp only [Act.put,List.setIfInBounds_toArray,List.set_cons_zero,List.set_cons_succ,List.getElem_toArray,List.getElem_cons_zero,List.getElem_cons_succ])
          refine wpAnyH_take (i:=10) rfl (by kernel_rfl) (by kernel_rfl) (by kernel_rfl) (fun _ _ _ h => h) (Or.inl ⟨by rfl,by intro w hSw;(skip);(go_simp <;> with_reducible rfl)⟩) (by assumption) ?_
          (try simp only [Act.put,List.setIfInBounds_toArray,List.set_cons_zero,List.set_cons_succ,List.getElem_toArray,List.getElem_cons_zero,List.getElem_cons_succ])
          refine wpAnyH_ready (rs:=[11]) (by kernel_rfl) (by simp) (AllReadyH.cons rfl (fun K hK => ?_) AllReadyH.nil)
          go_simp
          refine hK.out _ _ (keepS BX4.out (below_set hHeld.1 HA4.out)) (fun hHeld => ?_)
          clear hK K
          (try simp only [Act.put,List.setIfInBounds_toArray,List.set_cons_zero,List.set_cons_succ,List.getElem_toArray,List.getElem_cons_zero,List.getElem_cons_succ])
          refine wpAnyH_done (by kernel_rfl) ?_ _
          go_wp2
          go_roundw
          case rel => exact ⟨1,by omega,by omega,rfl,blk_put hA5 rfl,below_set (hBV.drew.trans (hb5.mono hBV.size)) HA4.out⟩
          case measure => simp [intOf]
        · subst hj
          go_wp2
          refine wp_region_held_drew (S:=(fun W' => Below w4.heap.size w4 W' ∧ W'.cell? ⟨w.heap.size,0,none⟩ = some (.slice pa c.parts.length pc) ∧ W'.cell? ⟨w.heap.size,1,none⟩ = some (.slice ca c.chans.length cc) ∧ W'.cell? ⟨w.heap.size,2,none⟩ = some (.int .i64 c.len0) ∧ W'.cell? ⟨w.heap.size,3,none⟩ = some (.slice aa c.win0.length ac) ∧ W'.cell? ⟨w.heap.size,4,none⟩ = some (.int .i64 c.len1) ∧ W'.cell? ⟨w.heap.size,5,none⟩ = some (.slice ba c.win1.length bc))) (by kernel_rfl) (keepS BX4.out hBV.drew) (fun hHeld => ?_)
          refine wpAnyH_take (i:=0) rfl (by kernel_rfl) (by kernel_rfl) (by kernel_rfl) (fun _ _ _ h => h) (Or.inl ⟨by rfl,by intro w hSw;(skip);(go_simp <;> with_reducible rfl)⟩) (by assumption) ?_
          (try simp only [Act.put,List.setIfInBounds_toArray,List.set_cons_zero,List.set_cons_succ,List.getElem_toArray,List.getElem_cons_zero,List.getElem_cons_succ])
          refine wpAnyH_take (i:=1) rfl (by kernel_rfl) (by kernel_rfl) (by kernel_rfl) (fun _ _ _ h => h) (Or.inl ⟨by rfl,by intro w hSw;(skip);(go_simp <;> with_reducible rfl)⟩) (by assumption) ?_
          (try simp only [Act.put,List.setIfInBounds_toArray,List.set_cons_zero,List.set_cons_succ,List.getElem_toArray,List.getElem_cons_zero,List.getElem_cons_succ])
          refine wpAnyH_take (i:=2) rfl (by kernel_rfl) (by kernel_rfl) (by kernel_rfl) (fun _ _ _ h => h) (Or.inl ⟨by rfl,by intro w hSw;(skip);(go_simp <;> with_reducible rfl)⟩) (by assumption) ?_
          (try simp only [Act.put,List.setIfInBounds_toArray,List.set_cons_zero,List.set_cons_succ,List.getElem_toArray,List.getElem_cons_zero,List.getElem_cons_succ])
          refine wpAnyH_take (i:=3) rfl (by kernel_rfl) (by kernel_rfl) (by kernel_rfl) (fun _ _ _ h => h) (Or.inl ⟨by rfl,by intro w hSw;(skip);(go_simp <;> with_reducible rfl)⟩) (by assumption) ?_
          (try simp only [Act.put,List.setIfInBounds_toArray,List.set_cons_zero,List.set_cons_succ,List.getElem_toArray,List.getElem_cons_zero,List.getElem_cons_succ])
          refine wpAnyH_take (i:=4) rfl (by kernel_rfl) (by kernel_rfl) (by kernel_rfl) (fun _ _ _ h => h) (Or.inl ⟨by rfl,by intro w hSw;(skip);(go_simp <;> with_reducible rfl)⟩) (by assumption) ?_
          (try simp only [Act.put,List.setIfInBounds_toArray,List.set_cons_zero,List.set_cons_succ,List.getElem_toArray,List.getElem_cons_zero,List.getElem_cons_succ])
          refine wpAnyH_take (i:=5) rfl (by kernel_rfl) (by kernel_rfl) (by kernel_rfl) (fun _ _ _ h => h) (Or.inl ⟨by rfl,by intro w hSw;(skip);(go_simp <;> with_reducible rfl)⟩) (by assumption) ?_
          (try simp only [Act.put,List.setIfInBounds_toArray,List.set_cons_zero,List.set_cons_succ,List.getElem_toArray,List.getElem_cons_zero,List.getElem_cons_succ])
          refine wpAnyH_take (i:=8) rfl (by kernel_rfl) (by kernel_rfl) (by kernel_rfl) (fun _ _ _ h => h) (Or.inl ⟨by rfl,by intro w hSw;(skip);(go_simp <;> with_reducible rfl)⟩) (by assumption) ?_
          (try simp only [Act.put,List.setIfInBounds_toArray,List.set_cons_zero,List.set_cons_succ,List.getElem_toArray,List.getElem_cons_zero,List.getElem_cons_succ])
          refine wpAnyH_take (i:=9) rfl (by kernel_rfl) (by kernel_rfl) (by kernel_rfl) (fun _ _ _ h => h) (Or.inl ⟨by rfl,by intro w hSw;(skip);(go_simp <;> with_reducible rfl)⟩) (by assumption) ?_
          (try simp only [Act.put,List.setIfInBounds_toArray,List.set_cons_zero,List.set_cons_succ,List.getElem_toArray,List.getElem_cons_zero,List.getElem_cons_succ])
          refine wpAnyH_ready (rs:=[6]) (by kernel_rfl) (by simp) (AllReadyH.cons rfl (fun K hK => ?_) AllReadyH.nil)
          go_simp
          refine (HBU3.out _ hHeld.1).mono ?_
          rintro e w5 ⟨rfl,hb5⟩
          have hA5:=(hb5.block a (by have:=(Array.getElem?_eq_some_iff.1 HAV.out).1;exact this)).trans HAV.out
          have z4:=cell_blk hA5 (i:=7) rfl
          have f4:w5.frozen? ⟨a,7,none⟩ = false:=by simp [World.frozen?,hA5]
          refine hK.out _ _ (keepS BX4.out (hHeld.1.trans (hb5.mono hHeld.1.size))) (fun hHeld => ?_)
          clear hK K
          (try simp only [Act.put,List.setIfInBounds_toArray,List.set_cons_zero,List.set_cons_succ,List.getElem_toArray,List.getElem_cons_zero,List.getElem_cons_succ])
          refine wpAnyH_take (i:=7) rfl (by kernel_rfl) (by kernel_rfl) (by kernel_rfl) (fun _ _ _ h => h) (Or.inl ⟨by rfl,by intro w hSw;(skip);(go_simp <;> with_reducible rfl)⟩) (by assumption) ?_
          (try simp only [Act.put,List.setIfInBounds_toArray,List.set_cons_zero,List.set_cons_succ,List.getElem_toArray,List.getElem_cons_zero,List.getElem_cons_succ])
          refine wpAnyH_take (i:=10) rfl (by kernel_rfl) (by kernel_rfl) (by kernel_rfl) (fun _ _ _ h => h) (Or.inl ⟨by rfl,by intro w hSw;(skip);(go_simp <;> with_reducible rfl)⟩) (by assumption) ?_
          (try simp only [Act.put,List.setIfInBounds_toArray,List.set_cons_zero,List.set_cons_succ,List.getElem_toArray,List.getElem_cons_zero,List.getElem_cons_succ])
          refine wpAnyH_ready (rs:=[11]) (by kernel_rfl) (by simp) (AllReadyH.cons rfl (fun K hK => ?_) AllReadyH.nil)
          go_simp
          refine hK.out _ _ (keepS BX4.out (below_set hHeld.1 HA4.out)) (fun hHeld => ?_)
          clear hK K
          (try simp only [Act.put,List.setIfInBounds_toArray,List.set_cons_zero,List.set_cons_succ,List.getElem_toArray,List.getElem_cons_zero,List.getElem_cons_succ])
          refine wpAnyH_done (by kernel_rfl) ?_ _
          go_wp2
          go_roundw
          case rel => exact ⟨2,by omega,by omega,rfl,blk_put hA5 rfl,below_set (hBV.drew.trans (hb5.mono hBV.size)) HA4.out⟩
          case measure => simp [intOf]
        · subst hj
          go_wp2
          go_roundw
          case rel => exact ⟨2,by omega,by omega,rfl,HAV.out,hBV⟩
          case measure => simp [intOf]
    · subst hj
      have HRV:=Lib.hid ((hBV.block r (Array.getElem?_eq_some_iff.1 HR4.out).1).trans HR4.out)
      have hAV:wr.heap[a]? = some (.cells (#[.int .i64 (P8 F).la,.int .i64 (P8 F).re,.int .i64 (P8 F).s0,.int .i64 (P8 F).s1,.int .i64 (P8 F).b00,.int .i64 (P8 F).b01,.int .i64 (P8 F).b10,.int .i64 (P8 F).b11]) 89 (0,0)):=HAV.out
      have HAX:=Lib.hid hAV
      have hs8:(Tryz.prog.info? 89).map (·.size) = some (#[.int .i64 (P8 F).la,.int .i64 (P8 F).re,.int .i64 (P8 F).s0,.int .i64 (P8 F).s1,.int .i64 (P8 F).b00,.int .i64 (P8 F).b01,.int .i64 (P8 F).b10,.int .i64 (P8 F).b11]:Array Value).size:=places_size
      have hth:=there_at (W:=wr) HRV.out (n:=(#[.int .i64 (P8 F).la,.int .i64 (P8 F).re,.int .i64 (P8 F).s0,.int .i64 (P8 F).s1,.int .i64 (P8 F).b00,.int .i64 (P8 F).b01,.int .i64 (P8 F).b10,.int .i64 (P8 F).b11]:Array Value).size) rfl
      clear hAV
      go_wp2_with (first | (with_reducible refine wpList_loadW (by kernel_rfl) 89 _ rfl _ (by kernel_rfl) _ _ _ _ HAX.out Tryz.underlying89 (by kernel_rfl) hs8 ?_) | (with_reducible refine wpList_store_mid (by kernel_rfl) _ _ _ rfl r 0 (#[.int .i64 (P8 F).la,.int .i64 (P8 F).re,.int .i64 (P8 F).s0,.int .i64 (P8 F).s1,.int .i64 (P8 F).b00,.int .i64 (P8 F).b01,.int .i64 (P8 F).b10,.int .i64 (P8 F).b11]) (by kernel_rfl) (by kernel_rfl) hth hs8 (by kernel_rfl) ?_))
      have hrg:=World.rangeAt_setCells_same wr r 0 (#[.int .i64 (P8 F).la,.int .i64 (P8 F).re,.int .i64 (P8 F).s0,.int .i64 (P8 F).s1,.int .i64 (P8 F).b00,.int .i64 (P8 F).b01,.int .i64 (P8 F).b10,.int .i64 (P8 F).b11]:Array Value).toList hth
      (try simp only [Exit.inBlock,Exit.then])
      refine bodyPost_ret (results_cell_row rfl _ _ r (#[.int .i64 (P8 F).la,.int .i64 (P8 F).re,.int .i64 (P8 F).s0,.int .i64 (P8 F).s1,.int .i64 (P8 F).b00,.int .i64 (P8 F).b01,.int .i64 (P8 F).b10,.int .i64 (P8 F).b11]:Array Value).toList _ rfl hrg Tryz.underlying89 rfl hs8) rfl ?_
      have hrw:w.heap.size ≤ r:=by have:=HRR.out;have:=HWS.out;omega
      have hsz:=(HB.out.trans (HB4.out.mono HB.out.size)).size
      exact ⟨rfl,((HB.out.trans (HB4.out.mono HB.out.size)).trans (hBV.mono hsz)).trans ((Only.sets (S:=fun k => k = r) rfl _ 0 (Only.refl _ wr)).below (Nat.le_trans hsz hBV.size) (fun k e => by omega))⟩
end Go.Proofs.YtmhpcgcloojfbaaGreat
namespace Go.Proofs.YtmhpcgcloojfbaaGreat
open Go.RowKit Go.Sort
set_option linter.unusedVariables false
set_option linter.unusedSimpArgs false
set_option linter.unusedVariables false
set_option linter.unusedSimpArgs false
open Go.Proofs.YtmhpcgcloojfbaaGreat.Simp
set_option maxRecDepth 100000
set_option maxHeartbeats 3200000
/-- A new write at block wb. -/
def GivesNewW (w:World) (F:Fr) (ds:List Int) (e:Ending) (w':World):Prop:=∃ wb S,e = .returned (.pointer (some ⟨wb,0,none⟩)) ∧ WAt w' S wb F (Simp.start ds) ∧ (∀ k,S k → w.heap.size ≤ k) ∧ Below w.heap.size w w'
def GivesNewR (w:World) (F:Fr) (e:Ending) (w':World):Prop:=∃ wb S,e = .returned (.pointer (some ⟨wb,0,none⟩)) ∧ RAt w' S wb F (Simp.start []) ∧ (∀ k,S k → w.heap.size ≤ k) ∧ Below w.heap.size w w'
theorem newW_b (c:Cfg) (x:CfgAt) (k:Nat) (F:Fr) (ds:List Int) (g off cap:Nat) (w:World) (hx:CfgIn w w.heap.size c x) (wx:CfgWf c) (lx:CfgFew c) (hF:FrOf c k F) (hd:∀ (k:Nat) (x:Int),ds[k]? = some x → w.cell? ⟨g,off + k,none⟩ = some (.int .u32 x)) (hn:1 ≤ ds.length ∧ ds.length ≤ F.n) :
    Calls Tryz.prog 13 #[.agg (cfgCells c x),.int .i64 (k:Int),.slice (some ⟨g,off,none⟩) ds.length cap] w (GivesNewW w F ds):=by
  obtain ⟨Wc,HWc,hBc,hWs,bx⟩:=one_cbox w c x 29
  have hn2:=hF.fin.n2
  have HFD:=find_b c x k F Wc (hx.later hBc) wx lx hF
  obtain ⟨pa,pc,ca,cc,aa,ac,ba,bc⟩:=x
  obtain ⟨c0,c1,c2,c3,c4,c5⟩:=bx _ (Below.refl _ _)
  have HD:Hid (∀ (k:Nat) (x:Int),ds[k]? = some x → Wc.cell? ⟨g,off + k,none⟩ = some (.int .u32 x)):=Lib.hid (fun k x h => (hBc.cell (p:=⟨g,off + k,none⟩) (World.block_lt_of_cell? w ⟨g,off + k,none⟩ (hd k x h))).trans (hd k x h))
  have HB:=Lib.hid hBc
  have HFD:=Lib.hid HFD
  simp only [cfgCells] at HWc HFD ⊢
  clear hx wx lx hF hd bx hBc hWs
  go_enter Tryz.func13,Tryz.ntmps13
  go_wp2_with (first | (rw [← HWc.out]))
  refine HFD.out.mono ?_
  rintro e w3 ⟨rfl,hb3⟩
  have HD3:Hid (∀ (k:Nat) (x:Int),ds[k]? = some x → w3.cell? ⟨g,off + k,none⟩ = some (.int .u32 x)):=Lib.hid (fun k x h => (hb3.cell (p:=⟨g,off + k,none⟩) (World.block_lt_of_cell? Wc ⟨g,off + k,none⟩ (HD.out k x h))).trans (HD.out k x h))
  have HCL:=Lib.hid (clone_b g off cap ds w3 HD3.out hn.1 (by omega))
  have HB3:=Lib.hid (HB.out.trans (hb3.mono HB.out.size))
  clear hb3 c0 c1 c2 c3 c4 c5
  go_wp2_with fail
  refine HCL.out.mono ?_
  rintro e w4 ⟨v,rfl,hown,hb4⟩
  obtain ⟨db,do_,dc,rfl,hdb,hdl,-,-,-,hrow⟩:=hown.lies (by omega)
  have HB4:=Lib.hid (HB3.out.trans (hb4.mono HB3.out.size))
  have HROW:=Lib.hid hrow
  obtain ⟨wb,hwb⟩:∃ b,b = w4.heap.size:=⟨_,rfl⟩
  obtain ⟨W5,HW5⟩:∃ u,Hid (u = w4.alloc (.cells (wV (.func (.func 35) #[.pointer (some ⟨wb,0,none⟩)] #[]) (P8 F) (.slice (some ⟨db,do_,none⟩) ds.length dc) 0 0 false) 95)):=⟨_,rfl⟩
  have HBK:Hid (WBlk W5 wb (.func (.func 35) #[.pointer (some ⟨wb,0,none⟩)] #[]) (P8 F) (.slice (some ⟨db,do_,none⟩) ds.length dc) 0 0 false):=Lib.hid (by rw [HW5.out,hwb];exact heap_alloc_new _ _)
  have HB5:Hid (Below w4.heap.size w4 W5):=Lib.hid (by rw [HW5.out];exact (Below.refl _ _).alloc (Nat.le_refl _) _)
  have HWB:=Lib.hid hwb;have HSZ:=Lib.hid hb4.size;have HN:=Lib.hid hn;have HDB:=Lib.hid hdb;have HDL:=Lib.hid hdl;have HN2:=Lib.hid hn2
  clear hown hb4 hrow hwb hdb hdl hn hn2
  go_wp2
  simp only [← HWB.out]
  go_ret
  have hs4:=HB4.out.size
  have hsz:=HSZ.out
  have hdb:=HDB.out
  have hdl:=HDL.out
  have hwb:=HWB.out
  have hs3:=HB3.out.size
  have hs5:=HB5.out.size
  have hn:=HN.out
  have hwl:=HBK.out.lt
  suffices hfin:GivesNewW w F ds (.returned (.pointer (some ⟨wb,0,none⟩))) W5 by rw [HW5.out] at hfin;exact hfin
  refine ⟨wb,fun k => k = wb ∨ k = db,rfl,⟨_,db,do_,dc,HBK.out,.inl rfl,.inr rfl,by omega,fun k h => ?_,fun k x hx => ?_,nextOf_mv (by show 0 < ds.length;omega) (.inl ⟨rfl,rfl⟩),⟨Nat.zero_le _,Nat.zero_le _⟩,hn,by show (0:Int) ≤ _;omega⟩,fun k h => by omega,?_⟩
  · have:=HB5.out.size
    rcases h with rfl | rfl <;> omega
  · exact cell_of_blk (w:=w4) (HROW.out k _ (by simp [wcells];exact hx)) (HB5.out.block db hdl)
  · exact HB4.out.trans (HB5.out.mono hs4)
theorem newR_b (c:Cfg) (x:CfgAt) (k:Nat) (F:Fr) (w:World) (hx:CfgIn w w.heap.size c x) (wx:CfgWf c) (lx:CfgFew c) (hF:FrOf c k F) :
    Calls Tryz.prog 14 #[.agg (cfgCells c x),.int .i64 (k:Int)] w (GivesNewR w F):=by
  obtain ⟨w4,HWc,hBc,hWs,bx⟩:=one_cbox w c x 29
  have hxc:=hx.later hBc
  have HFD:=Lib.hid (fun (W':World) (h:Below w4.heap.size w4 W') => find_b c x k F W' (hxc.later h) wx lx hF)
  obtain ⟨pa,pc,ca,cc,aa,ac,ba,bc⟩:=x
  obtain ⟨b,o,x0,x1,x2,x3,x4,x5,x6,e0,hbl,e1,-,hrw⟩:=hxc.rc.at7 wx.wc hF.lk
  have h3:x3 = F.n:=by have:=hF.words;rw [row_at e1] at this;exact this
  have h5:x5 = F.per:=by have:=hF.per;rw [row_at e1] at this;exact this
  have HB:=Lib.hid hBc;have H35:=Lib.hid (And.intro h3 h5)
  have s0:(0:Int) ≤ (k:Int):=by omega
  have s1:(k:Int) < (c.chans.length:Int):=by have:=hF.lk;omega
  have hlk:=hF.lk
  have BX4:=Lib.hid (fun (W':World) (h:Below w4.heap.size w4 W') => And.intro (bx W' h) (And.intro (hrw W' h).2.2.2.1 (hrw W' h).2.2.2.2.2.1))
  have HSTART:=keepS BX4.out (Below.refl w4.heap.size w4).drew
  have HLOW:=Lib.hid hWs
  simp only [cfgCells] at HWc HFD bx BX4 HSTART ⊢
  clear hx wx lx hF hxc bx hBc hWs e1 hrw hbl h3 h5
  subst e0
  go_enter Tryz.func14,Tryz.ntmps14
  go_wp2_with (first | (rw [← HWc.out]))
  refine wp_region_held_drew (S:=(fun W' => Below w4.heap.size w4 W' ∧ (W'.cell? ⟨w.heap.size,0,none⟩ = some (.slice pa c.parts.length pc) ∧ W'.cell? ⟨w.heap.size,1,none⟩ = some (.slice (some ⟨b,o,none⟩) c.chans.length cc) ∧ W'.cell? ⟨w.heap.size,2,none⟩ = some (.int .i64 c.len0) ∧ W'.cell? ⟨w.heap.size,3,none⟩ = some (.slice aa c.win0.length ac) ∧ W'.cell? ⟨w.heap.size,4,none⟩ = some (.int .i64 c.len1) ∧ W'.cell? ⟨w.heap.size,5,none⟩ = some (.slice ba c.win1.length bc)) ∧ W'.cell? ⟨b,o + k * 7 + 3,none⟩ = some (.int .i64 x3) ∧ W'.cell? ⟨b,o + k * 7 + 5,none⟩ = some (.int .i64 x5))) (by kernel_rfl) (HSTART) (fun hHeld => ?_)
  refine wpAnyH_take (i:=0) rfl (by kernel_rfl) (by kernel_rfl) (by kernel_rfl) (fun _ _ _ h => h) (Or.inl ⟨by rfl,by intro w hSw;(skip);(go_simp <;> with_reducible rfl)⟩) (by assumption) ?_
  (try simp only [Act.put,List.setIfInBounds_toArray,List.set_cons_zero,List.set_cons_succ,List.getElem_toArray,List.getElem_cons_zero,List.getElem_cons_succ])
  refine wpAnyH_take (i:=1) rfl (by kernel_rfl) (by kernel_rfl) (by kernel_rfl) (fun _ _ _ h => h) (Or.inl ⟨by rfl,by intro w hSw;(skip);(go_simp <;> with_reducible rfl)⟩) (by assumption) ?_
  (try simp only [Act.put,List.setIfInBounds_toArray,List.set_cons_zero,List.set_cons_succ,List.getElem_toArray,List.getElem_cons_zero,List.getElem_cons_succ])
  refine wpAnyH_take (i:=3) rfl (by kernel_rfl) (by kernel_rfl) (by kernel_rfl) (fun _ _ _ h => h) (Or.inl ⟨by rfl,by intro w hSw;(skip);(go_simp <;> with_reducible rfl)⟩) (by assumption) ?_
  (try simp only [Act.put,List.setIfInBounds_toArray,List.set_cons_zero,List.set_cons_succ,List.getElem_toArray,List.getElem_cons_zero,List.getElem_cons_succ])
  refine wpAnyH_take (i:=4) rfl (by kernel_rfl) (by kernel_rfl) (by kernel_rfl) (fun _ _ _ h => h) (Or.inl ⟨by rfl,by intro w hSw;(skip);(go_simp <;> with_reducible rfl)⟩) (by assumption) ?_
  (try simp only [Act.put,List.setIfInBounds_toArray,List.set_cons_zero,List.set_cons_succ,List.getElem_toArray,List.getElem_cons_zero,List.getElem_cons_succ])
  refine wpAnyH_take (i:=5) rfl (by kernel_rfl) (by kernel_rfl) (by kernel_rfl) (fun _ _ _ h => h) (Or.inl ⟨by rfl,by intro w hSw;(skip);(go_simp <;> with_reducible rfl)⟩) (by assumption) ?_
  (try simp only [Act.put,List.setIfInBounds_toArray,List.set_cons_zero,List.set_cons_succ,List.getElem_toArray,List.getElem_cons_zero,List.getElem_cons_succ])
  refine wpAnyH_take (i:=6) rfl (by kernel_rfl) (by kernel_rfl) (by kernel_rfl) (fun _ _ _ h => h) (Or.inl ⟨by rfl,by intro w hSw;(skip);(go_simp <;> with_reducible rfl)⟩) (by assumption) ?_
  (try simp only [Act.put,List.setIfInBounds_toArray,List.set_cons_zero,List.set_cons_succ,List.getElem_toArray,List.getElem_cons_zero,List.getElem_cons_succ])
  refine wpAnyH_take (i:=7) rfl (by kernel_rfl) (by kernel_rfl) (by kernel_rfl) (fun _ _ _ h => h) (Or.inl ⟨by rfl,by intro w hSw;(skip);(go_simp <;> with_reducible rfl)⟩) (by assumption) ?_
  (try simp only [Act.put,List.setIfInBounds_toArray,List.set_cons_zero,List.set_cons_succ,List.getElem_toArray,List.getElem_cons_zero,List.getElem_cons_succ])
  refine wpAnyH_take (i:=8) rfl (by kernel_rfl) (by kernel_rfl) (by kernel_rfl) (fun _ _ _ h => h) (Or.inl ⟨by rfl,by intro w hSw;(skip);(go_simp <;> with_reducible rfl)⟩) (by assumption) ?_
  (try simp only [Act.put,List.setIfInBounds_toArray,List.set_cons_zero,List.set_cons_succ,List.getElem_toArray,List.getElem_cons_zero,List.getElem_cons_succ])
  refine wpAnyH_take (i:=9) rfl (by kernel_rfl) (by kernel_rfl) (by kernel_rfl) (fun _ _ _ h => h) (Or.inl ⟨by rfl,by intro w hSw;(skip);(go_simp <;> with_reducible rfl)⟩) (by assumption) ?_
  (try simp only [Act.put,List.setIfInBounds_toArray,List.set_cons_zero,List.set_cons_succ,List.getElem_toArray,List.getElem_cons_zero,List.getElem_cons_succ])
  refine wpAnyH_take (i:=10) rfl (by kernel_rfl) (by kernel_rfl) (by kernel_rfl) (fun _ _ _ h => h) (Or.inl ⟨by rfl,by intro w hSw;(skip);(go_simp <;> with_reducible rfl)⟩) (by assumption) ?_
  (try simp only [Act.put,List.setIfInBounds_toArray,List.set_cons_zero,List.set_cons_succ,List.getElem_toArray,List.getElem_cons_zero,List.getElem_cons_succ])
  refine wpAnyH_take (i:=11) rfl (by kernel_rfl) (by kernel_rfl) (by kernel_rfl) (fun _ _ _ h => h) (Or.inl ⟨by rfl,by intro w hSw;(skip);(go_simp <;> with_reducible rfl)⟩) (by assumption) ?_
  (try simp only [Act.put,List.setIfInBounds_toArray,List.set_cons_zero,List.set_cons_succ,List.getElem_toArray,List.getElem_cons_zero,List.getElem_cons_succ])
  refine wpAnyH_take (i:=12) rfl (by kernel_rfl) (by kernel_rfl) (by kernel_rfl) (fun _ _ _ h => h) (Or.inl ⟨by rfl,by intro w hSw;(skip);(go_simp <;> with_reducible rfl)⟩) (by assumption) ?_
  (try simp only [Act.put,List.setIfInBounds_toArray,List.set_cons_zero,List.set_cons_succ,List.getElem_toArray,List.getElem_cons_zero,List.getElem_cons_succ])
  refine wpAnyH_take (i:=13) rfl (by kernel_rfl) (by kernel_rfl) (by kernel_rfl) (fun _ _ _ h => h) (Or.inl ⟨by rfl,by intro w hSw;(skip);(go_simp <;> with_reducible rfl)⟩) (by assumption) ?_
  (try simp only [Act.put,List.setIfInBounds_toArray,List.set_cons_zero,List.set_cons_succ,List.getElem_toArray,List.getElem_cons_zero,List.getElem_cons_succ])
  refine wpAnyH_take (i:=14) rfl (by kernel_rfl) (by kernel_rfl) (by kernel_rfl) (fun _ _ _ h => h) (Or.inl ⟨by rfl,by intro w hSw;(skip);(go_simp <;> with_reducible rfl)⟩) (by assumption) ?_
  (try simp only [Act.put,List.setIfInBounds_toArray,List.set_cons_zero,List.set_cons_succ,List.getElem_toArray,List.getElem_cons_zero,List.getElem_cons_succ])
  refine wpAnyH_ready (rs:=[2]) (by kernel_rfl) (by simp) (AllReadyH.cons rfl (fun K hK => ?_) AllReadyH.nil)
  go_simp
  refine (HFD.out _ hHeld.1).mono ?_
  rintro e w5 ⟨rfl,hb5⟩
  refine hK.out _ _ (keepS BX4.out (hHeld.1.trans (hb5.mono hHeld.1.size))) (fun hHeld => ?_)
  clear hK K
  (try simp only [Act.put,List.setIfInBounds_toArray,List.set_cons_zero,List.set_cons_succ,List.getElem_toArray,List.getElem_cons_zero,List.getElem_cons_succ])
  refine wpAnyH_take (i:=15) rfl (by kernel_rfl) (by kernel_rfl) (by kernel_rfl) (fun _ _ _ h => h) (Or.inl ⟨by rfl,by intro w hSw;(skip);(go_simp <;> with_reducible rfl)⟩) (by assumption) ?_
  (try simp only [Act.put,List.setIfInBounds_toArray,List.set_cons_zero,List.set_cons_succ,List.getElem_toArray,List.getElem_cons_zero,List.getElem_cons_succ])
  refine wpAnyH_ready (rs:=[16]) (by kernel_rfl) (by simp) (AllReadyH.cons rfl (fun K hK => ?_) AllReadyH.nil)
  go_simp
  refine hK.out _ _ (keepS BX4.out (hHeld.1.alloc hHeld.1.size _)) (fun hHeld => ?_)
  clear hK K
  (try simp only [Act.put,List.setIfInBounds_toArray,List.set_cons_zero,List.set_cons_succ,List.getElem_toArray,List.getElem_cons_zero,List.getElem_cons_succ])
  refine wpAnyH_take (i:=17) rfl (by kernel_rfl) (by kernel_rfl) (by kernel_rfl) (fun _ _ _ h => h) (Or.inl ⟨by rfl,by intro w hSw;(skip);(go_simp <;> with_reducible rfl)⟩) (by assumption) ?_
  (try simp only [Act.put,List.setIfInBounds_toArray,List.set_cons_zero,List.set_cons_succ,List.getElem_toArray,List.getElem_cons_zero,List.getElem_cons_succ])
  refine wpAnyH_done (by kernel_rfl) ?_ _
  obtain ⟨wb,hwb⟩:∃ b,b = w5.heap.size:=⟨_,rfl⟩
  obtain ⟨W5,HW5⟩:∃ u,Hid (u = w5.alloc (.cells (rV (.func (.func 36) #[.pointer (some ⟨wb,0,none⟩)] #[]) (P8 F) x3 x5 0 0 0 0) 97)):=⟨_,rfl⟩
  have HBK:Hid (RBlk W5 wb (.func (.func 36) #[.pointer (some ⟨wb,0,none⟩)] #[]) (P8 F) x3 x5 0 0 0 0):=Lib.hid (by rw [HW5.out,hwb];exact heap_alloc_new _ _)
  have HB5:Hid (Below w5.heap.size w5 W5):=Lib.hid (by rw [HW5.out];exact (Below.refl _ _).alloc (Nat.le_refl _) _)
  have HWB:=Lib.hid hwb;have HBB:=Lib.hid hb5
  clear hwb hb5 HSTART hHeld
  go_wp2
  simp only [← HWB.out]
  go_ret
  have hs4:=HB.out.size
  have hs5:=HB5.out.size
  have hwb:=HWB.out
  have hbb:=HBB.out
  have hwl:=HBK.out.lt
  have hsb:=hbb.size
  obtain ⟨h3,h5⟩:=H35.out
  have hblk:=HBK.out
  rw [h3,h5] at hblk
  suffices hfin:GivesNewR w F (.returned (.pointer (some ⟨wb,0,none⟩))) W5 by rw [HW5.out] at hfin;exact hfin
  refine ⟨wb,fun k => k = wb,rfl,⟨_,.slice none 0 0,hblk,rfl,fun k h => ?_,rtail_mv (.inl ⟨rfl,rfl,rfl,rfl⟩),⟨Nat.zero_le _,Nat.zero_le _⟩,by show (0:Int) ≤ 0 ∧ (0:Int) ≤ 4294967295;omega⟩,fun k h => ?_,?_⟩
  · subst h;exact hwl
  · have:w4.heap.size ≤ w5.heap.size:=hsb
    omega
  · have hbd:Below w.heap.size w w4.drew:=HB.out.drew
    have hbe:=hbd.trans (hbb.mono hbd.size)
    exact hbe.trans (HB5.out.mono hbe.size)
end Go.Proofs.YtmhpcgcloojfbaaGreat
end
