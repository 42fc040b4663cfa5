/- Texts of the ring, joined, what is used of them. No condition but those in the statements. -/
import Derived.BigQuiet
import Derived.BigRegion
import Derived.Deep.MidRow
import Derived.Deep.OwnRows
import Derived.Deep.RegionHeld3
import Derived.Deep.Upon
import Derived.IntWalk
import Derived.Laws.EntriesVeiled
import Derived.LoopIn
import Derived.LoopNIn
import Derived.OpenShut
import Derived.OwnWalkIn
import Derived.RangeFuncBound
import Derived.RangeFuncBox
import Derived.RangeFuncCalls
import Derived.RangeFuncLeaves
import Derived.RangeFuncNested
import Derived.Shelf.Abstract
import Derived.Shelf.RegionOpen
import Derived.TacticsInMore
import Derived.Test.YtmhpcgcloojfbaaGreatQgE
namespace Go.Proofs.YtmhpcgcloojfbaaGreat
open Go.RowKit Go.Sort Go.Shelf
set_option linter.unusedVariables false
set_option linter.unusedSimpArgs false
set_option linter.unusedVariables false
set_option linter.unusedSimpArgs false
open Go.Proofs.YtmhpcgcloojfbaaGreat.Simp
set_option maxRecDepth 100000
set_option maxHeartbeats 6400000
attribute [local go_sem] Oper.semAt_some
theorem wpListIn_make_row {P:Program} {F:Fence} {m:Nat} (w:World) {ops:Array Oper} {rest:List Oper} {o:Oper} {a:Act} {Q:Exit → Act → World → Prop}
    (hg:o.guard = none) (l c:Operand) (t:TypeId) (hop:o.op = Op.makeSlice t l c)
    (e:TypeId) (i:TypeInfo) (z:Value) (ht:P.underlying t = some (.slice e)) (hi:P.info? e = some i) (hz:i.zero = some z) (hsize:i.size = 1) (hz1:z.cells = #[z])
    (kl kc:IntKind) (n:Nat) (hl:a.eval l = .int kl (n:Int)) (hc:a.eval c = .int kc (n:Int)) (hbytes:i.bytes * n ≤ 281474976710656) (h63:n ≤ 9223372036854775807)
    (hK:wpListIn F m P ops Q rest (a.put o.dst (.slice (some ⟨w.heap.size,0,none⟩) n n)) (w.alloc (.cells (madeCells #[z] n) e))) :
    wpListIn F m P ops Q (o :: rest) a w:=by
  refine wpListIn_plain hg fun K hK' => ?_
  have hrun:=run_make_row (P:=P) t e i z ht hi hz hsize hz1 kl kc n hbytes h63 w
  unfold Oper.wpIn
  refine ⟨?_,?_⟩
  · simp [Oper.about,hop]
  · rw [Oper.semAt_eq _ _ _ (by rw [hop];intro c h;cases h)]
    simp [execOp,hop,hl,hc,hrun,Result.andThen]
    exact hK' _ _ hK
theorem oper_inWide {P:Program} {n:Nat} {Q:Exit → Act → World → Prop} {o:Oper} {a:Act} {w:World} {K:Act → World → Prop} (hd:∀ c,o.op ≠ .defer c) (h:Oper.wp P o a w K Q):Oper.wpIn Fence.wide n P o a w K Q:=by
  refine ⟨fun _ _ => trivial,?_⟩
  rw [Oper.semAt_eq _ _ _ hd]
  unfold Oper.wp at h
  generalize (execOp a.eval o).run P w = r at h ⊢
  cases r with
  | ok x w' =>
    cases x with
    | enter f args => exact ⟨fun h0 => (by cases h0),callsIn_wide.2 h⟩
    | row r args => exact ⟨fun h0 => (by cases h0),fun c cs _ => let ⟨v,w',hr,s⟩:=h c cs;⟨v,w',hr,stepsIn_wide.2 s⟩⟩
    | round => exact h.elim
    | _ => exact h
  | halt x w' => cases x <;> exact h
theorem wpListIn_wide {P:Program} {n:Nat} {ops:Array Oper} {rest:List Oper} {o:Oper} {a:Act} {w:World} {Q:Exit → Act → World → Prop} (hg:o.guard = none) (hd:∀ c,o.op ≠ .defer c)
    (h:∀ K:Act → World → Prop,(∀ a w,wpListIn Fence.wide n P ops Q rest a w → K a w) → Oper.wp P o a w K Q):wpListIn Fence.wide n P ops Q (o :: rest) a w:=
  wpListIn_plain hg fun K hK => oper_inWide hd (h K hK)
theorem range_put {W:World} {b o D:Nat} {vs:List Value} {ob:Obj} (h:W.rangeAt b o vs) (hne:b ≠ D):(W.putObj D ob).rangeAt b o vs:=fun j v hv => by
  have:=h j v hv
  unfold World.cell? at this ⊢
  rw [World.putObj_heap_other hne]
  exact this
theorem q_llen_in (mb rb ob:Nat) (bp:Value) (ws:List Int) (own:Int) (F:Qr) (ce be:Nat) (sv:Value) (w:World) (ho:OBlk w ob (own) F.d F.n F.src F.dst ce be (sv)) (hm:MemAt w mb rb ws) (hl:ws.length ≤ 1000000) (hr:OwnsOff w 0 107 1 sv 0 []) (ha:ce < ws.length) (hn16:F.n ≤ 16) (L:Nat) (hL:lenQ F (ws.getD ce 0) = (L:Int)) (hx0:0 ≤ ws.getD ce 0) :
    CallsIn Fence.wide 5 Tryz.prog 52 #[.pointer (some ⟨ob,0,none⟩),.pointer (some ⟨mb,0,none⟩),bp] w fun e w' => e = .returned (.agg (qdV false (0) (.slice none 0 0) (0) false false)) ∧ ∃ sv' fs db,OBlk w' ob (own) F.d F.n F.src F.dst ce be (sv') ∧ MemAt w' mb rb ws ∧ Only (fun k => k = ob ∨ sv.ownBlock = some k) w w' ∧ OwnsOff w' 0 107 1 sv' (L + 1) fs ∧ (∀ g,sv'.ownBlock = some g → sv.ownBlock = some g ∨ w.heap.size ≤ g)
      ∧ WordsAt w' db (List.replicate L 0) ∧ w.heap.size ≤ db ∧ (∀ (j:Nat) (v:Value),fs[j]? = some v → j < L → IsGet ob j db L w.heap.size v w') ∧ (∀ v,fs[L]? = some v → ∃ c1 c2,v = .func (.func 100) #[] #[.pointer (some ⟨c1,0,none⟩),.pointer (some ⟨c2,0,none⟩)] ∧ (w.heap.size ≤ c1 ∧ w.heap.size ≤ c2) ∧ w'.heap[c1]? = some (.cells #[.pointer (some ⟨ob,0,none⟩)] 66 (0,0)) ∧ w'.heap[c2]? = some (.cells #[.slice (some ⟨db,0,none⟩) L L] 30 (0,0))):=by
  obtain ⟨a0,cp0,hsv,hcp1,hcp2⟩:=hr.slice
  obtain ⟨bo,hbo⟩:∃ b,b = w.heap.size:=⟨_,rfl⟩
  obtain ⟨zb,hzb⟩:∃ b,b = w.heap.size + 1:=⟨_,rfl⟩
  obtain ⟨W,HW⟩:∃ u,Hid (u = (w.alloc (.cells #[.pointer (some ⟨ob,0,none⟩)] 66)).alloc (.cells #[.bool false,.int .i64 0,.slice none 0 0,.bool false,.int .i64 0,.bool false,.bool false,.bool false,.int .i64 0] 56)):=⟨_,rfl⟩
  have hB:Below w.heap.size w W:=by rw [HW.out];exact ((Below.refl _ _).alloc (Nat.le_refl _) _).alloc (by simp) _
  have hBO:W.heap[bo]? = some (.cells #[.pointer (some ⟨ob,0,none⟩)] 66 (0,0)):=by rw [HW.out,hbo,Below.heap_alloc _ _ _ (by simp)];exact heap_alloc_new _ _
  have hZ:W.heap[zb]? = some (.cells #[.bool false,.int .i64 0,.slice none 0 0,.bool false,.int .i64 0,.bool false,.bool false,.bool false,.int .i64 0] 56 (0,0)):=by rw [HW.out];exact heap_new_q _ _ (by simp [hzb])
  have hUW:UndX w W 0 ob bo own F ce be sv []:=⟨hB.mono (Nat.zero_le _),ho.at_ (hB.block _ ho.lt),(hr.keptB hB),hBO,⟨Nat.zero_le _,Nat.zero_le _,Nat.zero_le _⟩⟩
  have hMW:=hm.below hB
  obtain ⟨x,hx⟩:∃ x,ws.getD ce 0 = x:=⟨_,rfl⟩
  have HL:=Lib.hid (fun (W':World) (h:MemAt W' mb rb ws) => rload_b mb rb ws ce W' h hl ha)
  rw [hx] at HL hL hx0
  have hL16:L ≤ 16:=by unfold lenQ at hL;split at hL <;> omega
  have hmin:∀ (ts:Array TypeId) (t:TypeId) (w:World),(Builtin.min_ ts t #[.int .u32 x,.int .u32 (F.n:Int)]).run Tryz.prog w = .ok (.int .u32 (L:Int)) w:=fun ts t w => by
    rw [run_min_int2,show (if (F.n:Int) < x then (F.n:Int) else x) = (L:Int) by unfold lenQ at hL;split at hL <;> split <;> omega]
  have hlw:IntKind.i64.wrap (L:Int) = L:=IntWalk.i64_in _ (by omega)
  have co:W.cell? ⟨bo,0,none⟩ = some (.pointer (some ⟨ob,0,none⟩)):=blk_cell hBO rfl
  have c5:W.cell? ⟨ob,5,none⟩ = some (.int .i64 (ce:Int)):=hUW.blk.cell rfl
  have c2:W.cell? ⟨ob,2,none⟩ = some (.int .u32 (F.n:Int)):=hUW.blk.cell rfl
  have hcw:IntKind.i64.wrap (ce:Int) = ce:=IntWalk.i64_in _ (by omega)
  obtain ⟨i1,hi1,hy0,hy1,hy2⟩:=info_parts Tryz.infoW
  have HUW:=Lib.hid hUW;have HMW:=Lib.hid hMW;have HZW:=Lib.hid hZ;have HBOE:=Lib.hid hbo;have HZBE:=Lib.hid hzb;have HBW:=Lib.hid hB
  have HNM:=Lib.hid (show sv.ownBlock ≠ some mb ∧ sv.ownBlock ≠ some rb from ⟨fun e => by obtain ⟨cs,hc⟩:=hr.typed mb e;have:=hc.symm.trans hm.head;simp at this,fun e => by obtain ⟨cs,hc⟩:=hr.typed rb e;have:=hc.symm.trans hm.row;simp at this⟩)
  have HSV:=Lib.hid hsv;have HM0:=Lib.hid hm;have HO0:=Lib.hid ho
  clear hUW hMW hZ hBO hbo hzb hB hx hr hm ho hL hsv
  refine callsIn_of_wp_marks Tryz.func52 rfl trivial ?_ rfl
  simp only [Tryz.ntmps52,List.size_toArray,List.length_cons,List.length_nil,Nat.reduceAdd,Nat.reduceSub,Array.replicate_succ,Array.replicate_zero,List.push_toArray,List.append_toArray,List.nil_append,List.cons_append]
  gi_wp2_with (first | (simp only [← HZBE.out];simp only [← HBOE.out];rw [← HW.out]))
  refine wpIn_wide.2 ?_
  refine wp_region_noPanic ?_
  refine wp_region_held_drew (S:=(fun W' => W'.cell? ⟨bo,0,none⟩ = some (.pointer (some ⟨ob,0,none⟩)) ∧ W'.cell? ⟨ob,5,none⟩ = some (.int .i64 (ce:Int)) ∧ W'.cell? ⟨ob,2,none⟩ = some (.int .u32 (F.n:Int)))) (by kernel_rfl) (by exact ⟨co,c5,c2⟩) (fun hHeld => ?_)
  refine wpAnyH_take (i:=0) rfl (by kernel_rfl) (by kernel_rfl) (by kernel_rfl) (fun _ _ _ h => h) (Or.inl ⟨by rfl,by intro w hSw;(skip);(go_simp <;> with_reducible rfl)⟩) (by assumption) ?_
  (try simp only [Act.put,List.setIfInBounds_toArray,List.set_cons_zero,List.set_cons_succ,List.getElem_toArray,List.getElem_cons_zero,List.getElem_cons_succ])
  refine wpAnyH_take (i:=1) rfl (by kernel_rfl) (by kernel_rfl) (by kernel_rfl) (fun _ _ _ h => h) (Or.inl ⟨by rfl,by intro w hSw;(skip);(go_simp <;> with_reducible rfl)⟩) (by assumption) ?_
  (try simp only [Act.put,List.setIfInBounds_toArray,List.set_cons_zero,List.set_cons_succ,List.getElem_toArray,List.getElem_cons_zero,List.getElem_cons_succ])
  refine wpAnyH_take (i:=2) rfl (by kernel_rfl) (by kernel_rfl) (by kernel_rfl) (fun _ _ _ h => h) (Or.inl ⟨by rfl,by intro w hSw;(skip);(go_simp <;> with_reducible rfl)⟩) (by assumption) ?_
  (try simp only [Act.put,List.setIfInBounds_toArray,List.set_cons_zero,List.set_cons_succ,List.getElem_toArray,List.getElem_cons_zero,List.getElem_cons_succ])
  refine wpAnyH_take (i:=3) rfl (by kernel_rfl) (by kernel_rfl) (by kernel_rfl) (fun _ _ _ h => h) (Or.inl ⟨by rfl,by intro w hSw;(skip);(go_simp <;> with_reducible rfl)⟩) (by assumption) ?_
  (try simp only [Act.put,List.setIfInBounds_toArray,List.set_cons_zero,List.set_cons_succ,List.getElem_toArray,List.getElem_cons_zero,List.getElem_cons_succ])
  refine wpAnyH_take (i:=4) rfl (by kernel_rfl) (by kernel_rfl) (by kernel_rfl) (fun _ _ _ h => h) (Or.inl ⟨by rfl,by intro w hSw;(skip);(go_simp <;> with_reducible rfl)⟩) (by assumption) ?_
  (try simp only [Act.put,List.setIfInBounds_toArray,List.set_cons_zero,List.set_cons_succ,List.getElem_toArray,List.getElem_cons_zero,List.getElem_cons_succ])
  refine wpAnyH_take (i:=5) rfl (by kernel_rfl) (by kernel_rfl) (by kernel_rfl) (fun _ _ _ h => h) (Or.inl ⟨by rfl,by intro w hSw;(skip);(go_simp <;> with_reducible rfl)⟩) (by assumption) ?_
  (try simp only [Act.put,List.setIfInBounds_toArray,List.set_cons_zero,List.set_cons_succ,List.getElem_toArray,List.getElem_cons_zero,List.getElem_cons_succ])
  refine wpAnyH_take (i:=7) rfl (by kernel_rfl) (by kernel_rfl) (by kernel_rfl) (fun _ _ _ h => h) (Or.inl ⟨by rfl,by intro w hSw;(skip);(go_simp <;> with_reducible rfl)⟩) (by assumption) ?_
  (try simp only [Act.put,List.setIfInBounds_toArray,List.set_cons_zero,List.set_cons_succ,List.getElem_toArray,List.getElem_cons_zero,List.getElem_cons_succ])
  refine wpAnyH_take (i:=8) rfl (by kernel_rfl) (by kernel_rfl) (by kernel_rfl) (fun _ _ _ h => h) (Or.inl ⟨by rfl,by intro w hSw;(skip);(go_simp <;> with_reducible rfl)⟩) (by assumption) ?_
  (try simp only [Act.put,List.setIfInBounds_toArray,List.set_cons_zero,List.set_cons_succ,List.getElem_toArray,List.getElem_cons_zero,List.getElem_cons_succ])
  refine wpAnyH_take (i:=9) rfl (by kernel_rfl) (by kernel_rfl) (by kernel_rfl) (fun _ _ _ h => h) (Or.inl ⟨by rfl,by intro w hSw;(skip);(go_simp <;> with_reducible rfl)⟩) (by assumption) ?_
  (try simp only [Act.put,List.setIfInBounds_toArray,List.set_cons_zero,List.set_cons_succ,List.getElem_toArray,List.getElem_cons_zero,List.getElem_cons_succ])
  refine wpAnyH_take (i:=10) rfl (by kernel_rfl) (by kernel_rfl) (by kernel_rfl) (fun _ _ _ h => h) (Or.inl ⟨by rfl,by intro w hSw;(skip);(go_simp <;> with_reducible rfl)⟩) (by assumption) ?_
  (try simp only [Act.put,List.setIfInBounds_toArray,List.set_cons_zero,List.set_cons_succ,List.getElem_toArray,List.getElem_cons_zero,List.getElem_cons_succ])
  refine wpAnyH_ready (rs:=[6]) (by kernel_rfl) (by simp) (AllReadyH.cons rfl (fun K hK => ?_) AllReadyH.nil)
  go_simp
  refine (HL.out _ HMW.out.drew).mono ?_
  rintro e v1 ⟨rfl,rfl⟩
  refine hK.out _ _ (by exact hHeld) (fun hHeld => ?_)
  clear hK K
  (try simp only [Act.put,List.setIfInBounds_toArray,List.set_cons_zero,List.set_cons_succ,List.getElem_toArray,List.getElem_cons_zero,List.getElem_cons_succ])
  refine wpAnyH_take (i:=11) rfl (by kernel_rfl) (by kernel_rfl) (by kernel_rfl) (fun _ _ _ h => h) (Or.inl ⟨by rfl,by intro w hSw;(skip);(go_simp <;> with_reducible rfl)⟩) (by assumption) ?_
  (try simp only [Act.put,List.setIfInBounds_toArray,List.set_cons_zero,List.set_cons_succ,List.getElem_toArray,List.getElem_cons_zero,List.getElem_cons_succ])
  refine wpAnyH_take (i:=12) rfl (by kernel_rfl) (by kernel_rfl) (by kernel_rfl) (fun _ _ _ h => h) (Or.inl ⟨by rfl,by intro w hSw;(skip);(go_simp <;> with_reducible rfl)⟩) (by assumption) ?_
  (try simp only [Act.put,List.setIfInBounds_toArray,List.set_cons_zero,List.set_cons_succ,List.getElem_toArray,List.getElem_cons_zero,List.getElem_cons_succ])
  refine wpAnyH_take (i:=13) rfl (by kernel_rfl) (by kernel_rfl) (by kernel_rfl) (fun _ _ _ h => h) (Or.inl ⟨by rfl,by intro w hSw;(skip);(go_simp <;> with_reducible rfl)⟩) (by assumption) ?_
  (try simp only [Act.put,List.setIfInBounds_toArray,List.set_cons_zero,List.set_cons_succ,List.getElem_toArray,List.getElem_cons_zero,List.getElem_cons_succ])
  refine wpAnyH_done (by kernel_rfl) ?_ _
  refine NoPanic.normal ?_
  clear hHeld
  obtain ⟨db,hdb⟩:∃ b,b = W.heap.size:=⟨_,rfl⟩
  obtain ⟨bd,hbd⟩:∃ b,b = W.heap.size + 1:=⟨_,rfl⟩
  obtain ⟨X,HX⟩:∃ u,Hid (u = ((W.alloc (.cells (madeCells #[Value.int .u32 0] L) 34)).alloc (.cells #[.slice (some ⟨db,0,none⟩) L L] 30)).drew):=⟨_,rfl⟩
  have hBX:Below W.heap.size W X:=by rw [HX.out];exact (((Below.refl _ _).alloc (Nat.le_refl _) _).alloc (by simp) _).drew
  have hDX:WordsAt X db (List.replicate L 0):=by
    unfold WordsAt
    rw [← made_words,HX.out]
    show ((W.alloc (.cells (madeCells #[Value.int .u32 0] L) 34)).alloc (.cells #[.slice (some ⟨db,0,none⟩) L L] 30)).heap[db]? = _
    rw [Below.heap_alloc _ _ _ (by simp [hdb])]
    exact heap_new_q _ _ hdb
  have hEX:X.heap[bd]? = some (.cells #[.slice (some ⟨db,0,none⟩) L L] 30 (0,0)):=by
    rw [HX.out]
    exact heap_new_q _ _ (by simp [hbd])
  have hUX:=HUW.out.later hBX
  have HDBE:=Lib.hid hdb;have HBDE:=Lib.hid hbd
  have ko:X.cell? ⟨bo,0,none⟩ = some (.pointer (some ⟨ob,0,none⟩)):=blk_cell hUX.box rfl
  have kd:X.cell? ⟨bd,0,none⟩ = some (.slice (some ⟨db,0,none⟩) L L):=blk_cell hEX rfl
  have HUX:=Lib.hid hUX;have HDX:=Lib.hid hDX;have HEX:=Lib.hid hEX;have HBX:=Lib.hid hBX
  have HMS:=Lib.hid (mk_msg_b L 80 #[.pointer (some ⟨bo,0,none⟩),.pointer (some ⟨bd,0,none⟩)] X)
  clear hUX hDX hEX hBX hdb hbd
  gi_wp2_with (first | (refine wpListIn_make_row _ rfl _ _ 30 rfl 34 i1 (.int .u32 0) Tryz.underlying30 hi1 hy0 hy1 rfl .i64 .i64 L rfl rfl (by rw [hy2];omega) (by omega) ?_))
  simp only [← HBDE.out]
  simp only [← HDBE.out]
  rw [← HX.out]
  refine ⟨trivial,(callsIn_wide.2 HMS.out).mono ?_⟩
  rintro e v3 ⟨rfl,hb3,hs3,z1,z2⟩
  clear ko kd co c5 c2
  have hU3:=HUX.out.later hb3
  have hk3:=fun (b:Nat) (o:Obj) (h:X.heap[b]? = some o) => (hb3.block b (Array.getElem?_eq_some_iff.1 h).1).trans h
  have HD3:=Lib.hid (HDX.out.below hb3)
  have HE3:=Lib.hid (hk3 _ _ HEX.out)
  have HB3:=Lib.hid (HBX.out.trans (hb3.mono HBX.out.size))
  have HZ3:=Lib.hid ((HB3.out.block _ (Array.getElem?_eq_some_iff.1 HZW.out).1).trans HZW.out)
  have HW3:=Lib.hid (HBW.out.trans (HB3.out.mono HBW.out.size))
  obtain ⟨bn,hbn⟩:∃ b,b = X.heap.size:=⟨_,rfl⟩
  obtain ⟨bf,hbf⟩:∃ b,b = X.heap.size + 1:=⟨_,rfl⟩
  rw [← hbn] at z1
  rw [← hbf] at z2
  have HTL:=Lib.hid (msgG_tells (5 - 1) (by omega) ob bn bf bo bd db L (by omega) v3 z1 z2 hU3.box HE3.out)
  have HBN:=Lib.hid hbn;have HBF:=Lib.hid hbf
  have hwv:w.heap.size ≤ v3.heap.size:=HW3.out.size
  have hol:ob < w.heap.size:=HO0.out.lt
  have HU3:=Lib.hid hU3
  obtain ⟨i0,hi0,hz0,hz1,hz2⟩:=info_parts Tryz.infoF12
  clear hU3 hk3 z1 z2 hbn hbf hb3 hs3
  simp only [← HBF.out]
  simp only [← HBN.out]
  gi_wp2
  refine wpIn_rangeFunc_tells rfl (by omega) (gf:=77) (lb:=#[.pointer (some ⟨bn,0,none⟩),.pointer (some ⟨bf,0,none⟩)]) rfl trivial (enters_of Tryz.func77 (by kernel_rfl) rfl) HTL.out (fun h k => h.trans k) (fun W lp o o' _ ho hc _ => stands_put o' ho hc) (Below.refl _ _) (fun _ => rfl)
    (fun (pre:List Value) (Y:World) => ∃ sv',UndX w Y 0 ob bo own F ce be sv' pre ∧ Stands v3 Y ∧ pre.length ≤ L ∧ (∀ (j:Nat) (v:Value),pre[j]? = some v → IsGet ob j db L v3.heap.size v Y) ∧ Only (fun j => j = ob ∨ sv.ownBlock = some j ∨ w.heap.size ≤ j) v3 Y ∧ (∀ g,sv'.ownBlock = some g → sv.ownBlock = some g ∨ w.heap.size ≤ g))
    ?hI ?hG ⟨_,HU3.out,Stands.refl _,Nat.zero_le _,(fun j v h => by cases h),Only.refl _ _,fun g hg => .inl hg⟩ ?a1 ?assign ?body ?done
  case hI =>
    rintro pre Y Z row ⟨sv',h1,h2,h3,h4,h5,h6⟩ hg hr
    have hst:=stands_grown hg (fun r e => (hr r e).2)
    refine ⟨sv',h1.turn hg (fun r e => ⟨Nat.zero_le _,(hr r e).2⟩),h2.trans hst,h3,fun j v hv => (h4 j v hv).stands hst,h5.trans ?_,h6⟩
    exact ⟨hg.os,hg.tape,hg.output,hg.size,fun k hk hs => hg.block k hk (fun e => hs (.inr (.inr (Nat.le_trans hwv (hr k e.symm).1))))⟩
  case hG =>
    intro pre v Y Z row h hg hr
    exact IsGet.stands h (stands_grown hg (fun r e => (hr r e).2))
  case assign =>
    intro lp v Y K hK
    gi_wp2
    exact hK
  case body =>
    rintro lp fs v Y ⟨sv',hU,hst,hpl,hw,hon,hne6⟩ hG hlt
    obtain ⟨a,cp,rfl,hcp1,hcp2⟩:=hU.row.slice
    have hG0:=hG
    obtain ⟨b1,b2,b3,rfl,-⟩:=hG
    have co:Y.cell? ⟨bo,0,none⟩ = some (.pointer (some ⟨ob,0,none⟩)):=blk_cell hU.box rfl
    have c7:Y.cell? ⟨ob,7,none⟩ = some (.slice a fs.length cp):=hU.blk.cell rfl
    have g7:=hU.blk.frozen 7
    have HW:=Lib.hid hw;have HST:=Lib.hid hst;have HGG:=Lib.hid hG0;have HON:=Lib.hid hon;have HNE:=Lib.hid hne6;have HPL:=Lib.hid hpl
    have hone:∀ u ∈ ([.func (.func 99) #[] #[.pointer (some ⟨b1,0,none⟩),.pointer (some ⟨b2,0,none⟩),.pointer (some ⟨b3,0,none⟩)]]:List Value),u.oneCell' = true:=by simp [Value.oneCell']
    clear hw hst hG0 hon hne6
    gi_wp2
    refine wpIn_region_till (fun W' => W'.cell? ⟨bo,0,none⟩ = some (.pointer (some ⟨ob,0,none⟩)) ∧ W'.cell? ⟨ob,7,none⟩ = some (.slice a fs.length cp)) 10 (by kernel_rfl) (fun ⟨_,_,h⟩ => h) (by kernel_rfl) (by exact ⟨co,c7⟩) (fun hHeld => ?_)
    refine till_load (i:=0) rfl (by kernel_rfl) (by kernel_rfl) (by kernel_rfl) (fun _ _ _ h => h) (by kernel_rfl) (by kernel_rfl) (by kernel_rfl) (Or.inl ⟨by rfl,by intro w hSw;(have z0:=And.left hSw;have z1:=And.right hSw);(go_simp <;> with_reducible rfl)⟩) (by assumption) ?_
    (try simp only [Act.put,List.setIfInBounds_toArray,List.set_cons_zero,List.set_cons_succ,List.getElem_toArray,List.getElem_cons_zero,List.getElem_cons_succ])
    refine till_load (i:=1) rfl (by kernel_rfl) (by kernel_rfl) (by kernel_rfl) (fun _ _ _ h => h) (by kernel_rfl) (by kernel_rfl) (by kernel_rfl) (Or.inl ⟨by rfl,by intro w hSw;(have z0:=And.left hSw;have z1:=And.right hSw);(go_simp <;> with_reducible rfl)⟩) (by assumption) ?_
    (try simp only [Act.put,List.setIfInBounds_toArray,List.set_cons_zero,List.set_cons_succ,List.getElem_toArray,List.getElem_cons_zero,List.getElem_cons_succ])
    refine till_take (i:=2) rfl (by kernel_rfl) (by kernel_rfl) (by kernel_rfl) (fun _ _ _ h => h) (by kernel_rfl) (Or.inl ⟨by rfl,by intro w _;(go_simp <;> with_reducible rfl)⟩) (by assumption) ?_
    (try simp only [Act.put,List.setIfInBounds_toArray,List.set_cons_zero,List.set_cons_succ,List.getElem_toArray,List.getElem_cons_zero,List.getElem_cons_succ])
    refine till_take (i:=3) rfl (by kernel_rfl) (by kernel_rfl) (by kernel_rfl) (fun _ _ _ h => h) (by kernel_rfl) (Or.inl ⟨by rfl,by intro w _;(go_simp <;> with_reducible rfl)⟩) (by assumption) ?_
    (try simp only [Act.put,List.setIfInBounds_toArray,List.set_cons_zero,List.set_cons_succ,List.getElem_toArray,List.getElem_cons_zero,List.getElem_cons_succ])
    refine till_load (i:=4) rfl (by kernel_rfl) (by kernel_rfl) (by kernel_rfl) (fun _ _ _ h => h) (by kernel_rfl) (by kernel_rfl) (by kernel_rfl) (Or.inl ⟨by rfl,by intro w hSw;(have z0:=And.left hSw;have z1:=And.right hSw);(go_simp <;> with_reducible rfl)⟩) (by assumption) ?_
    (try simp only [Act.put,List.setIfInBounds_toArray,List.set_cons_zero,List.set_cons_succ,List.getElem_toArray,List.getElem_cons_zero,List.getElem_cons_succ])
    refine till_take (i:=5) rfl (by kernel_rfl) (by kernel_rfl) (by kernel_rfl) (fun _ _ _ h => h) (by kernel_rfl) (Or.inl ⟨by rfl,by intro w _;(go_simp <;> with_reducible rfl)⟩) (by assumption) ?_
    (try simp only [Act.put,List.setIfInBounds_toArray,List.set_cons_zero,List.set_cons_succ,List.getElem_toArray,List.getElem_cons_zero,List.getElem_cons_succ])
    have hU5:=hU
    refine till_one (i:=6) (by kernel_rfl) rfl (fun K hK => ?_)
    go_simp
    obtain ⟨w5,hw5⟩:∃ u,Hid (u = (Y.alloc (.cells #[.func (.func 99) #[] #[.pointer (some ⟨b1,0,none⟩),.pointer (some ⟨b2,0,none⟩),.pointer (some ⟨b3,0,none⟩)]] 107)).drew):=⟨_,rfl⟩
    rw [← hw5.out]
    have hl5:Below Y.heap.size Y w5:=by rw [hw5.out];exact ((Below.refl _ _).alloc (Nat.le_refl _) _).drew
    have hE5:w5.heap[Y.heap.size]? = some (.cells #[.func (.func 99) #[] #[.pointer (some ⟨b1,0,none⟩),.pointer (some ⟨b2,0,none⟩),.pointer (some ⟨b3,0,none⟩)]] 107 (0,0)):=by rw [hw5.out];exact heap_alloc_new _ _
    have hU6:=hU5.later hl5
    obtain ⟨g5,hg5⟩:∃ b,b = Y.heap.size:=⟨_,rfl⟩
    rw [← hg5] at hE5
    have HG5:=Lib.hid hg5
    (try simp only [← HG5.out])
    have HL5:=Lib.hid hl5
    clear hl5 hg5
    refine hK.out _ _ (by exact ⟨blk_cell hU6.box rfl,hU6.blk.cell rfl⟩) (fun hHeld => ?_)
    clear hK K
    (try simp only [Act.put,List.setIfInBounds_toArray,List.set_cons_zero,List.set_cons_succ,List.getElem_toArray,List.getElem_cons_zero,List.getElem_cons_succ])
    refine till_one (i:=7) (by kernel_rfl) rfl (fun K hK => ?_)
    refine step_append_off rfl _ _ 109 rfl (0) 107 i0 .nilFunc 1 8 Tryz.underlying109 hi0 hz0 hz1 hz2 rfl (by decide) _ fs.length fs rfl hU6.row ⟨g5,0,none⟩ 1 1 [.func (.func 99) #[] #[.pointer (some ⟨b1,0,none⟩),.pointer (some ⟨b2,0,none⟩),.pointer (some ⟨b3,0,none⟩)]] rfl rfl (news_block hE5) hone (by unfold maxLen;omega) (by omega) (Nat.le_trans hU6.lo.2.2 hU6.below.size) ?_
    intro v' w6 hown' hgr hfr
    obtain ⟨hUZ,hSZ,hKZ,hb6,hx6,hOZ⟩:=hU6.app (xs:=[.func (.func 99) #[] #[.pointer (some ⟨b1,0,none⟩),.pointer (some ⟨b2,0,none⟩),.pointer (some ⟨b3,0,none⟩)]]) hown' hgr rfl
    obtain ⟨a',cp',rfl,-,-⟩:=hown'.slice
    have e7:=hb6.cell (j:=7) rfl
    have f7:=hb6.frozen 7
    have HUZ:=Lib.hid hUZ;have HSZ:=Lib.hid hSZ;have HKZ:=Lib.hid hKZ;have HOZ:=Lib.hid hOZ;have HFR:=Lib.hid hfr
    clear hUZ hSZ hKZ hOZ hown' hgr hfr hE5 hU6
    refine hK.out _ _ (by exact ⟨blk_cell hx6 rfl,hb6.cell rfl⟩) (fun hHeld => ?_)
    clear hK K
    (try simp only [Act.put,List.setIfInBounds_toArray,List.set_cons_zero,List.set_cons_succ,List.getElem_toArray,List.getElem_cons_zero,List.getElem_cons_succ])
    refine till_take (i:=8) rfl (by kernel_rfl) (by kernel_rfl) (by kernel_rfl) (fun _ _ _ h => h) (by kernel_rfl) (Or.inl ⟨by rfl,by intro w _;(go_simp <;> with_reducible rfl)⟩) (by assumption) ?_
    (try simp only [Act.put,List.setIfInBounds_toArray,List.set_cons_zero,List.set_cons_succ,List.getElem_toArray,List.getElem_cons_zero,List.getElem_cons_succ])
    refine till_take (i:=9) rfl (by kernel_rfl) (by kernel_rfl) (by kernel_rfl) (fun _ _ _ h => h) (by kernel_rfl) (Or.inl ⟨by rfl,by intro w _;(go_simp <;> with_reducible rfl)⟩) (by assumption) ?_
    (try simp only [Act.put,List.setIfInBounds_toArray,List.set_cons_zero,List.set_cons_succ,List.getElem_toArray,List.getElem_cons_zero,List.getElem_cons_succ])
    clear hHeld
    refine till_last (by kernel_rfl) rfl (fun K hK => ?_)
    go_simp
    refine hK.out _ _ ?_
    clear hK K
    (try simp only [Act.put,List.setIfInBounds_toArray,List.set_cons_zero,List.set_cons_succ,List.getElem_toArray,List.getElem_cons_zero,List.getElem_cons_succ])
    refine till_done (by kernel_rfl) ?_ _
    gi_wp2
    have hs5:Stands Y _:=(Stands.below HL5.out).trans HSZ.out
    have hyw:w.heap.size ≤ Y.heap.size:=Nat.le_trans hwv HST.out.1
    refine ⟨(KeepsOthers.from ⟨HL5.out.size,fun i o hi _ => (HL5.out.block i (Array.getElem?_eq_some_iff.1 hi).1).trans hi⟩ _).trans (HKZ.out.from _),hs5,.slice a' (fs.length + 1) cp',HUZ.out,HST.out.trans hs5,by simp;omega,fun j v hv => ?_,(HON.out.trans (Only.of_below HL5.out)).trans (HOZ.out.mono fun j _ h => h.elim .inl (fun h => .inr (HNE.out j h))),fun g hg => (HFR.out g hg).elim (HNE.out g) (fun h => .inr (by have:=HL5.out.size;omega))⟩
    rcases Nat.lt_or_ge j fs.length with hj | hj
    · rw [List.getElem?_append_left hj] at hv
      exact (HW.out j v hv).stands hs5
    · have hje:j = fs.length:=by
        have:=(List.getElem?_eq_some_iff.1 hv).1
        simp at this;omega
      subst hje
      simp at hv
      subst hv
      exact HGG.out.stands hs5
  case done =>
    rintro D fs Y hD hxl ⟨sv',hU,hst,hpl,hw,hon,hne6⟩ hDf
    obtain ⟨a,cp,rfl,hcp1,hcp2⟩:=hU.row.slice
    have co:Y.cell? ⟨bo,0,none⟩ = some (.pointer (some ⟨ob,0,none⟩)):=blk_cell hU.box rfl
    have c7:Y.cell? ⟨ob,7,none⟩ = some (.slice a fs.length cp):=hU.blk.cell rfl
    have g7:=hU.blk.frozen 7
    have hEY:Y.heap[bd]? = some (.cells #[.slice (some ⟨db,0,none⟩) L L] 30 (0,0)):=hst.2 _ _ _ _ (by decide) (by decide) HE3.out
    have cd:Y.cell? ⟨bd,0,none⟩ = some (.slice (some ⟨db,0,none⟩) L L):=blk_cell hEY rfl
    have hbdn:some bd ≠ Value.ownBlock (.slice a fs.length cp):=fun e => by
      obtain ⟨cs,hc⟩:=hU.row.typed bd e.symm
      rw [hEY] at hc;cases hc
    have HW:=Lib.hid hw;have HST:=Lib.hid hst;have HON:=Lib.hid hon;have HNE:=Lib.hid hne6;have HXL:=Lib.hid hxl;have HDF:=Lib.hid hDf
    have hone:∀ u ∈ ([.func (.func 100) #[] #[.pointer (some ⟨Y.heap.size,0,none⟩),.pointer (some ⟨Y.heap.size + 1,0,none⟩)]]:List Value),u.oneCell' = true:=by simp [Value.oneCell']
    have HMF:=Lib.hid (fun (W':World) => mk_free_b ob (some ⟨db,0,none⟩) L L W')
    clear hw hst hon hne6 hxl hDf hEY
    gi_wp2
    refine wpIn_wide.2 ?_
    refine wp_region_noPanic ?_
    refine wp_region_till (fun W' => W'.cell? ⟨bo,0,none⟩ = some (.pointer (some ⟨ob,0,none⟩)) ∧ W'.cell? ⟨ob,7,none⟩ = some (.slice a fs.length cp) ∧ W'.cell? ⟨bd,0,none⟩ = some (.slice (some ⟨db,0,none⟩) L L)) 12 (by kernel_rfl) (by exact ⟨co,c7,cd⟩) (fun hHeld => ?_)
    refine till_load (i:=0) rfl (by kernel_rfl) (by kernel_rfl) (by kernel_rfl) (fun _ _ _ h => h) (by kernel_rfl) (by kernel_rfl) (by kernel_rfl) (Or.inl ⟨by rfl,by intro w hSw;(have z0:=And.left hSw;have z1:=And.left (And.right hSw);have z2:=And.right (And.right hSw));(go_simp <;> with_reducible rfl)⟩) (by assumption) ?_
    (try simp only [Act.put,List.setIfInBounds_toArray,List.set_cons_zero,List.set_cons_succ,List.getElem_toArray,List.getElem_cons_zero,List.getElem_cons_succ])
    refine till_load (i:=1) rfl (by kernel_rfl) (by kernel_rfl) (by kernel_rfl) (fun _ _ _ h => h) (by kernel_rfl) (by kernel_rfl) (by kernel_rfl) (Or.inl ⟨by rfl,by intro w hSw;(have z0:=And.left hSw;have z1:=And.left (And.right hSw);have z2:=And.right (And.right hSw));(go_simp <;> with_reducible rfl)⟩) (by assumption) ?_
    (try simp only [Act.put,List.setIfInBounds_toArray,List.set_cons_zero,List.set_cons_succ,List.getElem_toArray,List.getElem_cons_zero,List.getElem_cons_succ])
    refine till_take (i:=2) rfl (by kernel_rfl) (by kernel_rfl) (by kernel_rfl) (fun _ _ _ h => h) (by kernel_rfl) (Or.inl ⟨by rfl,by intro w _;(go_simp <;> with_reducible rfl)⟩) (by assumption) ?_
    (try simp only [Act.put,List.setIfInBounds_toArray,List.set_cons_zero,List.set_cons_succ,List.getElem_toArray,List.getElem_cons_zero,List.getElem_cons_succ])
    refine till_take (i:=3) rfl (by kernel_rfl) (by kernel_rfl) (by kernel_rfl) (fun _ _ _ h => h) (by kernel_rfl) (Or.inl ⟨by rfl,by intro w _;(go_simp <;> with_reducible rfl)⟩) (by assumption) ?_
    (try simp only [Act.put,List.setIfInBounds_toArray,List.set_cons_zero,List.set_cons_succ,List.getElem_toArray,List.getElem_cons_zero,List.getElem_cons_succ])
    refine till_load (i:=4) rfl (by kernel_rfl) (by kernel_rfl) (by kernel_rfl) (fun _ _ _ h => h) (by kernel_rfl) (by kernel_rfl) (by kernel_rfl) (Or.inl ⟨by rfl,by intro w hSw;(have z0:=And.left hSw;have z1:=And.left (And.right hSw);have z2:=And.right (And.right hSw));(go_simp <;> with_reducible rfl)⟩) (by assumption) ?_
    (try simp only [Act.put,List.setIfInBounds_toArray,List.set_cons_zero,List.set_cons_succ,List.getElem_toArray,List.getElem_cons_zero,List.getElem_cons_succ])
    refine till_load (i:=5) rfl (by kernel_rfl) (by kernel_rfl) (by kernel_rfl) (fun _ _ _ h => h) (by kernel_rfl) (by kernel_rfl) (by kernel_rfl) (Or.inl ⟨by rfl,by intro w hSw;(have z0:=And.left hSw;have z1:=And.left (And.right hSw);have z2:=And.right (And.right hSw));(go_simp <;> with_reducible rfl)⟩) (by assumption) ?_
    (try simp only [Act.put,List.setIfInBounds_toArray,List.set_cons_zero,List.set_cons_succ,List.getElem_toArray,List.getElem_cons_zero,List.getElem_cons_succ])
    refine till_load (i:=6) rfl (by kernel_rfl) (by kernel_rfl) (by kernel_rfl) (fun _ _ _ h => h) (by kernel_rfl) (by kernel_rfl) (by kernel_rfl) (Or.inl ⟨by rfl,by intro w hSw;(have z0:=And.left hSw;have z1:=And.left (And.right hSw);have z2:=And.right (And.right hSw));(go_simp <;> with_reducible rfl)⟩) (by assumption) ?_
    (try simp only [Act.put,List.setIfInBounds_toArray,List.set_cons_zero,List.set_cons_succ,List.getElem_toArray,List.getElem_cons_zero,List.getElem_cons_succ])
    have hU5:=hU
    refine till_one (i:=7) (by kernel_rfl) rfl (fun K hK => ?_)
    go_simp
    refine (HMF.out _).mono ?_
    rintro e v5 ⟨rfl,hb5,hs5,y1,y2⟩
    have HY1:=Lib.hid y1;have HY2:=Lib.hid y2;have HB5:=Lib.hid hb5
    have hU5:=hU5.later ((Below.refl Y.heap.size Y).drew.trans hb5)
    clear hs5 y1 y2
    refine hK.out _ _ (by exact ⟨(hb5.cell (p:=⟨bo,0,none⟩) (World.block_lt_of_cell? _ _ (And.left hHeld))).trans (And.left hHeld),(hb5.cell (p:=⟨ob,7,none⟩) (World.block_lt_of_cell? _ _ (And.left (And.right hHeld)))).trans (And.left (And.right hHeld)),(hb5.cell (p:=⟨bd,0,none⟩) (World.block_lt_of_cell? _ _ (And.right (And.right hHeld)))).trans (And.right (And.right hHeld))⟩) (fun hHeld => ?_)
    clear hK K
    (try simp only [Act.put,List.setIfInBounds_toArray,List.set_cons_zero,List.set_cons_succ,List.getElem_toArray,List.getElem_cons_zero,List.getElem_cons_succ])
    refine till_one (i:=8) (by kernel_rfl) rfl (fun K hK => ?_)
    go_simp
    obtain ⟨w5,hw5⟩:∃ u,Hid (u = (v5.alloc (.cells #[.func (.func 100) #[] #[.pointer (some ⟨Y.heap.size,0,none⟩),.pointer (some ⟨Y.heap.size + 1,0,none⟩)]] 107))):=⟨_,rfl⟩
    rw [← hw5.out]
    have hl5:Below v5.heap.size v5 w5:=by rw [hw5.out];exact ((Below.refl _ _).alloc (Nat.le_refl _) _)
    have hE5:w5.heap[v5.heap.size]? = some (.cells #[.func (.func 100) #[] #[.pointer (some ⟨Y.heap.size,0,none⟩),.pointer (some ⟨Y.heap.size + 1,0,none⟩)]] 107 (0,0)):=by rw [hw5.out];exact heap_alloc_new _ _
    have hU6:=hU5.later hl5
    obtain ⟨g5,hg5⟩:∃ b,b = v5.heap.size:=⟨_,rfl⟩
    rw [← hg5] at hE5
    have HG5:=Lib.hid hg5
    (try simp only [← HG5.out])
    have HL5:=Lib.hid hl5
    clear hl5 hg5
    refine hK.out _ _ (by exact ⟨blk_cell hU6.box rfl,hU6.blk.cell rfl,((HL5.out.cell (p:=⟨bd,0,none⟩) (World.block_lt_of_cell? _ _ (And.right (And.right hHeld)))).trans (And.right (And.right hHeld)))⟩) (fun hHeld => ?_)
    clear hK K
    (try simp only [Act.put,List.setIfInBounds_toArray,List.set_cons_zero,List.set_cons_succ,List.getElem_toArray,List.getElem_cons_zero,List.getElem_cons_succ])
    refine till_one (i:=9) (by kernel_rfl) rfl (fun K hK => ?_)
    refine step_append_off rfl _ _ 109 rfl (0) 107 i0 .nilFunc 1 8 Tryz.underlying109 hi0 hz0 hz1 hz2 rfl (by decide) _ fs.length fs rfl hU6.row ⟨g5,0,none⟩ 1 1 [.func (.func 100) #[] #[.pointer (some ⟨Y.heap.size,0,none⟩),.pointer (some ⟨Y.heap.size + 1,0,none⟩)]] rfl rfl (news_block hE5) hone (by unfold maxLen;omega) (by omega) (Nat.le_trans hU6.lo.2.2 hU6.below.size) ?_
    intro v' w6 hown' hgr hfr
    obtain ⟨hUZ,hSZ,hKZ,hb6,hx6,hOZ⟩:=hU6.app (xs:=[.func (.func 100) #[] #[.pointer (some ⟨Y.heap.size,0,none⟩),.pointer (some ⟨Y.heap.size + 1,0,none⟩)]]) hown' hgr rfl
    have hgb5:=fun (b:Nat) (h:b < w5.heap.size) (hn:some b ≠ Value.ownBlock (.slice a fs.length cp)) => hgr.block b h hn
    obtain ⟨a',cp',rfl,-,-⟩:=hown'.slice
    have e7:=hb6.cell (j:=7) rfl
    have f7:=hb6.frozen 7
    have HUZ:=Lib.hid hUZ;have HSZ:=Lib.hid hSZ;have HKZ:=Lib.hid hKZ;have HOZ:=Lib.hid hOZ;have HFR:=Lib.hid hfr
    clear hUZ hSZ hKZ hOZ hown' hgr hfr hE5 hU6
    refine hK.out _ _ (by exact ⟨blk_cell hx6 rfl,hb6.cell rfl,cell_of_blk12 (And.right (And.right hHeld)) (hgb5 bd (World.block_lt_of_cell? _ _ (And.right (And.right hHeld))) hbdn)⟩) (fun hHeld => ?_)
    clear hK K
    (try simp only [Act.put,List.setIfInBounds_toArray,List.set_cons_zero,List.set_cons_succ,List.getElem_toArray,List.getElem_cons_zero,List.getElem_cons_succ])
    refine till_take (i:=10) rfl (by kernel_rfl) (by kernel_rfl) (by kernel_rfl) (fun _ _ _ h => h) (by kernel_rfl) (Or.inl ⟨by rfl,by intro w _;(go_simp <;> with_reducible rfl)⟩) (by assumption) ?_
    (try simp only [Act.put,List.setIfInBounds_toArray,List.set_cons_zero,List.set_cons_succ,List.getElem_toArray,List.getElem_cons_zero,List.getElem_cons_succ])
    refine till_take (i:=11) rfl (by kernel_rfl) (by kernel_rfl) (by kernel_rfl) (fun _ _ _ h => h) (by kernel_rfl) (Or.inl ⟨by rfl,by intro w _;(go_simp <;> with_reducible rfl)⟩) (by assumption) ?_
    (try simp only [Act.put,List.setIfInBounds_toArray,List.set_cons_zero,List.set_cons_succ,List.getElem_toArray,List.getElem_cons_zero,List.getElem_cons_succ])
    clear hHeld
    refine till_last (by kernel_rfl) rfl (fun K hK => ?_)
    go_simp
    refine hK.out _ _ ?_
    clear hK K
    (try simp only [Act.put,List.setIfInBounds_toArray,List.set_cons_zero,List.set_cons_succ,List.getElem_toArray,List.getElem_cons_zero,List.getElem_cons_succ])
    refine till_done (by kernel_rfl) ?_ _
    refine NoPanic.normal ?_
    obtain ⟨Z,HZ⟩:∃ u,Hid (u = w6.setCell ⟨ob,7,none⟩ (.slice a' (fs.length + 1) cp')):=⟨_,rfl⟩
    rw [← HZ.out] at HUZ HSZ HKZ HOZ
    have hDv:v5.heap[D]? = some (.deferred (some [])):=(HB5.out.block _ (Array.getElem?_eq_some_iff.1 HDF.out).1).trans HDF.out
    have hDZ:Z.heap[D]? = some (.deferred (some [])):=HKZ.out.same _ _ ((HL5.out.block _ (Array.getElem?_eq_some_iff.1 hDv).1).trans hDv) rfl
    have hYZ:Stands Y Z:=(Stands.below ((Below.refl Y.heap.size Y).drew.trans HB5.out)).trans ((Stands.below HL5.out).trans HSZ.out)
    have hvZ:Stands v3 Z:=HST.out.trans hYZ
    have hZZ:Z.heap[zb]? = some (.cells #[.bool false,.int .i64 0,.slice none 0 0,.bool false,.int .i64 0,.bool false,.bool false,.bool false,.int .i64 0] 56 (0,0)):=hvZ.2 _ _ _ _ (by decide) (by decide) HZ3.out
    have hth:=there_at hZZ (n:=(qdV false (0) (.slice none 0 0) (0) false false:Array Value).size) rfl
    have hsd:(Tryz.prog.info? 56).map (·.size) = some (qdV false (0) (.slice none 0 0) (0) false false:Array Value).size:=did_size
    have HDZ:=Lib.hid hDZ;have HYZ:=Lib.hid hYZ;have HVZ:=Lib.hid hvZ;have HZZ:=Lib.hid hZZ
    clear hDv hDZ hYZ hvZ hZZ
    gi_wp2_with (first | (rw [← HZ.out]) | (refine wpListIn_wide (by kernel_rfl) (by intro c h;cases h) fun K hK => wp_store_mid _ _ _ rfl zb 0 (qdV false (0) (.slice none 0 0) (0) false false) rfl rfl hth hsd (by kernel_rfl) (hK _ _ ?_)))
    have hzl:zb < v3.heap.size:=(Array.getElem?_eq_some_iff.1 HZ3.out).1
    have hzD:zb ≠ D:=by omega
    have hzw:w.heap.size ≤ zb:=by have:=HZBE.out;omega
    have hs1:=Only.sets (S:=fun i => i = zb) rfl [.bool false,.int .i64 (0),.slice none 0 0,.bool false,.int .i64 (0),.bool false,.bool false,.bool false,.int .i64 0] 0 (Only.refl _ Z)
    have hrg0:=World.rangeAt_setCells_same Z zb 0 [.bool false,.int .i64 (0),.slice none 0 0,.bool false,.int .i64 (0),.bool false,.bool false,.bool false,.int .i64 0] hth
    obtain ⟨V9,hV9⟩:∃ V,V = Z.setCells zb 0 [.bool false,.int .i64 (0),.slice none 0 0,.bool false,.int .i64 (0),.bool false,.bool false,.bool false,.int .i64 0]:=⟨_,rfl⟩
    rw [← hV9] at hs1 hrg0 ⊢
    clear hV9 hth
    have hDE:V9.heap[D]? = some (.deferred (some [])):=hs1.at_ HDZ.out (Ne.symm hzD)
    have hrg:=range_put (D:=D) (ob:=.deferred none) hrg0 hzD
    obtain ⟨E,hE⟩:∃ E,E = V9.putObj D (.deferred none):=⟨_,rfl⟩
    have hOE0:Only (fun i => i = D) V9 E:=by
      rw [hE]
      exact ⟨rfl,rfl,rfl,by simp,fun i _ hi => World.putObj_heap_other hi⟩
    have hOE:Only (fun i => i = zb ∨ i = D) Z E:=(hs1.mono fun _ _ h => .inl h).trans (hOE0.mono fun _ _ h => .inr h)
    have hblk:∀ (b:Nat) (cs:Array Value) (t:TypeId) (m:Nat × Nat),t ≠ 56 → Z.heap[b]? = some (.cells cs t m) → E.heap[b]? = some (.cells cs t m):=fun b cs t m ht h => hOE.at_ h (fun e => by
      rcases e with rfl | rfl
      · rw [HZZ.out] at h;cases h;exact ht rfl
      · rw [HDZ.out] at h;cases h)
    have hget:∀ (j:Nat) (v:Value),IsGet ob j db L v3.heap.size v Z → IsGet ob j db L w.heap.size v E:=fun j v h => by
      obtain ⟨b1,b2,b3,rfl,hb,h1,h2,h3⟩:=h
      exact ⟨b1,b2,b3,rfl,⟨by omega,by omega,by omega⟩,hblk _ _ _ _ (by decide) h1,hblk _ _ _ _ (by decide) h2,hblk _ _ _ _ (by decide) h3⟩
    have hvY:v3.heap.size ≤ Y.heap.size:=HST.out.1
    have h5Z:Stands v5 Z:=(Stands.below HL5.out).trans HSZ.out
    have hyv:Y.heap.size ≤ v5.heap.size:=HB5.out.size
    have hOw:Only (fun i => i = ob ∨ sv.ownBlock = some i) w E:=by
      have t1:Only (New w.heap.size fun i => i = ob ∨ sv.ownBlock = some i) w v3:=Only.of_below HW3.out
      have t2:Only (New w.heap.size fun i => i = ob ∨ sv.ownBlock = some i) v3 Y:=HON.out.mono fun i _ h => h.elim (fun h => .inr (.inl h)) (fun h => h.elim (fun h => .inr (.inr h)) .inl)
      have t3:Only (New w.heap.size fun i => i = ob ∨ sv.ownBlock = some i) Y w5:=Only.of_below (((Below.refl Y.heap.size Y).drew.trans HB5.out).trans (HL5.out.mono hyv))
      have t4:Only (New w.heap.size fun i => i = ob ∨ sv.ownBlock = some i) w5 Z:=HOZ.out.mono fun i _ h => h.elim (fun h => .inr (.inl h)) (fun h => (HNE.out i h).elim (fun h => .inr (.inr h)) .inl)
      have t5:Only (New w.heap.size fun i => i = ob ∨ sv.ownBlock = some i) Z E:=hOE.mono fun i _ h => .inl (h.elim (fun h => by omega) (fun h => by omega))
      exact ((((t1.trans t2).trans t3).trans t4).trans t5).old
    refine ⟨by simp,.inl ⟨_,_,rfl,run_takeDeferred hDE,?_⟩⟩
    rw [← hE] at hrg ⊢
    refine ⟨_,results_cell_row rfl _ _ zb [.bool false,.int .i64 (0),.slice none 0 0,.bool false,.int .i64 (0),.bool false,.bool false,.bool false,.int .i64 0] _ rfl hrg Tryz.underlying56 rfl did_size,rfl,.slice a' (fs.length + 1) cp',fs ++ [.func (.func 100) #[] #[.pointer (some ⟨Y.heap.size,0,none⟩),.pointer (some ⟨Y.heap.size + 1,0,none⟩)]],db,hblk _ _ _ _ (by decide) HUZ.out.blk,HM0.out.only hOw (fun h => h.elim (HO0.out.ne_mem HM0.out).1 HNM.out.1) (fun h => h.elim (HO0.out.ne_mem HM0.out).2 HNM.out.2),hOw,?_,fun g hg => (HFR.out g hg).elim (HNE.out g) (fun h => .inr (by have:=HL5.out.size;omega)),hblk _ _ _ _ (by decide) (HVZ.out.2 _ _ _ _ (by decide) (by decide) HD3.out),by have:=HDBE.out;have:=HBW.out.size;omega,fun j v hv hj => ?_,fun v hv => ?_⟩
    · have hr:=HUZ.out.row
      have hll:(fs ++ ([.func (.func 100) #[] #[.pointer (some ⟨Y.heap.size,0,none⟩),.pointer (some ⟨Y.heap.size + 1,0,none⟩)]]:List Value)).length = L + 1:=by rw [List.length_append,HXL.out];rfl
      rw [hll] at hr
      refine hr.kept hOE (fun i hi e => ?_)
      obtain ⟨cs,hc⟩:=hr.typed i hi
      rcases e with rfl | rfl
      · rw [HZZ.out] at hc;cases hc
      · rw [HDZ.out] at hc;cases hc
    · rw [List.getElem?_append_left (by rw [HXL.out];exact hj)] at hv
      exact hget j v ((HW.out j v hv).stands HYZ.out)
    · rw [List.getElem?_append_right (by rw [HXL.out];exact Nat.le_refl _),HXL.out,Nat.sub_self] at hv
      simp at hv
      subst hv
      exact ⟨_,_,rfl,⟨by omega,by omega⟩,hblk _ _ _ _ (by decide) (h5Z.2 _ _ _ _ (by decide) (by decide) HY1.out),hblk _ _ _ _ (by decide) (h5Z.2 _ _ _ _ (by decide) (by decide) HY2.out)⟩
end Go.Proofs.YtmhpcgcloojfbaaGreat
