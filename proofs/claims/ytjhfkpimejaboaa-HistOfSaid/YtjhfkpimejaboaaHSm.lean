/- SameRequest, SameAnswer and SameCall at what is the same. No condition but those in the statements. -/
import Derived.Test.YtjhfkpimejaboaaHAn
import Derived.Test.YtjhfkpimejaboaaHPl
import Derived.BigQuiet
import Derived.IntWalk
import Derived.BigRegion
import Derived.OpenShut
import Derived.Deep.MidRow

namespace Go.Proofs.Ytjhfkpimejaboaa
open Go.RowKit Go.Sort Go.ChangeShapes Go.WideShapes
set_option linter.unusedVariables false
set_option linter.unusedSimpArgs false


section
variable {ops : Array Oper} {rest : List Oper} {o : Oper} {a : Act} {w : World} {Q : Exit → Act → World → Prop}
/-- A load of a struct out of the midst of a block, behind a guard too. -/
theorem wpList_loadR (hwt : Region.wanted o (yielded ops a.tmps) = true) (ty : TypeId) (x : Operand) (ho : o.op = .load ty x) (b k : Nat) (cs : List Value) (d : TypeDesc) (hx : a.eval x = .pointer (some ⟨b, k, none⟩)) (hc : w.rangeAt b k cs)
    (hu : Try.prog.underlying ty = some d) (hd : d.isRow = true) (hi : (Try.prog.info? ty).map (·.size) = some cs.length) (h : wpList Try.prog ops Q rest (a.put o.dst (.agg cs.toArray)) w) : wpList Try.prog ops Q (o :: rest) a w := by
  refine wpList_step fun K hK => ?_
  rw [if_pos hwt]
  exact wp_load_mid ty x ho b k hx cs d hc hu hd hi (hK _ _ h)
end
theorem CAt.req {w : World} {b : Nat} {v : CV} (h : CAt w b 0 v) : w.rangeAt b 1 [.int .i64 v.op, .int .i64 v.port, .int .u64 v.addr, .slice v.ra v.rd.length v.rc] := fun j x hx => by
  match j, hx with
  | 0, hx => injection hx with hx; subst hx; exact h.b_op
  | 1, hx => injection hx with hx; subst hx; exact h.b_port
  | 2, hx => injection hx with hx; subst hx; exact h.b_addr
  | 3, hx => injection hx with hx; subst hx; exact h.b_rd
  | j + 4, hx => simp at hx
theorem CAt.ans {w : World} {b : Nat} {v : CV} (h : CAt w b 0 v) : w.rangeAt b 5 [.int .i64 v.code, .slice v.aa v.ad.length v.ac, .bool v.valid, .int .i64 v.count] := fun j x hx => by
  match j, hx with
  | 0, hx => injection hx with hx; subst hx; exact h.b_code
  | 1, hx => injection hx with hx; subst hx; exact h.b_ad
  | 2, hx => injection hx with hx; subst hx; exact h.b_valid
  | 3, hx => injection hx with hx; subst hx; exact h.b_count
  | j + 4, hx => simp at hx
theorem pair4 (w : World) (x0 x1 x2 x3 y0 y1 y2 y3 : Value) (t : TypeId) : ∃ W, Hid (W = (w.alloc (.cells #[x0, x1, x2, x3] t)).alloc (.cells #[y0, y1, y2, y3] t)) ∧ Below w.heap.size w W ∧
    (∀ W', Below W.heap.size W W' → W'.heap[w.heap.size]? = some (.cells #[x0, x1, x2, x3] t (0, 0))) ∧ ∀ W', Below W.heap.size W W' → W'.heap[w.heap.size + 1]? = some (.cells #[y0, y1, y2, y3] t (0, 0)) := by
  refine ⟨_, rfl, ((Below.refl _ _).alloc (Nat.le_refl _) _).alloc (by simp) _, fun W' h => ?_, fun W' h => ?_⟩
  · exact (h.block _ (by simp; omega)).trans ((Below.heap_alloc _ _ _ (by simp)).trans (heap_alloc_new w _))
  · refine (h.block _ (by simp)).trans ?_
    have := heap_alloc_new (w.alloc (.cells #[x0, x1, x2, x3] t)) (.cells #[y0, y1, y2, y3] t)
    rwa [World.size_alloc] at this
theorem cell_blk17 {W : World} {b : Nat} {cs : Array Value} {t : TypeId} {m : Nat × Nat} {i : Nat} {v : Value} (h : W.heap[b]? = some (.cells cs t m)) (hv : cs[i]? = some v) : W.cell? ⟨b, i, none⟩ = some v := by simp [World.cell?, h, hv]

set_option maxRecDepth 100000 in
set_option maxHeartbeats 3200000 in
theorem sameReq_b (op port ad : Int) (ds : List Int) (A A' : Option Addr) (c c' : Nat) (w : World) (h1 : IntRowK .u32 w w.heap.size A ds) (h2 : IntRowK .u32 w w.heap.size A' ds) (hl : ds.length * 4 ≤ 140737488351232) : Calls Try.prog 26 #[.agg #[.int .i64 op, .int .i64 port, .int .u64 ad, .slice A ds.length c], .agg #[.int .i64 op, .int .i64 port, .int .u64 ad, .slice A' ds.length c']] w fun e w' => e = .returned (.bool true) ∧ Below w.heap.size w w' := by
  obtain ⟨W, HW, hB, he1, he2⟩ := pair4 w (.int .i64 op) (.int .i64 port) (.int .u64 ad) (.slice A ds.length c) (.int .i64 op) (.int .i64 port) (.int .u64 ad) (.slice A' ds.length c') 29
  have HB := Lib.hid hB; have HE1 := Lib.hid he1; have HE2 := Lib.hid he2; have H1 := Lib.hid h1; have H2 := Lib.hid h2
  have a0 := cell_blk17 (HE1.out W (Below.refl _ _)) (i := 0) rfl
  have a1 := cell_blk17 (HE1.out W (Below.refl _ _)) (i := 1) rfl
  have a2 := cell_blk17 (HE1.out W (Below.refl _ _)) (i := 2) rfl
  have a3 := cell_blk17 (HE1.out W (Below.refl _ _)) (i := 3) rfl
  have b0 := cell_blk17 (HE2.out W (Below.refl _ _)) (i := 0) rfl
  have b1 := cell_blk17 (HE2.out W (Below.refl _ _)) (i := 1) rfl
  have b2 := cell_blk17 (HE2.out W (Below.refl _ _)) (i := 2) rfl
  have b3 := cell_blk17 (HE2.out W (Below.refl _ _)) (i := 3) rfl
  clear hB he1 he2 h1 h2
  go_enter Try.func26, Try.ntmps26
  go_wp2_with (rw [← HW.out])
  clear a0 a1 a2 a3 b0 b1 b2 b3
  go_loopw [5] (fun ix wr => ∃ k : Nat, k ≤ ds.length ∧ ix = .int .i64 k ∧ Below W.heap.size W wr) (fun ix _ => ds.length - (intOf ix).toNat)
  case atStart => exact ⟨0, Nat.zero_le _, rfl, Below.refl _ _⟩
  case round =>
    obtain ⟨k, hk, rfl, hb⟩ := hrel
    have a3 := cell_blk17 (HE1.out wr hb) (i := 3) rfl
    have b3 := cell_blk17 (HE2.out wr hb) (i := 3) rfl
    by_cases hkl : k < ds.length
    · obtain ⟨g, o, rfl, -, e1⟩ := H1.out.at_ hkl
      obtain ⟨g', o', rfl, -, e2⟩ := H2.out.at_ hkl
      have hbw := HB.out.trans (hb.mono HB.out.size)
      have u1 := e1 wr hbw
      have u2 := e2 wr hbw
      obtain ⟨y, hy⟩ : ∃ y, ds.getD k 0 = y := ⟨_, rfl⟩
      rw [hy] at u1 u2
      have s1 : (k : Int) < (ds.length : Int) := by omega
      have HBR := Lib.hid hb
      clear e1 e2 hbw hy hb
      go_wp2
      go_region
      go_wp2
      go_roundw
      case rel => exact ⟨k + 1, by omega, by go_num, HBR.out.drew⟩
      case measure => simp [intOf]; omega
    · have HBR := Lib.hid hb
      clear hb
      go_wp2
      go_ret
      exact ⟨rfl, HB.out.trans (HBR.out.mono HB.out.size)⟩

set_option maxRecDepth 100000 in
set_option maxHeartbeats 3200000 in
theorem sameAns_b (cd : Int) (vl : Bool) (ct : Int) (ds : List Int) (A A' : Option Addr) (c c' : Nat) (w : World) (h1 : IntRowK .u32 w w.heap.size A ds) (h2 : IntRowK .u32 w w.heap.size A' ds) (hl : ds.length * 4 ≤ 140737488351232) : Calls Try.prog 27 #[.agg #[.int .i64 cd, .slice A ds.length c, .bool vl, .int .i64 ct], .agg #[.int .i64 cd, .slice A' ds.length c', .bool vl, .int .i64 ct]] w fun e w' => e = .returned (.bool true) ∧ Below w.heap.size w w' := by
  obtain ⟨W, HW, hB, he1, he2⟩ := pair4 w (.int .i64 cd) (.slice A ds.length c) (.bool vl) (.int .i64 ct) (.int .i64 cd) (.slice A' ds.length c') (.bool vl) (.int .i64 ct) 32
  have HB := Lib.hid hB; have HE1 := Lib.hid he1; have HE2 := Lib.hid he2; have H1 := Lib.hid h1; have H2 := Lib.hid h2
  have a0 := cell_blk17 (HE1.out W (Below.refl _ _)) (i := 0) rfl
  have a1 := cell_blk17 (HE1.out W (Below.refl _ _)) (i := 1) rfl
  have a2 := cell_blk17 (HE1.out W (Below.refl _ _)) (i := 2) rfl
  have a3 := cell_blk17 (HE1.out W (Below.refl _ _)) (i := 3) rfl
  have b0 := cell_blk17 (HE2.out W (Below.refl _ _)) (i := 0) rfl
  have b1 := cell_blk17 (HE2.out W (Below.refl _ _)) (i := 1) rfl
  have b2 := cell_blk17 (HE2.out W (Below.refl _ _)) (i := 2) rfl
  have b3 := cell_blk17 (HE2.out W (Below.refl _ _)) (i := 3) rfl
  clear hB he1 he2 h1 h2
  go_enter Try.func27, Try.ntmps27
  go_wp2_with (rw [← HW.out])
  clear a0 a1 a2 a3 b0 b1 b2 b3
  go_loopw [5] (fun ix wr => ∃ k : Nat, k ≤ ds.length ∧ ix = .int .i64 k ∧ Below W.heap.size W wr) (fun ix _ => ds.length - (intOf ix).toNat)
  case atStart => exact ⟨0, Nat.zero_le _, rfl, Below.refl _ _⟩
  case round =>
    obtain ⟨k, hk, rfl, hb⟩ := hrel
    have a1 := cell_blk17 (HE1.out wr hb) (i := 1) rfl
    have b1 := cell_blk17 (HE2.out wr hb) (i := 1) rfl
    by_cases hkl : k < ds.length
    · obtain ⟨g, o, rfl, -, e1⟩ := H1.out.at_ hkl
      obtain ⟨g', o', rfl, -, e2⟩ := H2.out.at_ hkl
      have hbw := HB.out.trans (hb.mono HB.out.size)
      have u1 := e1 wr hbw
      have u2 := e2 wr hbw
      obtain ⟨y, hy⟩ : ∃ y, ds.getD k 0 = y := ⟨_, rfl⟩
      rw [hy] at u1 u2
      have s1 : (k : Int) < (ds.length : Int) := by omega
      have HBR := Lib.hid hb
      clear e1 e2 hbw hy hb
      go_wp2
      go_region
      go_wp2
      go_roundw
      case rel => exact ⟨k + 1, by omega, by go_num, HBR.out.drew⟩
      case measure => simp [intOf]; omega
    · have HBR := Lib.hid hb
      clear hb
      go_wp2
      go_ret
      exact ⟨rfl, HB.out.trans (HBR.out.mono HB.out.size)⟩

set_option maxRecDepth 100000 in
set_option maxHeartbeats 3200000 in
theorem sameCall_b (v : CV) (A1 : Option Addr) (c1 : Nat) (A2 : Option Addr) (c2 : Nat) (w : World) (hv : CRows w w.heap.size v) (hu : CRows w w.heap.size (v.at_ A1 c1 A2 c2)) (hz : CSz 140737488351232 v) : Calls Try.prog 13 #[.agg (cCells (v.at_ A1 c1 A2 c2)).toArray, .agg (cCells v).toArray] w fun e w' => e = .returned (.bool true) ∧ Below w.heap.size w w' := by
  obtain ⟨W, HW, hB, hs, ha, hb⟩ := boxes17 w (v.at_ A1 c1 A2 c2) v
  have HB := Lib.hid hB
  have HU : Hid (∀ W', Below W.heap.size W W' → CAt W' w.heap.size 0 (v.at_ A1 c1 A2 c2)) := Lib.hid (fun W' h => ha.later h ha.lt)
  have HV : Hid (∀ W', Below W.heap.size W W' → CAt W' (w.heap.size + 1) 0 v) := Lib.hid (fun W' h => hb.later h hb.lt)
  have HVR := Lib.hid ((hv.below hB).more hB.size); have HUR := Lib.hid ((hu.below hB).more hB.size); have HZ := Lib.hid hz
  have k4 : (Try.prog.info? 29).map (·.size) = some 4 := by kernel_rfl
  have k5 : (Try.prog.info? 32).map (·.size) = some 4 := by kernel_rfl
  have u_part : W.cell? ⟨w.heap.size, 0, none⟩ = some (.int .i64 v.part) := (HU.out W (Below.refl _ _)).b_part
  have v_part : W.cell? ⟨w.heap.size + 1, 0, none⟩ = some (.int .i64 v.part) := (HV.out W (Below.refl _ _)).b_part
  have ru : Hid (W.rangeAt w.heap.size 1 [.int .i64 v.op, .int .i64 v.port, .int .u64 v.addr, .slice A1 v.rd.length c1]) := Lib.hid (HU.out W (Below.refl _ _)).req
  have rv : Hid (W.rangeAt (w.heap.size + 1) 1 [.int .i64 v.op, .int .i64 v.port, .int .u64 v.addr, .slice v.ra v.rd.length v.rc]) := Lib.hid (HV.out W (Below.refl _ _)).req
  clear hB hs ha hb hv hu hz
  go_enter Try.func13, Try.ntmps13
  go_wp2_with (first | (rw [← HW.out]) | (with_reducible refine wpList_loadR (by with_unfolding_all rfl) 29 _ rfl _ _ _ _ (by with_unfolding_all rfl) ru.out Try.underlying29 rfl (by with_unfolding_all exact k4) ?_) | (with_reducible refine wpList_loadR (by with_unfolding_all rfl) 29 _ rfl _ _ _ _ (by with_unfolding_all rfl) rv.out Try.underlying29 rfl (by with_unfolding_all exact k4) ?_))
  refine (sameReq_b v.op v.port v.addr v.rd A1 v.ra c1 v.rc W HUR.out.rr HVR.out.rr HZ.out.1).mono ?_
  rintro e w1 ⟨rfl, hb1⟩
  have HB1 := Lib.hid hb1
  have HUR1 := Lib.hid ((HUR.out.below hb1).more hb1.size); have HVR1 := Lib.hid ((HVR.out.below hb1).more hb1.size)
  have ru : Hid (w1.rangeAt w.heap.size 5 [.int .i64 v.code, .slice A2 v.ad.length c2, .bool v.valid, .int .i64 v.count]) := Lib.hid (HU.out w1 hb1).ans
  have rv : Hid (w1.rangeAt (w.heap.size + 1) 5 [.int .i64 v.code, .slice v.aa v.ad.length v.ac, .bool v.valid, .int .i64 v.count]) := Lib.hid (HV.out w1 hb1).ans
  clear hb1 u_part v_part
  go_wp2_with (first | (with_reducible refine wpList_loadR (by with_unfolding_all rfl) 32 _ rfl _ _ _ _ (by with_unfolding_all rfl) ru.out Try.underlying32 rfl (by with_unfolding_all exact k5) ?_) | (with_reducible refine wpList_loadR (by with_unfolding_all rfl) 32 _ rfl _ _ _ _ (by with_unfolding_all rfl) rv.out Try.underlying32 rfl (by with_unfolding_all exact k5) ?_))
  refine (sameAns_b v.code v.valid v.count v.ad A2 v.aa c2 v.ac w1 HUR1.out.ar HVR1.out.ar HZ.out.2).mono ?_
  rintro e w2 ⟨rfl, hb2⟩
  have HB2 := Lib.hid (HB1.out.trans (hb2.mono HB1.out.size))
  have u_done : w2.cell? ⟨w.heap.size, 9, none⟩ = some (.bool v.done) := (HU.out w2 HB2.out).b_done
  have v_done : w2.cell? ⟨w.heap.size + 1, 9, none⟩ = some (.bool v.done) := (HV.out w2 HB2.out).b_done
  have u_frm : w2.cell? ⟨w.heap.size, 10, none⟩ = some (.int .i64 v.frm) := (HU.out w2 HB2.out).b_frm
  have v_frm : w2.cell? ⟨w.heap.size + 1, 10, none⟩ = some (.int .i64 v.frm) := (HV.out w2 HB2.out).b_frm
  have u_to : w2.cell? ⟨w.heap.size, 11, none⟩ = some (.int .i64 v.to) := (HU.out w2 HB2.out).b_to
  have v_to : w2.cell? ⟨w.heap.size + 1, 11, none⟩ = some (.int .i64 v.to) := (HV.out w2 HB2.out).b_to
  have u_t0 : w2.cell? ⟨w.heap.size, 12, none⟩ = some (.int .i64 v.t0) := (HU.out w2 HB2.out).b_t0
  have v_t0 : w2.cell? ⟨w.heap.size + 1, 12, none⟩ = some (.int .i64 v.t0) := (HV.out w2 HB2.out).b_t0
  have u_t1 : w2.cell? ⟨w.heap.size, 13, none⟩ = some (.int .i64 v.t1) := (HU.out w2 HB2.out).b_t1
  have v_t1 : w2.cell? ⟨w.heap.size + 1, 13, none⟩ = some (.int .i64 v.t1) := (HV.out w2 HB2.out).b_t1
  have u_own0 : w2.cell? ⟨w.heap.size, 14, none⟩ = some (.int .i64 v.own0) := (HU.out w2 HB2.out).b_own0
  have v_own0 : w2.cell? ⟨w.heap.size + 1, 14, none⟩ = some (.int .i64 v.own0) := (HV.out w2 HB2.out).b_own0
  have u_own1 : w2.cell? ⟨w.heap.size, 15, none⟩ = some (.int .i64 v.own1) := (HU.out w2 HB2.out).b_own1
  have v_own1 : w2.cell? ⟨w.heap.size + 1, 15, none⟩ = some (.int .i64 v.own1) := (HV.out w2 HB2.out).b_own1
  have u_mark : w2.cell? ⟨w.heap.size, 16, none⟩ = some (.int .i64 v.mark) := (HU.out w2 HB2.out).b_mark
  have v_mark : w2.cell? ⟨w.heap.size + 1, 16, none⟩ = some (.int .i64 v.mark) := (HV.out w2 HB2.out).b_mark
  have u_ring : w2.cell? ⟨w.heap.size, 17, none⟩ = some (.int .i64 v.ring) := (HU.out w2 HB2.out).b_ring
  have v_ring : w2.cell? ⟨w.heap.size + 1, 17, none⟩ = some (.int .i64 v.ring) := (HV.out w2 HB2.out).b_ring
  have u_stamp : w2.cell? ⟨w.heap.size, 18, none⟩ = some (.int .i64 v.stamp) := (HU.out w2 HB2.out).b_stamp
  have v_stamp : w2.cell? ⟨w.heap.size + 1, 18, none⟩ = some (.int .i64 v.stamp) := (HV.out w2 HB2.out).b_stamp
  have u_saw : w2.cell? ⟨w.heap.size, 19, none⟩ = some (.int .i64 v.saw) := (HU.out w2 HB2.out).b_saw
  have v_saw : w2.cell? ⟨w.heap.size + 1, 19, none⟩ = some (.int .i64 v.saw) := (HV.out w2 HB2.out).b_saw
  clear hb2
  go_wp2
  go_ret
  exact ⟨by simp, HB.out.trans (HB2.out.mono HB.out.size)⟩
end Go.Proofs.Ytjhfkpimejaboaa
